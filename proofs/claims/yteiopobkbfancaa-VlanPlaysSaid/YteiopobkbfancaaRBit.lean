/- Layer 7: sets of ports, bit by bit. -/
import Derived.Test.YteiopobkbfancaaRWo
namespace Go.Proofs.Yteiopobkbfancaa
open Go.RowKit
set_option linter.unusedVariables false
set_option linter.unusedSimpArgs false
set_option maxRecDepth 100000

def hasN (s : UInt8) (k : Nat) : Bool := s.toNat / 2 ^ k % 2 == 1
theorem hasN_bit (s : UInt8) (k : Nat) : hasN s k = s.toNat.testBit k := by
  unfold hasN
  rw [Nat.testBit_eq_decide_div_mod_eq, Bool.eq_iff_iff]
  simp
theorem has7_nat {w : World} (s : UInt8) {k : Nat} (hk : k < 256) {b : Bool} (hb : Hid (hasN s k = b)) :
    Calls Try.prog 29 #[.int .u8 s.toNat, .int .u8 k] w fun e w' => e = .returned (.bool b) ∧ w = w' := by
  have e : (UInt8.ofNat k).toNat = k := by simp; omega
  have := has7_any (w := w) s (UInt8.ofNat k)
  rw [e, show has8 s (UInt8.ofNat k) = b by rw [← hb.out]; unfold has8 hasN; rw [e]] at this
  exact this
theorem andnot_zero {a b : Nat} (ha : a < 256) (hb : b < 256) : (a &&& (255 - b) == 0) = true ↔ ∀ q, q < 8 → a.testBit q = true → b.testBit q = true := by
  have e : 255 - b = 2 ^ 8 - (b + 1) := by omega
  rw [beq_iff_eq, e]
  constructor
  · intro h q hq h1
    have h2 : (a &&& (2 ^ 8 - (b + 1))).testBit q = false := by rw [h]; simp
    rw [Nat.testBit_and, h1, Nat.testBit_two_pow_sub_succ (by simpa using hb)] at h2
    simpa [hq] using h2
  · intro h
    apply Nat.eq_of_testBit_eq
    intro q
    rw [Nat.testBit_and, Nat.testBit_two_pow_sub_succ (by simpa using hb), Nat.zero_testBit]
    rcases Nat.lt_or_ge q 8 with hq | hq
    · cases h1 : a.testBit q
      · simp
      · simp [h q hq h1]
    · simp [show ¬ q < 8 by omega]
/-- at a port, the sets are not as they may be -/
def bad1 (N : Nat) (m u : UInt8) (k : Nat) : Bool := (hasN m k && decide (N ≤ k)) || (hasN u k && !hasN m k)
theorem bad_all {N : Nat} {v : UInt16} {m u : UInt8} (hN : N ≤ 8) (hv : okV v = true) : setBad N v m u = false ↔ ∀ k, k < 8 → bad1 N m u k = false := by
  have hm := mask_lt hN
  have hmb : ∀ q, (mask N).testBit q = decide (q < N) := fun q => by unfold mask; rw [Nat.testBit_two_pow_sub_one]
  have a1 : allIn N m = true ↔ ∀ q, q < 8 → hasN m q = true → q < N := by
    unfold allIn
    rw [andnot_zero m.toNat_lt hm]
    simp only [hasN_bit, hmb, decide_eq_true_eq]
  have a2 : allIn N u = true ↔ ∀ q, q < 8 → hasN u q = true → q < N := by
    unfold allIn
    rw [andnot_zero u.toNat_lt hm]
    simp only [hasN_bit, hmb, decide_eq_true_eq]
  have a3 : within u m = true ↔ ∀ q, q < 8 → hasN u q = true → hasN m q = true := by
    unfold within
    rw [andnot_zero u.toNat_lt m.toNat_lt]
    simp only [hasN_bit]
  have hs : setBad N v m u = false ↔ allIn N m = true ∧ allIn N u = true ∧ within u m = true := by
    unfold setBad
    rw [hv]
    cases allIn N m <;> cases allIn N u <;> cases within u m <;> simp
  rw [hs, a1, a2, a3]
  unfold bad1
  constructor
  · rintro ⟨h1, h2, h3⟩ k hk
    have := h1 k hk
    have := h3 k hk
    cases e1 : hasN m k <;> cases e2 : hasN u k <;> simp_all
  · intro h
    have hh : ∀ q, q < 8 → (hasN m q = true → q < N) ∧ (hasN u q = true → hasN m q = true) := by
      intro q hq
      have := h q hq
      cases e1 : hasN m q <;> cases e2 : hasN u q <;> simp_all
    exact ⟨fun q hq e => (hh q hq).1 e, fun q hq e => (hh q hq).1 ((hh q hq).2 e), fun q hq e => (hh q hq).2 e⟩
theorem allIn_has {N : Nat} {s p : UInt8} (hN : N ≤ 8) (h : allIn N s = true) (hp : has8 s p = true) : p.toNat < N := by
  unfold allIn at h
  rw [andnot_zero s.toNat_lt (mask_lt hN)] at h
  have hb : s.toNat.testBit p.toNat = true := by rw [← hasN_bit]; exact hp
  rcases Nat.lt_or_ge p.toNat 8 with h8 | h8
  · have := h _ h8 hb
    unfold mask at this
    rw [Nat.testBit_two_pow_sub_one] at this
    simpa using this
  · have : s.toNat.testBit p.toNat = false := Nat.testBit_lt_two_pow (Nat.lt_of_lt_of_le (show s.toNat < 2 ^ 8 from s.toNat_lt) (Nat.pow_le_pow_right (by decide) h8))
    rw [this] at hb
    cases hb
theorem vins_cons (x z : Vn) (t : List Vn) : vins x (z :: t) = if x.v.toNat < z.v.toNat then x :: z :: t else z :: vins x t := rfl
/-- a VLAN put into its place -/
theorem vins_past {x : Vn} : ∀ {l : List Vn} (r : List Vn), (l.any fun z => decide (x.v.toNat < z.v.toNat)) = false → vins x (l ++ r) = l ++ vins x r
  | [], r, _ => rfl
  | z :: l, r, h => by
    simp only [List.any_cons, Bool.or_eq_false_iff, decide_eq_false_iff_not] at h
    rw [List.cons_append, vins_cons, if_neg h.1, vins_past r h.2]
    rfl
theorem vins_done {x : Vn} : ∀ {l : List Vn} (y : Vn), (l.any fun z => decide (x.v.toNat < z.v.toNat)) = true → vins x (l ++ [y]) = vins x l ++ [y]
  | [], y, h => by simp at h
  | z :: l, y, h => by
    rw [List.cons_append, vins_cons, vins_cons]
    by_cases hz : x.v.toNat < z.v.toNat
    · rw [if_pos hz, if_pos hz]; rfl
    · rw [if_neg hz, if_neg hz, vins_done y (by simpa [hz] using h)]
      rfl
/-- has x come, k VLANs being looked at? -/
def dn (x : Vn) (D : List Vn) (k : Nat) : Bool := (D.take k).any fun z => decide (x.v.toNat < z.v.toNat)
def li (x : Vn) (D : List Vn) (k : Nat) : List Vn := if dn x D k then vins x (D.take k) else D.take k
theorem li_zero (x : Vn) (D : List Vn) : dn x D 0 = false ∧ li x D 0 = [] := by simp [dn, li]
theorem take_snoc {D : List Vn} {k : Nat} {y : Vn} (hy : D[k]? = some y) : D.take (k + 1) = D.take k ++ [y] := by rw [List.take_add_one, hy]; rfl
theorem dn_step {x y : Vn} {D : List Vn} {k : Nat} (hy : D[k]? = some y) : dn x D (k + 1) = (dn x D k || decide (x.v.toNat < y.v.toNat)) := by
  unfold dn
  rw [take_snoc hy, List.any_append]
  simp
theorem li_past {x y : Vn} {D : List Vn} {k : Nat} (hy : D[k]? = some y) (h : dn x D k = true) : dn x D (k + 1) = true ∧ li x D (k + 1) = li x D k ++ [y] := by
  have h1 : dn x D (k + 1) = true := by rw [dn_step hy, h]; rfl
  refine ⟨h1, ?_⟩
  unfold li
  rw [h1, h, if_pos rfl, if_pos rfl, take_snoc hy]
  exact vins_done y h
theorem li_here {x y : Vn} {D : List Vn} {k : Nat} (hy : D[k]? = some y) (h : dn x D k = false) (hl : x.v.toNat < y.v.toNat) : dn x D (k + 1) = true ∧ li x D (k + 1) = li x D k ++ [x] ++ [y] := by
  have h1 : dn x D (k + 1) = true := by rw [dn_step hy, h]; simp [hl]
  refine ⟨h1, ?_⟩
  unfold li
  rw [h1, h, if_pos rfl, take_snoc hy, vins_past [y] h]
  simp [vins, hl]
theorem li_not {x y : Vn} {D : List Vn} {k : Nat} (hy : D[k]? = some y) (h : dn x D k = false) (hl : ¬ x.v.toNat < y.v.toNat) : dn x D (k + 1) = false ∧ li x D (k + 1) = li x D k ++ [y] := by
  have h1 : dn x D (k + 1) = false := by rw [dn_step hy, h]; simpa using hl
  refine ⟨h1, ?_⟩
  unfold li
  rw [h1, h, take_snoc hy]
  rfl
theorem li_end {x : Vn} {D : List Vn} : (dn x D D.length = true → li x D D.length = vins x D) ∧ (dn x D D.length = false → li x D D.length ++ [x] = vins x D) := by
  have e : D.take D.length = D := List.take_length
  constructor
  · intro h; unfold li; rw [h, if_pos rfl, e]
  · intro h
    have h' : (D.any fun z => decide (x.v.toNat < z.v.toNat)) = false := by unfold dn at h; rw [e] at h; exact h
    have := vins_past (x := x) [] h'
    unfold li
    rw [h, e]
    rw [List.append_nil] at this
    rw [this]
    rfl
end Go.Proofs.Yteiopobkbfancaa
