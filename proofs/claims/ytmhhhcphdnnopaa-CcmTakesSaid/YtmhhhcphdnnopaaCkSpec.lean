/- Layer 13: checks, as lists. -/
import Derived.Test.YtmhhhcphdnnopaaCfSpec
import Derived.Test.YtmhhhcphdnnopaaMdRd
namespace Go.Proofs.Ytmhhhcphdnnopaa
open Go.RowKit
set_option linter.unusedVariables false
set_option linter.unusedSimpArgs false
set_option maxRecDepth 100000

/-- a check -/
structure Ck where
  l : UInt8
  r : Bool
  i : UInt8
  q : UInt32
  m : UInt16
  a : List UInt8
  deriving DecidableEq, Inhabited
def ck0 : Ck := ⟨0, false, 0, 0, 0, []⟩
/-- are there names of which these are the bytes; may a check be -/
def ckA (s : List UInt8) : Bool := ptE s == 0
def ckM (c : Ck) : Bool := ckA c.a && (decide (c.l.toNat < 8) && ((c.i == 4 || c.i == 5) && (decide (0 < c.m.toNat) && decide (c.m.toNat < 8192))))
def ckG (c : Ck) : UInt8 := if c.r then c.i + 128 else c.i
def ckS (c : Ck) : List UInt8 := dig 4 c.q.toNat ++ (dig 2 c.m.toNat ++ (c.a ++ dig 16 0))
/-- a check's message, or none; a message's check, or none -/
def ckP (c : Ck) : Pd := if ckM c then ⟨c.l, 1, ckG c, ckS c, []⟩ else pd0
def ckE (c : Ck) : Nat := if ckM c then 0 else 2
def ckQ (p : Pd) : Ck := ⟨p.l, decide (127 < p.g.toNat), p.g % 8, UInt32.ofNat (num (p.x.take 4)), UInt16.ofNat (num ((p.x.drop 4).take 2)), (p.x.drop 6).take 48⟩
def ckF (p : Pd) : Nat := if p.o = 1 ∧ p.x.length = 70 ∧ ckM (ckQ p) = true then 0 else 4
def ckX (p : Pd) : Ck := if ckF p = 0 then ckQ p else ck0
def ckN (i : UInt8) : Nat := if i = 4 then 1 else if i = 5 then 10 else 0
theorem ckA_len {s : List UInt8} (h : ckA s = true) : s.length = 48 := by
  unfold ckA at h
  have h0 : ptE s = 0 := by simpa using h
  rcases pt_is s with ⟨_, h2, h3⟩ | ⟨h1, _⟩
  · rw [← h3]; exact mdV_len h2
  · rw [h0] at h1; cases h1
theorem ckM_is {c : Ck} (h : ckM c = true) : c.a.length = 48 ∧ c.l.toNat < 8 ∧ (c.i = 4 ∨ c.i = 5) ∧ 0 < c.m.toNat ∧ c.m.toNat < 8192 := by
  unfold ckM at h
  simp only [Bool.and_eq_true, Bool.or_eq_true, beq_iff_eq, decide_eq_true_eq] at h
  exact ⟨ckA_len h.1, h.2.1, h.2.2.1, h.2.2.2.1, h.2.2.2.2⟩
theorem ckS_len {c : Ck} (h : ckM c = true) : (ckS c).length = 70 := by
  unfold ckS
  simp only [List.length_append, dig_len]
  have := (ckM_is h).1
  omega
theorem ckP_ok {c : Ck} (h : ckM c = true) : ckP c = ⟨c.l, 1, ckG c, ckS c, []⟩ := by
  unfold ckP
  rw [if_pos h]
theorem ckP_t (c : Ck) : (ckP c).t = [] := by
  unfold ckP
  split <;> rfl
theorem ckP_pd {c : Ck} (h : ckM c = true) : pdE (ckP c) = 0 := by
  rw [ckP_ok h]
  unfold pdE
  have h1 := (ckM_is h).2.1
  have h2 := ckS_len h
  simp only
  rw [if_neg (by omega), if_neg (by omega)]
  rfl
theorem ckE_zero {c : Ck} : ckE c = 0 ↔ ckM c = true := by
  unfold ckE
  split <;> simp_all
theorem u8_mod8 : ∀ i : UInt8, (i = 4 ∨ i = 5) → i % 8 = i ∧ (i + 128) % 8 = i ∧ i.toNat ≤ 127 ∧ 127 < (i + 128).toNat := by
  rintro i (rfl | rfl) <;> decide
theorem ckQ_P {c : Ck} (h : ckM c = true) : ckQ (ckP c) = c := by
  obtain ⟨h1, h2, h3, h4, h5⟩ := ckM_is h
  obtain ⟨m1, m2, m3, m4⟩ := u8_mod8 c.i h3
  rw [ckP_ok h]
  unfold ckQ
  simp only
  have e1 : (ckS c).take 4 = dig 4 c.q.toNat := by unfold ckS; exact List.take_left' (dig_len 4 _)
  have d1 : (ckS c).drop 4 = dig 2 c.m.toNat ++ (c.a ++ dig 16 0) := by unfold ckS; exact List.drop_left' (dig_len 4 _)
  have e2 : ((ckS c).drop 4).take 2 = dig 2 c.m.toNat := by rw [d1]; exact List.take_left' (dig_len 2 _)
  have d2 : (ckS c).drop 6 = c.a ++ dig 16 0 := by
    have : (ckS c).drop 6 = ((ckS c).drop 4).drop 2 := by rw [List.drop_drop]
    rw [this, d1]
    exact List.drop_left' (dig_len 2 _)
  have e3 : ((ckS c).drop 6).take 48 = c.a := by rw [d2]; exact List.take_left' h1
  rw [e1, e2, e3, num_dig, num_dig]
  have hq : UInt32.ofNat (c.q.toNat % 256 ^ 4) = c.q := by
    have := c.q.toNat_lt
    apply UInt32.toNat_inj.1
    rw [UInt32.toNat_ofNat']
    omega
  have hm : UInt16.ofNat (c.m.toNat % 256 ^ 2) = c.m := by
    have := c.m.toNat_lt
    apply UInt16.toNat_inj.1
    rw [UInt16.toNat_ofNat']
    omega
  rw [hq, hm]
  unfold ckG
  cases hr : c.r
  · simp only [Bool.false_eq_true, if_false]
    have : decide (127 < c.i.toNat) = false := by simpa using m3
    rw [m1, this, ← hr]
  · simp only [if_true]
    have : decide (127 < (c.i + 128).toNat) = true := by simpa using m4
    rw [m2, this, ← hr]
theorem ckF_P {c : Ck} (h : ckM c = true) : ckF (ckP c) = 0 ∧ ckX (ckP c) = c := by
  have e : ckF (ckP c) = 0 := by
    unfold ckF
    rw [ckQ_P h, if_pos]
    rw [ckP_ok h]
    exact ⟨rfl, ckS_len h, h⟩
  exact ⟨e, by unfold ckX; rw [if_pos e, ckQ_P h]⟩
theorem ckF_ok {p : Pd} (h : ckF p = 0) : p.o = 1 ∧ p.x.length = 70 ∧ ckM (ckQ p) = true ∧ ckX p = ckQ p := by
  have h' := h
  unfold ckF at h
  split at h
  · rename_i hh
    exact ⟨hh.1, hh.2.1, hh.2.2, by unfold ckX; rw [if_pos h']⟩
  · cases h
theorem ckF_no {p : Pd} (h : ckF p ≠ 0) : ckF p = 4 ∧ ckX p = ck0 := by
  have : ckF p = 4 := by
    unfold ckF at h ⊢
    split at h
    · exact absurd rfl h
    · rename_i hh; rw [if_neg hh]
  exact ⟨this, by unfold ckX; rw [if_neg h]⟩
/-- what is taken is put as the same first 54 bytes -/
theorem ckS_Q {p : Pd} (h : ckF p = 0) : (ckS (ckQ p)).take 54 = p.x.take 54 := by
  obtain ⟨h1, h2, h3, h4⟩ := ckF_ok h
  have e1 : dig 4 (ckQ p).q.toNat = p.x.take 4 := by
    have hl : (p.x.take 4).length = 4 := by rw [List.length_take]; omega
    have hn := num_lt (p.x.take 4)
    rw [hl] at hn
    have : (ckQ p).q.toNat = num (p.x.take 4) := by
      show (UInt32.ofNat (num (p.x.take 4))).toNat = _
      rw [UInt32.toNat_ofNat']
      omega
    rw [this]
    have := dig_num (p.x.take 4)
    rwa [hl] at this
  have e2 : dig 2 (ckQ p).m.toNat = (p.x.drop 4).take 2 := by
    have hl : ((p.x.drop 4).take 2).length = 2 := by rw [List.length_take, List.length_drop]; omega
    have hn := num_lt ((p.x.drop 4).take 2)
    rw [hl] at hn
    have : (ckQ p).m.toNat = num ((p.x.drop 4).take 2) := by
      show (UInt16.ofNat (num ((p.x.drop 4).take 2))).toNat = _
      rw [UInt16.toNat_ofNat']
      omega
    rw [this]
    have := dig_num ((p.x.drop 4).take 2)
    rwa [hl] at this
  have e3 : (ckQ p).a = (p.x.drop 6).take 48 := rfl
  unfold ckS
  rw [e1, e2, e3]
  have key : p.x.take 54 = p.x.take 4 ++ ((p.x.drop 4).take 2 ++ (p.x.drop 6).take 48) := by
    have a1 : p.x.take 54 = p.x.take 4 ++ (p.x.drop 4).take 50 := by
      rw [show (54 : Nat) = 4 + 50 from rfl, List.take_add]
    have a2 : (p.x.drop 4).take 50 = (p.x.drop 4).take 2 ++ ((p.x.drop 4).drop 2).take 48 := by
      rw [show (50 : Nat) = 2 + 48 from rfl, List.take_add]
    rw [a1, a2, List.drop_drop]
  have hl : (p.x.take 4 ++ ((p.x.drop 4).take 2 ++ (p.x.drop 6).take 48)).length = 54 := by
    simp only [List.length_append, List.length_take, List.length_drop]
    omega
  rw [key]
  have : p.x.take 4 ++ ((p.x.drop 4).take 2 ++ ((p.x.drop 6).take 48 ++ dig 16 0)) = (p.x.take 4 ++ ((p.x.drop 4).take 2 ++ (p.x.drop 6).take 48)) ++ dig 16 0 := by simp
  rw [this]
  exact List.take_left' hl
end Go.Proofs.Ytmhhhcphdnnopaa
