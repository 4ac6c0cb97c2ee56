/- Layer 15: traces and replies, as lists. -/
import Derived.Test.YtieopgmmjpmflaaCfSpec
import Derived.Test.YtieopgmmjpmflaaTlFind
namespace Go.Proofs.Ytieopgmmjpmflaa
open Go.RowKit
set_option linter.unusedVariables false
set_option linter.unusedSimpArgs false
set_option maxRecDepth 100000

/-- an address: six bytes -/
structure A6 where
  a : UInt8
  b : UInt8
  c : UInt8
  d : UInt8
  e : UInt8
  f : UInt8
  deriving DecidableEq, Inhabited
def A6.z : A6 := ⟨0, 0, 0, 0, 0, 0⟩
def A6.l (x : A6) : List UInt8 := [x.a, x.b, x.c, x.d, x.e, x.f]
def a6of : List UInt8 → A6
  | [a, b, c, d, e, f] => ⟨a, b, c, d, e, f⟩
  | _ => A6.z
theorem a6_of (x : A6) : a6of x.l = x := rfl
theorem a6_len (x : A6) : x.l.length = 6 := rfl
/-- a trace; a reply -/
structure Tc where
  l : UInt8
  q : UInt32
  k : UInt8
  o : A6
  t : A6
  deriving DecidableEq, Inhabited
structure Ry where
  l : UInt8
  q : UInt32
  k : UInt8
  s : Bool
  e : Bool
  i : A6
  u : A6
  deriving DecidableEq, Inhabited
def tcE (t : Tc) : Nat := if 7 < t.l.toNat then 2 else 0
def tcS (t : Tc) : List UInt8 := dig 4 t.q.toNat ++ (t.k :: (t.o.l ++ t.t.l))
def tcP (t : Tc) : Pd := if tcE t = 0 then ⟨t.l, 5, 128, tcS t, []⟩ else pd0
def ryE (r : Ry) : Nat := if 7 < r.l.toNat then 2 else 0
def ryG (r : Ry) : UInt8 := (if r.s then 64 else 0) + (if r.e then 32 else 0)
def ryK (r : Ry) : UInt8 := if r.e then 1 else 2
def ryS (r : Ry) : List UInt8 := dig 4 r.q.toNat ++ [r.k, ryK r]
def prT (k : UInt8) (x : A6) : List Tl := if x = A6.z then [] else [⟨k, 1 :: x.l⟩]
def ryT (r : Ry) : List Tl := prT 5 r.i ++ prT 6 r.u
def ryP (r : Ry) : Pd := if ryE r = 0 then ⟨r.l, 4, ryG r, ryS r, ryT r⟩ else pd0
/-- what a message is a trace, a reply of -/
def tcF (p : Pd) : Nat := if p.o = 5 ∧ p.x.length = 17 then 0 else 4
def tcQ (p : Pd) : Tc := ⟨p.l, UInt32.ofNat (num (p.x.take 4)), p.x.getD 4 0, a6of ((p.x.drop 5).take 6), a6of (p.x.drop 11)⟩
def tc0 : Tc := ⟨0, 0, 0, A6.z, A6.z⟩
def tcX (p : Pd) : Tc := if tcF p = 0 then tcQ p else tc0
/-- a port of a reply: may it be, its address -/
def prB (l : List Tl) (k : UInt8) : Bool := match tlF l k with
  | none => true
  | some s => decide (s.length = 7) && ((s.getD 0 0 == 1) && decide (a6of (s.drop 1) ≠ A6.z))
def prA (l : List Tl) (k : UInt8) : A6 := match tlF l k with
  | none => A6.z
  | some s => a6of (s.drop 1)
def ryB (p : Pd) : Bool := if p.g.toNat / 32 % 2 = 1 then p.x.getD 5 0 == 1 else p.x.getD 5 0 == 2
def ryF (p : Pd) : Nat := if p.o = 4 ∧ p.x.length = 6 ∧ prB p.t 5 = true ∧ prB p.t 6 = true ∧ ryB p = true then 0 else 4
def ryQ (p : Pd) : Ry := ⟨p.l, UInt32.ofNat (num (p.x.take 4)), p.x.getD 4 0, decide (p.g.toNat / 64 % 2 = 1), decide (p.g.toNat / 32 % 2 = 1), prA p.t 5, prA p.t 6⟩
def ry0 : Ry := ⟨0, 0, 0, false, false, A6.z, A6.z⟩
def ryX (p : Pd) : Ry := if ryF p = 0 then ryQ p else ry0
theorem tcP_ok {t : Tc} (h : tcE t = 0) : tcP t = ⟨t.l, 5, 128, tcS t, []⟩ := by
  unfold tcP
  rw [if_pos h]
theorem ryP_ok {r : Ry} (h : ryE r = 0) : ryP r = ⟨r.l, 4, ryG r, ryS r, ryT r⟩ := by
  unfold ryP
  rw [if_pos h]
theorem lt_q (q : UInt32) : UInt32.ofNat (num (dig 4 q.toNat)) = q := by
  rw [num_dig]
  have := q.toNat_lt
  apply UInt32.toNat_inj.1
  rw [UInt32.toNat_ofNat']
  omega
theorem lt_dig (n : Nat) : ∃ a b c d, dig 4 n = [a, b, c, d] := by
  have h := dig_len 4 n
  match dig 4 n, h with
  | [a, b, c, d], _ => exact ⟨a, b, c, d, rfl⟩
theorem tcS_len (t : Tc) : (tcS t).length = 17 := by
  unfold tcS
  simp [dig_len, A6.l]
theorem ryS_len (r : Ry) : (ryS r).length = 6 := by
  unfold ryS
  simp [dig_len]
theorem tcE_is {t : Tc} : tcE t = 0 ↔ t.l.toNat < 8 := by
  unfold tcE
  split <;> omega
theorem ryE_is {r : Ry} : ryE r = 0 ↔ r.l.toNat < 8 := by
  unfold ryE
  split <;> omega
theorem tc_pd {t : Tc} (h : tcE t = 0) : pdE (tcP t) = 0 := by
  have := tcE_is.1 h
  rw [tcP_ok h]
  unfold pdE
  simp only [tcS_len]
  rw [if_neg (by omega), if_neg (by omega)]
  rfl
theorem prT_le (k : UInt8) (x : A6) : (prT k x).length ≤ 1 := by
  unfold prT
  split <;> simp
theorem ryT_len (r : Ry) : (ryT r).length ≤ 2 := by
  have := prT_le 5 r.i
  have := prT_le 6 r.u
  unfold ryT
  rw [List.length_append]
  omega
theorem ry_pd {r : Ry} (h : ryE r = 0) : pdE (ryP r) = 0 := by
  have := ryE_is.1 h
  rw [ryP_ok h]
  unfold pdE
  simp only [ryS_len]
  rw [if_neg (by omega), if_neg (by omega)]
  refine tlE_of (fun x hx => ?_)
  unfold ryT prT at hx
  have h7 : ∀ y : A6, (1 :: y.l : List UInt8).length = 7 := fun y => rfl
  rcases List.mem_append.1 hx with hx | hx
  · split at hx
    · cases hx
    · rw [List.mem_singleton.1 hx]
      exact ⟨by show (5 : UInt8) ≠ 0; decide, by show (1 :: r.i.l : List UInt8).length ≤ 1480; rw [h7]; omega⟩
  · split at hx
    · cases hx
    · rw [List.mem_singleton.1 hx]
      exact ⟨by show (6 : UInt8) ≠ 0; decide, by show (1 :: r.u.l : List UInt8).length ≤ 1480; rw [h7]; omega⟩
theorem tcQ_P {t : Tc} (h : tcE t = 0) : tcQ (tcP t) = t := by
  rw [tcP_ok h]
  have hq := lt_q t.q
  obtain ⟨a, b, c, d, e⟩ := lt_dig t.q.toNat
  rw [e] at hq
  unfold tcQ
  simp only [tcS, e]
  have e1 : ([a, b, c, d] ++ (t.k :: (t.o.l ++ t.t.l))).take 4 = [a, b, c, d] := rfl
  rw [e1, hq]
  rfl
theorem tc_back {t : Tc} (h : tcE t = 0) : tcF (tcP t) = 0 ∧ tcX (tcP t) = t := by
  have e : tcF (tcP t) = 0 := by
    rw [tcP_ok h]
    unfold tcF
    rw [if_pos ⟨rfl, tcS_len t⟩]
  exact ⟨e, by unfold tcX; rw [if_pos e, tcQ_P h]⟩
theorem tc_lv {t : Tc} (h : tcE t = 0) : (tcP t).l.toNat < 8 ∧ ((tcP t).o = 5 → 127 < (tcP t).g.toNat) := by
  have := tcE_is.1 h
  rw [tcP_ok h]
  exact ⟨this, fun _ => by show 127 < (128 : UInt8).toNat; decide⟩
theorem ry_lv {r : Ry} (h : ryE r = 0) : (ryP r).l.toNat < 8 ∧ ((ryP r).o = 5 → 127 < (ryP r).g.toNat) := by
  have := ryE_is.1 h
  rw [ryP_ok h]
  exact ⟨this, fun e => absurd (show (4 : UInt8) = 5 from e) (by decide)⟩
theorem tc_noReply {t : Tc} (h : tcE t = 0) : ryF (tcP t) = 4 := by
  rw [tcP_ok h]
  unfold ryF
  rw [if_neg (by rintro ⟨h, _⟩; exact absurd (show (5 : UInt8) = 4 from h) (by decide))]
theorem ry_noTrace {r : Ry} (h : ryE r = 0) : tcF (ryP r) = 4 := by
  rw [ryP_ok h]
  unfold tcF
  rw [if_neg (by rintro ⟨h, _⟩; exact absurd (show (4 : UInt8) = 5 from h) (by decide))]
theorem pr_find (i u : A6) : tlF (prT 5 i ++ prT 6 u) 5 = (if i = A6.z then none else some (1 :: i.l)) ∧ tlF (prT 5 i ++ prT 6 u) 6 = (if u = A6.z then none else some (1 :: u.l)) := by
  unfold prT tlF
  by_cases h1 : i = A6.z <;> by_cases h2 : u = A6.z <;> simp [h1, h2]
theorem pr_ok {l : List Tl} {k : UInt8} {x : A6} (h : tlF l k = (if x = A6.z then none else some (1 :: x.l))) : prB l k = true ∧ prA l k = x := by
  unfold prB prA
  rw [h]
  by_cases hx : x = A6.z
  · rw [if_pos hx]; exact ⟨rfl, hx.symm⟩
  · rw [if_neg hx]
    simp only
    have e1 : ((1 :: x.l : List UInt8)).drop 1 = x.l := rfl
    rw [e1, a6_of]
    refine ⟨?_, rfl⟩
    simp [hx, A6.l]
theorem ryG_bits : ∀ s e : Bool, (((if s then 64 else 0) + (if e then 32 else 0) : UInt8)).toNat / 64 % 2 = (if s then 1 else 0) ∧ (((if s then 64 else 0) + (if e then 32 else 0) : UInt8)).toNat / 32 % 2 = (if e then 1 else 0) := by decide
theorem ry_back {r : Ry} (h : ryE r = 0) : ryF (ryP r) = 0 ∧ ryX (ryP r) = r := by
  obtain ⟨f5, f6⟩ := pr_find r.i r.u
  obtain ⟨b5, a5⟩ := pr_ok f5
  obtain ⟨b6, a6⟩ := pr_ok f6
  obtain ⟨g1, g2⟩ := ryG_bits r.s r.e
  have hq := lt_q r.q
  obtain ⟨a, b, c, d, e⟩ := lt_dig r.q.toNat
  rw [e] at hq
  have hS : ryS r = [a, b, c, d, r.k, ryK r] := by unfold ryS; rw [e]; rfl
  have hB : ryB (ryP r) = true := by
    rw [ryP_ok h]
    unfold ryB ryG
    simp only
    rw [g2, hS]
    unfold ryK
    cases r.e <;> rfl
  have eF : ryF (ryP r) = 0 := by
    unfold ryF
    rw [if_pos]
    refine ⟨?_, ?_, ?_, ?_, hB⟩
    · rw [ryP_ok h]
    · rw [ryP_ok h]; exact ryS_len r
    · rw [ryP_ok h]; exact b5
    · rw [ryP_ok h]; exact b6
  refine ⟨eF, ?_⟩
  unfold ryX
  rw [if_pos eF, ryP_ok h]
  unfold ryQ
  simp only
  unfold ryG ryT
  rw [g1, g2, a5, a6, hS]
  have e1 : ([a, b, c, d, r.k, ryK r] : List UInt8).take 4 = [a, b, c, d] := rfl
  rw [e1, hq]
  obtain ⟨l, q, k, s, e', i, u⟩ := r
  cases s <;> cases e' <;> rfl
theorem tcF_is (p : Pd) : tcF p = 0 ∨ (tcF p = 4 ∧ tcX p = tc0) := by
  by_cases h : tcF p = 0
  · exact .inl h
  · exact .inr ⟨by unfold tcF at h ⊢; split at h <;> simp_all, by unfold tcX; rw [if_neg h]⟩
end Go.Proofs.Ytieopgmmjpmflaa
