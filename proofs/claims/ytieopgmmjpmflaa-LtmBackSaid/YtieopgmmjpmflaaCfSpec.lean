/- Layer 12: messages, as lists: a message's bytes, what is wrong with it, what bytes are a message of. -/
import Derived.Test.YtieopgmmjpmflaaTlTk
namespace Go.Proofs.Ytieopgmmjpmflaa
open Go.RowKit
set_option linter.unusedVariables false
set_option linter.unusedSimpArgs false
set_option maxRecDepth 100000

/-- a message -/
structure Pd where
  l : UInt8
  o : UInt8
  g : UInt8
  x : List UInt8
  t : List Tl
  deriving Inhabited
/-- what is wrong with a message that is put; its head; its bytes, or none -/
def pdE (p : Pd) : Nat := if 7 < p.l.toNat then 2 else if 255 < p.x.length then 5 else tlE p.t
def pdH (p : Pd) : List UInt8 := [p.l * 32, p.o, p.g, UInt8.ofNat p.x.length]
def pdP (p : Pd) : List UInt8 := if pdE p = 0 then pdH p ++ p.x ++ tlP p.t else []
def pd0 : Pd := ⟨0, 0, 0, [], []⟩
/-- what is wrong with bytes; the message that they begin with -/
def cfE : List UInt8 → Nat
  | a :: _ :: _ :: d :: r => if a.toNat % 32 = 0 then (if r.length < d.toNat then 3 else tkErr (r.drop d.toNat)) else 4
  | _ => 3
def cfQ : List UInt8 → Pd
  | a :: b :: c :: d :: r => ⟨a / 32, b, c, r.take d.toNat, tkX (r.drop d.toNat)⟩
  | _ => pd0
theorem cfE_four (a b c d : UInt8) (r : List UInt8) : cfE (a :: b :: c :: d :: r) = if a.toNat % 32 = 0 then (if r.length < d.toNat then 3 else tkErr (r.drop d.toNat)) else 4 := rfl
def cfX (s : List UInt8) : Pd := if cfE s = 0 then cfQ s else pd0
/-- the head of bytes -/
def hdL (s : List UInt8) : UInt8 := if s.length < 4 then 0 else s.getD 0 0 / 32
def hdO (s : List UInt8) : UInt8 := if s.length < 4 then 0 else s.getD 1 0
def hdB (s : List UInt8) : Bool := decide (4 ≤ s.length)
theorem four (s : List UInt8) (h : 4 ≤ s.length) : ∃ a b c d r, s = a :: b :: c :: d :: r := by
  match s, h with
  | a :: b :: c :: d :: r, _ => exact ⟨a, b, c, d, r, rfl⟩
theorem cf_few {s : List UInt8} (h : s.length < 4) : cfE s = 3 ∧ cfX s = pd0 := by
  have e : cfE s = 3 := by
    match s, h with
    | [], _ => rfl
    | [_], _ => rfl
    | [_, _], _ => rfl
    | [_, _, _], _ => rfl
    | _ :: _ :: _ :: _ :: r, h => simp only [List.length_cons] at h; omega
  exact ⟨e, by unfold cfX; rw [if_neg (by omega)]⟩
theorem tks_app : ∀ (n : Nat) (s : List UInt8), s.length ≤ n → ∀ l q t, tks s = some (l, q) → tks (s ++ t) = some (l, q ++ t) := by
  intro n
  induction n with
  | zero =>
    intro s hs l q t h
    have : s = [] := List.eq_nil_of_length_eq_zero (by omega)
    subst this
    rw [tks_nil] at h
    cases h
  | succ n ih =>
    intro s hs l q t h
    cases s with
    | nil => rw [tks_nil] at h; cases h
    | cons k r =>
      by_cases hk : k = 0
      · subst hk
        rw [tks_zero] at h
        simp only [Option.some.injEq, Prod.mk.injEq] at h
        obtain ⟨rfl, rfl⟩ := h
        rw [List.cons_append, tks_zero]
      · rw [tks_cons k r hk] at h
        split at h
        · cases h
        · rename_i h2
          split at h
          · cases h
          · rename_i h3
            simp only [List.length_cons] at hs
            have t2 : (r ++ t).take 2 = r.take 2 := List.take_append_of_le_length (by omega)
            have d2 : (r ++ t).drop 2 = r.drop 2 ++ t := List.drop_append_of_le_length (by omega)
            have t3 : (r.drop 2 ++ t).take (num (r.take 2)) = (r.drop 2).take (num (r.take 2)) := List.take_append_of_le_length (by omega)
            have d3 : (r.drop 2 ++ t).drop (num (r.take 2)) = (r.drop 2).drop (num (r.take 2)) ++ t := List.drop_append_of_le_length (by omega)
            rw [List.cons_append, tks_cons k (r ++ t) hk, if_neg (by simp; omega), t2, d2, if_neg (by simp at h3 ⊢; omega), t3, d3]
            cases hr : tks ((r.drop 2).drop (num (r.take 2))) with
            | none => rw [hr] at h; cases h
            | some p =>
              obtain ⟨l', q'⟩ := p
              rw [hr] at h
              simp only [Option.map_some, Option.some.injEq, Prod.mk.injEq] at h
              obtain ⟨rfl, rfl⟩ := h
              rw [ih _ (by simp; omega) l' q' t hr]
              rfl
/-- a row that is cut is none -/
theorem tks_cut {l : List Tl} (h : tlE l = 0) {m : Nat} (hm : m < (tlP l).length) : tks ((tlP l).take m) = none := by
  cases hc : tks ((tlP l).take m) with
  | none => rfl
  | some p =>
    obtain ⟨l', q⟩ := p
    have h1 := tks_app _ _ (Nat.le_refl _) l' q ((tlP l).drop m) hc
    rw [List.take_append_drop] at h1
    have hp : tlP l = tlsB l ++ 0 :: [] := by unfold tlP; rw [if_pos h]
    rw [hp, tks_put l h []] at h1
    simp only [Option.some.injEq, Prod.mk.injEq] at h1
    have h2 := congrArg List.length h1.2
    rw [List.length_append, List.length_drop] at h2
    rw [← hp] at h2
    simp at h2
    omega
theorem pdE_ok {p : Pd} (h : pdE p = 0) : p.l.toNat ≤ 7 ∧ p.x.length ≤ 255 ∧ tlE p.t = 0 := by
  unfold pdE at h
  split at h
  · cases h
  · split at h
    · cases h
    · exact ⟨by omega, by omega, h⟩
theorem tlP_len (l : List Tl) : (tlP l).length ≤ 1483 * l.length + 1 := by
  unfold tlP
  split
  · rename_i h
    have := tlsB_take_len (l := l) l.length (by rw [List.take_length]; exact h)
    rw [List.take_length] at this
    simp
    omega
  · simp
theorem pdP_ok {p : Pd} (h : pdE p = 0) : pdP p = (p.l * 32) :: p.o :: p.g :: UInt8.ofNat p.x.length :: (p.x ++ tlP p.t) := by
  unfold pdP
  rw [if_pos h]
  simp [pdH]
theorem pdP_len (p : Pd) : (pdP p).length ≤ 1483 * p.t.length + 260 := by
  by_cases h : pdE p = 0
  · have := tlP_len p.t
    have := (pdE_ok h).2.1
    rw [pdP_ok h]
    simp
    omega
  · unfold pdP
    rw [if_neg h]
    simp
theorem pd_no {p : Pd} (h : pdE p ≠ 0) : pdP p = [] := by
  unfold pdP
  rw [if_neg h]
theorem pd_head {p : Pd} (h : pdE p = 0) : (p.l * 32).toNat = p.l.toNat * 32 ∧ (UInt8.ofNat p.x.length).toNat = p.x.length := by
  have := pdE_ok h
  constructor
  · rw [UInt8.toNat_mul]
    have : (32 : UInt8).toNat = 32 := rfl
    rw [this]
    omega
  · simp
    omega
theorem u8_div32 (a : UInt8) : (a / 32).toNat = a.toNat / 32 := by
  rw [UInt8.toNat_div]; rfl
/-- what is put is taken, whatever is behind it -/
theorem cf_back {p : Pd} (h : pdE p = 0) (t : List UInt8) : cfE (pdP p ++ t) = 0 ∧ cfX (pdP p ++ t) = p := by
  obtain ⟨h1, h2, h3⟩ := pdE_ok h
  obtain ⟨e1, e2⟩ := pd_head h
  have hp : tlP p.t = tlsB p.t ++ [0] := by unfold tlP; rw [if_pos h3]
  have hk : tks (tlP p.t ++ t) = some (p.t, t) := by
    rw [hp]
    have := tks_put p.t h3 t
    simpa using this
  obtain ⟨k1, k2, k3⟩ := tk_some3 hk
  have hs : pdP p ++ t = (p.l * 32) :: p.o :: p.g :: UInt8.ofNat p.x.length :: (p.x ++ (tlP p.t ++ t)) := by rw [pdP_ok h]; simp
  have hE : cfE (pdP p ++ t) = 0 := by
    rw [hs]
    rw [cfE_four, e1, if_pos (by omega), e2, if_neg (by simp), List.drop_left, k3]
  refine ⟨hE, ?_⟩
  unfold cfX
  rw [if_pos hE, hs]
  unfold cfQ
  simp only
  rw [e2, List.drop_left, List.take_left, k1]
  have e3 : p.l * 32 / 32 = p.l := by
    apply UInt8.toNat_inj.1
    rw [u8_div32, e1]
    omega
  rw [e3]
/-- what is cut is short; its head is told -/
theorem cf_cut {p : Pd} (h : pdE p = 0) {n : Nat} (hn : n < (pdP p).length) : cfE ((pdP p).take n) = 3 ∧ cfX ((pdP p).take n) = pd0 := by
  have key : cfE ((pdP p).take n) = 3 := by
    by_cases h4 : n < 4
    · exact (cf_few (by simp; omega)).1
    · obtain ⟨h1, h2, h3⟩ := pdE_ok h
      obtain ⟨e1, e2⟩ := pd_head h
      obtain ⟨m, rfl⟩ : ∃ m, n = m + 4 := ⟨n - 4, by omega⟩
      rw [pdP_ok h] at hn ⊢
      simp only [List.length_cons] at hn
      simp only [List.take_succ_cons]
      rw [cfE_four, e1, if_pos (by omega), e2]
      by_cases hm : m < p.x.length
      · rw [if_pos (by simp; omega)]
      · rw [List.length_append] at hn
        rw [if_neg (by simp; omega)]
        have : ((p.x ++ tlP p.t).take m).drop p.x.length = (tlP p.t).take (m - p.x.length) := by
          rw [List.drop_take, List.drop_left]
        rw [this]
        exact (tk_none3 (tks_cut h3 (by omega))).2.2
  exact ⟨key, by unfold cfX; rw [if_neg (by omega)]⟩
theorem hd_cut {p : Pd} (h : pdE p = 0) (n : Nat) : hdL ((pdP p).take n) = (if 4 ≤ n then p.l else 0) ∧ hdO ((pdP p).take n) = (if 4 ≤ n then p.o else 0) ∧ hdB ((pdP p).take n) = decide (4 ≤ n) := by
  obtain ⟨h1, h2, h3⟩ := pdE_ok h
  obtain ⟨e1, e2⟩ := pd_head h
  have e3 : p.l * 32 / 32 = p.l := by
    apply UInt8.toNat_inj.1
    rw [u8_div32, e1]
    omega
  have hl : 5 ≤ (pdP p).length := by
    rw [pdP_ok h]
    have : 0 < (tlP p.t).length := by unfold tlP; rw [if_pos h3]; simp
    simp
    omega
  by_cases h4 : 4 ≤ n
  · have hlen : ¬ ((pdP p).take n).length < 4 := by rw [List.length_take]; omega
    unfold hdL hdO hdB
    rw [if_neg hlen, if_neg hlen, if_pos h4, if_pos h4]
    obtain ⟨m, rfl⟩ : ∃ m, n = m + 4 := ⟨n - 4, by omega⟩
    refine ⟨?_, ?_, ?_⟩
    · rw [pdP_ok h]; simp [e3]
    · rw [pdP_ok h]; simp
    · rw [Bool.eq_iff_iff]; simp; omega
  · have hlen : ((pdP p).take n).length < 4 := by rw [List.length_take]; omega
    unfold hdL hdO hdB
    rw [if_pos hlen, if_pos hlen, if_neg h4, if_neg h4]
    refine ⟨rfl, rfl, ?_⟩
    rw [Bool.eq_iff_iff]; simp; omega
theorem cfX_len (s : List UInt8) : (cfX s).t.length ≤ s.length ∧ (cfX s).x.length ≤ s.length := by
  have tl : ∀ s : List UInt8, (tkX s).length ≤ s.length := by
    intro s
    unfold tkX
    split
    · rename_i p hp
      exact (tks_back _ s (Nat.le_refl _) p.1 p.2 hp).2.2
    · simp
  unfold cfX
  split
  · match s with
    | a :: b :: c :: d :: r =>
      have := tl (r.drop d.toNat)
      simp only [cfQ, List.length_drop, List.length_take, List.length_cons] at *
      omega
    | [] => simp [cfQ, pd0]
    | [_] => simp [cfQ, pd0]
    | [_, _] => simp [cfQ, pd0]
    | [_, _, _] => simp [cfQ, pd0]
  · simp [pd0]
/-- what the program's Take comes to: the bytes read one by one -/
theorem cf_read (s : List UInt8) {v1 v2 v3 v4 : List UInt8} {l1 l2 l3 l4 l5 x5 x6 : List UInt8} {e1 e2 e3 e4 e5 e6 : Int}
    (V1 : tkV 1 s 0 = v1) (L1 : tkL 1 s 0 = l1) (E1 : tkE 1 s 0 = e1) (V2 : tkV 1 l1 e1 = v2) (L2 : tkL 1 l1 e1 = l2) (E2 : tkE 1 l1 e1 = e2)
    (V3 : tkV 1 l2 e2 = v3) (L3 : tkL 1 l2 e2 = l3) (E3 : tkE 1 l2 e2 = e3) (V4 : tkV 1 l3 e3 = v4) (L4 : tkL 1 l3 e3 = l4) (E4 : tkE 1 l3 e3 = e4)
    (E5 : (if num v1 % 32 = 0 then e4 else bdE e4) = e5) (X5 : tkV (num v4) l4 e5 = x5) (L5 : tkL (num v4) l4 e5 = l5) (E6 : tkE (num v4) l4 e5 = e6) (X6 : tkV l5.length l5 e6 = x6) :
    ∃ a b c : UInt8, num v1 = a.toNat ∧ num v2 = b.toNat ∧ num v3 = c.toNat ∧ (if e6 = 0 then ((tkErr x6 : Nat) : Int) else e6) = ((cfE s : Nat) : Int) ∧ (cfE s = 0 → cfX s = ⟨a / 32, b, c, x5, tkX x6⟩) := by
  have t0 : tkErr [] = 3 := rfl
  match s, V1, L1, E1 with
  | [], V1, L1, E1 =>
    simp only [tkV, tkL, tkE] at V1 L1 E1
    simp at V1 L1 E1
    subst V1 L1 E1
    simp [tkV, tkL, tkE] at V2 L2 E2
    subst V2 L2 E2
    simp [tkV, tkL, tkE] at V3 L3 E3
    subst V3 L3 E3
    simp [tkV, tkL, tkE] at V4 L4 E4
    subst V4 L4 E4
    simp [num, bdE] at E5
    subst E5
    simp [tkV, tkL, tkE, num] at X5 L5 E6
    subst X5 L5 E6
    simp [tkV] at X6
    subst X6
    exact ⟨0, 0, 0, rfl, rfl, rfl, rfl, fun h => by cases h⟩
  | [a], V1, L1, E1 =>
    simp [tkV, tkL, tkE] at V1 L1 E1
    subst V1 L1 E1
    simp [tkV, tkL, tkE] at V2 L2 E2
    subst V2 L2 E2
    simp [tkV, tkL, tkE] at V3 L3 E3
    subst V3 L3 E3
    simp [tkV, tkL, tkE] at V4 L4 E4
    subst V4 L4 E4
    simp [bdE] at E5
    subst E5
    simp [tkV, tkL, tkE, num] at X5 L5 E6
    subst X5 L5 E6
    simp [tkV] at X6
    subst X6
    exact ⟨a, 0, 0, by simp [num], rfl, rfl, rfl, fun h => by cases h⟩
  | [a, b], V1, L1, E1 =>
    simp [tkV, tkL, tkE] at V1 L1 E1
    subst V1 L1 E1
    simp [tkV, tkL, tkE] at V2 L2 E2
    subst V2 L2 E2
    simp [tkV, tkL, tkE] at V3 L3 E3
    subst V3 L3 E3
    simp [tkV, tkL, tkE] at V4 L4 E4
    subst V4 L4 E4
    simp [bdE] at E5
    subst E5
    simp [tkV, tkL, tkE, num] at X5 L5 E6
    subst X5 L5 E6
    simp [tkV] at X6
    subst X6
    exact ⟨a, b, 0, by simp [num], by simp [num], rfl, rfl, fun h => by cases h⟩
  | [a, b, c], V1, L1, E1 =>
    simp [tkV, tkL, tkE] at V1 L1 E1
    subst V1 L1 E1
    simp [tkV, tkL, tkE] at V2 L2 E2
    subst V2 L2 E2
    simp [tkV, tkL, tkE] at V3 L3 E3
    subst V3 L3 E3
    simp [tkV, tkL, tkE] at V4 L4 E4
    subst V4 L4 E4
    simp [bdE] at E5
    subst E5
    simp [tkV, tkL, tkE, num] at X5 L5 E6
    subst X5 L5 E6
    simp [tkV] at X6
    subst X6
    exact ⟨a, b, c, by simp [num], by simp [num], by simp [num], rfl, fun h => by cases h⟩
  | a :: b :: c :: d :: r, V1, L1, E1 =>
    simp [tkV, tkL, tkE] at V1 L1 E1
    subst V1 L1 E1
    simp [tkV, tkL, tkE] at V2 L2 E2
    subst V2 L2 E2
    simp [tkV, tkL, tkE] at V3 L3 E3
    subst V3 L3 E3
    simp [tkV, tkL, tkE] at V4 L4 E4
    subst V4 L4 E4
    have na : num [a] = a.toNat := by simp [num]
    have nd : num [d] = d.toNat := by simp [num]
    rw [na] at E5
    rw [nd] at X5 L5 E6
    refine ⟨a, b, c, na, by simp [num], by simp [num], ?_⟩
    have hC : cfE (a :: b :: c :: d :: r) = if a.toNat % 32 = 0 then (if r.length < d.toNat then 3 else tkErr (r.drop d.toNat)) else 4 := rfl
    by_cases h1 : a.toNat % 32 = 0
    · rw [if_pos h1] at E5
      subst E5
      rw [if_pos h1] at hC
      by_cases h2 : r.length < d.toNat
      · rw [if_pos h2] at hC
        have : e6 = 3 := by rw [← E6]; simp [tkE, h2]
        subst this
        rw [hC]
        exact ⟨rfl, fun h => by cases h⟩
      · rw [if_neg h2] at hC
        have h6 : e6 = 0 := by rw [← E6]; simp [tkE, h2]
        have h5 : x5 = r.take d.toNat := by rw [← X5]; simp [tkV]; omega
        have hl5 : l5 = r.drop d.toNat := by rw [← L5]; simp [tkL]; omega
        subst h6 hl5
        have h66 : x6 = r.drop d.toNat := by rw [← X6]; unfold tkV; rw [if_pos ⟨rfl, Nat.le_refl _⟩, List.take_length]
        rw [hC, h66, h5]
        refine ⟨by simp, fun h => ?_⟩
        unfold cfX
        rw [hC, if_pos h]
        rfl
    · rw [if_neg h1] at E5 hC
      have : e5 = 4 := by rw [← E5]; simp [bdE]
      subst this
      have : e6 = 4 := by rw [← E6]; simp [tkE]
      subst this
      rw [hC]
      exact ⟨rfl, fun h => by cases h⟩
end Go.Proofs.Ytieopgmmjpmflaa
