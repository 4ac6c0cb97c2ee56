/- Layer 11: things with a type and a length, as lists: a row's bytes, what is wrong with it, what bytes are a row of. -/
import Derived.Test.YtpoeamamdiomkaaDig
namespace Go.Proofs.Ytpoeamamdiomkaa
open Go.RowKit
set_option linter.unusedVariables false
set_option linter.unusedSimpArgs false
set_option maxRecDepth 100000

/-- a thing -/
structure Tl where
  k : UInt8
  v : List UInt8
  deriving DecidableEq, Inhabited
def tlV (x : Tl) : List Value := [.int .u8 x.k.toNat, .string ⟨x.v.toArray⟩]
theorem tlV_len (x : Tl) : (tlV x).length = 2 := rfl
theorem tlV_one (x : Tl) : ∀ u ∈ tlV x, u.oneCell' = true := by
  intro u hu
  simp only [tlV, List.mem_cons, List.mem_nil_iff, or_false] at hu
  rcases hu with rfl | rfl <;> rfl
/-- a thing's bytes; those of things -/
def tlB (x : Tl) : List UInt8 := x.k :: (dig 2 x.v.length ++ x.v)
def tlsB (l : List Tl) : List UInt8 := l.flatMap tlB
/-- the error of the first thing that is wrong -/
def tlE : List Tl → Nat
  | [] => 0
  | x :: l => if x.k = 0 then 2 else if 1480 < x.v.length then 5 else tlE l
/-- a row's bytes, or none -/
def tlP (l : List Tl) : List UInt8 := if tlE l = 0 then tlsB l ++ [0] else []
/-- the value of the first thing of a type -/
def tlF (l : List Tl) (k : UInt8) : Option (List UInt8) := (l.find? (fun x => x.k == k)).map Tl.v
theorem tlB_len (x : Tl) : (tlB x).length = 3 + x.v.length := by
  unfold tlB
  rw [List.length_cons, List.length_append, dig_len]
  omega
theorem tlE_app (a b : List Tl) : tlE (a ++ b) = if tlE a = 0 then tlE b else tlE a := by
  induction a with
  | nil => simp [tlE]
  | cons x a ih =>
    by_cases h1 : x.k = 0
    · simp [tlE, h1]
    · by_cases h2 : 1480 < x.v.length
      · simp [tlE, h1, h2]
      · simp only [List.cons_append, tlE, h1, h2, if_false]
        exact ih
theorem tlE_at {l : List Tl} {k : Nat} {x : Tl} (hx : l[k]? = some x) (h0 : tlE (l.take k) = 0) : tlE l = if x.k = 0 then 2 else if 1480 < x.v.length then 5 else tlE (l.drop (k + 1)) := by
  obtain ⟨hk, he⟩ := List.getElem?_eq_some_iff.1 hx
  have e : l = l.take k ++ (x :: l.drop (k + 1)) := by
    rw [← he, List.getElem_cons_drop, List.take_append_drop]
  have h1 := tlE_app (l.take k) (x :: l.drop (k + 1))
  rw [← e, if_pos h0] at h1
  exact h1
theorem tlE_step {l : List Tl} {k : Nat} {x : Tl} (hx : l[k]? = some x) (h0 : tlE (l.take k) = 0) (h1 : x.k ≠ 0) (h2 : ¬ 1480 < x.v.length) : tlE (l.take (k + 1)) = 0 ∧ tlsB (l.take (k + 1)) = tlsB (l.take k) ++ tlB x := by
  obtain ⟨hk, he⟩ := List.getElem?_eq_some_iff.1 hx
  have e : l.take (k + 1) = l.take k ++ [x] := by rw [List.take_succ_eq_append_getElem hk, he]
  constructor
  · rw [e, tlE_app, if_pos h0]
    simp [tlE, h1, h2]
  · rw [e]
    simp [tlsB]
theorem tlE_k {l : List Tl} (h : tlE l = 0) : ∀ x ∈ l, x.k ≠ 0 ∧ x.v.length ≤ 1480 := by
  induction l with
  | nil => intro x hx; cases hx
  | cons y l ih =>
    unfold tlE at h
    by_cases h1 : y.k = 0
    · simp [h1] at h
    · by_cases h2 : 1480 < y.v.length
      · simp [h1, h2] at h
      · rw [if_neg h1, if_neg h2] at h
        intro x hx
        rcases List.mem_cons.1 hx with rfl | hx
        · exact ⟨h1, by omega⟩
        · exact ih h x hx
theorem tlE_of {l : List Tl} (h : ∀ x ∈ l, x.k ≠ 0 ∧ x.v.length ≤ 1480) : tlE l = 0 := by
  induction l with
  | nil => rfl
  | cons y l ih =>
    unfold tlE
    have := h y (by simp)
    rw [if_neg this.1, if_neg (by omega)]
    exact ih (fun x hx => h x (by simp [hx]))
theorem tlsB_take_len {l : List Tl} (k : Nat) (h : tlE (l.take k) = 0) : (tlsB (l.take k)).length ≤ 1483 * k := by
  have hk := tlE_k h
  have hl : (l.take k).length ≤ k := List.length_take_le _ _
  generalize l.take k = m at *
  have : (tlsB m).length ≤ 1483 * m.length := by
    clear hl h
    induction m with
    | nil => simp [tlsB]
    | cons x m ih =>
      have h1 := hk x (by simp)
      have h2 := ih (fun y hy => hk y (by simp [hy]))
      unfold tlsB at h2 ⊢
      rw [List.flatMap_cons, List.length_append, tlB_len, List.length_cons]
      omega
  have h2 : 1483 * m.length ≤ 1483 * k := Nat.mul_le_mul_left _ hl
  omega
theorem tlF_hit {l : List Tl} {k : Nat} {x : Tl} {q : UInt8} (hx : l[k]? = some x) (h0 : ∀ y ∈ l.take k, y.k ≠ q) (h : x.k = q) : tlF l q = some x.v := by
  obtain ⟨hk, he⟩ := List.getElem?_eq_some_iff.1 hx
  have e : l = l.take k ++ (x :: l.drop (k + 1)) := by
    rw [← he, List.getElem_cons_drop, List.take_append_drop]
  unfold tlF
  rw [e, List.find?_append]
  have hn : List.find? (fun x => x.k == q) (l.take k) = none := List.find?_eq_none.2 (fun y hy => by simpa using h0 y hy)
  rw [hn, List.find?_cons]
  simp [h]
theorem tlF_none {l : List Tl} {q : UInt8} (h0 : ∀ y ∈ l, y.k ≠ q) : tlF l q = none := by
  unfold tlF
  rw [List.find?_eq_none.2 (fun y hy => by simpa using h0 y hy)]
  rfl
theorem tl_take_all {l : List Tl} {k : Nat} {x : Tl} {q : UInt8} (hx : l[k]? = some x) (h0 : ∀ y ∈ l.take k, y.k ≠ q) (h : x.k ≠ q) : ∀ y ∈ l.take (k + 1), y.k ≠ q := by
  obtain ⟨hk, he⟩ := List.getElem?_eq_some_iff.1 hx
  rw [List.take_succ_eq_append_getElem hk, he]
  intro y hy
  rcases List.mem_append.1 hy with hy | hy
  · exact h0 y hy
  · rw [List.mem_singleton.1 hy]; exact h

/-- the things of the row that bytes begin with, and what is behind it -/
def tkF : Nat → List UInt8 → Option (List Tl × List UInt8)
  | 0, _ => none
  | _ + 1, [] => none
  | f + 1, k :: r =>
    if k = 0 then some ([], r)
    else if r.length < 2 then none
    else if (r.drop 2).length < num (r.take 2) then none
    else (tkF f ((r.drop 2).drop (num (r.take 2)))).map (fun q => (⟨k, (r.drop 2).take (num (r.take 2))⟩ :: q.1, q.2))
theorem tkF_same : ∀ (f g : Nat) (s : List UInt8), s.length < f → s.length < g → tkF f s = tkF g s := by
  intro f
  induction f with
  | zero => intro g s h; omega
  | succ f ih =>
    intro g s h1 h2
    cases g with
    | zero => omega
    | succ g =>
      cases s with
      | nil => rfl
      | cons k r =>
        simp only [List.length_cons] at h1 h2
        unfold tkF
        split
        · rfl
        · split
          · rfl
          · split
            · rfl
            · rw [ih g _ (by simp; omega) (by simp; omega)]
def tks (s : List UInt8) : Option (List Tl × List UInt8) := tkF (s.length + 1) s
theorem tks_nil : tks [] = none := rfl
theorem tks_zero (r : List UInt8) : tks (0 :: r) = some ([], r) := by
  simp [tks, tkF]
theorem tks_cons (k : UInt8) (r : List UInt8) (hk : k ≠ 0) : tks (k :: r) = if r.length < 2 then none else if (r.drop 2).length < num (r.take 2) then none else (tks ((r.drop 2).drop (num (r.take 2)))).map (fun q => (⟨k, (r.drop 2).take (num (r.take 2))⟩ :: q.1, q.2)) := by
  unfold tks
  rw [tkF, if_neg hk]
  split
  · rfl
  · split
    · rfl
    · rw [tkF_same _ (((r.drop 2).drop (num (r.take 2))).length + 1) _ (by simp; omega) (by omega)]
theorem dig2_take (n : Nat) (r : List UInt8) : (dig 2 n ++ r).take 2 = dig 2 n ∧ (dig 2 n ++ r).drop 2 = r := by
  have h := dig_len 2 n
  exact ⟨List.take_left' h, List.drop_left' h⟩
theorem tks_tlB (x : Tl) (r : List UInt8) (hk : x.k ≠ 0) (hv : x.v.length ≤ 65535) : tks (tlB x ++ r) = (tks r).map (fun q => (x :: q.1, q.2)) := by
  unfold tlB
  rw [List.cons_append, List.append_assoc, tks_cons _ _ hk]
  obtain ⟨h1, h2⟩ := dig2_take x.v.length (x.v ++ r)
  have hn : num (dig 2 x.v.length) = x.v.length := by rw [num_dig]; omega
  rw [if_neg (by rw [List.length_append, dig_len]; omega), h1, h2, hn, if_neg (by simp), List.take_left, List.drop_left]
theorem tks_put (l : List Tl) (h : tlE l = 0) (q : List UInt8) : tks (tlsB l ++ 0 :: q) = some (l, q) := by
  have hk := tlE_k h
  clear h
  induction l with
  | nil => exact tks_zero q
  | cons x l ih =>
    have h1 := hk x (by simp)
    have e : tlsB (x :: l) ++ 0 :: q = tlB x ++ (tlsB l ++ 0 :: q) := by simp [tlsB]
    rw [e, tks_tlB x _ h1.1 (by omega), ih (fun y hy => hk y (by simp [hy]))]
    rfl
theorem tks_short (l : List Tl) (h : tlE l = 0) : tks (tlsB l) = none := by
  have hk := tlE_k h
  clear h
  induction l with
  | nil => exact tks_nil
  | cons x l ih =>
    have h1 := hk x (by simp)
    have e : tlsB (x :: l) = tlB x ++ tlsB l := by simp [tlsB]
    rw [e, tks_tlB x _ h1.1 (by omega), ih (fun y hy => hk y (by simp [hy]))]
    rfl
theorem tks_back : ∀ (n : Nat) (s : List UInt8), s.length ≤ n → ∀ l q, tks s = some (l, q) → s = tlsB l ++ 0 :: q ∧ (∀ x ∈ l, x.k ≠ 0 ∧ x.v.length ≤ s.length) ∧ l.length ≤ s.length := by
  intro n
  induction n with
  | zero =>
    intro s hs l q h
    have : s = [] := List.eq_nil_of_length_eq_zero (by omega)
    subst this
    rw [tks_nil] at h
    cases h
  | succ n ih =>
    intro s hs l q h
    cases s with
    | nil => rw [tks_nil] at h; cases h
    | cons k r =>
      by_cases hk : k = 0
      · subst hk
        rw [tks_zero] at h
        simp only [Option.some.injEq, Prod.mk.injEq] at h
        obtain ⟨rfl, rfl⟩ := h
        exact ⟨rfl, (by intro x hx; cases hx), by simp⟩
      · rw [tks_cons k r hk] at h
        split at h
        · cases h
        · rename_i h2
          split at h
          · cases h
          · rename_i h3
            simp only [List.length_cons] at hs
            cases hr : tks ((r.drop 2).drop (num (r.take 2))) with
            | none => rw [hr] at h; cases h
            | some p =>
              obtain ⟨l', q'⟩ := p
              rw [hr] at h
              simp only [Option.map_some, Option.some.injEq, Prod.mk.injEq] at h
              obtain ⟨rfl, rfl⟩ := h
              have hlen : ((r.drop 2).drop (num (r.take 2))).length + 2 + num (r.take 2) = r.length := by
                simp only [List.length_drop] at h3 ⊢
                omega
              obtain ⟨e1, e2, e3⟩ := ih _ (by omega) l' q' hr
              have htk : (r.take 2).length = 2 := by rw [List.length_take]; omega
              have hd : dig 2 (num (r.take 2)) = r.take 2 := by have := dig_num (r.take 2); rwa [htk] at this
              have hvl : ((r.drop 2).take (num (r.take 2))).length = num (r.take 2) := by rw [List.length_take]; omega
              refine ⟨?_, fun x hx => ?_, by simp only [List.length_cons]; omega⟩
              · have e : tlsB (⟨k, (r.drop 2).take (num (r.take 2))⟩ :: l') ++ 0 :: q' = k :: (r.take 2 ++ ((r.drop 2).take (num (r.take 2)) ++ (tlsB l' ++ 0 :: q'))) := by
                  simp only [tlsB, List.flatMap_cons, tlB, hvl, hd]
                  simp
                rw [e, ← e1, List.take_append_drop, List.take_append_drop]
              · rcases List.mem_cons.1 hx with rfl | hx
                · exact ⟨hk, by simp only [List.length_cons, hvl]; omega⟩
                · have := e2 x hx
                  exact ⟨this.1, by simp only [List.length_cons]; omega⟩
end Go.Proofs.Ytpoeamamdiomkaa
