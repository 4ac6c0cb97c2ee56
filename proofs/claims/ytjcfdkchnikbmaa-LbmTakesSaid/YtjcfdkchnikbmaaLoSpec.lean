/- Layer 14: loopbacks, as lists. -/
import Derived.Test.YtjcfdkchnikbmaaCfSpec
import Derived.Test.YtjcfdkchnikbmaaTlFind
namespace Go.Proofs.Ytjcfdkchnikbmaa
open Go.RowKit
set_option linter.unusedVariables false
set_option linter.unusedSimpArgs false
set_option maxRecDepth 100000

/-- a loopback -/
structure Lo where
  l : UInt8
  r : Bool
  q : UInt32
  d : List UInt8
  deriving DecidableEq, Inhabited
def lo0 : Lo := ⟨0, false, 0, []⟩
def loE (o : Lo) : Nat := if 7 < o.l.toNat then 2 else if 64 < o.d.length then 5 else 0
def loO (o : Lo) : UInt8 := if o.r then 2 else 3
def loT (o : Lo) : List Tl := if o.d = [] then [] else [⟨3, o.d⟩]
/-- a loopback's message, or none; a message's loopback, or none; the answer, or none -/
def loP (o : Lo) : Pd := if loE o = 0 then ⟨o.l, loO o, 0, dig 4 o.q.toNat, loT o⟩ else pd0
def lkF (p : Pd) : Nat := if (p.o = 2 ∨ p.o = 3) ∧ p.x.length = 4 then 0 else 4
def lkQ (p : Pd) : Lo := ⟨p.l, p.o == 2, UInt32.ofNat (num p.x), tlFv p.t 3⟩
def lkX (p : Pd) : Lo := if lkF p = 0 then lkQ p else lo0
def anF (p : Pd) : Nat := if p.o = 3 ∧ p.x.length = 4 then 0 else 4
def anP (p : Pd) : Pd := if anF p = 0 then { p with o := 2 } else pd0
theorem loT_len (o : Lo) : (loT o).length ≤ 1 := by
  unfold loT
  split <;> simp
theorem loP_ok {o : Lo} (h : loE o = 0) : loP o = ⟨o.l, loO o, 0, dig 4 o.q.toNat, loT o⟩ := by
  unfold loP
  rw [if_pos h]
theorem loP_no {o : Lo} (h : loE o ≠ 0) : loP o = pd0 := by
  unfold loP
  rw [if_neg h]
theorem loE_is {o : Lo} (h : loE o = 0) : o.l.toNat ≤ 7 ∧ o.d.length ≤ 64 := by
  unfold loE at h
  split at h
  · cases h
  · split at h
    · cases h
    · exact ⟨by omega, by omega⟩
theorem loP_t (o : Lo) : (loP o).t.length ≤ 1 ∧ (loP o).x.length ≤ 4 := by
  unfold loP
  split
  · exact ⟨loT_len o, by simp [dig_len]⟩
  · simp [pd0]
theorem loP_pd {o : Lo} (h : loE o = 0) : pdE (loP o) = 0 := by
  obtain ⟨h1, h2⟩ := loE_is h
  rw [loP_ok h]
  unfold pdE
  simp only [dig_len]
  rw [if_neg (by omega), if_neg (by omega)]
  unfold loT
  split
  · rfl
  · unfold tlE
    rw [if_neg (show ¬ (3 : UInt8) = 0 by decide), if_neg (by simp only; omega)]
    rfl
theorem lo_find (o : Lo) : tlFv (loT o) 3 = o.d := by
  unfold loT
  split
  · rename_i h; rw [h]; rfl
  · simp [tlFv, tlF]
theorem lkQ_P {o : Lo} (h : loE o = 0) : lkQ (loP o) = o := by
  rw [loP_ok h]
  unfold lkQ
  simp only
  rw [lo_find, num_dig]
  have hq : UInt32.ofNat (o.q.toNat % 256 ^ 4) = o.q := by
    have := o.q.toNat_lt
    apply UInt32.toNat_inj.1
    rw [UInt32.toNat_ofNat']
    omega
  rw [hq]
  obtain ⟨a, b, c, d⟩ := o
  cases b <;> rfl
theorem lk_back {o : Lo} (h : loE o = 0) : lkF (loP o) = 0 ∧ lkX (loP o) = o := by
  have e : lkF (loP o) = 0 := by
    rw [loP_ok h]
    unfold lkF
    rw [if_pos]
    refine ⟨?_, dig_len 4 _⟩
    unfold loO
    cases o.r
    · exact .inr rfl
    · exact .inl rfl
  exact ⟨e, by unfold lkX; rw [if_pos e, lkQ_P h]⟩
/-- the answer to a question, and to a reply -/
theorem an_back {o : Lo} (h : loE o = 0) (hr : o.r = false) : anF (loP o) = 0 ∧ lkF (anP (loP o)) = 0 ∧ lkX (anP (loP o)) = { o with r := true } := by
  have ho : loO o = 3 := by unfold loO; rw [hr]; rfl
  have e : anF (loP o) = 0 := by
    rw [loP_ok h]
    unfold anF
    rw [if_pos ⟨ho, dig_len 4 _⟩]
  have e2 : anP (loP o) = ⟨o.l, 2, 0, dig 4 o.q.toNat, loT o⟩ := by
    unfold anP
    rw [if_pos e, loP_ok h]
  have e3 : loE { o with r := true } = 0 := h
  have e4 : loP { o with r := true } = anP (loP o) := by
    rw [loP_ok e3, e2]
    rfl
  have := lk_back e3
  rw [e4] at this
  exact ⟨e, this.1, this.2⟩
theorem an_none {o : Lo} (h : loE o = 0) (hr : o.r = true) : anF (loP o) = 4 := by
  rw [loP_ok h]
  unfold anF
  rw [if_neg]
  rintro ⟨h1, _⟩
  unfold loO at h1
  rw [hr] at h1
  cases h1
theorem anF_is (p : Pd) : (anF p = 0 ∧ p.o = 3 ∧ p.x.length = 4 ∧ anP p = { p with o := 2 }) ∨ (anF p = 4 ∧ anP p = pd0) := by
  by_cases h : p.o = 3 ∧ p.x.length = 4
  · have e : anF p = 0 := by unfold anF; rw [if_pos h]
    exact .inl ⟨e, h.1, h.2, by unfold anP; rw [if_pos e]⟩
  · have e : anF p = 4 := by unfold anF; rw [if_neg h]
    exact .inr ⟨e, by unfold anP; rw [if_neg (by omega)]⟩
/-- what Take says of a message, next to what Answer says -/
theorem lk_an (p : Pd) : (lkF p = 4 ∧ lkX p = lo0 ∧ anF p = 4 ∧ anP p = pd0) ∨ (lkF p = 0 ∧ (lkX p).r = true ∧ anF p = 4 ∧ anP p = pd0) ∨ (lkF p = 0 ∧ (lkX p).r = false ∧ anF p = 0 ∧ anP p = { p with o := 2 } ∧ p.o = 3) := by
  by_cases hx : p.x.length = 4
  · by_cases h2 : p.o = 2
    · have e : lkF p = 0 := by unfold lkF; rw [if_pos ⟨.inl h2, hx⟩]
      have ea : anF p = 4 := by unfold anF; rw [if_neg]; rintro ⟨h, _⟩; rw [h2] at h; cases h
      refine .inr (.inl ⟨e, ?_, ea, by unfold anP; rw [if_neg (by omega)]⟩)
      unfold lkX; rw [if_pos e]; unfold lkQ; simp [h2]
    · by_cases h3 : p.o = 3
      · have e : lkF p = 0 := by unfold lkF; rw [if_pos ⟨.inr h3, hx⟩]
        have ea : anF p = 0 := by unfold anF; rw [if_pos ⟨h3, hx⟩]
        refine .inr (.inr ⟨e, ?_, ea, by unfold anP; rw [if_pos ea], h3⟩)
        unfold lkX; rw [if_pos e]; unfold lkQ; simp [h3]
      · have e : lkF p = 4 := by unfold lkF; rw [if_neg]; rintro ⟨h | h, _⟩ <;> contradiction
        have ea : anF p = 4 := by unfold anF; rw [if_neg]; rintro ⟨h, _⟩; contradiction
        exact .inl ⟨e, by unfold lkX; rw [if_neg (by omega)], ea, by unfold anP; rw [if_neg (by omega)]⟩
  · have e : lkF p = 4 := by unfold lkF; rw [if_neg]; rintro ⟨_, h⟩; contradiction
    have ea : anF p = 4 := by unfold anF; rw [if_neg]; rintro ⟨_, h⟩; contradiction
    exact .inl ⟨e, by unfold lkX; rw [if_neg (by omega)], ea, by unfold anP; rw [if_neg (by omega)]⟩
end Go.Proofs.Ytjcfdkchnikbmaa
