/- Layer 18: who is heard in time, as plain data. -/
import Derived.Test.YtkmdgpfaaniibaaZzWk18
import Derived.Deep.DeepCutAuto
namespace Go.Proofs.Ytkmdgpfaaniibaa
open Go.RowKit
set_option linter.unusedVariables false
set_option linter.unusedSimpArgs false
set_option maxRecDepth 100000

/-- a byte as a cell -/
def u8c18 (x : UInt8) : List Value := [.int .u8 x.toNat]
theorem u8c18_at {w : World} {A : Option Addr} {l : List UInt8} {i : Nat} {x : UInt8} (h : Els 1 u8c18 w A l) (hx : l[i]? = some x) : ∃ b off, A = some ⟨b, off, none⟩ ∧ b < w.heap.size ∧ w.cell? ⟨b, off + i, none⟩ = some (.int .u8 x.toNat) := by
  obtain ⟨hi, rfl⟩ := List.getElem?_eq_some_iff.1 hx
  obtain ⟨b, off, e, hlt, hc⟩ := h (by omega)
  refine ⟨b, off, e, hlt, ?_⟩
  have := hc i hi 0 _ rfl
  simpa using this
/-- a machine of the others 8 and 9, of which 8 lasts for v ticks -/
structure Ti (o : On) (v : Nat) (m : Rm) : Prop where
  own : m.o = o
  all : m.os = [8, 9]
  la : m.la 8 = v
theorem Ti.tick {o : On} {v : Nat} {m : Rm} (h : Ti o v m) : Ti o (v - 1) (rmTick m) := ⟨h.own, h.all, by rw [← h.la]; rfl⟩
theorem Ti.bad {o : On} {v : Nat} {m : Rm} (h : Ti o v m) {c : Ck} (hc : rmKind o [8, 9] c ≠ 1) : Ti o v (rmHear m c) := by
  unfold rmHear
  rw [h.own, h.all, if_neg hc]
  split
  · exact ⟨rfl, rfl, h.la⟩
  · split
    · exact ⟨rfl, rfl, h.la⟩
    · exact h
theorem Ti.good {o : On} {v : Nat} {m : Rm} (h : Ti o v m) {c : Ck} (hc : rmKind o [8, 9] c = 1) (h8 : c.m = 8) : Ti o (lsN c.i) (rmHear m c) := by
  unfold rmHear
  rw [h.own, h.all, if_pos hc]
  exact ⟨rfl, rfl, by simp [h8]⟩
theorem Ti.new (o : On) : Ti o (lsN o.iv) (rmNew o [8, 9]) := ⟨rfl, rfl, rfl⟩
theorem Ti.lost0 {o : On} {m : Rm} (h : Ti o 0 m) : rmLost m = 8 :: [9].filter (fun x => m.la x == 0) := by
  unfold rmLost
  rw [h.all]
  simp [List.filter_cons, h.la]
theorem Ti.lost1 {o : On} {v : Nat} {m : Rm} (h : Ti o v m) (hv : v ≠ 0) (h9 : m.la 9 ≠ 0) : rmLost m = [] := by
  unfold rmLost
  rw [h.all]
  simp [List.filter_cons, h.la, hv, h9]
theorem Ti.lost2 {o : On} {v : Nat} {m : Rm} (h : Ti o v m) (hv : v ≠ 0) (h9 : m.la 9 = 0) : rmLost m = [9] := by
  unfold rmLost
  rw [h.all]
  simp [List.filter_cons, h.la, hv, h9]
theorem ris98 : risen [9, 8] = [8, 9] := sorted_eq (risen_sorted (by decide)) (by decide) (fun x => by
  rw [risen_mem]
  simp only [List.mem_cons, List.not_mem_nil, or_false]
  constructor
  · rintro ⟨h | h, _⟩
    · exact .inr h
    · exact .inl h
  · rintro (h | h)
    · exact ⟨.inr h, by rw [h]; decide⟩
    · exact ⟨.inl h, by rw [h]; decide⟩)
theorem wa18_ck : ckA wk18a = true := by decide +kernel
def to18 (lv iv : UInt8) : On := ⟨lv, 7, iv, wk18a⟩
theorem to18_m (lv iv : UInt8) (m : UInt16) (hl : lv.toNat < 8) (hi : iv = 4 ∨ iv = 5) (hm : 0 < m.toNat ∧ m.toNat < 8192) : ckM ⟨lv, false, iv, 0, m, wk18a⟩ = true := by
  unfold ckM
  rw [wa18_ck, decide_eq_true hl, decide_eq_true hm.1, decide_eq_true hm.2]
  rcases hi with rfl | rfl <;> rfl
theorem to18_may (lv iv : UInt8) (hl : lv.toNat < 8) (hi : iv = 4 ∨ iv = 5) : rmMay (to18 lv iv) [9, 8] = true := by
  unfold rmMay
  have h1 : ckM (onC (to18 lv iv)) = true := to18_m lv iv 7 hl hi ⟨by decide, by decide⟩
  rw [h1]
  simp only [to18, List.all_cons, List.all_nil, rmOne]
  decide
theorem kind_ok (lv iv : UInt8) (hl : lv.toNat < 8) (hi : iv = 4 ∨ iv = 5) : rmKind (to18 lv iv) [8, 9] ⟨lv, false, iv, 0, 8, wk18a⟩ = 1 := by
  unfold rmKind
  rw [to18_m lv iv 8 hl hi ⟨by decide, by decide⟩]
  simp [to18]
theorem kind_m (lv iv : UInt8) (m : UInt16) (hl : lv.toNat < 8) (hi : iv = 4 ∨ iv = 5) (hm : 0 < m.toNat ∧ m.toNat < 8192) (h8 : m ≠ 8) (h9 : m ≠ 9) : rmKind (to18 lv iv) [8, 9] ⟨lv, false, iv, 0, m, wk18a⟩ ≠ 1 := by
  unfold rmKind
  rw [to18_m lv iv m hl hi hm]
  simp [to18, Ne.symm h8, Ne.symm h9]
theorem kind_i (lv iv iv' : UInt8) (hl : lv.toNat < 8) (hi : iv' = 4 ∨ iv' = 5) (hne : iv' ≠ iv) : rmKind (to18 lv iv) [8, 9] ⟨lv, false, iv', 0, 8, wk18a⟩ ≠ 1 := by
  unfold rmKind
  rw [to18_m lv iv' 8 hl hi ⟨by decide, by decide⟩]
  simp [to18, hne]
theorem kind_l (lv iv : UInt8) (hl : lv.toNat < 8) : rmKind (to18 lv iv) [8, 9] ⟨lv + 1, false, iv, 0, 8, wk18a⟩ ≠ 1 := by
  have h : (lv + 1).toNat = lv.toNat + 1 := by rw [UInt8.toNat_add]; simp; omega
  unfold rmKind
  rw [if_pos (by rw [Bool.or_eq_true]; exact .inr (decide_eq_true (by simp only [to18]; omega)))]
  decide
end Go.Proofs.Ytkmdgpfaaniibaa
