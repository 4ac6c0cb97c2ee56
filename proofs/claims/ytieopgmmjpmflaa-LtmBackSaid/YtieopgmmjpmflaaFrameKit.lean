/- Frames: small words on their cells. -/
import Derived.Test.YtieopgmmjpmflaaFrameSpec
namespace Go.Proofs.Ytieopgmmjpmflaa
open Go.RowKit
set_option linter.unusedVariables false
set_option linter.unusedSimpArgs false
set_option maxRecDepth 100000

theorem fmay_tag (f : Fr) (h : f.tag = true) : fmay f = (decide (f.pri.toNat ≤ 7) && decide (f.vid.toNat ≤ 4095)) := by unfold fmay; rw [h]; rfl
theorem fmay_bare (f : Fr) (h : f.tag = false) : fmay f = ((f.pri == 0) && ((f.vid == 0) && (f.ty != 33024))) := by unfold fmay; rw [h]; rfl
theorem FrC.dst {w : World} {g : Nat} {f : Fr} (h : FrC w g f) (c : Nat) : Str w (.slice (some ⟨g, 0, none⟩) 6 c) f.dst := by
  refine ⟨_, c, rfl, by simp, fun _ => ⟨_, rfl, fun k u hu => ?_⟩⟩
  match k, hu with
  | 0, hu => cases hu; exact h.c0
  | 1, hu => cases hu; exact h.c1
  | 2, hu => cases hu; exact h.c2
  | 3, hu => cases hu; exact h.c3
  | 4, hu => cases hu; exact h.c4
  | 5, hu => cases hu; exact h.c5
theorem FrC.src {w : World} {g : Nat} {f : Fr} (h : FrC w g f) (c : Nat) : Str w (.slice (some ⟨g, 6, none⟩) 6 c) f.src := by
  refine ⟨_, c, rfl, by simp, fun _ => ⟨_, rfl, fun k u hu => ?_⟩⟩
  match k, hu with
  | 0, hu => cases hu; exact h.c6
  | 1, hu => cases hu; exact h.c7
  | 2, hu => cases hu; exact h.c8
  | 3, hu => cases hu; exact h.c9
  | 4, hu => cases hu; exact h.c10
  | 5, hu => cases hu; exact h.c11
theorem FrC.drewN {w : World} {g : Nat} {f : Fr} (h : FrC w g f) (n : Nat) : FrC (w.drewN n) g f := ⟨h.c0, h.c1, h.c2, h.c3, h.c4, h.c5, h.c6, h.c7, h.c8, h.c9, h.c10, h.c11, h.c12, h.c13, h.c14, h.c15, h.c16⟩
theorem keep1 {w w' : World} {p : Addr} {v : Value} (h : w.cell? p = some v) (hb : Below w.heap.size w w') : w'.cell? p = some v := by
  have hg := World.block_lt_of_cell? w _ h
  rw [hb.cell (p := p) hg]; exact h
theorem keepB {W w w' : World} (hB : Hid (Below W.heap.size W w)) (hb : Below w.heap.size w w') : Hid (Below W.heap.size W w') := Lib.hid (hB.out.trans (hb.mono hB.out.size))
theorem below_drewN {B : Nat} {a w : World} (h : Below B a w) (n : Nat) : Below B a (w.drewN n) := ⟨h.os, h.tape, h.output, h.size, h.block⟩
end Go.Proofs.Ytieopgmmjpmflaa
