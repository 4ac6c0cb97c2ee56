/- package mac's Number and Of. -/
import Derived.Test.YtieopgmmjpmflaaText
import Derived.Test.YtieopgmmjpmflaaDig
import Derived.Lib.LazyBuf
import Derived.Deep.RegionLaw
namespace Go.Proofs.Ytieopgmmjpmflaa
open Go.RowKit
set_option linter.unusedVariables false
set_option linter.unusedSimpArgs false
set_option maxRecDepth 100000

theorem Chg.belows {w w' : World} {b B : Nat} (h : Chg (only b) w w') (hB : B ≤ w.heap.size) (hb : B ≤ b) : Below B w w' := h.below hB (fun k hk hs => by unfold only at hs; omega)

theorem happ (a b c d e f : UInt8) : (⟨#[0, 0]⟩ : ByteArray) ++ ⟨#[a, b, c, d, e, f]⟩ = ⟨[0, 0, a, b, c, d, e, f].toArray⟩ := by
  apply ByteArray.ext
  simp

/-- copying six bytes of a text over an array -/
theorem step_copy_mac {ops : Array Oper} {o : Oper} {a : Act} {w : World} {K : Act → World → Prop} {Q : Exit → Act → World → Prop} {E : Prop}
    (hg : o.guard = none) (d x : Operand) (hop : o.op = Op.call { callee := Callee.builtin Builtin.copy, args := #[d, x], argTypes := #[58, 9] })
    (b : Nat) (hd : a.eval d = .slice (some ⟨b, 0, none⟩) 6 6) (x0 x1 x2 x3 x4 x5 : UInt8) (hx : a.eval x = .string ⟨#[x0, x1, x2, x3, x4, x5]⟩)
    (y0 y1 y2 y3 y4 y5 : UInt8) (ha : Arr w b y0 y1 y2 y3 y4 y5)
    (hK : ∀ w', Arr w' b x0 x1 x2 x3 x4 x5 → Chg (only b) w w' → K (a.put o.dst (goInt 6)) w') :
    if Region.wanted o (yielded ops a.tmps) = true then Oper.wp Try.prog o a w K Q else E := by
  refine step_copy_string hg d x 58 9 hop 5 Try.underlying58 Try.sizeOf5 b 0 6 6 hd ⟨#[x0, x1, x2, x3, x4, x5]⟩ hx (Nat.le_refl 6) ?_ ?_ ?_
  · intro j hj
    have hj6 : j < 6 := hj
    rw [Nat.zero_add, ha.at j hj6]
    rfl
  · intro j hj
    exact Blk.frozen ha _
  · have hh : ∀ {i : Nat}, w.heap.size ≤ (Addr.mk b i none).block ∨ only b (Addr.mk b i none).block := fun {i} => .inr (show b = b from rfl)
    exact hK _ (put6_arr ha x0 x1 x2 x3 x4 x5) ((((((Chg.refl (only b) w).setCell hh _).setCell hh _).setCell hh _).setCell hh _).setCell hh _ |>.setCell hh _)

end Go.Proofs.Ytieopgmmjpmflaa
