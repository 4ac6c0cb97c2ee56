/- Package frame: how an address is read. -/
import Derived.Test.YtieopgmmjpmflaaMacNum
import Derived.Test.YtieopgmmjpmflaaFrameImpl
namespace Go.Proofs.Ytieopgmmjpmflaa
open Go.RowKit
set_option linter.unusedVariables false
set_option linter.unusedSimpArgs false
set_option maxRecDepth 100000

theorem Rdr.lt {w : World} {b : Nat} {l : List UInt8} {er : Int} (h : Rdr w b l er) : b < w.heap.size := Blk.lt h
/-- what changed besides is new -/
theorem Chg.trans' {S : Nat → Prop} {w w' w'' : World} {g : Nat} (h : Chg S w w') (h' : Chg (only g) w' w'') (hg : w.heap.size ≤ g) : Chg S w w'' :=
  ⟨h'.os.trans h.os, h'.tape.trans h.tape, h'.output.trans h.output, Nat.le_trans h.size h'.size,
   fun k hk hn => (h'.block k (Nat.lt_of_lt_of_le hk h.size) (by unfold only; omega)).trans (h.block k hk hn)⟩
theorem put6_far {w : World} {g b : Nat} {l : List UInt8} {er : Int} (h : Rdr w b l er) (hg : b ≠ g) (v0 v1 v2 v3 v4 v5 : Value) :
    Rdr ((((((w.setCell ⟨g, 0, none⟩ v0).setCell ⟨g, 1, none⟩ v1).setCell ⟨g, 2, none⟩ v2).setCell ⟨g, 3, none⟩ v3).setCell ⟨g, 4, none⟩ v4).setCell ⟨g, 5, none⟩ v5) b l er :=
  Blk.far (Blk.far (Blk.far (Blk.far (Blk.far (Blk.far h hg _) hg _) hg _) hg _) hg _) hg _
theorem put6_chg {S : Nat → Prop} {w w' : World} {g : Nat} (h : Chg S w w') (hg : w.heap.size ≤ g) (v0 v1 v2 v3 v4 v5 : Value) :
    Chg S w ((((((w'.setCell ⟨g, 0, none⟩ v0).setCell ⟨g, 1, none⟩ v1).setCell ⟨g, 2, none⟩ v2).setCell ⟨g, 3, none⟩ v3).setCell ⟨g, 4, none⟩ v4).setCell ⟨g, 5, none⟩ v5) :=
  (((((h.setCell (.inl hg) _).setCell (.inl hg) _).setCell (.inl hg) _).setCell (.inl hg) _).setCell (.inl hg) _).setCell (.inl hg) _
/-- copying an empty text -/
theorem step_copy_none {ops : Array Oper} {o : Oper} {a : Act} {w : World} {K : Act → World → Prop} {Q : Exit → Act → World → Prop} {E : Prop}
    (hg : o.guard = none) (d x : Operand) (hop : o.op = Op.call { callee := Callee.builtin Builtin.copy, args := #[d, x], argTypes := #[58, 9] })
    (b : Nat) (hd : a.eval d = .slice (some ⟨b, 0, none⟩) 6 6) (hx : a.eval x = .string ⟨#[]⟩)
    (hK : K (a.put o.dst (goInt 0)) w) :
    if Region.wanted o (yielded ops a.tmps) = true then Oper.wp Try.prog o a w K Q else E := by
  refine step_copy_string hg d x 58 9 hop 5 Try.underlying58 Try.sizeOf5 b 0 6 6 hd ⟨#[]⟩ hx (Nat.zero_le 6) ?_ ?_ ?_
  · intro j hj
    exact absurd hj (Nat.not_lt_zero _)
  · intro j hj
    exact absurd hj (Nat.not_lt_zero _)
  · exact hK
end Go.Proofs.Ytieopgmmjpmflaa
