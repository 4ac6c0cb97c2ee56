/- Package frame's contracts, as words (each is proved over the landed code). -/
import Derived.Test.YteiopobkbfancaaFrameSpec
namespace Go.Proofs.Yteiopobkbfancaa
open Go.RowKit
set_option linter.unusedVariables false
set_option linter.unusedSimpArgs false
set_option maxRecDepth 100000

def PutC : Prop := ∀ (w : World) (f : Fr), f.data.length ≤ 8388000 →
    Calls Try.prog 30 #[FV f] w fun r w' => r = .returned (.tuple #[.string ⟨(fputV f).toArray⟩, .int .i64 (fputE f)]) ∧ Below w.heap.size w w'
def LenC : Prop := ∀ (w : World) (f : Fr), f.data.length ≤ 8388000 →
    Calls Try.prog 41 #[FV f] w fun r w' => r = .returned (.int .i64 (flen f)) ∧ Below w.heap.size w w'
def WakesC (n : Nat) : Prop := ∀ w : World, Calls Try.prog n #[] w fun r w' => r = .returned (.bool true) ∧ Below w.heap.size w w'
end Go.Proofs.Yteiopobkbfancaa
