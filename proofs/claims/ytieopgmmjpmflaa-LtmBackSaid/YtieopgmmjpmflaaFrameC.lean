/- Package frame's contracts, as words (each is proved over the landed code). -/
import Derived.Test.YtieopgmmjpmflaaFrameSpec
namespace Go.Proofs.Ytieopgmmjpmflaa
open Go.RowKit
set_option linter.unusedVariables false
set_option linter.unusedSimpArgs false
set_option maxRecDepth 100000

def WakesC (n : Nat) : Prop := ∀ w : World, Calls Try.prog n #[] w fun r w' => r = .returned (.bool true) ∧ Below w.heap.size w w'
end Go.Proofs.Ytieopgmmjpmflaa
