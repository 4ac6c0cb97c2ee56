/- Package frame's contracts, as words (each is proved over the landed code). -/
import Derived.Test.YtlghibgljmpfoaaFrameSpec
namespace Go.Proofs.Ytlghibgljmpfoaa
open Go.RowKit
set_option linter.unusedVariables false
set_option linter.unusedSimpArgs false

def PutC : Prop := ∀ (w : World) (f : Fr), f.data.length ≤ 8388000 →
    Calls Try.prog 7 #[FV f] w fun r w' => r = .returned (.tuple #[.string ⟨(fputV f).toArray⟩, .int .i64 (fputE f)]) ∧ Below w.heap.size w w'
def TakeC : Prop := ∀ (w : World) (s : List UInt8), s.length ≤ 8388000 →
    Calls Try.prog 10 #[.string ⟨s.toArray⟩] w fun r w' => r = .returned (.tuple #[FV (ftakeF s), .int .i64 (ftakeE s)]) ∧ Below w.heap.size w w'
def LenC : Prop := ∀ (w : World) (f : Fr), f.data.length ≤ 8388000 →
    Calls Try.prog 9 #[FV f] w fun r w' => r = .returned (.int .i64 (flen f)) ∧ Below w.heap.size w w'
def WakesC (n : Nat) : Prop := ∀ w : World, Calls Try.prog n #[] w fun r w' => r = .returned (.bool true) ∧ Below w.heap.size w w'
end Go.Proofs.Ytlghibgljmpfoaa
