/- Layer 18: RemoteThere's walk. -/
import Derived.Test.YtkmdgpfaaniibaaZzTh18
import Derived.Deep.DeepCutAuto
namespace Go.Proofs.Ytkmdgpfaaniibaa
open Go.RowKit
set_option linter.unusedVariables false
set_option linter.unusedSimpArgs false
set_option maxRecDepth 100000

/-- what package ccm is held to here -/
def Ticks18C : Prop := ∀ (i : UInt8) (w : World), Calls Try.prog 23 #[.int .u8 i.toNat] w fun e w' => e = .returned (.int .i64 (ckN i : Nat)) ∧ Below w.heap.size w w'
end Go.Proofs.Ytkmdgpfaaniibaa
