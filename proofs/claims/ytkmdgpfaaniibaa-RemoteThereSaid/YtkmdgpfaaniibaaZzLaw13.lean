/- Layer 13: the contracts of package ccm as words; the law's Of, wakes. -/
import Derived.Test.YtkmdgpfaaniibaaZz
import Derived.Test.YtkmdgpfaaniibaaZzR13
namespace Go.Proofs.Ytkmdgpfaaniibaa
open Go.RowKit
set_option linter.unusedVariables false
set_option linter.unusedSimpArgs false
set_option maxRecDepth 100000

/-- what package ccm is held to -/
def CcPutC : Prop := ∀ (c : Ck) (w : World), c.a.length ≤ 1000 →
    Calls Try.prog 36 #[CkV c] w fun e w' => ∃ A k, e = .returned (.tuple #[PdV (ckP c) A k, .int .i64 (ckE c : Nat)]) ∧ (A = none → k = 0) ∧ Below w.heap.size w w'
def CcTicksC : Prop := ∀ (i : UInt8) (w : World),
    Calls Try.prog 23 #[.int .u8 i.toNat] w fun e w' => e = .returned (.int .i64 (ckN i : Nat)) ∧ Below w.heap.size w w'
def wk13a : List UInt8 := mdV [] [97]
def wk13 : Ck := ⟨3, true, 4, 1, 2, wk13a⟩
theorem wk13_m : mdE [] [97] = 0 := by decide +kernel
theorem wk13_ok : ckM wk13 = true := by decide +kernel
theorem wk13_x : (ckS wk13).take 6 = [0, 0, 0, 1, 0, 2] := by decide +kernel
end Go.Proofs.Ytkmdgpfaaniibaa
