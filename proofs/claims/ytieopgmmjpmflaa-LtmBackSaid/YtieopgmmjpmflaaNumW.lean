/- Numbers of 16 and 32 bits: held against each other, as arguments. -/
import Derived.Test.YtieopgmmjpmflaaBase
namespace Go.Proofs.Ytieopgmmjpmflaa
open Go.RowKit
set_option linter.unusedVariables false
set_option linter.unusedSimpArgs false
set_option maxRecDepth 100000

theorem ck_u16 (a b : UInt16) : (((a.toNat : Nat) : Int) == ((b.toNat : Nat) : Int)) = (a == b) := by
  rw [Bool.eq_iff_iff]
  simp only [beq_iff_eq]
  exact ⟨fun e => UInt16.toNat_inj.1 (by omega), fun e => by rw [e]⟩
theorem ck_u32 (a b : UInt32) : (((a.toNat : Nat) : Int) == ((b.toNat : Nat) : Int)) = (a == b) := by
  rw [Bool.eq_iff_iff]
  simp only [beq_iff_eq]
  exact ⟨fun e => UInt32.toNat_inj.1 (by omega), fun e => by rw [e]⟩
theorem u16_ofC {n : Int} (h : (Lit.int .u16 n).wf = true) : ∃ u : UInt16, n = (u.toNat : Int) := by
  have hb : 0 ≤ n ∧ n ≤ 65535 := by
    simp [Lit.wf, IntKind.has, IntKind.min, IntKind.max, IntKind.signed, IntKind.bits] at h
    omega
  refine ⟨UInt16.ofNat n.toNat, ?_⟩
  have : n.toNat % 65536 = n.toNat := by omega
  simp [this]
  omega
theorem u32_ofC {n : Int} (h : (Lit.int .u32 n).wf = true) : ∃ u : UInt32, n = (u.toNat : Int) := by
  have hb : 0 ≤ n ∧ n ≤ 4294967295 := by
    simp [Lit.wf, IntKind.has, IntKind.min, IntKind.max, IntKind.signed, IntKind.bits] at h
    omega
  refine ⟨UInt32.ofNat n.toNat, ?_⟩
  have : n.toNat % 4294967296 = n.toNat := by omega
  simp [this]
  omega
end Go.Proofs.Ytieopgmmjpmflaa
