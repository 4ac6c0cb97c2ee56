/- Leaves of layer wire: the widths of the four kinds of numbers. -/
import Derived.Test.YtieopgmmjpmflaaRows
import Derived.WalkKit
import Derived.ProofKit
import Derived.Below
import Derived.Lib.Hide
import Derived.Shelf.Strconv.Itoa0
namespace Go.Proofs.Ytieopgmmjpmflaa
open Go.RowKit
set_option linter.unusedVariables false
set_option linter.unusedSimpArgs false
set_option maxRecDepth 100000

def len64_ren : Go.Shelf.Ren := ⟨fun | 129 => 55 | n => n, fun | 53 => 63 | 3 => 3 | 4 => 4 | 46 => 102 | 5 => 5 | 9 => 9 | n => n, fun | n => n⟩
theorem len64_lays : Go.Proofs.Lays.n129 Try.prog len64_ren := {
  mixed := by kernel_rfl
  f129 := Try.func55.trans (congrArg some (by kernel_rfl))
  t3 := Try.underlying3
  a3 := Try.isAgg3
  z3 := Try.sizeOf3
  v3 := Try.zeroValue3
  t4 := Try.underlying4
  a4 := Try.isAgg4
  z4 := Try.sizeOf4
  v4 := Try.zeroValue4
  t5 := Try.underlying5
  a5 := Try.isAgg5
  z5 := Try.sizeOf5
  v5 := Try.zeroValue5
  t9 := Try.underlying9
  a9 := Try.isAgg9
  z9 := Try.sizeOf9
  v9 := Try.zeroValue9
  t46 := Try.underlying102
  a46 := Try.isAgg102
  z46 := Try.sizeOf102
  v46 := Try.zeroValue102
  t53 := Try.underlying63
  a53 := Try.isAgg63
  z53 := Try.sizeOf63
  v53 := Try.zeroValue63 }
theorem len64_any (x : Int) (w : World) (h0 : 0 ≤ x) (h1 : x ≤ 18446744073709551615) :
    Calls Try.prog 55 #[.int .u64 x] w fun e w' => e = .returned (.int .i64 (Lib.bitLen x.toNat)) ∧ w' = w := Any.bits_Len64 len64_lays x w h0 h1


theorem width8 (w : World) : Calls Try.prog 37 #[] w fun e w' => e = .returned (.int .i64 1) ∧ w = w' := by
  have hk : IntKind.u64.wrap (bits BinOp.xor IntKind.u8 IntKind.u8.max 0) = 255 := by kernel_rfl
  have hl : Lib.bitLen 255 = 8 := by kernel_rfl
  have Hk := Lib.hid hk
  have Hl := Lib.hid hl
  clear hk hl
  go_enter Try.func37, Try.ntmps37
  go_wp2_with fail
  rw [Hk.out]
  refine (len64_any _ _ (by omega) (by omega)).mono ?_
  rintro e w' ⟨rfl, rfl⟩
  rw [show ((255 : Int)).toNat = 255 from rfl, Hl.out]
  go_wp2
  go_ret
  exact ⟨by simp, rfl⟩

theorem width16 (w : World) : Calls Try.prog 56 #[] w fun e w' => e = .returned (.int .i64 2) ∧ w = w' := by
  have hk : IntKind.u64.wrap (bits BinOp.xor IntKind.u16 IntKind.u16.max 0) = 65535 := by kernel_rfl
  have hl : Lib.bitLen 65535 = 16 := by kernel_rfl
  have Hk := Lib.hid hk
  have Hl := Lib.hid hl
  clear hk hl
  go_enter Try.func56, Try.ntmps56
  go_wp2_with fail
  rw [Hk.out]
  refine (len64_any _ _ (by omega) (by omega)).mono ?_
  rintro e w' ⟨rfl, rfl⟩
  rw [show ((65535 : Int)).toNat = 65535 from rfl, Hl.out]
  go_wp2
  go_ret
  exact ⟨by simp, rfl⟩

theorem width32 (w : World) : Calls Try.prog 38 #[] w fun e w' => e = .returned (.int .i64 4) ∧ w = w' := by
  have hk : IntKind.u64.wrap (bits BinOp.xor IntKind.u32 IntKind.u32.max 0) = 4294967295 := by kernel_rfl
  have hl : Lib.bitLen 4294967295 = 32 := by kernel_rfl
  have Hk := Lib.hid hk
  have Hl := Lib.hid hl
  clear hk hl
  go_enter Try.func38, Try.ntmps38
  go_wp2_with fail
  rw [Hk.out]
  refine (len64_any _ _ (by omega) (by omega)).mono ?_
  rintro e w' ⟨rfl, rfl⟩
  rw [show ((4294967295 : Int)).toNat = 4294967295 from rfl, Hl.out]
  go_wp2
  go_ret
  exact ⟨by simp, rfl⟩

end Go.Proofs.Ytieopgmmjpmflaa
