/- Leaves of layer wire: the widths of the four kinds of numbers. -/
import Derived.Test.YtbkfbaloolbkdaaDoorRows
import Derived.WalkKit
import Derived.ProofKit
import Derived.Below
import Derived.Lib.Hide
import Derived.Shelf.Strconv.Itoa0
namespace Go.Proofs.YtbkfbaloolbkdaaDoor
open Go.RowKit
set_option linter.unusedVariables false
set_option linter.unusedSimpArgs false

def len64_ren : Go.Shelf.Ren := ⟨fun | 129 => 49 | n => n, fun | 53 => 22 | 3 => 3 | 4 => 4 | 46 => 96 | 5 => 5 | 9 => 9 | n => n, fun | n => n⟩
theorem len64_lays : Go.Proofs.Lays.n129 Tryd.prog len64_ren := {
  mixed := by kernel_rfl
  f129 := Tryd.func49.trans (congrArg some (by kernel_rfl))
  t3 := Tryd.underlying3
  a3 := Tryd.isAgg3
  z3 := Tryd.sizeOf3
  v3 := Tryd.zeroValue3
  t4 := Tryd.underlying4
  a4 := Tryd.isAgg4
  z4 := Tryd.sizeOf4
  v4 := Tryd.zeroValue4
  t5 := Tryd.underlying5
  a5 := Tryd.isAgg5
  z5 := Tryd.sizeOf5
  v5 := Tryd.zeroValue5
  t9 := Tryd.underlying9
  a9 := Tryd.isAgg9
  z9 := Tryd.sizeOf9
  v9 := Tryd.zeroValue9
  t46 := Tryd.underlying96
  a46 := Tryd.isAgg96
  z46 := Tryd.sizeOf96
  v46 := Tryd.zeroValue96
  t53 := Tryd.underlying22
  a53 := Tryd.isAgg22
  z53 := Tryd.sizeOf22
  v53 := Tryd.zeroValue22 }
theorem len64_any (x : Int) (w : World) (h0 : 0 ≤ x) (h1 : x ≤ 18446744073709551615) :
    Calls Tryd.prog 49 #[.int .u64 x] w fun e w' => e = .returned (.int .i64 (Lib.bitLen x.toNat)) ∧ w' = w := Any.bits_Len64 len64_lays x w h0 h1


theorem width8 (w : World) : Calls Tryd.prog 29 #[] w fun e w' => e = .returned (.int .i64 1) ∧ w = w' := by
  have hk : IntKind.u64.wrap (bits BinOp.xor IntKind.u8 IntKind.u8.max 0) = 255 := by kernel_rfl
  have hl : Lib.bitLen 255 = 8 := by kernel_rfl
  have Hk := Lib.hid hk
  have Hl := Lib.hid hl
  clear hk hl
  go_enter Tryd.func29, Tryd.ntmps29
  go_wp2_with fail
  rw [Hk.out]
  refine (len64_any _ _ (by omega) (by omega)).mono ?_
  rintro e w' ⟨rfl, rfl⟩
  rw [show ((255 : Int)).toNat = 255 from rfl, Hl.out]
  go_wp2
  go_ret
  exact ⟨by simp, rfl⟩

theorem width16 (w : World) : Calls Tryd.prog 28 #[] w fun e w' => e = .returned (.int .i64 2) ∧ w = w' := by
  have hk : IntKind.u64.wrap (bits BinOp.xor IntKind.u16 IntKind.u16.max 0) = 65535 := by kernel_rfl
  have hl : Lib.bitLen 65535 = 16 := by kernel_rfl
  have Hk := Lib.hid hk
  have Hl := Lib.hid hl
  clear hk hl
  go_enter Tryd.func28, Tryd.ntmps28
  go_wp2_with fail
  rw [Hk.out]
  refine (len64_any _ _ (by omega) (by omega)).mono ?_
  rintro e w' ⟨rfl, rfl⟩
  rw [show ((65535 : Int)).toNat = 65535 from rfl, Hl.out]
  go_wp2
  go_ret
  exact ⟨by simp, rfl⟩

theorem width32 (w : World) : Calls Tryd.prog 50 #[] w fun e w' => e = .returned (.int .i64 4) ∧ w = w' := by
  have hk : IntKind.u64.wrap (bits BinOp.xor IntKind.u32 IntKind.u32.max 0) = 4294967295 := by kernel_rfl
  have hl : Lib.bitLen 4294967295 = 32 := by kernel_rfl
  have Hk := Lib.hid hk
  have Hl := Lib.hid hl
  clear hk hl
  go_enter Tryd.func50, Tryd.ntmps50
  go_wp2_with fail
  rw [Hk.out]
  refine (len64_any _ _ (by omega) (by omega)).mono ?_
  rintro e w' ⟨rfl, rfl⟩
  rw [show ((4294967295 : Int)).toNat = 4294967295 from rfl, Hl.out]
  go_wp2
  go_ret
  exact ⟨by simp, rfl⟩

theorem width64 (w : World) : Calls Tryd.prog 32 #[] w fun e w' => e = .returned (.int .i64 8) ∧ w = w' := by
  have hk : (bits BinOp.xor IntKind.u64 IntKind.u64.max 0) = 18446744073709551615 := by kernel_rfl
  have hl : Lib.bitLen 18446744073709551615 = 64 := by kernel_rfl
  have Hk := Lib.hid hk
  have Hl := Lib.hid hl
  clear hk hl
  go_enter Tryd.func32, Tryd.ntmps32
  go_wp2_with fail
  rw [Hk.out]
  refine (len64_any _ _ (by omega) (by omega)).mono ?_
  rintro e w' ⟨rfl, rfl⟩
  rw [show ((18446744073709551615 : Int)).toNat = 18446744073709551615 from rfl, Hl.out]
  go_wp2
  go_ret
  exact ⟨by simp, rfl⟩
end Go.Proofs.YtbkfbaloolbkdaaDoor
