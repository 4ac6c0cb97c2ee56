/- Layer 5: the laws' wakes; a word that is known. -/
import Derived.Test.YtbkfbaloolbkdaaDoorBpTk
import Derived.Deep.DeepCutAuto
import Derived.Laws.Concat
namespace Go.Proofs.YtbkfbaloolbkdaaDoor
open Go.RowKit
set_option linter.unusedVariables false
set_option linter.unusedSimpArgs false
set_option maxRecDepth 100000

def bp0 : Bp := ⟨⟨1, 2, 3, 4⟩, 5, 6, 2, true, false, false, 0⟩
theorem bp0_ok : bp0.ok := ⟨⟨rfl, rfl, rfl, rfl⟩, rfl, rfl, rfl, rfl⟩
theorem bput0 : bputV bp0 = [67, 77, 2, 1, 0, 0, 0, 0, 0, 0, 0, 1, 0, 0, 0, 2, 0, 0, 0, 0, 0, 0, 0, 3, 4, 5, 0, 0, 0, 0, 0, 0, 0, 6, 0, 0, 0, 0, 0, 0, 0, 0] ∧ bputE bp0 = 0 := by decide +kernel
theorem btake0 : btakeF ([67, 77, 2, 1, 0, 0, 0, 0, 0, 0, 0, 1, 0, 0, 0, 2, 0, 0, 0, 0, 0, 0, 0, 3, 4, 5, 0, 0, 0, 0, 0, 0, 0, 6, 0, 0, 0, 0, 0, 0, 0, 0] ++ [0, 0]) = bp0 ∧ btakeE ([67, 77, 2, 1, 0, 0, 0, 0, 0, 0, 0, 1, 0, 0, 0, 2, 0, 0, 0, 0, 0, 0, 0, 3, 4, 5, 0, 0, 0, 0, 0, 0, 0, 6, 0, 0, 0, 0, 0, 0, 0, 0] ++ [0, 0]) = 0 := by
  have h := btake_put bp0 bp0_ok (by decide +kernel) [0, 0] (by decide)
  have e : bbytes bp0 = [67, 77, 2, 1, 0, 0, 0, 0, 0, 0, 0, 1, 0, 0, 0, 2, 0, 0, 0, 0, 0, 0, 0, 3, 4, 5, 0, 0, 0, 0, 0, 0, 0, 6, 0, 0, 0, 0, 0, 0, 0, 0] := by decide +kernel
  rw [e] at h
  exact ⟨h.2, h.1⟩
set_option maxHeartbeats 4000000 in
theorem wakes5 (w : World) : Calls Tryd.prog 10 #[] w fun r w' => r = .returned (.bool true) ∧ Below w.heap.size w w' := by
  have HX0 : Hid (BpA 33 (w.alloc (.cells #[.int .u64 1, .int .u32 2, .int .u64 3, .int .u8 4, .int .u8 5, .int .u64 6, .int .u8 2, .bool true, .bool false, .bool false, .int .u64 0] 33)) w.heap.size bp0) := Lib.hid (Blk.new w _ _)
  have HB0 : Hid (Below w.heap.size w (w.alloc (.cells #[.int .u64 1, .int .u32 2, .int .u64 3, .int .u8 4, .int .u8 5, .int .u64 6, .int .u8 2, .bool true, .bool false, .bool false, .int .u64 0] 33))) := Lib.hid ((Below.refl _ _).alloc (Nat.le_refl _) _)
  have P0 := Lib.hid bput0
  have T0 := Lib.hid btake0
  have hadd : ∀ W : World, (Op.stringOp .add ⟨#[67, 77, 2, 1, 0, 0, 0, 0, 0, 0, 0, 1, 0, 0, 0, 2, 0, 0, 0, 0, 0, 0, 0, 3, 4, 5, 0, 0, 0, 0, 0, 0, 0, 6, 0, 0, 0, 0, 0, 0, 0, 0]⟩ ⟨#[0, 0]⟩).run Tryd.prog W = .ok (.string ⟨([67, 77, 2, 1, 0, 0, 0, 0, 0, 0, 0, 1, 0, 0, 0, 2, 0, 0, 0, 0, 0, 0, 0, 3, 4, 5, 0, 0, 0, 0, 0, 0, 0, 6, 0, 0, 0, 0, 0, 0, 0, 0] ++ [0, 0] : List UInt8).toArray⟩) W := fun W => run_string_add_lists W [67, 77, 2, 1, 0, 0, 0, 0, 0, 0, 0, 1, 0, 0, 0, 2, 0, 0, 0, 0, 0, 0, 0, 3, 4, 5, 0, 0, 0, 0, 0, 0, 0, 6, 0, 0, 0, 0, 0, 0, 0, 0] [0, 0] (by decide) (by decide)
  go_enter Tryd.func10, Tryd.ntmps10
  go_wp2_with (refine load_bp 1 rfl (by kernel_rfl) w.heap.size bp0 rfl HX0.out ?_)
  refine (bput_impl _ bp0 bp0_ok).mono ?_
  rw [P0.out.1, P0.out.2]
  rintro r w1 ⟨rfl, hb1⟩
  have HX1 := Lib.hid (HX0.out.next hb1)
  have HB1 : Hid (Below w.heap.size w w1) := Lib.hid (HB0.out.trans (hb1.mono HB0.out.size))
  clear hb1 HX0 HB0
  go_upto_region 3 with (fail)
  obtain ⟨S, hS⟩ : ∃ S : List UInt8, S = [67, 77, 2, 1, 0, 0, 0, 0, 0, 0, 0, 1, 0, 0, 0, 2, 0, 0, 0, 0, 0, 0, 0, 3, 4, 5, 0, 0, 0, 0, 0, 0, 0, 6, 0, 0, 0, 0, 0, 0, 0, 0] := ⟨_, rfl⟩
  obtain ⟨S2, hS2⟩ : ∃ S2 : List UInt8, S2 = [67, 77, 2, 1, 0, 0, 0, 0, 0, 0, 0, 1, 0, 0, 0, 2, 0, 0, 0, 0, 0, 0, 0, 3, 4, 5, 0, 0, 0, 0, 0, 0, 0, 6, 0, 0, 0, 0, 0, 0, 0, 0] ++ [0, 0] := ⟨_, rfl⟩
  rw [← hS2] at T0
  have hadd2 : ∀ W : World, (Op.stringOp .add ⟨#[67, 77, 2, 1, 0, 0, 0, 0, 0, 0, 0, 1, 0, 0, 0, 2, 0, 0, 0, 0, 0, 0, 0, 3, 4, 5, 0, 0, 0, 0, 0, 0, 0, 6, 0, 0, 0, 0, 0, 0, 0, 0]⟩ ⟨#[0, 0]⟩).run Tryd.prog W = .ok (.string ⟨S2.toArray⟩) W := fun W => by rw [hS2]; exact hadd W
  have HSL : Hid (S2.length ≤ 8388000) := Lib.hid (by rw [hS2]; decide)
  clear hadd hS2 hS
  go_wp2_with fail
  refine (btake_impl _ S2 HSL.out).mono ?_
  rw [T0.out.1, T0.out.2]
  rintro r w2 ⟨rfl, hb2⟩
  have HX2 := Lib.hid ((HX1.out.next hb2).alloc (.cells #[.int .u64 bp0.v.r, .int .u32 bp0.v.c, .int .u64 bp0.v.b, .int .u8 bp0.v.p, .int .u8 bp0.h, .int .u64 bp0.ver, .int .u8 bp0.role, .bool bp0.pr, .bool bp0.ag, .bool bp0.tp, .int .u64 bp0.ec] 33))
  have HY2 : Hid (BpA 33 (w2.alloc (.cells #[.int .u64 bp0.v.r, .int .u32 bp0.v.c, .int .u64 bp0.v.b, .int .u8 bp0.v.p, .int .u8 bp0.h, .int .u64 bp0.ver, .int .u8 bp0.role, .bool bp0.pr, .bool bp0.ag, .bool bp0.tp, .int .u64 bp0.ec] 33)) w2.heap.size bp0) := Lib.hid (BpA.new _ _ _)
  have HB2 : Hid (Below w.heap.size w (w2.alloc (.cells #[.int .u64 bp0.v.r, .int .u32 bp0.v.c, .int .u64 bp0.v.b, .int .u8 bp0.v.p, .int .u8 bp0.h, .int .u64 bp0.ver, .int .u8 bp0.role, .bool bp0.pr, .bool bp0.ag, .bool bp0.tp, .int .u64 bp0.ec] 33))) := Lib.hid ((HB1.out.trans (hb2.mono HB1.out.size)).alloc (Nat.le_trans HB1.out.size hb2.size) _)
  clear hb2 HX1 HB1 hadd2
  have eF : ∀ W : World, (Op.equalIn 10000 33 (BV bp0) (BV bp0)).run Tryd.prog W = .ok true W := fun W => by rw [run_eqB]; simp
  have s1 : ∀ W : World, (Instr.slice 9 (.string ⟨#[67, 77, 2, 1, 0, 0, 0, 0, 0, 0, 0, 1, 0, 0, 0, 2, 0, 0, 0, 0, 0, 0, 0, 3, 4, 5, 0, 0, 0, 0, 0, 0, 0, 6, 0, 0, 0, 0, 0, 0, 0, 0]⟩) none (some (.int .i64 5)) none).run Tryd.prog W = .ok (.string ⟨#[67, 77, 2, 1, 0]⟩) W := fun W => by kernel_rfl
  go_wp2_with (first
    | (refine load_bp 4 rfl (by kernel_rfl) w2.heap.size bp0 rfl HY2.out ?_)
    | (refine load_bp 1 rfl (by kernel_rfl) w.heap.size bp0 rfl HX2.out ?_))
  go_ret
  exact ⟨rfl, HB2.out⟩
end Go.Proofs.YtbkfbaloolbkdaaDoor
