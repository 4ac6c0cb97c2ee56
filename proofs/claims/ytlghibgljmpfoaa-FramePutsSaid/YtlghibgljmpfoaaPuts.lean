/- FramePuts: a frame's bytes, how many there are, or why there are none, is what the document says: for every frame, without a condition. -/
import Derived.Test.YtlghibgljmpfoaaRefPut
import Derived.Test.YtlghibgljmpfoaaFrameC
import Derived.OpenShut
import Derived.ShutString
import Derived.ChangeOld
import Derived.Deep.RegionHeld3
import Derived.Deep.DeepCutAuto
namespace Go.Proofs.Ytlghibgljmpfoaa.framePuts
open Go.ChangeShapes Go.WideShapes Go.ChangeAt Go.RowKit
open Go.ChangeMaps (open_string shut_string)
set_option linter.unusedVariables false
set_option linter.unusedSimpArgs false

set_option maxRecDepth 100000 in
set_option maxHeartbeats 8000000 in
theorem walkF (hP : PutC) (hL : LenC) (hW : WakesC 6) (W : World) (f : Fr) :
    Calls Try.prog 3 #[FV f] W fun e w' => e = .returned (.bool true) ∧ Below W.heap.size W w' := by
  have HP := Lib.hid hP
  have HL := Lib.hid hL
  have HW := Lib.hid hW
  clear hP hL hW
  have HF := Lib.hid (FrA.new W f)
  have HBW := Lib.hid ((Below.refl W.heap.size W).alloc (Nat.le_refl _) (.cells #[.int .u8 f.d0.toNat, .int .u8 f.d1.toNat, .int .u8 f.d2.toNat, .int .u8 f.d3.toNat, .int .u8 f.d4.toNat, .int .u8 f.d5.toNat, .int .u8 f.s0.toNat, .int .u8 f.s1.toNat, .int .u8 f.s2.toNat, .int .u8 f.s3.toNat, .int .u8 f.s4.toNat, .int .u8 f.s5.toNat, .bool f.tag, .int .u8 f.pri.toNat, .int .u16 f.vid.toNat, .int .u16 f.ty.toNat, .string ⟨f.data.toArray⟩] 26))
  by_cases hlen : 2000 < f.data.length
  · have h3 : decide ((2000 : Int) < (f.data.length : Int)) = true := by simp; omega
    go_enter Try.func3, Try.ntmps3
    go_wp2_with fail
    refine (HW.out _).mono ?_
    rintro r w1 ⟨rfl, hb1⟩
    go_wp2
    go_ret
    exact ⟨rfl, HBW.out.trans (hb1.mono (by simp))⟩
  have h3 : decide ((2000 : Int) < (f.data.length : Int)) = false := by simp; omega
  have hdl : f.data.length ≤ 8388000 := by omega
  have HDL := Lib.hid hdl
  clear hdl
  go_enter Try.func3, Try.ntmps3
  go_wp2_with (refine wpList_load_row rfl 26 (.tmp 1) rfl (W.heap.size) rfl _ _ (0, 0) _ (HF.out) Try.underlying26 rfl (by kernel_rfl) ?_)
  refine (HP.out _ f HDL.out).mono ?_
  rintro r w1 ⟨rfl, hb1⟩
  have HF1 := Lib.hid (HF.out.next hb1)
  have HB1 := Lib.hid (HBW.out.trans (hb1.mono (by simp)))
  clear hb1 HF HBW
  go_wp2_with (refine wpList_load_row rfl 26 (.tmp 1) rfl (W.heap.size) rfl _ _ (0, 0) _ (HF1.out) Try.underlying26 rfl (by kernel_rfl) ?_)
  refine (refput_any _ f HDL.out).mono ?_
  rintro r w2 ⟨rfl, hb2⟩
  have HF2 := Lib.hid (HF1.out.next hb2)
  have HB2 : Hid (Below W.heap.size W w2) := Lib.hid (HB1.out.trans (hb2.mono HB1.out.size))
  have C4 := Lib.hid HF2.out.cells
  have q12 := C4.out.c12
  have q16 := C4.out.c16
  clear hb2 HF1 HB1
  have HBd : Hid (Below W.heap.size W w2.drew) := Lib.hid (Below.drew HB2.out)
  obtain ⟨V, hV⟩ : ∃ V, fputV f = V := ⟨_, rfl⟩
  obtain ⟨E, hE⟩ : ∃ E, fputE f = E := ⟨_, rfl⟩
  rw [hV, hE]
  clear hV hE
  cases ht : f.tag
  · have hfl : flen f = 14 + f.data.length := by unfold flen; rw [ht]; simp
    have hfe : (((flen f : Nat) : Int) == 14 + (f.data.length : Int)) = true := by rw [hfl, beq_iff_eq]; omega
    have e1 : IntKind.i64.wrap (14 + (f.data.length : Int)) = 14 + (f.data.length : Int) := IntWalk.i64_in _ (by have := HDL.out; omega)
    have HFE := Lib.hid hfe
    have HE1 := Lib.hid e1
    clear hfl hfe e1
    go_upto_region 8 with (fail)
    clear ht q12 q16
    have hfe := HFE.out
    have e1 := HE1.out
    have c0 := C4.out.c0
    have c1 := C4.out.c1
    have c2 := C4.out.c2
    have c3 := C4.out.c3
    have c4 := C4.out.c4
    have c5 := C4.out.c5
    have c6 := C4.out.c6
    have c7 := C4.out.c7
    have c8 := C4.out.c8
    have c9 := C4.out.c9
    have c10 := C4.out.c10
    have c11 := C4.out.c11
    have c13 := C4.out.c13
    have c14 := C4.out.c14
    have c15 := C4.out.c15
    have c16 := C4.out.c16
    have c12 := C4.out.c12
    go_region_held3 (fun w_ => w_.cell? ⟨W.heap.size, 0, none⟩ = some (.int .u8 f.d0.toNat) ∧ w_.cell? ⟨W.heap.size, 1, none⟩ = some (.int .u8 f.d1.toNat) ∧ w_.cell? ⟨W.heap.size, 2, none⟩ = some (.int .u8 f.d2.toNat) ∧ w_.cell? ⟨W.heap.size, 3, none⟩ = some (.int .u8 f.d3.toNat) ∧ w_.cell? ⟨W.heap.size, 4, none⟩ = some (.int .u8 f.d4.toNat) ∧ w_.cell? ⟨W.heap.size, 5, none⟩ = some (.int .u8 f.d5.toNat) ∧ w_.cell? ⟨W.heap.size, 6, none⟩ = some (.int .u8 f.s0.toNat) ∧ w_.cell? ⟨W.heap.size, 7, none⟩ = some (.int .u8 f.s1.toNat) ∧ w_.cell? ⟨W.heap.size, 8, none⟩ = some (.int .u8 f.s2.toNat) ∧ w_.cell? ⟨W.heap.size, 9, none⟩ = some (.int .u8 f.s3.toNat) ∧ w_.cell? ⟨W.heap.size, 10, none⟩ = some (.int .u8 f.s4.toNat) ∧ w_.cell? ⟨W.heap.size, 11, none⟩ = some (.int .u8 f.s5.toNat) ∧ w_.cell? ⟨W.heap.size, 12, none⟩ = some (.bool f.tag) ∧ w_.cell? ⟨W.heap.size, 13, none⟩ = some (.int .u8 f.pri.toNat) ∧ w_.cell? ⟨W.heap.size, 14, none⟩ = some (.int .u16 f.vid.toNat) ∧ w_.cell? ⟨W.heap.size, 15, none⟩ = some (.int .u16 f.ty.toNat) ∧ w_.cell? ⟨W.heap.size, 16, none⟩ = some (.string ⟨f.data.toArray⟩) ∧ Hid (Below W.heap.size W w_)) (go_keep)
      (first
        | (go_at_call 9; refine (HL.out _ f HDL.out).mono ?_; rintro r w_ ⟨rfl, hb_⟩; have k0 := keep1 (p := ⟨W.heap.size, 0, none⟩) (v := .int .u8 f.d0.toNat) (by assumption) hb_; have k1 := keep1 (p := ⟨W.heap.size, 1, none⟩) (v := .int .u8 f.d1.toNat) (by assumption) hb_; have k2 := keep1 (p := ⟨W.heap.size, 2, none⟩) (v := .int .u8 f.d2.toNat) (by assumption) hb_; have k3 := keep1 (p := ⟨W.heap.size, 3, none⟩) (v := .int .u8 f.d3.toNat) (by assumption) hb_; have k4 := keep1 (p := ⟨W.heap.size, 4, none⟩) (v := .int .u8 f.d4.toNat) (by assumption) hb_; have k5 := keep1 (p := ⟨W.heap.size, 5, none⟩) (v := .int .u8 f.d5.toNat) (by assumption) hb_; have k6 := keep1 (p := ⟨W.heap.size, 6, none⟩) (v := .int .u8 f.s0.toNat) (by assumption) hb_; have k7 := keep1 (p := ⟨W.heap.size, 7, none⟩) (v := .int .u8 f.s1.toNat) (by assumption) hb_; have k8 := keep1 (p := ⟨W.heap.size, 8, none⟩) (v := .int .u8 f.s2.toNat) (by assumption) hb_; have k9 := keep1 (p := ⟨W.heap.size, 9, none⟩) (v := .int .u8 f.s3.toNat) (by assumption) hb_; have k10 := keep1 (p := ⟨W.heap.size, 10, none⟩) (v := .int .u8 f.s4.toNat) (by assumption) hb_; have k11 := keep1 (p := ⟨W.heap.size, 11, none⟩) (v := .int .u8 f.s5.toNat) (by assumption) hb_; have k12 := keep1 (p := ⟨W.heap.size, 12, none⟩) (v := .bool f.tag) (by assumption) hb_; have k13 := keep1 (p := ⟨W.heap.size, 13, none⟩) (v := .int .u8 f.pri.toNat) (by assumption) hb_; have k14 := keep1 (p := ⟨W.heap.size, 14, none⟩) (v := .int .u16 f.vid.toNat) (by assumption) hb_; have k15 := keep1 (p := ⟨W.heap.size, 15, none⟩) (v := .int .u16 f.ty.toNat) (by assumption) hb_; have k16 := keep1 (p := ⟨W.heap.size, 16, none⟩) (v := .string ⟨f.data.toArray⟩) (by assumption) hb_; have kB := keepB (by assumption) hb_; clear hb_)
        | (go_at_call 6; refine (HW.out _).mono ?_; rintro r w_ ⟨rfl, hb_⟩; have k0 := keep1 (p := ⟨W.heap.size, 0, none⟩) (v := .int .u8 f.d0.toNat) (by assumption) hb_; have k1 := keep1 (p := ⟨W.heap.size, 1, none⟩) (v := .int .u8 f.d1.toNat) (by assumption) hb_; have k2 := keep1 (p := ⟨W.heap.size, 2, none⟩) (v := .int .u8 f.d2.toNat) (by assumption) hb_; have k3 := keep1 (p := ⟨W.heap.size, 3, none⟩) (v := .int .u8 f.d3.toNat) (by assumption) hb_; have k4 := keep1 (p := ⟨W.heap.size, 4, none⟩) (v := .int .u8 f.d4.toNat) (by assumption) hb_; have k5 := keep1 (p := ⟨W.heap.size, 5, none⟩) (v := .int .u8 f.d5.toNat) (by assumption) hb_; have k6 := keep1 (p := ⟨W.heap.size, 6, none⟩) (v := .int .u8 f.s0.toNat) (by assumption) hb_; have k7 := keep1 (p := ⟨W.heap.size, 7, none⟩) (v := .int .u8 f.s1.toNat) (by assumption) hb_; have k8 := keep1 (p := ⟨W.heap.size, 8, none⟩) (v := .int .u8 f.s2.toNat) (by assumption) hb_; have k9 := keep1 (p := ⟨W.heap.size, 9, none⟩) (v := .int .u8 f.s3.toNat) (by assumption) hb_; have k10 := keep1 (p := ⟨W.heap.size, 10, none⟩) (v := .int .u8 f.s4.toNat) (by assumption) hb_; have k11 := keep1 (p := ⟨W.heap.size, 11, none⟩) (v := .int .u8 f.s5.toNat) (by assumption) hb_; have k12 := keep1 (p := ⟨W.heap.size, 12, none⟩) (v := .bool f.tag) (by assumption) hb_; have k13 := keep1 (p := ⟨W.heap.size, 13, none⟩) (v := .int .u8 f.pri.toNat) (by assumption) hb_; have k14 := keep1 (p := ⟨W.heap.size, 14, none⟩) (v := .int .u16 f.vid.toNat) (by assumption) hb_; have k15 := keep1 (p := ⟨W.heap.size, 15, none⟩) (v := .int .u16 f.ty.toNat) (by assumption) hb_; have k16 := keep1 (p := ⟨W.heap.size, 16, none⟩) (v := .string ⟨f.data.toArray⟩) (by assumption) hb_; have kB := keepB (by assumption) hb_; clear hb_))
    all_goals (
      go_wp2
      go_ret
      exact ⟨rfl, Hid.out (by assumption)⟩)
  · have hfl : flen f = 18 + f.data.length := by unfold flen; rw [ht]; simp
    have hfe : (((flen f : Nat) : Int) == 18 + (f.data.length : Int)) = true := by rw [hfl, beq_iff_eq]; omega
    have e1 : IntKind.i64.wrap (18 + (f.data.length : Int)) = 18 + (f.data.length : Int) := IntWalk.i64_in _ (by have := HDL.out; omega)
    have HFE := Lib.hid hfe
    have HE1 := Lib.hid e1
    clear hfl hfe e1
    go_upto_region 8 with (fail)
    clear ht q12 q16
    have hfe := HFE.out
    have e1 := HE1.out
    have c0 := C4.out.c0
    have c1 := C4.out.c1
    have c2 := C4.out.c2
    have c3 := C4.out.c3
    have c4 := C4.out.c4
    have c5 := C4.out.c5
    have c6 := C4.out.c6
    have c7 := C4.out.c7
    have c8 := C4.out.c8
    have c9 := C4.out.c9
    have c10 := C4.out.c10
    have c11 := C4.out.c11
    have c13 := C4.out.c13
    have c14 := C4.out.c14
    have c15 := C4.out.c15
    have c16 := C4.out.c16
    have c12 := C4.out.c12
    go_region_held3 (fun w_ => w_.cell? ⟨W.heap.size, 0, none⟩ = some (.int .u8 f.d0.toNat) ∧ w_.cell? ⟨W.heap.size, 1, none⟩ = some (.int .u8 f.d1.toNat) ∧ w_.cell? ⟨W.heap.size, 2, none⟩ = some (.int .u8 f.d2.toNat) ∧ w_.cell? ⟨W.heap.size, 3, none⟩ = some (.int .u8 f.d3.toNat) ∧ w_.cell? ⟨W.heap.size, 4, none⟩ = some (.int .u8 f.d4.toNat) ∧ w_.cell? ⟨W.heap.size, 5, none⟩ = some (.int .u8 f.d5.toNat) ∧ w_.cell? ⟨W.heap.size, 6, none⟩ = some (.int .u8 f.s0.toNat) ∧ w_.cell? ⟨W.heap.size, 7, none⟩ = some (.int .u8 f.s1.toNat) ∧ w_.cell? ⟨W.heap.size, 8, none⟩ = some (.int .u8 f.s2.toNat) ∧ w_.cell? ⟨W.heap.size, 9, none⟩ = some (.int .u8 f.s3.toNat) ∧ w_.cell? ⟨W.heap.size, 10, none⟩ = some (.int .u8 f.s4.toNat) ∧ w_.cell? ⟨W.heap.size, 11, none⟩ = some (.int .u8 f.s5.toNat) ∧ w_.cell? ⟨W.heap.size, 12, none⟩ = some (.bool f.tag) ∧ w_.cell? ⟨W.heap.size, 13, none⟩ = some (.int .u8 f.pri.toNat) ∧ w_.cell? ⟨W.heap.size, 14, none⟩ = some (.int .u16 f.vid.toNat) ∧ w_.cell? ⟨W.heap.size, 15, none⟩ = some (.int .u16 f.ty.toNat) ∧ w_.cell? ⟨W.heap.size, 16, none⟩ = some (.string ⟨f.data.toArray⟩) ∧ Hid (Below W.heap.size W w_)) (go_keep)
      (first
        | (go_at_call 9; refine (HL.out _ f HDL.out).mono ?_; rintro r w_ ⟨rfl, hb_⟩; have k0 := keep1 (p := ⟨W.heap.size, 0, none⟩) (v := .int .u8 f.d0.toNat) (by assumption) hb_; have k1 := keep1 (p := ⟨W.heap.size, 1, none⟩) (v := .int .u8 f.d1.toNat) (by assumption) hb_; have k2 := keep1 (p := ⟨W.heap.size, 2, none⟩) (v := .int .u8 f.d2.toNat) (by assumption) hb_; have k3 := keep1 (p := ⟨W.heap.size, 3, none⟩) (v := .int .u8 f.d3.toNat) (by assumption) hb_; have k4 := keep1 (p := ⟨W.heap.size, 4, none⟩) (v := .int .u8 f.d4.toNat) (by assumption) hb_; have k5 := keep1 (p := ⟨W.heap.size, 5, none⟩) (v := .int .u8 f.d5.toNat) (by assumption) hb_; have k6 := keep1 (p := ⟨W.heap.size, 6, none⟩) (v := .int .u8 f.s0.toNat) (by assumption) hb_; have k7 := keep1 (p := ⟨W.heap.size, 7, none⟩) (v := .int .u8 f.s1.toNat) (by assumption) hb_; have k8 := keep1 (p := ⟨W.heap.size, 8, none⟩) (v := .int .u8 f.s2.toNat) (by assumption) hb_; have k9 := keep1 (p := ⟨W.heap.size, 9, none⟩) (v := .int .u8 f.s3.toNat) (by assumption) hb_; have k10 := keep1 (p := ⟨W.heap.size, 10, none⟩) (v := .int .u8 f.s4.toNat) (by assumption) hb_; have k11 := keep1 (p := ⟨W.heap.size, 11, none⟩) (v := .int .u8 f.s5.toNat) (by assumption) hb_; have k12 := keep1 (p := ⟨W.heap.size, 12, none⟩) (v := .bool f.tag) (by assumption) hb_; have k13 := keep1 (p := ⟨W.heap.size, 13, none⟩) (v := .int .u8 f.pri.toNat) (by assumption) hb_; have k14 := keep1 (p := ⟨W.heap.size, 14, none⟩) (v := .int .u16 f.vid.toNat) (by assumption) hb_; have k15 := keep1 (p := ⟨W.heap.size, 15, none⟩) (v := .int .u16 f.ty.toNat) (by assumption) hb_; have k16 := keep1 (p := ⟨W.heap.size, 16, none⟩) (v := .string ⟨f.data.toArray⟩) (by assumption) hb_; have kB := keepB (by assumption) hb_; clear hb_)
        | (go_at_call 6; refine (HW.out _).mono ?_; rintro r w_ ⟨rfl, hb_⟩; have k0 := keep1 (p := ⟨W.heap.size, 0, none⟩) (v := .int .u8 f.d0.toNat) (by assumption) hb_; have k1 := keep1 (p := ⟨W.heap.size, 1, none⟩) (v := .int .u8 f.d1.toNat) (by assumption) hb_; have k2 := keep1 (p := ⟨W.heap.size, 2, none⟩) (v := .int .u8 f.d2.toNat) (by assumption) hb_; have k3 := keep1 (p := ⟨W.heap.size, 3, none⟩) (v := .int .u8 f.d3.toNat) (by assumption) hb_; have k4 := keep1 (p := ⟨W.heap.size, 4, none⟩) (v := .int .u8 f.d4.toNat) (by assumption) hb_; have k5 := keep1 (p := ⟨W.heap.size, 5, none⟩) (v := .int .u8 f.d5.toNat) (by assumption) hb_; have k6 := keep1 (p := ⟨W.heap.size, 6, none⟩) (v := .int .u8 f.s0.toNat) (by assumption) hb_; have k7 := keep1 (p := ⟨W.heap.size, 7, none⟩) (v := .int .u8 f.s1.toNat) (by assumption) hb_; have k8 := keep1 (p := ⟨W.heap.size, 8, none⟩) (v := .int .u8 f.s2.toNat) (by assumption) hb_; have k9 := keep1 (p := ⟨W.heap.size, 9, none⟩) (v := .int .u8 f.s3.toNat) (by assumption) hb_; have k10 := keep1 (p := ⟨W.heap.size, 10, none⟩) (v := .int .u8 f.s4.toNat) (by assumption) hb_; have k11 := keep1 (p := ⟨W.heap.size, 11, none⟩) (v := .int .u8 f.s5.toNat) (by assumption) hb_; have k12 := keep1 (p := ⟨W.heap.size, 12, none⟩) (v := .bool f.tag) (by assumption) hb_; have k13 := keep1 (p := ⟨W.heap.size, 13, none⟩) (v := .int .u8 f.pri.toNat) (by assumption) hb_; have k14 := keep1 (p := ⟨W.heap.size, 14, none⟩) (v := .int .u16 f.vid.toNat) (by assumption) hb_; have k15 := keep1 (p := ⟨W.heap.size, 15, none⟩) (v := .int .u16 f.ty.toNat) (by assumption) hb_; have k16 := keep1 (p := ⟨W.heap.size, 16, none⟩) (v := .string ⟨f.data.toArray⟩) (by assumption) hb_; have kB := keepB (by assumption) hb_; clear hb_))
    all_goals (
      go_wp2
      go_ret
      exact ⟨rfl, Hid.out (by assumption)⟩)
end Go.Proofs.Ytlghibgljmpfoaa.framePuts
