/- Layer 3: the laws' wakes; frames that are known. -/
import Derived.Test.YtlghibgljmpfoaaRef
import Derived.Test.YtlghibgljmpfoaaFrameC
import Derived.StillTailTactics
import Derived.Deep.DeepCutAuto
namespace Go.Proofs.Ytlghibgljmpfoaa
open Go.RowKit
set_option linter.unusedVariables false
set_option linter.unusedSimpArgs false

def fr0 : Fr := ⟨1, 128, 194, 0, 0, 0, 2, 0, 0, 0, 0, 1, false, 0, 0, 2048, [120]⟩
def fr1 : Fr := { fr0 with tag := true, pri := 1, vid := 2 }
theorem put0 : fputV fr0 = [1, 128, 194, 0, 0, 0, 2, 0, 0, 0, 0, 1, 8, 0, 120] ∧ fputE fr0 = 0 := by decide +kernel
theorem put1 : fputV fr1 = [1, 128, 194, 0, 0, 0, 2, 0, 0, 0, 0, 1, 129, 0, 32, 2, 8, 0, 120] ∧ fputE fr1 = 0 := by decide +kernel
theorem take1 : ftakeF [1, 128, 194, 0, 0, 0, 2, 0, 0, 0, 0, 1, 129, 0, 32, 2, 8, 0, 120] = fr1 ∧ ftakeE [1, 128, 194, 0, 0, 0, 2, 0, 0, 0, 0, 1, 129, 0, 32, 2, 8, 0, 120] = 0 := by
  have h := take_put fr1 put1.2
  have e : fbytes fr1 = [1, 128, 194, 0, 0, 0, 2, 0, 0, 0, 0, 1, 129, 0, 32, 2, 8, 0, 120] := by decide +kernel
  rw [e] at h
  exact ⟨h.2, h.1⟩
theorem still_load {ops : Array Oper} {w : World} {Q : Act → Prop} {a : Act} {o : Oper} {rest : List Oper} (x : Nat) (ho : o.op = .load 26 (.tmp x)) (hw : Region.wanted o (yielded ops a.tmps) = true) (g : Nat) (f : Fr)
    (hx : a.eval (.tmp x) = .pointer (some ⟨g, 0, none⟩)) (h : FrA w g f) (hK : wpStill Try.prog ops w Q rest (a.put o.dst (FV f))) : wpStill Try.prog ops w Q (o :: rest) a := by
  unfold wpStill
  rw [if_pos hw]
  unfold Oper.still execOp
  simp only [ho, hx, Sem.run_bind, h.load, Result.andThen_ok, Sem.run_pure]
  exact ⟨rfl, hK⟩
set_option maxHeartbeats 8000000 in
set_option maxRecDepth 100000 in
theorem wakesF (hP : PutC) (hT : TakeC) (hL : LenC) : WakesC 6 := by
  intro w
  have HP := Lib.hid hP
  have HT := Lib.hid hT
  have HL := Lib.hid hL
  clear hP hT hL
  have hF0 : FrA (w.alloc (.cells #[.int .u8 1, .int .u8 128, .int .u8 194, .int .u8 0, .int .u8 0, .int .u8 0, .int .u8 2, .int .u8 0, .int .u8 0, .int .u8 0, .int .u8 0, .int .u8 1, .bool false, .int .u8 0, .int .u16 0, .int .u16 2048, .string ⟨#[120]⟩] 26)) w.heap.size fr0 := Blk.new w _ _
  have HF0 := Lib.hid hF0
  have HB0 := Lib.hid ((Below.refl w.heap.size w).alloc (Nat.le_refl _) (.cells #[.int .u8 1, .int .u8 128, .int .u8 194, .int .u8 0, .int .u8 0, .int .u8 0, .int .u8 2, .int .u8 0, .int .u8 0, .int .u8 0, .int .u8 0, .int .u8 1, .bool false, .int .u8 0, .int .u16 0, .int .u16 2048, .string ⟨#[120]⟩] 26))
  have hlen1 : flen fr1 = 19 := by decide +kernel
  have HLEN := Lib.hid hlen1
  have P0 := Lib.hid put0
  have P1 := Lib.hid put1
  have T1 := Lib.hid take1
  have D0 : Hid (fr0.data.length ≤ 8388000) := Lib.hid (by decide)
  have D1 : Hid (fr1.data.length ≤ 8388000) := Lib.hid (by decide)
  clear hF0 hlen1
  have st0 := fun h => stores_new w (.int .u8 1) (.int .u8 128) (.int .u8 194) (.int .u8 0) (.int .u8 0) (.int .u8 0) (.int .u8 2) (.int .u8 0) (.int .u8 0) (.int .u8 0) (.int .u8 0) (.int .u8 1) (.bool false) (.int .u8 0) (.int .u16 0) (.int .u16 2048) (.string ⟨#[120]⟩) h
  have st0 := st0 (by kernel_rfl)
  go_enter Try.func6, Try.ntmps6
  go_wp2_with (refine wpList_load_row rfl 26 (.tmp 1) rfl (w.heap.size) rfl _ _ (0, 0) _ (HF0.out) Try.underlying26 rfl (by kernel_rfl) ?_)
  refine (HP.out _ fr0 D0.out).mono ?_
  rw [P0.out.1, P0.out.2]
  rintro r w1 ⟨rfl, hb1⟩
  have hF1 := HF0.out.next hb1
  have HF1 := Lib.hid hF1
  have HB1 := Lib.hid (HB0.out.trans (hb1.mono (by simp)))
  have c12 := hF1.cells.c12
  have c13 := hF1.cells.c13
  have c14 := hF1.cells.c14
  have f12 := hF1.frozen 12
  have f13 := hF1.frozen 13
  have f14 := hF1.frozen 14
  have hG : FrA (((w1.setCell ⟨w.heap.size, 12, none⟩ (.bool true)).setCell ⟨w.heap.size, 13, none⟩ (.int .u8 1)).setCell ⟨w.heap.size, 14, none⟩ (.int .u16 2)) w.heap.size fr1 := ((hF1.setTag true).setPri 1).setVid 2
  have HG := Lib.hid hG
  have HB2 : Hid (Below w.heap.size w (((w1.setCell ⟨w.heap.size, 12, none⟩ (.bool true)).setCell ⟨w.heap.size, 13, none⟩ (.int .u8 1)).setCell ⟨w.heap.size, 14, none⟩ (.int .u16 2))) := Lib.hid (((HB1.out.setCell (Nat.le_refl _) _).setCell (Nat.le_refl _) _).setCell (Nat.le_refl _) _)
  clear hF1 hb1 HF0 HB0 hG HF1 HB1
  go_wp2_with (refine wpList_load_row rfl 26 (.tmp 1) rfl (w.heap.size) rfl _ _ (0, 0) _ (HG.out) Try.underlying26 rfl (by kernel_rfl) ?_)
  refine (HP.out _ fr1 D1.out).mono ?_
  rw [P1.out.1, P1.out.2]
  rintro r w2 ⟨rfl, hb2⟩
  have HF2 := Lib.hid (HG.out.next hb2)
  have HB3 : Hid (Below w.heap.size w w2) := Lib.hid (HB2.out.trans (hb2.mono HB2.out.size))
  clear hb2 HG HB2 c12 c13 c14 f12 f13 f14
  go_wp2_with fail
  refine (HT.out _ [1, 128, 194, 0, 0, 0, 2, 0, 0, 0, 0, 1, 129, 0, 32, 2, 8, 0, 120] (by decide)).mono ?_
  rw [T1.out.1, T1.out.2]
  rintro r w3 ⟨rfl, hb3⟩
  have hF3 := (HF2.out.next hb3).alloc (.cells #[.int .u8 fr1.d0.toNat, .int .u8 fr1.d1.toNat, .int .u8 fr1.d2.toNat, .int .u8 fr1.d3.toNat, .int .u8 fr1.d4.toNat, .int .u8 fr1.d5.toNat, .int .u8 fr1.s0.toNat, .int .u8 fr1.s1.toNat, .int .u8 fr1.s2.toNat, .int .u8 fr1.s3.toNat, .int .u8 fr1.s4.toNat, .int .u8 fr1.s5.toNat, .bool fr1.tag, .int .u8 fr1.pri.toNat, .int .u16 fr1.vid.toNat, .int .u16 fr1.ty.toNat, .string ⟨fr1.data.toArray⟩] 26)
  have hH3 := FrA.new w3 fr1
  have HB4 : Hid (Below w.heap.size w (w3.alloc (.cells #[.int .u8 fr1.d0.toNat, .int .u8 fr1.d1.toNat, .int .u8 fr1.d2.toNat, .int .u8 fr1.d3.toNat, .int .u8 fr1.d4.toNat, .int .u8 fr1.d5.toNat, .int .u8 fr1.s0.toNat, .int .u8 fr1.s1.toNat, .int .u8 fr1.s2.toNat, .int .u8 fr1.s3.toNat, .int .u8 fr1.s4.toNat, .int .u8 fr1.s5.toNat, .bool fr1.tag, .int .u8 fr1.pri.toNat, .int .u16 fr1.vid.toNat, .int .u16 fr1.ty.toNat, .string ⟨fr1.data.toArray⟩] 26))) := Lib.hid ((HB3.out.trans (hb3.mono HB3.out.size)).alloc (by have := HB3.out.size; have := hb3.size; omega) _)
  have st1 := stores_new w3 (.int .u8 fr1.d0.toNat) (.int .u8 fr1.d1.toNat) (.int .u8 fr1.d2.toNat) (.int .u8 fr1.d3.toNat) (.int .u8 fr1.d4.toNat) (.int .u8 fr1.d5.toNat) (.int .u8 fr1.s0.toNat) (.int .u8 fr1.s1.toNat) (.int .u8 fr1.s2.toNat) (.int .u8 fr1.s3.toNat) (.int .u8 fr1.s4.toNat) (.int .u8 fr1.s5.toNat) (.bool fr1.tag) (.int .u8 fr1.pri.toNat) (.int .u16 fr1.vid.toNat) (.int .u16 fr1.ty.toNat) (.string ⟨fr1.data.toArray⟩) (by kernel_rfl)
  go_upto_region 8 with (fail)
  clear st0 st1
  generalize w3.alloc (.cells #[.int .u8 fr1.d0.toNat, .int .u8 fr1.d1.toNat, .int .u8 fr1.d2.toNat, .int .u8 fr1.d3.toNat, .int .u8 fr1.d4.toNat, .int .u8 fr1.d5.toNat, .int .u8 fr1.s0.toNat, .int .u8 fr1.s1.toNat, .int .u8 fr1.s2.toNat, .int .u8 fr1.s3.toNat, .int .u8 fr1.s4.toNat, .int .u8 fr1.s5.toNat, .bool fr1.tag, .int .u8 fr1.pri.toNat, .int .u16 fr1.vid.toNat, .int .u16 fr1.ty.toNat, .string ⟨fr1.data.toArray⟩] 26) = w4 at *
  have HBd : Hid (Below w.heap.size w w4.drew) := Lib.hid (Below.drew HB4.out)
  have eF : ∀ W : World, (Op.equalIn 10000 26 (FV fr1) (FV fr1)).run Try.prog W = .ok true W := fun W => by have := run_eqF fr1 fr1 W; rw [Fr.same_self] at this; exact this
  have s1 : ∀ W : World, (Instr.slice 9 (.string ⟨#[1, 128, 194, 0, 0, 0, 2, 0, 0, 0, 0, 1, 8, 0, 120]⟩) none (some (.int .i64 12)) none).run Try.prog W = .ok (.string ⟨#[1, 128, 194, 0, 0, 0, 2, 0, 0, 0, 0, 1]⟩) W := fun W => by kernel_rfl
  have s2 : ∀ W : World, (Instr.slice 9 (.string ⟨#[1, 128, 194, 0, 0, 0, 2, 0, 0, 0, 0, 1, 8, 0, 120]⟩) (some (.int .i64 12)) none none).run Try.prog W = .ok (.string ⟨#[8, 0, 120]⟩) W := fun W => by kernel_rfl
  have a1 : ∀ W : World, (Op.stringOp .add ⟨#[1, 128, 194, 0, 0, 0, 2, 0, 0, 0, 0, 1]⟩ ⟨#[129, 0, 32, 2]⟩).run Try.prog W = .ok (.string ⟨#[1, 128, 194, 0, 0, 0, 2, 0, 0, 0, 0, 1, 129, 0, 32, 2]⟩) W := fun W => run_string_add_lists W [1, 128, 194, 0, 0, 0, 2, 0, 0, 0, 0, 1] [129, 0, 32, 2] (by decide) (by decide)
  have a2 : ∀ W : World, (Op.stringOp .add ⟨#[1, 128, 194, 0, 0, 0, 2, 0, 0, 0, 0, 1, 129, 0, 32, 2]⟩ ⟨#[8, 0, 120]⟩).run Try.prog W = .ok (.string ⟨#[1, 128, 194, 0, 0, 0, 2, 0, 0, 0, 0, 1, 129, 0, 32, 2, 8, 0, 120]⟩) W := fun W => run_string_add_lists W ([1, 128, 194, 0, 0, 0, 2, 0, 0, 0, 0, 1] ++ [129, 0, 32, 2]) [8, 0, 120] (by decide) (by decide)
  have HFc := Lib.hid hF3.drew
  have HFd := Lib.hid hH3.drew
  clear hF3 hH3
  generalize fr1 = f1 at *
  have HEF := Lib.hid eF
  refine wp_region_still_tail 31 (by kernel_rfl) (by kernel_rfl) ?_
  simp only [List.take_succ_cons, List.take_zero, List.drop_succ_cons, List.drop_zero]
  iterate 25 still_step
  refine still_load 6 rfl (by kernel_rfl) (w3.heap.size) f1 rfl HFd.out ?_
  simp only [Act.put, List.setIfInBounds_toArray, List.set_cons_zero, List.set_cons_succ]
  refine still_load 1 rfl (by kernel_rfl) (w.heap.size) f1 rfl HFc.out ?_
  simp only [Act.put, List.setIfInBounds_toArray, List.set_cons_zero, List.set_cons_succ]
  iterate 3 still_step
  refine still_load 1 rfl (by kernel_rfl) (w.heap.size) f1 rfl HFc.out ?_
  simp only [Act.put, List.setIfInBounds_toArray, List.set_cons_zero, List.set_cons_succ]
  refine wpStill_nil ?_
  change wpList _ _ _ _ _ w4.drew
  clear HBd
  have HB5 : Hid (Below w.heap.size w w4.drew) := Lib.hid (Below.drew HB4.out)
  go_wp2_with fail
  refine (HL.out _ f1 D1.out).mono ?_
  rw [HLEN.out]
  rintro r w5 ⟨rfl, hb5⟩
  have HB6 : Hid (Below w.heap.size w w5) := Lib.hid (HB5.out.trans (hb5.mono HB5.out.size))
  clear hb5
  go_wp2
  go_ret
  exact ⟨rfl, HB6.out⟩
end Go.Proofs.Ytlghibgljmpfoaa
