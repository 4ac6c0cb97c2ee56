/- Layer 3: the document's Put. -/
import Derived.Test.YteiopobkbfancaaRefFr
namespace Go.Proofs.Yteiopobkbfancaa
open Go.RowKit
set_option linter.unusedVariables false
set_option linter.unusedSimpArgs false
set_option maxRecDepth 100000

set_option maxHeartbeats 2000000 in
set_option maxRecDepth 100000 in
theorem refput_any (w : World) (f : Fr) (hl : f.data.length ≤ 8388000) :
    Calls Try.prog 31 #[FV f] w fun r w' => r = .returned (.tuple #[.string ⟨(fputV f).toArray⟩, .int .i64 (fputE f)]) ∧ Below w.heap.size w w' := by
  have HF := Lib.hid (FrA.new w f)
  have HBW := Lib.hid ((Below.refl w.heap.size w).alloc (Nat.le_refl _) (.cells #[.int .u8 f.d0.toNat, .int .u8 f.d1.toNat, .int .u8 f.d2.toNat, .int .u8 f.d3.toNat, .int .u8 f.d4.toNat, .int .u8 f.d5.toNat, .int .u8 f.s0.toNat, .int .u8 f.s1.toNat, .int .u8 f.s2.toNat, .int .u8 f.s3.toNat, .int .u8 f.s4.toNat, .int .u8 f.s5.toNat, .bool f.tag, .int .u8 f.pri.toNat, .int .u16 f.vid.toNat, .int .u16 f.ty.toNat, .string ⟨f.data.toArray⟩] 27))
  go_enter Try.func31, Try.ntmps31
  go_wp2_with (refine wpList_load_row rfl 27 (.tmp 1) rfl (w.heap.size) rfl _ _ (0, 0) _ (HF.out) Try.underlying27 rfl (by kernel_rfl) ?_)
  refine (refmay_any _ f).mono ?_
  rintro r w1 ⟨rfl, hb1⟩
  have HF1 := Lib.hid (HF.out.next hb1)
  have HB1 := Lib.hid (HBW.out.trans (hb1.mono (by simp)))
  clear hb1 HF HBW
  cases hm : fmay f
  · have hv : fputV f = [] ∧ fputE f = 2 := by simp [fputV, fputE, hm]
    have HV := Lib.hid hv
    clear hv hm
    go_wp2
    rw [HV.out.1, HV.out.2]
    exact bodyPost_ret (v := .tuple #[.string ⟨#[]⟩, .int .i64 2]) (by simp [results, Try.results31, go_sem]) rfl ⟨rfl, HB1.out⟩
  · have HM := Lib.hid hm
    clear hm
    go_wp2_with (refine wpList_load_row rfl 27 (.tmp 1) rfl (w.heap.size) rfl _ _ (0, 0) _ (HF1.out) Try.underlying27 rfl (by kernel_rfl) ?_)
    refine (refbytes_any _ f hl).mono ?_
    rintro r w2 ⟨rfl, hb2⟩
    have HB2 := Lib.hid (HB1.out.trans (hb2.mono HB1.out.size))
    have hln := fbytes_len f
    by_cases hbig : 1522 < flen f
    · have hv : fputV f = [] ∧ fputE f = 5 := by simp [fputV, fputE, HM.out, hbig]
      have HV := Lib.hid hv
      have hb : decide ((1522 : Int) < ((fbytes f).length : Int)) = true := by simp; omega
      clear hv hb2
      go_wp2
      rw [HV.out.1, HV.out.2]
      exact bodyPost_ret (v := .tuple #[.string ⟨#[]⟩, .int .i64 5]) (by simp [results, Try.results31, go_sem]) rfl ⟨rfl, HB2.out⟩
    · have hv : fputV f = fbytes f ∧ fputE f = 0 := by simp [fputV, fputE, HM.out, hbig]
      have HV := Lib.hid hv
      have hb : decide ((1522 : Int) < ((fbytes f).length : Int)) = false := by simp; omega
      clear hv hb2
      go_wp2
      rw [HV.out.1, HV.out.2]
      exact bodyPost_ret (v := .tuple #[.string ⟨(fbytes f).toArray⟩, .int .i64 0]) (by simp [results, Try.results31, go_sem]) rfl ⟨rfl, HB2.out⟩
end Go.Proofs.Yteiopobkbfancaa
