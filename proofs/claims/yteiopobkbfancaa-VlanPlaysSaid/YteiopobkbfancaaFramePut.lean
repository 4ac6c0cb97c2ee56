/- Package frame: Put. -/
import Derived.Test.YteiopobkbfancaaFrameImpl
import Derived.Test.YteiopobkbfancaaConcat
import Derived.Test.YteiopobkbfancaaRow
import Derived.Test.YteiopobkbfancaaBytes
import Derived.Deep.RegionHeld3
import Derived.Laws.Concat
namespace Go.Proofs.Yteiopobkbfancaa
open Go.RowKit
set_option linter.unusedVariables false
set_option linter.unusedSimpArgs false
set_option maxRecDepth 100000

set_option maxHeartbeats 4000000 in
theorem put_impl : PutC := by
  intro w f hdl
  have HDL := Lib.hid hdl
  have HF0 := Lib.hid (FrA.new w f)
  have HB0 := Lib.hid ((Below.refl w.heap.size w).alloc (Nat.le_refl _) (.cells #[.int .u8 f.d0.toNat, .int .u8 f.d1.toNat, .int .u8 f.d2.toNat, .int .u8 f.d3.toNat, .int .u8 f.d4.toNat, .int .u8 f.d5.toNat, .int .u8 f.s0.toNat, .int .u8 f.s1.toNat, .int .u8 f.s2.toNat, .int .u8 f.s3.toNat, .int .u8 f.s4.toNat, .int .u8 f.s5.toNat, .bool f.tag, .int .u8 f.pri.toNat, .int .u16 f.vid.toNat, .int .u16 f.ty.toNat, .string ⟨f.data.toArray⟩] 27))
  cases hm : fmay f
  · have hv : fputV f = [] ∧ fputE f = 2 := by simp [fputV, fputE, hm]
    have HV := Lib.hid hv
    have HM := Lib.hid hm
    clear hv hm
    go_enter Try.func30, Try.ntmps30
    go_wp2_with (refine wpList_load_frame 1 rfl (by kernel_rfl) w.heap.size f rfl HF0.out ?_)
    refine (may_any _ f).mono ?_
    rw [HM.out]
    rintro r w1 ⟨rfl, hb1⟩
    have HB1 : Hid (Below w.heap.size w w1) := Lib.hid (HB0.out.trans (hb1.mono (by simp only [World.size_alloc]; omega)))
    clear hb1
    go_wp2
    rw [HV.out.1, HV.out.2]
    exact bodyPost_ret (v := .tuple #[.string ⟨#[]⟩, .int .i64 2]) (by simp [results, Try.results30, go_sem]) rfl ⟨rfl, HB1.out⟩
  have HM := Lib.hid hm
  clear hm
  by_cases hbig : 1522 < flen f
  · have hv : fputV f = [] ∧ fputE f = 5 := by simp [fputV, fputE, HM.out, hbig]
    have HV := Lib.hid hv
    have hb : decide ((1522 : Int) < (flen f : Int)) = true := by simp; omega
    clear hv
    go_enter Try.func30, Try.ntmps30
    go_wp2_with (refine wpList_load_frame 1 rfl (by kernel_rfl) w.heap.size f rfl HF0.out ?_)
    refine (may_any _ f).mono ?_
    rw [HM.out]
    rintro r w1 ⟨rfl, hb1⟩
    have HF1 := Lib.hid (HF0.out.next hb1)
    have HB1 : Hid (Below w.heap.size w w1) := Lib.hid (HB0.out.trans (hb1.mono (by simp only [World.size_alloc]; omega)))
    clear hb1
    go_wp2_with (refine wpList_load_frame 1 rfl (by kernel_rfl) w.heap.size f rfl HF1.out ?_)
    refine (len_impl _ f HDL.out).mono ?_
    rintro r w2 ⟨rfl, hb2⟩
    have HB2 : Hid (Below w.heap.size w w2) := Lib.hid (HB1.out.trans (hb2.mono HB1.out.size))
    clear hb2
    go_wp2
    rw [HV.out.1, HV.out.2]
    exact bodyPost_ret (v := .tuple #[.string ⟨#[]⟩, .int .i64 5]) (by simp [results, Try.results30, go_sem]) rfl ⟨rfl, HB2.out⟩
  have hv : fputV f = fbytes f ∧ fputE f = 0 := by simp [fputV, fputE, HM.out, hbig]
  have HV := Lib.hid hv
  have hb : decide ((1522 : Int) < (flen f : Int)) = false := by simp; omega
  clear hv hbig
  go_enter Try.func30, Try.ntmps30
  go_wp2_with (refine wpList_load_frame 1 rfl (by kernel_rfl) w.heap.size f rfl HF0.out ?_)
  refine (may_any _ f).mono ?_
  rw [HM.out]
  rintro r w1 ⟨rfl, hb1⟩
  have HF1 := Lib.hid (HF0.out.next hb1)
  have HB1 : Hid (Below w.heap.size w w1) := Lib.hid (HB0.out.trans (hb1.mono (by simp only [World.size_alloc]; omega)))
  clear hb1 HF0 HB0
  go_wp2_with (refine wpList_load_frame 1 rfl (by kernel_rfl) w.heap.size f rfl HF1.out ?_)
  refine (len_impl _ f HDL.out).mono ?_
  rintro r w2 ⟨rfl, hb2⟩
  have HF2 := Lib.hid (HF1.out.next hb2)
  have HB2 : Hid (Below w.heap.size w w2) := Lib.hid (HB1.out.trans (hb2.mono HB1.out.size))
  clear hb2 HF1 HB1
  go_upto_region 5 with (fail)
  go_still_tail 4, (by kernel_rfl)
  change wpList _ _ _ _ _ w2.drew
  have HFd := Lib.hid HF2.out.drew
  have HBd := Lib.hid (HB2.out.drew)
  generalize w2.drew = w3 at *
  go_wp2_with fail
  have HFa := Lib.hid (HFd.out.alloc (.cells #[.slice (some ⟨w.heap.size, 0, none⟩) 6 6, .slice (some ⟨w.heap.size, 6, none⟩) 6 6] 83))
  have hcc : ∀ k (h : k < [f.dst, f.src].length), ∃ v, (w3.alloc (.cells #[.slice (some ⟨w.heap.size, 0, none⟩) 6 6, .slice (some ⟨w.heap.size, 6, none⟩) 6 6] 83)).cell? ⟨w3.heap.size, k, none⟩ = some v ∧ Str (w3.alloc (.cells #[.slice (some ⟨w.heap.size, 0, none⟩) 6 6, .slice (some ⟨w.heap.size, 6, none⟩) 6 6] 83)) v [f.dst, f.src][k] := by
    intro k h
    match k, h with
    | 0, _ => exact ⟨_, (Blk.new w3 _ _).cell 0, HFa.out.cells.dst 6⟩
    | 1, _ => exact ⟨_, (Blk.new w3 _ _).cell 1, HFa.out.cells.src 6⟩
  refine (concat_any w3.heap.size 2 [f.dst, f.src] hcc (by simp [Fr.dst, Fr.src]) (by simp)).mono ?_
  rw [show [f.dst, f.src].flatten = f.dst ++ f.src by simp]
  rintro r w4 ⟨v4, rfl, ho4, hb4⟩
  have H4 := Lib.hid (HFa.out.next hb4)
  have B4 : Hid (Below w.heap.size w w4) := Lib.hid ((HBd.out.alloc HBd.out.size _).trans (hb4.mono (by have := HBd.out.size; simp only [World.size_alloc]; omega)))
  have O4 := Lib.hid ho4
  clear ho4 hb4 hcc HFa HFd HBd HB2 HF2
  have c12 := H4.out.cells.c12
  cases ht : f.tag
  · have HT := Lib.hid ht
    rw [ht] at c12
    clear ht
    go_upto_region 9 with (fail)
    clear c12
    have C := H4.out.cells
    have c15 := C.c15
    have c16 := C.c16
    clear C
    obtain ⟨A4, k4, rfl, hz4, hy4⟩ := O4.out.str
    have HZ := Lib.hid hz4
    have HY := Lib.hid hy4
    obtain ⟨L, hL⟩ : ∃ L, (f.dst ++ f.src) = L := ⟨_, rfl⟩
    have hLl : L.length = 12 := by rw [← hL]; simp [dig_len, Fr.dst, Fr.src]
    have HLL := Lib.hid hL
    rw [hL] at HY ⊢
    have hadd : ∀ W : World, (Op.stringOp .add ⟨(L ++ dig 2 f.ty.toNat).toArray⟩ ⟨f.data.toArray⟩).run Try.prog W = .ok (.string ⟨(L ++ dig 2 f.ty.toNat ++ f.data).toArray⟩) W := fun W => run_string_add_lists W _ _ (by simp [dig_len, hLl]) (by have := HDL.out; omega)
    have HBd : Hid (Below w.heap.size w w4.drew) := Lib.hid (Below.drew B4.out)
    have HPUT : Hid (∀ W' : World, Below w4.heap.size w4 W' → Calls Try.prog 43 #[.slice A4 12 k4, .int .u16 f.ty.toNat] W' fun e w' => ∃ v, e = .returned v ∧ OwnB w' W'.heap.size v (L ++ dig 2 f.ty.toNat) ∧ Below W'.heap.size W' w') := Lib.hid (fun W' hb => by
      have := put16_any (w := W') A4 k4 L (f.ty.toNat : Int) (HY.out.below hb) HZ.out (by omega) (by omega) (by have := f.ty.toNat_lt; omega)
      rwa [Int.toNat_natCast, hLl] at this)
    clear hz4 hy4 O4 H4 hL
    have d15 : w4.drew.cell? ⟨w.heap.size, 15, none⟩ = some (.int .u16 f.ty.toNat) := c15
    have d16 : w4.drew.cell? ⟨w.heap.size, 16, none⟩ = some (.string ⟨f.data.toArray⟩) := c16
    go_region_law ((go_simp; go_at_call 43; refine (HPUT.out _ (Below.drew (Below.refl _ _))).mono ?_; rintro r w_ ⟨v_, rfl, ho_, hb_⟩; have hcv_ := ho_.str.conv; have k16 := keep1 d16 hb_; have kB := keepB HBd hb_; clear hb_ ho_))
    all_goals (
      have HL3 : Hid (fputV f = L ++ (dig 2 f.ty.toNat ++ f.data)) := Lib.hid (by rw [HV.out.1, ← HLL.out]; unfold fbytes fhead; rw [HT.out]; simp)
      have HB_ := Lib.hid kB.out
      clear hadd kB
      go_wp2
      exact bodyPost_ret (v := .tuple #[.string ⟨(L ++ (dig 2 f.ty.toNat ++ f.data)).toArray⟩, .int .i64 0]) (by simp [results, Try.results30, go_sem]) rfl ⟨by rw [HL3.out, HV.out.2], HB_.out⟩)
  · have HT := Lib.hid ht
    have hp : f.pri.toNat ≤ 7 ∧ f.vid.toNat ≤ 4095 := by have := HM.out; rw [fmay_tag f ht] at this; simpa using this
    rw [ht] at c12
    clear ht
    obtain ⟨A4, k4, rfl, hz4, hy4⟩ := O4.out.str
    go_wp2_with fail
    refine (put16_any A4 k4 (f.dst ++ f.src) 33024 hy4 hz4 (by simp [Fr.dst, Fr.src]) (by omega) (by omega)).mono ?_
    rw [show ((33024 : Int)).toNat = 33024 from rfl]
    rintro r w5 ⟨v5, rfl, ho5, hb5⟩
    have H5 := Lib.hid (H4.out.next hb5)
    have B5 : Hid (Below w.heap.size w w5) := Lib.hid (B4.out.trans (hb5.mono B4.out.size))
    have O5 := Lib.hid ho5
    clear hy4 hz4 hb5 ho5 c12 H4 B4 O4
    have c13 := H5.out.cells.c13
    have c14 := H5.out.cells.c14
    obtain ⟨A5, k5, rfl, hz5, hy5⟩ := O5.out.str
    have hp1 : (f.pri.toNat : Int) ≤ 7 := by omega
    have hp2 : (f.vid.toNat : Int) ≤ 4095 := by omega
    go_wp2_with fail
    refine (put16_any A5 k5 (f.dst ++ f.src ++ dig 2 33024) _ hy5 hz5 (by simp [Fr.dst, Fr.src, dig_len]) (by omega) (by omega)).mono ?_
    rw [show ((f.pri.toNat : Int) * 8192 + (f.vid.toNat : Int)).toNat = f.pri.toNat * 8192 + f.vid.toNat by omega]
    rintro r w6 ⟨v6, rfl, ho6, hb6⟩
    have H6 := Lib.hid (H5.out.next hb6)
    have B6 : Hid (Below w.heap.size w w6) := Lib.hid (B5.out.trans (hb6.mono B5.out.size))
    have O6 := Lib.hid ho6
    clear hy5 hz5 hb6 ho6 c13 c14 H5 B5 O5 hp hp1 hp2
    go_upto_region 9 with (fail)
    have C := H6.out.cells
    have c15 := C.c15
    have c16 := C.c16
    clear C
    obtain ⟨A6, k6, rfl, hz6, hy6⟩ := O6.out.str
    have HZ := Lib.hid hz6
    have HY := Lib.hid hy6
    obtain ⟨L, hL⟩ : ∃ L, (f.dst ++ f.src ++ dig 2 33024 ++ dig 2 (f.pri.toNat * 8192 + f.vid.toNat)) = L := ⟨_, rfl⟩
    have hLl : L.length = 16 := by rw [← hL]; simp [dig_len, Fr.dst, Fr.src]
    have HLL := Lib.hid hL
    rw [hL] at HY ⊢
    have hadd : ∀ W : World, (Op.stringOp .add ⟨(L ++ dig 2 f.ty.toNat).toArray⟩ ⟨f.data.toArray⟩).run Try.prog W = .ok (.string ⟨(L ++ dig 2 f.ty.toNat ++ f.data).toArray⟩) W := fun W => run_string_add_lists W _ _ (by simp [dig_len, hLl]) (by have := HDL.out; omega)
    have HBd : Hid (Below w.heap.size w w6.drew) := Lib.hid (Below.drew B6.out)
    have HPUT : Hid (∀ W' : World, Below w6.heap.size w6 W' → Calls Try.prog 43 #[.slice A6 16 k6, .int .u16 f.ty.toNat] W' fun e w' => ∃ v, e = .returned v ∧ OwnB w' W'.heap.size v (L ++ dig 2 f.ty.toNat) ∧ Below W'.heap.size W' w') := Lib.hid (fun W' hb => by
      have := put16_any (w := W') A6 k6 L (f.ty.toNat : Int) (HY.out.below hb) HZ.out (by omega) (by omega) (by have := f.ty.toNat_lt; omega)
      rwa [Int.toNat_natCast, hLl] at this)
    clear hz6 hy6 O6 H6 hL
    have d15 : w6.drew.cell? ⟨w.heap.size, 15, none⟩ = some (.int .u16 f.ty.toNat) := c15
    have d16 : w6.drew.cell? ⟨w.heap.size, 16, none⟩ = some (.string ⟨f.data.toArray⟩) := c16
    go_region_law ((go_simp; go_at_call 43; refine (HPUT.out _ (Below.drew (Below.refl _ _))).mono ?_; rintro r w_ ⟨v_, rfl, ho_, hb_⟩; have hcv_ := ho_.str.conv; have k16 := keep1 d16 hb_; have kB := keepB HBd hb_; clear hb_ ho_))
    all_goals (
      have HL3 : Hid (fputV f = L ++ (dig 2 f.ty.toNat ++ f.data)) := Lib.hid (by rw [HV.out.1, ← HLL.out]; unfold fbytes fhead; rw [HT.out]; simp)
      have HB_ := Lib.hid kB.out
      clear hadd kB
      go_wp2
      exact bodyPost_ret (v := .tuple #[.string ⟨(L ++ (dig 2 f.ty.toNat ++ f.data)).toArray⟩, .int .i64 0]) (by simp [results, Try.results30, go_sem]) rfl ⟨by rw [HL3.out, HV.out.2], HB_.out⟩)

end Go.Proofs.Yteiopobkbfancaa
