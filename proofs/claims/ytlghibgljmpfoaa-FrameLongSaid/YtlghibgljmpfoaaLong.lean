/- FrameLong: a frame of as many bytes as may be is put, of one more it is not, nor taken: for every frame, without a condition. -/
import Derived.Test.YtlghibgljmpfoaaFramePut
import Derived.Test.YtlghibgljmpfoaaFrameTake
import Derived.Test.YtlghibgljmpfoaaWakes
import Derived.OpenShut
import Derived.ShutString
import Derived.ChangeOld
import Derived.Deep.DeepCutAuto
namespace Go.Proofs.Ytlghibgljmpfoaa.frameLong
open Go.ChangeShapes Go.WideShapes Go.ChangeAt Go.RowKit
open Go.ChangeMaps (open_string shut_string)
set_option linter.unusedVariables false
set_option linter.unusedSimpArgs false

theorem made_zero (n : Nat) : (madeCells (Value.int .u8 0).cells n).toList = bvals (List.replicate n 0) := by
  rw [show (Value.int .u8 0).cells = #[Value.int .u8 0] from rfl, toList_madeCells_one]
  simp [bvals, bval]
theorem may_bare (f : Fr) (ht : f.tag = false) (d : List UInt8) : fmay { f with pri := 0, vid := 0, ty := 2048, data := d } = true := by
  unfold fmay
  simp [ht]
theorem may_tagged (f : Fr) (ht : f.tag = true) (p : UInt8) (v : UInt16) (d : List UInt8) (hp : p.toNat ≤ 7) (hv : v.toNat ≤ 4095) : fmay { f with pri := p, vid := v, data := d } = true := by
  unfold fmay
  simp [ht, hp, hv]
theorem FrA.grown {w w' : World} {g : Nat} {f : Fr} (h : FrA w g f) (hg : w.grownBy w' none) : FrA w' g f := by
  have hc := Chg.of_grown (S := fun _ => False) hg (fun k hk => by cases hk)
  exact Blk.chg h hc id
set_option maxRecDepth 100000 in
set_option maxHeartbeats 4000000 in
theorem walkF (W : World) (f : Fr) :
    Calls Try.prog 5 #[FV f] W fun e w' => e = .returned (.bool true) ∧ Below W.heap.size W w' := by
  have H0 := Lib.hid (FrA.new W f)
  have B0 := Lib.hid ((Below.refl W.heap.size W).alloc (Nat.le_refl _) (.cells #[.int .u8 f.d0.toNat, .int .u8 f.d1.toNat, .int .u8 f.d2.toNat, .int .u8 f.d3.toNat, .int .u8 f.d4.toNat, .int .u8 f.d5.toNat, .int .u8 f.s0.toNat, .int .u8 f.s1.toNat, .int .u8 f.s2.toNat, .int .u8 f.s3.toNat, .int .u8 f.s4.toNat, .int .u8 f.s5.toNat, .bool f.tag, .int .u8 f.pri.toNat, .int .u16 f.vid.toNat, .int .u16 f.ty.toNat, .string ⟨f.data.toArray⟩] 26))
  have e13 : (f.pri.toNat : Int) % 8 = ((UInt8.ofNat (f.pri.toNat % 8)).toNat : Int) := by simp; omega
  have e14 : (f.vid.toNat : Int) % 4096 = ((UInt16.ofNat (f.vid.toNat % 4096)).toNat : Int) := by simp; omega
  have hp8 : (UInt8.ofNat (f.pri.toNat % 8)).toNat ≤ 7 := by simp; omega
  have hv12 : (UInt16.ofNat (f.vid.toNat % 4096)).toNat ≤ 4095 := by simp; omega
  generalize UInt8.ofNat (f.pri.toNat % 8) = p8 at *
  generalize UInt16.ofNat (f.vid.toNat % 4096) = v12 at *
  have E13 := Lib.hid e13
  have E14 := Lib.hid e14
  have HP8 := Lib.hid hp8
  have HV12 := Lib.hid hv12
  clear e13 e14 hp8 hv12
  go_enter Try.func5, Try.ntmps5
  go_upto_region 1 with (fail)
  generalize W.alloc (.cells #[.int .u8 f.d0.toNat, .int .u8 f.d1.toNat, .int .u8 f.d2.toNat, .int .u8 f.d3.toNat, .int .u8 f.d4.toNat, .int .u8 f.d5.toNat, .int .u8 f.s0.toNat, .int .u8 f.s1.toNat, .int .u8 f.s2.toNat, .int .u8 f.s3.toNat, .int .u8 f.s4.toNat, .int .u8 f.s5.toNat, .bool f.tag, .int .u8 f.pri.toNat, .int .u16 f.vid.toNat, .int .u16 f.ty.toNat, .string ⟨f.data.toArray⟩] 26) = w0 at *
  have c13 : w0.cell? ⟨W.heap.size, 13, none⟩ = _ := H0.out.cells.c13
  have f13 : w0.frozen? ⟨W.heap.size, 13, none⟩ = false := H0.out.frozen 13
  go_upto_region 2 with (fail)
  rw [E13.out]
  have H1 := Lib.hid (H0.out.setPri p8)
  have B1 : Hid (Below W.heap.size W (w0.setCell ⟨W.heap.size, 13, none⟩ (.int .u8 p8.toNat))) := Lib.hid (B0.out.setCell (Nat.le_refl _) _)
  clear H0 B0 c13 f13
  generalize w0.setCell ⟨W.heap.size, 13, none⟩ (.int .u8 p8.toNat) = w1 at *
  have c14 : w1.cell? ⟨W.heap.size, 14, none⟩ = _ := H1.out.cells.c14
  have f14 : w1.frozen? ⟨W.heap.size, 14, none⟩ = false := H1.out.frozen 14
  go_upto_region 3 with (fail)
  rw [E14.out]
  have H2 := Lib.hid (H1.out.setVid v12)
  have B2 : Hid (Below W.heap.size W (w1.setCell ⟨W.heap.size, 14, none⟩ (.int .u16 v12.toNat))) := Lib.hid (B1.out.setCell (Nat.le_refl _) _)
  clear H1 B1 c14 f14
  generalize w1.setCell ⟨W.heap.size, 14, none⟩ (.int .u16 v12.toNat) = w2 at *
  have c12 : w2.cell? ⟨W.heap.size, 12, none⟩ = _ := H2.out.cells.c12
  have f12 : w2.frozen? ⟨W.heap.size, 12, none⟩ = false := H2.out.frozen 12
  cases ht : f.tag
  · rw [ht] at c12
    have HT := Lib.hid ht
    clear ht f12
    have c13 : w2.cell? ⟨W.heap.size, 13, none⟩ = _ := H2.out.cells.c13
    have f13 : w2.frozen? ⟨W.heap.size, 13, none⟩ = false := H2.out.frozen 13
    go_upto_region 5 with (fail)
    clear c12
    have H3 : Hid (FrA (w2.setCell ⟨W.heap.size, 13, none⟩ (.int .u8 0)) W.heap.size ({ f with pri := 0, vid := v12 })) := Lib.hid (H2.out.setPri 0)
    have B3 : Hid (Below W.heap.size W (w2.setCell ⟨W.heap.size, 13, none⟩ (.int .u8 0))) := Lib.hid (B2.out.setCell (Nat.le_refl _) _)
    clear H2 B2 c13 f13
    generalize w2.setCell ⟨W.heap.size, 13, none⟩ (.int .u8 0) = w3 at *
    have c14 : w3.cell? ⟨W.heap.size, 14, none⟩ = _ := H3.out.cells.c14
    have f14 : w3.frozen? ⟨W.heap.size, 14, none⟩ = false := H3.out.frozen 14
    go_upto_region 6 with (fail)
    have H4 : Hid (FrA (w3.setCell ⟨W.heap.size, 14, none⟩ (.int .u16 0)) W.heap.size ({ f with pri := 0, vid := 0 })) := Lib.hid (H3.out.setVid 0)
    have B4 : Hid (Below W.heap.size W (w3.setCell ⟨W.heap.size, 14, none⟩ (.int .u16 0))) := Lib.hid (B3.out.setCell (Nat.le_refl _) _)
    clear H3 B3 c14 f14
    generalize w3.setCell ⟨W.heap.size, 14, none⟩ (.int .u16 0) = w4 at *
    have c15 : w4.cell? ⟨W.heap.size, 15, none⟩ = _ := H4.out.cells.c15
    have f15 : w4.frozen? ⟨W.heap.size, 15, none⟩ = false := H4.out.frozen 15
    go_upto_region 7 with (fail)
    have H5 : Hid (FrA (w4.setCell ⟨W.heap.size, 15, none⟩ (.int .u16 2048)) W.heap.size ({ f with pri := 0, vid := 0, ty := 2048 })) := Lib.hid (H4.out.setTy 2048)
    have B5 : Hid (Below W.heap.size W (w4.setCell ⟨W.heap.size, 15, none⟩ (.int .u16 2048))) := Lib.hid (B4.out.setCell (Nat.le_refl _) _)
    clear H4 B4 c15 f15
    generalize w4.setCell ⟨W.heap.size, 15, none⟩ (.int .u16 2048) = w5 at *
    have c16 : w5.cell? ⟨W.heap.size, 16, none⟩ = _ := H5.out.cells.c16
    have f16 : w5.frozen? ⟨W.heap.size, 16, none⟩ = false := H5.out.frozen 16
    go_upto_region 8 with (fail)
    have H6 : Hid (FrA (w5.setCell ⟨W.heap.size, 16, none⟩ (.string ⟨#[]⟩)) W.heap.size ({ f with pri := 0, vid := 0, ty := 2048, data := [] })) := Lib.hid (H5.out.setData [])
    have B6 : Hid (Below W.heap.size W (w5.setCell ⟨W.heap.size, 16, none⟩ (.string ⟨#[]⟩))) := Lib.hid (B5.out.setCell (Nat.le_refl _) _)
    clear H5 B5 c16 f16
    generalize w5.setCell ⟨W.heap.size, 16, none⟩ (.string ⟨#[]⟩) = w6 at *
    obtain ⟨g, hg⟩ : ∃ g : Fr, { f with pri := 0, vid := 0, ty := 2048, data := [] } = g := ⟨_, rfl⟩
    have hgl : flen g = 14 := by rw [← hg]; simp [flen, HT.out]
    have hgm : ∀ d, fmay { g with data := d } = true := by intro d; rw [← hg]; exact may_bare f HT.out d
    have hgt : g.tag = false := by rw [← hg]; exact HT.out
    rw [hg] at H6
    have hgd : g.data.length ≤ 8388000 := by rw [← hg]; simp
    have HGL := Lib.hid hgl
    have HGD := Lib.hid hgd
    have HGM := Lib.hid hgm
    have HGT := Lib.hid hgt
    clear hg hgl hgd hgm hgt E13 E14 HP8 HV12 HT
    go_wp2_with (refine wpList_load_frame 1 rfl (by kernel_rfl) (W.heap.size) g rfl (H6.out) ?_)
    refine (len_impl _ g HGD.out).mono ?_
    rw [HGL.out]
    rintro r u1 ⟨rfl, hb1⟩
    have K1 := Lib.hid (H6.out.next hb1)
    have A1 : Hid (Below W.heap.size W u1) := Lib.hid (B6.out.trans (hb1.mono B6.out.size))
    clear hb1 H6 B6
    obtain ⟨Z, hZ⟩ : ∃ Z : List UInt8, List.replicate 1509 0 = Z := ⟨_, rfl⟩
    have hZl : Z.length = 1509 := by rw [← hZ]; simp
    have HZ := Lib.hid hZ
    have HZL := Lib.hid hZl
    clear hZ hZl
    obtain ⟨i, hi, hz0, hz1, hz2⟩ := info_parts u8_info
    go_wp2_with (at_make; refine wpList_make_full _ rfl _ _ 36 rfl W.heap.size 5 i _ 1 Try.underlying36 hi hz0 hz1 _ _ _ _ 1509 rfl rfl rfl rfl (by rw [hz2]; omega) (by simp only [maxLen]; omega) A1.out.size ?_)
    intro u2 hown2 hg2
    have O2 : OwnB u2 W.heap.size (.slice (some ⟨u1.heap.size, 0, none⟩) 1509 1509) Z := by
      unfold OwnB
      rw [HZL.out, ← HZ.out, ← made_zero]
      exact hown2
    have hcv := O2.str.conv
    have A2 : Hid (Below W.heap.size W u2) := Lib.hid (A1.out.grown hg2 A1.out.size (fun k hk => by cases hk))
    have K2 : Hid (FrA u2 W.heap.size g) := Lib.hid (FrA.grown K1.out hg2)
    clear hown2 hg2 O2 A1 K1 hz0 hz1 hz2 hi
    go_upto_region 12 with (fail)
    clear hcv
    have hz1 : 1 ≤ Z.length := by rw [HZL.out]; omega
    have c16 : u2.cell? ⟨W.heap.size, 16, none⟩ = _ := K2.out.cells.c16
    have f16 : u2.frozen? ⟨W.heap.size, 16, none⟩ = false := K2.out.frozen 16
    go_upto_region 13 with (fail)
    rw [show (⟨Z.toArray⟩ : ByteArray).extract 1 Z.length = ⟨Z.tail.toArray⟩ from by rw [extract_drop]; simp]
    have K3 := Lib.hid (K2.out.setData Z.tail)
    have A3 : Hid (Below W.heap.size W (u2.setCell ⟨W.heap.size, 16, none⟩ (.string ⟨Z.tail.toArray⟩))) := Lib.hid (A2.out.setCell (Nat.le_refl _) _)
    clear c16 f16 K2 A2 hz1
    generalize u2.setCell ⟨W.heap.size, 16, none⟩ (.string ⟨Z.tail.toArray⟩) = u3 at *
    have hq1 : ∀ d : List UInt8, flen { g with data := d } = 14 + d.length := by intro d; unfold flen; rw [show ({ g with data := d } : Fr).tag = _ from HGT.out]; simp
    have HQ1 := Lib.hid hq1
    have hp1 : fputE { g with data := Z.tail } = 0 ∧ fputV { g with data := Z.tail } = fbytes { g with data := Z.tail } := by
      have e : fputE { g with data := Z.tail } = 0 := by unfold fputE; rw [HGM.out, hq1]; simp [HZL.out]
      exact ⟨e, by unfold fputV; rw [if_pos e]⟩
    have hp2 : fputE { g with data := Z } = 5 ∧ fputV { g with data := Z } = [] := by
      have e : fputE { g with data := Z } = 5 := by unfold fputE; rw [HGM.out, hq1]; simp [HZL.out]
      exact ⟨e, by unfold fputV; rw [if_neg (by rw [e]; decide)]⟩
    have hvl : (fbytes { g with data := Z.tail }).length = 1522 := by rw [fbytes_len, hq1]; simp [HZL.out]
    obtain ⟨V, hV⟩ : ∃ V, fbytes { g with data := Z.tail } = V := ⟨_, rfl⟩
    rw [hV] at hp1 hvl
    have HP1 := Lib.hid hp1
    have HP2 := Lib.hid hp2
    have HVL := Lib.hid hvl
    have hd1 : Z.tail.length ≤ 8388000 := by simp [HZL.out]
    have hd2 : Z.length ≤ 8388000 := by simp [HZL.out]
    have HD1 := Lib.hid hd1
    have HD2 := Lib.hid hd2
    clear hq1 hp1 hp2 hvl hV hd1 hd2 HGL HGM HGT HGD HZ HQ1
    obtain ⟨g1, hg1⟩ : ∃ g1 : Fr, { g with data := Z.tail } = g1 := ⟨_, rfl⟩
    have hg2 : { g1 with data := Z } = ({ g with data := Z } : Fr) := by rw [← hg1]
    have HG2 := Lib.hid hg2
    have hgd1 : g1.data = Z.tail := by rw [← hg1]
    have HGD1 := Lib.hid hgd1
    rw [hg1] at K3 HP1
    clear hg1 hg2 hgd1
    go_wp2_with (refine wpList_load_frame 1 rfl (by kernel_rfl) (W.heap.size) g1 rfl (K3.out) ?_)
    refine (put_impl _ g1 (by rw [HGD1.out]; exact HD1.out)).mono ?_
    rw [HP1.out.1, HP1.out.2]
    rintro r u4 ⟨rfl, hb4⟩
    have K4 := Lib.hid (K3.out.next hb4)
    have A4 : Hid (Below W.heap.size W u4) := Lib.hid (A3.out.trans (hb4.mono A3.out.size))
    clear hb4 K3 A3 HP1
    have c16 : u4.cell? ⟨W.heap.size, 16, none⟩ = _ := K4.out.cells.c16
    have f16 : u4.frozen? ⟨W.heap.size, 16, none⟩ = false := K4.out.frozen 16
    go_upto_region 15 with (fail)
    have K5 := K4.out.setData Z
    rw [HG2.out] at K5
    have K5 := Lib.hid K5
    have A5 : Hid (Below W.heap.size W (u4.setCell ⟨W.heap.size, 16, none⟩ (.string ⟨Z.toArray⟩))) := Lib.hid (A4.out.setCell (Nat.le_refl _) _)
    clear c16 f16 K4 A4
    generalize u4.setCell ⟨W.heap.size, 16, none⟩ (.string ⟨Z.toArray⟩) = u5 at *
    obtain ⟨g2, hg2⟩ : ∃ g2 : Fr, { g with data := Z } = g2 := ⟨_, rfl⟩
    have hgd2 : g2.data = Z := by rw [← hg2]
    have HGD2 := Lib.hid hgd2
    rw [hg2] at K5 HP2
    clear hg2 hgd2 HG2
    go_wp2_with (refine wpList_load_frame 1 rfl (by kernel_rfl) (W.heap.size) g2 rfl (K5.out) ?_)
    refine (put_impl _ g2 (by rw [HGD2.out]; exact HD2.out)).mono ?_
    rw [HP2.out.1, HP2.out.2]
    rintro r u6 ⟨rfl, hb6⟩
    have A6 : Hid (Below W.heap.size W u6) := Lib.hid (A5.out.trans (hb6.mono A5.out.size))
    clear hb6 K5 A5 HP2 HGD1 HGD2 HD1 HD2 HZL
    have hadd : ∀ w : World, (Op.stringOp .add ⟨V.toArray⟩ ⟨#[120]⟩).run Try.prog w = .ok (.string ⟨(V ++ [120]).toArray⟩) w := fun w => run_string_add_lists w V [120] (by rw [HVL.out]; omega) (by simp)
    obtain ⟨X, hX⟩ : ∃ X, V ++ [120] = X := ⟨_, rfl⟩
    have htk : ftakeE X = 5 ∧ ftakeF X = Fr.zero := by
      have e : ftakeE X = 5 := by unfold ftakeE; rw [if_pos (by rw [← hX]; simp [HVL.out])]
      exact ⟨e, by unfold ftakeF; rw [if_neg (by rw [e]; decide)]⟩
    have hxl : X.length ≤ 8388000 := by rw [← hX]; simp [HVL.out]
    have HTK := Lib.hid htk
    have HXL := Lib.hid hxl
    rw [hX] at hadd
    clear hX htk hxl
    go_wp2_with fail
    refine (take_impl _ X HXL.out).mono ?_
    rw [HTK.out.1, HTK.out.2]
    rintro r u7 ⟨rfl, hb7⟩
    have A7 : Hid (Below W.heap.size W u7) := Lib.hid (A6.out.trans (hb7.mono A6.out.size))
    have K7 := Lib.hid (FrA.zero u7)
    clear hb7 A6 hadd HTK HXL
    have hvl := HVL.out
    go_wp2_with (refine wpList_store_row rfl 26 (.tmp 9) (.tmp 58) rfl u7.heap.size rfl _ rfl 26 _ K7.out (by kernel_rfl) rfl (by kernel_rfl) ?_)
    refine (wakesF put_impl take_impl len_impl _).mono ?_
    rintro r u8 ⟨rfl, hb8⟩
    have A8 : Hid (Below W.heap.size W u8) := Lib.hid ((below_row (A7.out.alloc A7.out.size _) A7.out.size _).trans (hb8.mono (by have := A7.out.size; simp; omega)))
    clear hb8 A7 hvl
    go_wp2
    go_ret
    exact ⟨rfl, A8.out⟩
  · rw [ht] at c12
    have HT := Lib.hid ht
    clear ht f12
    have c16 : w2.cell? ⟨W.heap.size, 16, none⟩ = _ := H2.out.cells.c16
    have f16 : w2.frozen? ⟨W.heap.size, 16, none⟩ = false := H2.out.frozen 16
    go_upto_region 8 with (fail)
    clear c12
    have H3 : Hid (FrA (w2.setCell ⟨W.heap.size, 16, none⟩ (.string ⟨#[]⟩)) W.heap.size ({ f with pri := p8, vid := v12, data := [] })) := Lib.hid (H2.out.setData [])
    have B3 : Hid (Below W.heap.size W (w2.setCell ⟨W.heap.size, 16, none⟩ (.string ⟨#[]⟩))) := Lib.hid (B2.out.setCell (Nat.le_refl _) _)
    clear H2 B2 c16 f16
    generalize w2.setCell ⟨W.heap.size, 16, none⟩ (.string ⟨#[]⟩) = w3 at *
    obtain ⟨g, hg⟩ : ∃ g : Fr, { f with pri := p8, vid := v12, data := [] } = g := ⟨_, rfl⟩
    have hgl : flen g = 18 := by rw [← hg]; simp [flen, HT.out]
    have hgm : ∀ d, fmay { g with data := d } = true := by intro d; rw [← hg]; exact may_tagged f HT.out p8 v12 d HP8.out HV12.out
    have hgt : g.tag = true := by rw [← hg]; exact HT.out
    rw [hg] at H3
    have hgd : g.data.length ≤ 8388000 := by rw [← hg]; simp
    have HGL := Lib.hid hgl
    have HGD := Lib.hid hgd
    have HGM := Lib.hid hgm
    have HGT := Lib.hid hgt
    clear hg hgl hgd hgm hgt E13 E14 HP8 HV12 HT
    go_wp2_with (refine wpList_load_frame 1 rfl (by kernel_rfl) (W.heap.size) g rfl (H3.out) ?_)
    refine (len_impl _ g HGD.out).mono ?_
    rw [HGL.out]
    rintro r u1 ⟨rfl, hb1⟩
    have K1 := Lib.hid (H3.out.next hb1)
    have A1 : Hid (Below W.heap.size W u1) := Lib.hid (B3.out.trans (hb1.mono B3.out.size))
    clear hb1 H3 B3
    obtain ⟨Z, hZ⟩ : ∃ Z : List UInt8, List.replicate 1505 0 = Z := ⟨_, rfl⟩
    have hZl : Z.length = 1505 := by rw [← hZ]; simp
    have HZ := Lib.hid hZ
    have HZL := Lib.hid hZl
    clear hZ hZl
    obtain ⟨i, hi, hz0, hz1, hz2⟩ := info_parts u8_info
    go_wp2_with (at_make; refine wpList_make_full _ rfl _ _ 36 rfl W.heap.size 5 i _ 1 Try.underlying36 hi hz0 hz1 _ _ _ _ 1505 rfl rfl rfl rfl (by rw [hz2]; omega) (by simp only [maxLen]; omega) A1.out.size ?_)
    intro u2 hown2 hg2
    have O2 : OwnB u2 W.heap.size (.slice (some ⟨u1.heap.size, 0, none⟩) 1505 1505) Z := by
      unfold OwnB
      rw [HZL.out, ← HZ.out, ← made_zero]
      exact hown2
    have hcv := O2.str.conv
    have A2 : Hid (Below W.heap.size W u2) := Lib.hid (A1.out.grown hg2 A1.out.size (fun k hk => by cases hk))
    have K2 : Hid (FrA u2 W.heap.size g) := Lib.hid (FrA.grown K1.out hg2)
    clear hown2 hg2 O2 A1 K1 hz0 hz1 hz2 hi
    go_upto_region 12 with (fail)
    clear hcv
    have hz1 : 1 ≤ Z.length := by rw [HZL.out]; omega
    have c16 : u2.cell? ⟨W.heap.size, 16, none⟩ = _ := K2.out.cells.c16
    have f16 : u2.frozen? ⟨W.heap.size, 16, none⟩ = false := K2.out.frozen 16
    go_upto_region 13 with (fail)
    rw [show (⟨Z.toArray⟩ : ByteArray).extract 1 Z.length = ⟨Z.tail.toArray⟩ from by rw [extract_drop]; simp]
    have K3 := Lib.hid (K2.out.setData Z.tail)
    have A3 : Hid (Below W.heap.size W (u2.setCell ⟨W.heap.size, 16, none⟩ (.string ⟨Z.tail.toArray⟩))) := Lib.hid (A2.out.setCell (Nat.le_refl _) _)
    clear c16 f16 K2 A2 hz1
    generalize u2.setCell ⟨W.heap.size, 16, none⟩ (.string ⟨Z.tail.toArray⟩) = u3 at *
    have hq1 : ∀ d : List UInt8, flen { g with data := d } = 18 + d.length := by intro d; unfold flen; rw [show ({ g with data := d } : Fr).tag = _ from HGT.out]; simp
    have HQ1 := Lib.hid hq1
    have hp1 : fputE { g with data := Z.tail } = 0 ∧ fputV { g with data := Z.tail } = fbytes { g with data := Z.tail } := by
      have e : fputE { g with data := Z.tail } = 0 := by unfold fputE; rw [HGM.out, hq1]; simp [HZL.out]
      exact ⟨e, by unfold fputV; rw [if_pos e]⟩
    have hp2 : fputE { g with data := Z } = 5 ∧ fputV { g with data := Z } = [] := by
      have e : fputE { g with data := Z } = 5 := by unfold fputE; rw [HGM.out, hq1]; simp [HZL.out]
      exact ⟨e, by unfold fputV; rw [if_neg (by rw [e]; decide)]⟩
    have hvl : (fbytes { g with data := Z.tail }).length = 1522 := by rw [fbytes_len, hq1]; simp [HZL.out]
    obtain ⟨V, hV⟩ : ∃ V, fbytes { g with data := Z.tail } = V := ⟨_, rfl⟩
    rw [hV] at hp1 hvl
    have HP1 := Lib.hid hp1
    have HP2 := Lib.hid hp2
    have HVL := Lib.hid hvl
    have hd1 : Z.tail.length ≤ 8388000 := by simp [HZL.out]
    have hd2 : Z.length ≤ 8388000 := by simp [HZL.out]
    have HD1 := Lib.hid hd1
    have HD2 := Lib.hid hd2
    clear hq1 hp1 hp2 hvl hV hd1 hd2 HGL HGM HGT HGD HZ HQ1
    obtain ⟨g1, hg1⟩ : ∃ g1 : Fr, { g with data := Z.tail } = g1 := ⟨_, rfl⟩
    have hg2 : { g1 with data := Z } = ({ g with data := Z } : Fr) := by rw [← hg1]
    have HG2 := Lib.hid hg2
    have hgd1 : g1.data = Z.tail := by rw [← hg1]
    have HGD1 := Lib.hid hgd1
    rw [hg1] at K3 HP1
    clear hg1 hg2 hgd1
    go_wp2_with (refine wpList_load_frame 1 rfl (by kernel_rfl) (W.heap.size) g1 rfl (K3.out) ?_)
    refine (put_impl _ g1 (by rw [HGD1.out]; exact HD1.out)).mono ?_
    rw [HP1.out.1, HP1.out.2]
    rintro r u4 ⟨rfl, hb4⟩
    have K4 := Lib.hid (K3.out.next hb4)
    have A4 : Hid (Below W.heap.size W u4) := Lib.hid (A3.out.trans (hb4.mono A3.out.size))
    clear hb4 K3 A3 HP1
    have c16 : u4.cell? ⟨W.heap.size, 16, none⟩ = _ := K4.out.cells.c16
    have f16 : u4.frozen? ⟨W.heap.size, 16, none⟩ = false := K4.out.frozen 16
    go_upto_region 15 with (fail)
    have K5 := K4.out.setData Z
    rw [HG2.out] at K5
    have K5 := Lib.hid K5
    have A5 : Hid (Below W.heap.size W (u4.setCell ⟨W.heap.size, 16, none⟩ (.string ⟨Z.toArray⟩))) := Lib.hid (A4.out.setCell (Nat.le_refl _) _)
    clear c16 f16 K4 A4
    generalize u4.setCell ⟨W.heap.size, 16, none⟩ (.string ⟨Z.toArray⟩) = u5 at *
    obtain ⟨g2, hg2⟩ : ∃ g2 : Fr, { g with data := Z } = g2 := ⟨_, rfl⟩
    have hgd2 : g2.data = Z := by rw [← hg2]
    have HGD2 := Lib.hid hgd2
    rw [hg2] at K5 HP2
    clear hg2 hgd2 HG2
    go_wp2_with (refine wpList_load_frame 1 rfl (by kernel_rfl) (W.heap.size) g2 rfl (K5.out) ?_)
    refine (put_impl _ g2 (by rw [HGD2.out]; exact HD2.out)).mono ?_
    rw [HP2.out.1, HP2.out.2]
    rintro r u6 ⟨rfl, hb6⟩
    have A6 : Hid (Below W.heap.size W u6) := Lib.hid (A5.out.trans (hb6.mono A5.out.size))
    clear hb6 K5 A5 HP2 HGD1 HGD2 HD1 HD2 HZL
    have hadd : ∀ w : World, (Op.stringOp .add ⟨V.toArray⟩ ⟨#[120]⟩).run Try.prog w = .ok (.string ⟨(V ++ [120]).toArray⟩) w := fun w => run_string_add_lists w V [120] (by rw [HVL.out]; omega) (by simp)
    obtain ⟨X, hX⟩ : ∃ X, V ++ [120] = X := ⟨_, rfl⟩
    have htk : ftakeE X = 5 ∧ ftakeF X = Fr.zero := by
      have e : ftakeE X = 5 := by unfold ftakeE; rw [if_pos (by rw [← hX]; simp [HVL.out])]
      exact ⟨e, by unfold ftakeF; rw [if_neg (by rw [e]; decide)]⟩
    have hxl : X.length ≤ 8388000 := by rw [← hX]; simp [HVL.out]
    have HTK := Lib.hid htk
    have HXL := Lib.hid hxl
    rw [hX] at hadd
    clear hX htk hxl
    go_wp2_with fail
    refine (take_impl _ X HXL.out).mono ?_
    rw [HTK.out.1, HTK.out.2]
    rintro r u7 ⟨rfl, hb7⟩
    have A7 : Hid (Below W.heap.size W u7) := Lib.hid (A6.out.trans (hb7.mono A6.out.size))
    have K7 := Lib.hid (FrA.zero u7)
    clear hb7 A6 hadd HTK HXL
    have hvl := HVL.out
    go_wp2_with (refine wpList_store_row rfl 26 (.tmp 9) (.tmp 58) rfl u7.heap.size rfl _ rfl 26 _ K7.out (by kernel_rfl) rfl (by kernel_rfl) ?_)
    refine (wakesF put_impl take_impl len_impl _).mono ?_
    rintro r u8 ⟨rfl, hb8⟩
    have A8 : Hid (Below W.heap.size W u8) := Lib.hid ((below_row (A7.out.alloc A7.out.size _) A7.out.size _).trans (hb8.mono (by have := A7.out.size; simp; omega)))
    clear hb8 A7 hvl
    go_wp2
    go_ret
    exact ⟨rfl, A8.out⟩
set_option maxRecDepth 100000 in
set_option maxHeartbeats 4000000 in
theorem walk {H : Type} {enc : TypeId × Value → H} (W : World) (base : Nat) {v0 : Value} {d0 : DataW H} {p0 : List MemPlace}
    (o0 : Value.okWide Try.prog W .any base 26 v0) (h0 : DataW.Trod enc Try.prog W 0 (fun _ => true) true 26 v0 d0 p0) :
    Calls Try.prog 5 #[v0] W fun e w' => e = .returned (.bool true) ∧ Below W.heap.size W w' := by
  obtain ⟨f, rfl⟩ := open_frame o0
  exact walkF W f

theorem own : ownKnob Try.prog.godebug = none := by kernel_rfl
theorem laidOut : laidOutB Try.prog = true := by kernel_rfl
set_option maxRecDepth 100000 in
theorem lifted (os : Os) (started : os.Started) (H : Type) (enc : TypeId × Value → H) :
    ReturnsInHanded {} Try.checked os 5 .any (Rows.frameLongSpec.pre6 enc Try.prog Try.f5 Rows.frameLongRow.domain false) (Rows.frameLongSpec.post enc Try.prog Try.f5 false true false false) := by
  refine returnsInHanded_of_change (C := Try.checked) own started (by kernel_rfl) Try.func5
    (ChangeSpec.witness6 (enc := enc) (C := Try.checked) false ⟨#[], #[.agg #[.int .u8 0, .int .u8 0, .int .u8 0, .int .u8 0, .int .u8 0, .int .u8 0, .int .u8 0, .int .u8 0, .int .u8 0, .int .u8 0, .int .u8 0, .int .u8 0, .bool false, .int .u8 0, .int .u16 0, .int .u16 0, .string ⟨#[]⟩]], []⟩ 8 (by kernel_rfl) (by kernel_rfl) (by kernel_rfl) (by kernel_rfl)) ?_
  intro W base args ds gs before hval0 hW hcnd _
  have hval : ∀ (j : Nat) t v, Try.f5.params[j]? = some t → args[j]? = some v → Value.okWide Try.prog W .any base t v := hval0
  have hW' := hW
  obtain ⟨p, q, hA0, hV, rfl, hfz, hnd⟩ := hW
  have hA : DataW.TrodAll enc Try.prog W 0 (fun _ => true) true Try.f5.params.toList args.toList ds p := hA0
  rw [Try.params5] at hA hval
  obtain ⟨v0, vs0, d0, ds0, p0, q0, hargs, rfl, rfl, h0, r0⟩ := trodAll_cons hA
  obtain ⟨rfl, rfl, rfl⟩ := trodAll_nil r0
  obtain rfl : args = #[v0] := by cases args; simp_all
  obtain ⟨rfl, rfl⟩ := trodVars_none hV
  have o0 := hval 0 26 v0 rfl rfl
  have lt0 : ∀ x ∈ p0, x.block < W.heap.size := by obtain ⟨m, hm⟩ := h0; exact DataW.trod_lt m _ _ _ hm
  clear hA0 hval0
  refine (walk W base o0 h0).mono fun e W' ⟨he, bel⟩ => ?_
  subst he
  exact ⟨_, rfl, _, _, _, [], _, [], hW', trodAll_mk1 (shut_bool Try.underlying4 _), (trodAll_cons_mk (Below.trod laidOut (by kernel_rfl) (of_decide_eq_true (by kernel_rfl)) h0 bel lt0) trodAll_mk0), rfl, bel.frame _, fun h => by cases h⟩

theorem over : Rows.frameLongRow.holds Try.pinned (OpenSpec.ofChange Rows.frameLongSpec) :=
  OpenClaim.holds_of_wide 5 Try.f5 rfl rfl rfl rfl rfl rfl rfl ⟨rfl, rfl, rfl, rfl, rfl⟩ rfl rfl rfl rfl rfl (by kernel_rfl) Try.func5 (by kernel_rfl)
    (of_decide_eq_true (by kernel_rfl)) (by unfold Func.isWrapper; first | (rw [if_pos (by decide +kernel)]; kernel_rfl) | (rw [if_neg (by decide +kernel)]; exact ⟨rfl, rfl⟩))
    (fun os started H enc _ => lifted os started H enc)

/-- THE STATEMENT -/
theorem proved : Rows.FrameLongSaid := over
end Go.Proofs.Ytlghibgljmpfoaa.frameLong
