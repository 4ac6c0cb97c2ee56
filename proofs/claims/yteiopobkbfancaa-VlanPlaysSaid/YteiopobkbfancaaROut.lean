/- Layer 7: the document's Out. -/
import Derived.Test.YteiopobkbfancaaRIn
namespace Go.Proofs.Yteiopobkbfancaa
open Go.RowKit
set_option linter.unusedVariables false
set_option linter.unusedSimpArgs false
set_option maxRecDepth 100000

theorem has8_big {s p : UInt8} (h : 7 < p.toNat) : has8 s p = false := by
  unfold has8
  have e2 : s.toNat / 2 ^ p.toNat = 0 := Nat.div_eq_of_lt (Nat.lt_of_lt_of_le (show s.toNat < 2 ^ 8 from s.toNat_lt) (Nat.pow_le_pow_right (by decide) h))
  rw [e2]
  rfl
set_option maxRecDepth 100000 in
set_option maxHeartbeats 3000000 in
theorem dout_any {w : World} {cs : Array Value} {N c : Nat} {A : Option Addr} {L : List Vn} {own : List UInt16} (hv : DTV cs N A c L own) (hE : Els 3 encN w A L) (h8 : L.length ≤ 8) (p : UInt8) (v : UInt16) (f : Fr) (hd : f.data.length ≤ 8388000) :
    Calls Try.prog 16 #[.agg cs, .int .u8 p.toNat, .int .u16 v.toNat, FV f] w fun e w' => e = .returned (.tuple #[FV (voutF L p v f), .bool (voutB L p v f)]) ∧ Below w.heap.size w w' := by
  obtain ⟨w1, hw1⟩ : ∃ w1, ((w.alloc (.cells cs 36)).alloc (.cells #[.int .u8 f.d0.toNat, .int .u8 f.d1.toNat, .int .u8 f.d2.toNat, .int .u8 f.d3.toNat, .int .u8 f.d4.toNat, .int .u8 f.d5.toNat, .int .u8 f.s0.toNat, .int .u8 f.s1.toNat, .int .u8 f.s2.toNat, .int .u8 f.s3.toNat, .int .u8 f.s4.toNat, .int .u8 f.s5.toNat, .bool f.tag, .int .u8 f.pri.toNat, .int .u16 f.vid.toNat, .int .u16 f.ty.toNat, .string ⟨f.data.toArray⟩] 27)).alloc (.cells #[.int .u8 0, .int .u8 0, .int .u8 0, .int .u8 0, .int .u8 0, .int .u8 0, .int .u8 0, .int .u8 0, .int .u8 0, .int .u8 0, .int .u8 0, .int .u8 0, .bool false, .int .u8 0, .int .u16 0, .int .u16 0, .string ⟨#[]⟩] 27) = w1 := ⟨_, rfl⟩
  obtain ⟨g, hg⟩ : ∃ g, w.heap.size = g := ⟨_, rfl⟩
  obtain ⟨r, hr⟩ : ∃ r, g + 1 + 1 = r := ⟨_, rfl⟩
  have HRR := Lib.hid hr
  have HB := Lib.hid (show Below w.heap.size w w1 by rw [← hw1]; exact (((Below.refl w.heap.size w).alloc (Nat.le_refl _) _).alloc (by simp) _).alloc (by simp; omega) _)
  have HD := Lib.hid (show DT w1 g cs N A c L own from ⟨by rw [← hw1, ← hg]; exact ((Blk.new w _ _).alloc _).alloc _, hv⟩)
  have HF := Lib.hid (show FrA w1 (g + 1) f by rw [← hw1, ← hg]; have := (FrA.new (w.alloc (.cells cs 36)) f).alloc (.cells #[.int .u8 0, .int .u8 0, .int .u8 0, .int .u8 0, .int .u8 0, .int .u8 0, .int .u8 0, .int .u8 0, .int .u8 0, .int .u8 0, .int .u8 0, .int .u8 0, .bool false, .int .u8 0, .int .u16 0, .int .u16 0, .string ⟨#[]⟩] 27); simpa using this)
  have HZ := Lib.hid (show Blk w1 r 27 #[.int .u8 0, .int .u8 0, .int .u8 0, .int .u8 0, .int .u8 0, .int .u8 0, .int .u8 0, .int .u8 0, .int .u8 0, .int .u8 0, .int .u8 0, .int .u8 0, .bool false, .int .u8 0, .int .u16 0, .int .u16 0, .string ⟨#[]⟩] by rw [← hw1, ← hr, ← hg]; have := Blk.new ((w.alloc (.cells cs 36)).alloc (.cells #[.int .u8 f.d0.toNat, .int .u8 f.d1.toNat, .int .u8 f.d2.toNat, .int .u8 f.d3.toNat, .int .u8 f.d4.toNat, .int .u8 f.d5.toNat, .int .u8 f.s0.toNat, .int .u8 f.s1.toNat, .int .u8 f.s2.toNat, .int .u8 f.s3.toNat, .int .u8 f.s4.toNat, .int .u8 f.s5.toNat, .bool f.tag, .int .u8 f.pri.toNat, .int .u16 f.vid.toNat, .int .u16 f.ty.toNat, .string ⟨f.data.toArray⟩] 27)) 27 #[.int .u8 0, .int .u8 0, .int .u8 0, .int .u8 0, .int .u8 0, .int .u8 0, .int .u8 0, .int .u8 0, .int .u8 0, .int .u8 0, .int .u8 0, .int .u8 0, .bool false, .int .u8 0, .int .u16 0, .int .u16 0, .string ⟨#[]⟩]; simpa using this)
  have HE := Lib.hid (hE.next HB.out)
  have HG := Lib.hid hg
  have hdl := Lib.hid hd
  have H8 : Hid (L.length ≤ 1000) := Lib.hid (by omega)
  clear hv hE hd h8
  go_enter Try.func16, Try.ntmps16
  go_upto_region 1 with fail
  clear hw1 hg hr
  go_wp2_with (refine wpList_load_dt 4 rfl (by kernel_rfl) g rfl _ HD.out.blk HD.out.v.sz ?_)
  refine (find_any HD.out.v HE.out H8.out v).mono ?_
  rintro e w2 ⟨z, rfl, hz, hb⟩
  have HD2 := Lib.hid (HD.out.next hb)
  have HE2 := Lib.hid (HE.out.next hb)
  have HF2 := Lib.hid (HF.out.next hb)
  have HZ2 := Lib.hid (HZ.out.below hb HZ.out.lt)
  have HB2 : Hid (Below w.heap.size w w2) := Lib.hid (HB.out.trans (hb.mono HB.out.size))
  clear hb HD HE HF HZ HB
  rcases hz with ⟨hh, rfl⟩ | ⟨k, x, rfl, hx, hf⟩
  · have HV := Lib.hid (vout_no (f := f) (p := p) (show has8 (vm L v) p = false by rw [vm_none hh]; simp [has8]))
    clear hh
    go_upto_region 3 with fail
    go_wp2_with (refine wpList_store_row rfl 27 (.tmp 8) _ rfl r rfl #[.int .u8 0, .int .u8 0, .int .u8 0, .int .u8 0, .int .u8 0, .int .u8 0, .int .u8 0, .int .u8 0, .int .u8 0, .int .u8 0, .int .u8 0, .int .u8 0, .bool false, .int .u8 0, .int .u16 0, .int .u16 0, .string ⟨#[]⟩] rfl 27 _ HZ2.out (by kernel_rfl) rfl (by kernel_rfl) ?_)
    rw [HV.out.1, HV.out.2]
    have HR := Lib.hid (HZ2.out.row #[.int .u8 0, .int .u8 0, .int .u8 0, .int .u8 0, .int .u8 0, .int .u8 0, .int .u8 0, .int .u8 0, .int .u8 0, .int .u8 0, .int .u8 0, .int .u8 0, .bool false, .int .u8 0, .int .u16 0, .int .u16 0, .string ⟨#[]⟩])
    refine bodyPost_ret (v := .tuple #[FV Fr.zero, .bool false]) (results_cell_slot Try.results16 _ _ r 27 _ _ rfl HR.out Try.underlying27 rfl (by kernel_rfl) _ rfl) rfl ⟨rfl, below_row HB2.out (by have h1 := HG.out; have h2 := HRR.out; show w.heap.size ≤ _; omega) _⟩
  · have hm : vm L v = x.m := by unfold vm; rw [hf]
    have hu : vu L v = x.u := by unfold vu; rw [hf]
    by_cases hp : 7 < p.toNat
    · have HV := Lib.hid (vout_no (f := f) (L := L) (v := v) (has8_big hp))
      have hp' : (7 : Int) < (p.toNat : Int) := by omega
      clear hx hf hm hu
      go_upto_region 3 with fail
      go_wp2_with (refine wpList_store_row rfl 27 (.tmp 8) _ rfl r rfl #[.int .u8 0, .int .u8 0, .int .u8 0, .int .u8 0, .int .u8 0, .int .u8 0, .int .u8 0, .int .u8 0, .int .u8 0, .int .u8 0, .int .u8 0, .int .u8 0, .bool false, .int .u8 0, .int .u16 0, .int .u16 0, .string ⟨#[]⟩] rfl 27 _ HZ2.out (by kernel_rfl) rfl (by kernel_rfl) ?_)
      rw [HV.out.1, HV.out.2]
      have HR := Lib.hid (HZ2.out.row #[.int .u8 0, .int .u8 0, .int .u8 0, .int .u8 0, .int .u8 0, .int .u8 0, .int .u8 0, .int .u8 0, .int .u8 0, .int .u8 0, .int .u8 0, .int .u8 0, .bool false, .int .u8 0, .int .u16 0, .int .u16 0, .string ⟨#[]⟩])
      refine bodyPost_ret (v := .tuple #[FV Fr.zero, .bool false]) (results_cell_slot Try.results16 _ _ r 27 _ _ rfl HR.out Try.underlying27 rfl (by kernel_rfl) _ rfl) rfl ⟨rfl, below_row HB2.out (by have h1 := HG.out; have h2 := HRR.out; show w.heap.size ≤ _; omega) _⟩
    · have hkl : k < L.length := (List.getElem?_eq_some_iff.1 hx).1
      obtain ⟨b, off, rfl, hb, e0, e1, e2⟩ := els_vn HE2.out hx
      have c1 := HD2.out.c1
      obtain ⟨n, hn⟩ : ∃ n, L.length = n := ⟨_, rfl⟩
      rw [hn] at c1 hkl
      have hkn : (k : Int) < n := by omega
      have hp' : ¬ ((7 : Int) < (p.toNat : Int)) := by omega
      rw [← hm] at e1
      rw [← hu] at e2
      clear hx hf hn e0 hm hu hp hkl
      go_wp2_with fail
      refine (has7_any (vm L v) p).mono ?_
      cases hq : has8 (vm L v) p
      · have HV := Lib.hid (vout_no (f := f) hq)
        clear hq
        rintro e w3 ⟨rfl, rfl⟩
        clear e1 e2 c1
        go_upto_region 3 with fail
        go_wp2_with (refine wpList_store_row rfl 27 (.tmp 8) _ rfl r rfl #[.int .u8 0, .int .u8 0, .int .u8 0, .int .u8 0, .int .u8 0, .int .u8 0, .int .u8 0, .int .u8 0, .int .u8 0, .int .u8 0, .int .u8 0, .int .u8 0, .bool false, .int .u8 0, .int .u16 0, .int .u16 0, .string ⟨#[]⟩] rfl 27 _ HZ2.out (by kernel_rfl) rfl (by kernel_rfl) ?_)
        rw [HV.out.1, HV.out.2]
        have HR := Lib.hid (HZ2.out.row #[.int .u8 0, .int .u8 0, .int .u8 0, .int .u8 0, .int .u8 0, .int .u8 0, .int .u8 0, .int .u8 0, .int .u8 0, .int .u8 0, .int .u8 0, .int .u8 0, .bool false, .int .u8 0, .int .u16 0, .int .u16 0, .string ⟨#[]⟩])
        refine bodyPost_ret (v := .tuple #[FV Fr.zero, .bool false]) (results_cell_slot Try.results16 _ _ r 27 _ _ rfl HR.out Try.underlying27 rfl (by kernel_rfl) _ rfl) rfl ⟨rfl, below_row HB2.out (by have h1 := HG.out; have h2 := HRR.out; show w.heap.size ≤ _; omega) _⟩
      · have HMM := Lib.hid hq
        clear hq
        rintro e w3 ⟨rfl, rfl⟩
        go_wp2_with fail
        refine (has7_any (vu L v) p).mono ?_
        have HF3 := HF2
        have HZ3 := HZ2
        have HB3 := HB2
        obtain ⟨w3, hw3⟩ : ∃ w3, w3 = w2 := ⟨_, rfl⟩
        subst hw3
        clear HD2 HE2 HF2 HZ2 HB2 e1 e2 c1
        cases hu : has8 (vu L v) p
        · skip
          obtain ⟨fr, hfr⟩ : ∃ fr, ({ f with tag := true, vid := v } : Fr) = fr := ⟨_, rfl⟩
          have HV := Lib.hid (vout_is (f := f) HMM.out (show vfr L p v f = fr by rw [← hfr]; simp [vfr, hu]))
          have HDL : Hid (fr.data.length ≤ 8388000) := Lib.hid (by rw [← hfr]; exact hdl.out)
          have f12 : w3.frozen? ⟨g + 1, 12, none⟩ = false := HF3.out.frozen 12
          have c12 := HF3.out.cells.c12
          have f14 : w3.frozen? ⟨g + 1, 14, none⟩ = false := HF3.out.frozen 14
          have c14 := HF3.out.cells.c14
          obtain ⟨w6, hw6⟩ : ∃ w6, ((w3.setCell ⟨g + 1, 12, none⟩ (.bool true)).setCell ⟨g + 1, 14, none⟩ (.int .u16 v.toNat)) = w6 := ⟨_, rfl⟩
          have HF := Lib.hid (show FrA w6 (g + 1) fr by rw [← hfr, ← hw6]; exact ((HF3.out.setTag true).setVid v))
          have HZ := Lib.hid (show Blk w6 r 27 #[.int .u8 0, .int .u8 0, .int .u8 0, .int .u8 0, .int .u8 0, .int .u8 0, .int .u8 0, .int .u8 0, .int .u8 0, .int .u8 0, .int .u8 0, .int .u8 0, .bool false, .int .u8 0, .int .u16 0, .int .u16 0, .string ⟨#[]⟩] by rw [← hw6]; exact (Blk.far (Blk.far HZ3.out (p := ⟨g + 1, 12, none⟩) (by have h2 := HRR.out; show r ≠ g + 1; omega) _) (p := ⟨g + 1, 14, none⟩) (by have h2 := HRR.out; show r ≠ g + 1; omega) _))
          have HB := Lib.hid (show Below w.heap.size w w6 by rw [← hw6]; exact (Below.setCell (Below.setCell HB3.out (p := ⟨g + 1, 12, none⟩) (by have h1 := HG.out; show w.heap.size ≤ g + 1; omega) _) (p := ⟨g + 1, 14, none⟩) (by have h1 := HG.out; show w.heap.size ≤ g + 1; omega) _))
          clear HF3 HZ3 HB3 hfr hu HMM
          rintro e w7 ⟨rfl, rfl⟩
          go_upto_region 10 with fail
          clear hw6 f12 c12 f14 c14
          go_wp2_with (refine wpList_load_frame 7 rfl (by kernel_rfl) (g + 1) fr rfl HF.out ?_)
          refine (refput_any _ fr HDL.out).mono ?_
          rintro e w9 ⟨rfl, hb9⟩
          have HF9 := Lib.hid (HF.out.next hb9)
          have HZ9 := Lib.hid (HZ.out.below hb9 HZ.out.lt)
          have HB9 : Hid (Below w.heap.size w w9) := Lib.hid (HB.out.trans (hb9.mono HB.out.size))
          clear hb9 HF HZ HB
          obtain ⟨E, hE⟩ : ∃ E, fputE fr = E := ⟨_, rfl⟩
          rw [hE] at HV
          rw [hE]
          obtain ⟨X, hX⟩ : ∃ X, (⟨(fputV fr).toArray⟩ : ByteArray) = X := ⟨_, rfl⟩
          rw [hX]
          clear hX hE
          by_cases h0 : E = 0
          · have HV0 := Lib.hid (HV.out.1 h0)
            clear HV
            subst h0
            go_wp2_with (first | refine wpList_load_frame 7 rfl (by kernel_rfl) (g + 1) fr rfl HF9.out ?_ | refine wpList_store_row rfl 27 (.tmp 8) _ rfl r rfl #[.int .u8 fr.d0.toNat, .int .u8 fr.d1.toNat, .int .u8 fr.d2.toNat, .int .u8 fr.d3.toNat, .int .u8 fr.d4.toNat, .int .u8 fr.d5.toNat, .int .u8 fr.s0.toNat, .int .u8 fr.s1.toNat, .int .u8 fr.s2.toNat, .int .u8 fr.s3.toNat, .int .u8 fr.s4.toNat, .int .u8 fr.s5.toNat, .bool fr.tag, .int .u8 fr.pri.toNat, .int .u16 fr.vid.toNat, .int .u16 fr.ty.toNat, .string ⟨fr.data.toArray⟩] rfl 27 _ HZ9.out (by kernel_rfl) rfl (by kernel_rfl) ?_)
            rw [HV0.out.1, HV0.out.2]
            have HR := Lib.hid (HZ9.out.row #[.int .u8 fr.d0.toNat, .int .u8 fr.d1.toNat, .int .u8 fr.d2.toNat, .int .u8 fr.d3.toNat, .int .u8 fr.d4.toNat, .int .u8 fr.d5.toNat, .int .u8 fr.s0.toNat, .int .u8 fr.s1.toNat, .int .u8 fr.s2.toNat, .int .u8 fr.s3.toNat, .int .u8 fr.s4.toNat, .int .u8 fr.s5.toNat, .bool fr.tag, .int .u8 fr.pri.toNat, .int .u16 fr.vid.toNat, .int .u16 fr.ty.toNat, .string ⟨fr.data.toArray⟩])
            refine bodyPost_ret (v := .tuple #[FV fr, .bool true]) (results_cell_slot Try.results16 _ _ r 27 _ _ rfl HR.out Try.underlying27 rfl (by kernel_rfl) _ rfl) rfl ⟨rfl, below_row HB9.out (by have h1 := HG.out; have h2 := HRR.out; show w.heap.size ≤ _; omega) _⟩
          · have HV0 := Lib.hid (HV.out.2 h0)
            clear HV
            go_wp2_with (refine wpList_store_row rfl 27 (.tmp 8) _ rfl r rfl #[.int .u8 0, .int .u8 0, .int .u8 0, .int .u8 0, .int .u8 0, .int .u8 0, .int .u8 0, .int .u8 0, .int .u8 0, .int .u8 0, .int .u8 0, .int .u8 0, .bool false, .int .u8 0, .int .u16 0, .int .u16 0, .string ⟨#[]⟩] rfl 27 _ HZ9.out (by kernel_rfl) rfl (by kernel_rfl) ?_)
            rw [HV0.out.1, HV0.out.2]
            have HR := Lib.hid (HZ9.out.row #[.int .u8 0, .int .u8 0, .int .u8 0, .int .u8 0, .int .u8 0, .int .u8 0, .int .u8 0, .int .u8 0, .int .u8 0, .int .u8 0, .int .u8 0, .int .u8 0, .bool false, .int .u8 0, .int .u16 0, .int .u16 0, .string ⟨#[]⟩])
            refine bodyPost_ret (v := .tuple #[FV Fr.zero, .bool false]) (results_cell_slot Try.results16 _ _ r 27 _ _ rfl HR.out Try.underlying27 rfl (by kernel_rfl) _ rfl) rfl ⟨rfl, below_row HB9.out (by have h1 := HG.out; have h2 := HRR.out; show w.heap.size ≤ _; omega) _⟩
        · skip
          obtain ⟨fr, hfr⟩ : ∃ fr, ({ f with tag := false, pri := 0, vid := 0 } : Fr) = fr := ⟨_, rfl⟩
          have HV := Lib.hid (vout_is (f := f) HMM.out (show vfr L p v f = fr by rw [← hfr]; simp [vfr, hu]))
          have HDL : Hid (fr.data.length ≤ 8388000) := Lib.hid (by rw [← hfr]; exact hdl.out)
          have f12 : w3.frozen? ⟨g + 1, 12, none⟩ = false := HF3.out.frozen 12
          have c12 := HF3.out.cells.c12
          have f13 : w3.frozen? ⟨g + 1, 13, none⟩ = false := HF3.out.frozen 13
          have c13 := HF3.out.cells.c13
          have f14 : w3.frozen? ⟨g + 1, 14, none⟩ = false := HF3.out.frozen 14
          have c14 := HF3.out.cells.c14
          obtain ⟨w6, hw6⟩ : ∃ w6, (((w3.setCell ⟨g + 1, 12, none⟩ (.bool false)).setCell ⟨g + 1, 13, none⟩ (.int .u8 0)).setCell ⟨g + 1, 14, none⟩ (.int .u16 0)) = w6 := ⟨_, rfl⟩
          have HF := Lib.hid (show FrA w6 (g + 1) fr by rw [← hfr, ← hw6]; exact (((HF3.out.setTag false).setPri 0).setVid 0))
          have HZ := Lib.hid (show Blk w6 r 27 #[.int .u8 0, .int .u8 0, .int .u8 0, .int .u8 0, .int .u8 0, .int .u8 0, .int .u8 0, .int .u8 0, .int .u8 0, .int .u8 0, .int .u8 0, .int .u8 0, .bool false, .int .u8 0, .int .u16 0, .int .u16 0, .string ⟨#[]⟩] by rw [← hw6]; exact (Blk.far (Blk.far (Blk.far HZ3.out (p := ⟨g + 1, 12, none⟩) (by have h2 := HRR.out; show r ≠ g + 1; omega) _) (p := ⟨g + 1, 13, none⟩) (by have h2 := HRR.out; show r ≠ g + 1; omega) _) (p := ⟨g + 1, 14, none⟩) (by have h2 := HRR.out; show r ≠ g + 1; omega) _))
          have HB := Lib.hid (show Below w.heap.size w w6 by rw [← hw6]; exact (Below.setCell (Below.setCell (Below.setCell HB3.out (p := ⟨g + 1, 12, none⟩) (by have h1 := HG.out; show w.heap.size ≤ g + 1; omega) _) (p := ⟨g + 1, 13, none⟩) (by have h1 := HG.out; show w.heap.size ≤ g + 1; omega) _) (p := ⟨g + 1, 14, none⟩) (by have h1 := HG.out; show w.heap.size ≤ g + 1; omega) _))
          clear HF3 HZ3 HB3 hfr hu HMM
          rintro e w7 ⟨rfl, rfl⟩
          go_upto_region 10 with fail
          clear hw6 f12 c12 f13 c13 f14 c14
          go_wp2_with (refine wpList_load_frame 7 rfl (by kernel_rfl) (g + 1) fr rfl HF.out ?_)
          refine (refput_any _ fr HDL.out).mono ?_
          rintro e w9 ⟨rfl, hb9⟩
          have HF9 := Lib.hid (HF.out.next hb9)
          have HZ9 := Lib.hid (HZ.out.below hb9 HZ.out.lt)
          have HB9 : Hid (Below w.heap.size w w9) := Lib.hid (HB.out.trans (hb9.mono HB.out.size))
          clear hb9 HF HZ HB
          obtain ⟨E, hE⟩ : ∃ E, fputE fr = E := ⟨_, rfl⟩
          rw [hE] at HV
          rw [hE]
          obtain ⟨X, hX⟩ : ∃ X, (⟨(fputV fr).toArray⟩ : ByteArray) = X := ⟨_, rfl⟩
          rw [hX]
          clear hX hE
          by_cases h0 : E = 0
          · have HV0 := Lib.hid (HV.out.1 h0)
            clear HV
            subst h0
            go_wp2_with (first | refine wpList_load_frame 7 rfl (by kernel_rfl) (g + 1) fr rfl HF9.out ?_ | refine wpList_store_row rfl 27 (.tmp 8) _ rfl r rfl #[.int .u8 fr.d0.toNat, .int .u8 fr.d1.toNat, .int .u8 fr.d2.toNat, .int .u8 fr.d3.toNat, .int .u8 fr.d4.toNat, .int .u8 fr.d5.toNat, .int .u8 fr.s0.toNat, .int .u8 fr.s1.toNat, .int .u8 fr.s2.toNat, .int .u8 fr.s3.toNat, .int .u8 fr.s4.toNat, .int .u8 fr.s5.toNat, .bool fr.tag, .int .u8 fr.pri.toNat, .int .u16 fr.vid.toNat, .int .u16 fr.ty.toNat, .string ⟨fr.data.toArray⟩] rfl 27 _ HZ9.out (by kernel_rfl) rfl (by kernel_rfl) ?_)
            rw [HV0.out.1, HV0.out.2]
            have HR := Lib.hid (HZ9.out.row #[.int .u8 fr.d0.toNat, .int .u8 fr.d1.toNat, .int .u8 fr.d2.toNat, .int .u8 fr.d3.toNat, .int .u8 fr.d4.toNat, .int .u8 fr.d5.toNat, .int .u8 fr.s0.toNat, .int .u8 fr.s1.toNat, .int .u8 fr.s2.toNat, .int .u8 fr.s3.toNat, .int .u8 fr.s4.toNat, .int .u8 fr.s5.toNat, .bool fr.tag, .int .u8 fr.pri.toNat, .int .u16 fr.vid.toNat, .int .u16 fr.ty.toNat, .string ⟨fr.data.toArray⟩])
            refine bodyPost_ret (v := .tuple #[FV fr, .bool true]) (results_cell_slot Try.results16 _ _ r 27 _ _ rfl HR.out Try.underlying27 rfl (by kernel_rfl) _ rfl) rfl ⟨rfl, below_row HB9.out (by have h1 := HG.out; have h2 := HRR.out; show w.heap.size ≤ _; omega) _⟩
          · have HV0 := Lib.hid (HV.out.2 h0)
            clear HV
            go_wp2_with (refine wpList_store_row rfl 27 (.tmp 8) _ rfl r rfl #[.int .u8 0, .int .u8 0, .int .u8 0, .int .u8 0, .int .u8 0, .int .u8 0, .int .u8 0, .int .u8 0, .int .u8 0, .int .u8 0, .int .u8 0, .int .u8 0, .bool false, .int .u8 0, .int .u16 0, .int .u16 0, .string ⟨#[]⟩] rfl 27 _ HZ9.out (by kernel_rfl) rfl (by kernel_rfl) ?_)
            rw [HV0.out.1, HV0.out.2]
            have HR := Lib.hid (HZ9.out.row #[.int .u8 0, .int .u8 0, .int .u8 0, .int .u8 0, .int .u8 0, .int .u8 0, .int .u8 0, .int .u8 0, .int .u8 0, .int .u8 0, .int .u8 0, .int .u8 0, .bool false, .int .u8 0, .int .u16 0, .int .u16 0, .string ⟨#[]⟩])
            refine bodyPost_ret (v := .tuple #[FV Fr.zero, .bool false]) (results_cell_slot Try.results16 _ _ r 27 _ _ rfl HR.out Try.underlying27 rfl (by kernel_rfl) _ rfl) rfl ⟨rfl, below_row HB9.out (by have h1 := HG.out; have h2 := HRR.out; show w.heap.size ≤ _; omega) _⟩
end Go.Proofs.Yteiopobkbfancaa
