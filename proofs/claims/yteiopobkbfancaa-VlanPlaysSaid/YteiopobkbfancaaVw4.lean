/- Package vlan: Out. -/
import Derived.Test.YteiopobkbfancaaVw3
namespace Go.Proofs.Yteiopobkbfancaa
open Go.RowKit
set_option linter.unusedVariables false
set_option linter.unusedSimpArgs false
set_option maxRecDepth 100000

/-- the frame as it goes out -/
def vfr (L : List Vn) (p : UInt8) (v : UInt16) (f : Fr) : Fr := if has8 (vu L v) p then { f with tag := false, pri := 0, vid := 0 } else { f with tag := true, vid := v }
def voutB (L : List Vn) (p : UInt8) (v : UInt16) (f : Fr) : Bool := has8 (vm L v) p && (fputE (vfr L p v f) == 0)
def voutF (L : List Vn) (p : UInt8) (v : UInt16) (f : Fr) : Fr := if voutB L p v f then vfr L p v f else Fr.zero
theorem vout_no {L : List Vn} {p : UInt8} {v : UInt16} {f : Fr} (h : has8 (vm L v) p = false) : voutF L p v f = Fr.zero ∧ voutB L p v f = false := by simp [voutF, voutB, h]
theorem vout_is {L : List Vn} {p : UInt8} {v : UInt16} {f g : Fr} (h : has8 (vm L v) p = true) (hg : vfr L p v f = g) : (fputE g = 0 → voutF L p v f = g ∧ voutB L p v f = true) ∧ (fputE g ≠ 0 → voutF L p v f = Fr.zero ∧ voutB L p v f = false) := by
  subst hg
  constructor
  · intro e; simp [voutF, voutB, h, e]
  · intro e; simp [voutF, voutB, h, e]

theorem in_ex2 {w : World} (p : UInt8) :
    Calls Try.prog 28 #[.int .u8 p.toNat] w fun e w' => ∃ g, e = .returned (.func (.func 39) #[] #[.pointer (some ⟨g, 0, none⟩)]) ∧ w'.cell? ⟨g, 0, none⟩ = some (.int .u8 p.toNat) ∧ Below w.heap.size w w' ∧ w.heap.size ≤ g :=
  (in_any p).mono fun e w' ⟨he, hw⟩ => ⟨w.heap.size, he, by rw [hw]; exact (Blk.new w _ _).cell 0, by rw [hw]; exact (Below.refl _ _).alloc (Nat.le_refl _) _, Nat.le_refl _⟩
set_option maxRecDepth 100000 in
set_option maxHeartbeats 4000000 in
theorem out_any {w : World} {t N : Nat} {mb : Option Nat} {L : List Vn} {own : List UInt16} (h : Tbl w t mb N L own) (p : UInt8) (v : UInt16) (f : Fr) (hd : f.data.length ≤ 8388000) :
    Calls Try.prog 15 #[.pointer (some ⟨t, 0, none⟩), .int .u8 p.toNat, .int .u16 v.toNat, FV f] w fun e w' => e = .returned (.tuple #[FV (voutF L p v f), .bool (voutB L p v f)]) ∧ Below w.heap.size w w' := by
  obtain ⟨w1, hw1⟩ : ∃ w1, (w.alloc (.cells #[.int .u8 f.d0.toNat, .int .u8 f.d1.toNat, .int .u8 f.d2.toNat, .int .u8 f.d3.toNat, .int .u8 f.d4.toNat, .int .u8 f.d5.toNat, .int .u8 f.s0.toNat, .int .u8 f.s1.toNat, .int .u8 f.s2.toNat, .int .u8 f.s3.toNat, .int .u8 f.s4.toNat, .int .u8 f.s5.toNat, .bool f.tag, .int .u8 f.pri.toNat, .int .u16 f.vid.toNat, .int .u16 f.ty.toNat, .string ⟨f.data.toArray⟩] 27)).alloc (.cells #[.int .u8 0, .int .u8 0, .int .u8 0, .int .u8 0, .int .u8 0, .int .u8 0, .int .u8 0, .int .u8 0, .int .u8 0, .int .u8 0, .int .u8 0, .int .u8 0, .bool false, .int .u8 0, .int .u16 0, .int .u16 0, .string ⟨#[]⟩] 27) = w1 := ⟨_, rfl⟩
  have hF : FrA w1 w.heap.size f := by rw [← hw1]; exact (FrA.new w f).alloc _
  have hZ : Blk w1 (w.heap.size + 1) 27 #[.int .u8 0, .int .u8 0, .int .u8 0, .int .u8 0, .int .u8 0, .int .u8 0, .int .u8 0, .int .u8 0, .int .u8 0, .int .u8 0, .int .u8 0, .int .u8 0, .bool false, .int .u8 0, .int .u16 0, .int .u16 0, .string ⟨#[]⟩] := by rw [← hw1]; have := Blk.new (w.alloc (.cells #[.int .u8 f.d0.toNat, .int .u8 f.d1.toNat, .int .u8 f.d2.toNat, .int .u8 f.d3.toNat, .int .u8 f.d4.toNat, .int .u8 f.d5.toNat, .int .u8 f.s0.toNat, .int .u8 f.s1.toNat, .int .u8 f.s2.toNat, .int .u8 f.s3.toNat, .int .u8 f.s4.toNat, .int .u8 f.s5.toNat, .bool f.tag, .int .u8 f.pri.toNat, .int .u16 f.vid.toNat, .int .u16 f.ty.toNat, .string ⟨f.data.toArray⟩] 27)) 27 #[.int .u8 0, .int .u8 0, .int .u8 0, .int .u8 0, .int .u8 0, .int .u8 0, .int .u8 0, .int .u8 0, .int .u8 0, .int .u8 0, .int .u8 0, .int .u8 0, .bool false, .int .u8 0, .int .u16 0, .int .u16 0, .string ⟨#[]⟩]; simpa using this
  have hB : Below w.heap.size w w1 := by rw [← hw1]; exact ((Below.refl w.heap.size w).alloc (Nat.le_refl _) _).alloc (by simp) _
  have HF1 := Lib.hid hF
  have HZ1 := Lib.hid hZ
  have HB1 := Lib.hid hB
  have HT1 := Lib.hid (h.next hB)
  clear h hF hZ hB
  go_enter Try.func15, Try.ntmps15
  go_upto_region 1 with fail
  clear hw1
  go_wp2_with fail
  refine (of_any HT1.out v).mono ?_
  rintro e w2 ⟨rfl, hb2⟩
  have HF2 := Lib.hid (HF1.out.next hb2)
  have HZ2 := Lib.hid (HZ1.out.below hb2 HZ1.out.lt)
  have HB2 : Hid (Below w.heap.size w w2) := Lib.hid (HB1.out.trans (hb2.mono HB1.out.size))
  have HL2 := Lib.hid HZ2.out.lt
  clear hb2 HF1 HZ1 HB1 HT1
  go_wp2_with fail
  refine (in_ex2 p).mono ?_
  rintro e w3 ⟨g, rfl, hg, hb3, hgw⟩
  have HF3 := Lib.hid (HF2.out.next hb3)
  have HZ3 := Lib.hid (HZ2.out.below hb3 HZ2.out.lt)
  have HB3 : Hid (Below w.heap.size w w3) := Lib.hid (HB2.out.trans (hb3.mono HB2.out.size))
  have hb3s := hb3.size
  clear hb3 HF2 HZ2 HB2
  obtain ⟨w4, hw4⟩ : ∃ w4, w3.alloc (.cells #[.int .u8 (vm L v).toNat, .int .u8 (vu L v).toNat] 69) = w4 := ⟨_, rfl⟩
  obtain ⟨s, hs⟩ : ∃ s, w3.heap.size = s := ⟨_, rfl⟩
  have hS : Blk w4 s 69 #[.int .u8 (vm L v).toNat, .int .u8 (vu L v).toNat] := by rw [← hw4, ← hs]; exact Blk.new w3 _ _
  have m0 := hS.cell 0
  have m1 := hS.cell 1
  have hg4 : w4.cell? ⟨g, 0, none⟩ = some (.int .u8 p.toNat) := by rw [← hw4]; exact (World.cell?_of_block (w := w3) (Below.heap_alloc w3 _ g (World.block_lt_of_cell? w3 _ hg))).trans hg
  have HF := Lib.hid (show FrA w4 w.heap.size f by rw [← hw4]; exact HF3.out.alloc _)
  have HZ := Lib.hid (show Blk w4 (w.heap.size + 1) 27 #[.int .u8 0, .int .u8 0, .int .u8 0, .int .u8 0, .int .u8 0, .int .u8 0, .int .u8 0, .int .u8 0, .int .u8 0, .int .u8 0, .int .u8 0, .int .u8 0, .bool false, .int .u8 0, .int .u16 0, .int .u16 0, .string ⟨#[]⟩] by rw [← hw4]; exact HZ3.out.alloc _)
  have HB := Lib.hid (show Below w.heap.size w w4 by rw [← hw4]; exact HB3.out.alloc HB3.out.size _)
  have hgs : g ≠ w.heap.size ∧ s ≠ w.heap.size := by
    have a1 := HL2.out
    have a2 := hb3s
    constructor <;> omega
  have hgz : g ≠ w.heap.size + 1 ∧ s ≠ w.heap.size + 1 := by
    have a1 := HL2.out
    have a2 := hb3s
    constructor <;> omega
  have HG := Lib.hid hgs
  have HGL := Lib.hid (World.block_lt_of_cell? w4 _ hg4)
  have HSL := Lib.hid hS.lt
  have HSS := Lib.hid hS
  have HGC := Lib.hid hg4
  clear HF3 HZ3 HB3 hg hS hgs hgz hgw hb3s
  simp only [List.getElem?_toArray, List.getElem?_cons_zero, List.getElem?_cons_succ] at m0 m1
  go_wp2_with fail
  refine (in1_any (vm L v) p hg4).mono ?_
  clear hw4 hs
  cases hq : has8 (vm L v) p
  · have HV := Lib.hid (vout_no (f := f) hq)
    clear hq
    rintro e w5 ⟨rfl, rfl⟩
    go_wp2_with (refine wpList_store_row rfl 27 (.tmp 8) _ rfl (w.heap.size + 1) rfl #[.int .u8 0, .int .u8 0, .int .u8 0, .int .u8 0, .int .u8 0, .int .u8 0, .int .u8 0, .int .u8 0, .int .u8 0, .int .u8 0, .int .u8 0, .int .u8 0, .bool false, .int .u8 0, .int .u16 0, .int .u16 0, .string ⟨#[]⟩] rfl 27 _ HZ.out (by kernel_rfl) rfl (by kernel_rfl) ?_)
    have HR := Lib.hid (HZ.out.row #[.int .u8 0, .int .u8 0, .int .u8 0, .int .u8 0, .int .u8 0, .int .u8 0, .int .u8 0, .int .u8 0, .int .u8 0, .int .u8 0, .int .u8 0, .int .u8 0, .bool false, .int .u8 0, .int .u16 0, .int .u16 0, .string ⟨#[]⟩])
    rw [HV.out.1, HV.out.2]
    refine bodyPost_ret (v := .tuple #[FV Fr.zero, .bool false]) (results_cell_slot Try.results15 _ _ (w.heap.size + 1) 27 _ _ rfl HR.out Try.underlying27 rfl (by kernel_rfl) _ rfl) rfl ⟨rfl, below_row HB.out (Nat.le_succ _) _⟩
  · have HM := Lib.hid hq
    clear hq
    rintro e w5 ⟨rfl, rfl⟩
    have f12 : w4.frozen? ⟨w.heap.size, 12, none⟩ = false := HF.out.frozen 12
    have f14 : w4.frozen? ⟨w.heap.size, 14, none⟩ = false := HF.out.frozen 14
    have c12 := HF.out.cells.c12
    have c14 := HF.out.cells.c14
    obtain ⟨w5, hw5⟩ : ∃ w5, (w4.setCell ⟨w.heap.size, 12, none⟩ (.bool true)).setCell ⟨w.heap.size, 14, none⟩ (.int .u16 v.toNat) = w5 := ⟨_, rfl⟩
    have HF5 := Lib.hid (show FrA w5 w.heap.size { f with tag := true, vid := v } by rw [← hw5]; exact (HF.out.setTag true).setVid v)
    have HZ5 := Lib.hid (show Blk w5 (w.heap.size + 1) 27 #[.int .u8 0, .int .u8 0, .int .u8 0, .int .u8 0, .int .u8 0, .int .u8 0, .int .u8 0, .int .u8 0, .int .u8 0, .int .u8 0, .int .u8 0, .int .u8 0, .bool false, .int .u8 0, .int .u16 0, .int .u16 0, .string ⟨#[]⟩] by rw [← hw5]; exact (HZ.out.far (p := ⟨w.heap.size, 12, none⟩) (by simp) _).far (p := ⟨w.heap.size, 14, none⟩) (by simp) _)
    have HB5 := Lib.hid (show Below w.heap.size w w5 by rw [← hw5]; exact (HB.out.setCell (p := ⟨w.heap.size, 12, none⟩) (Nat.le_refl _) _).setCell (p := ⟨w.heap.size, 14, none⟩) (Nat.le_refl _) _)
    have hg5 : w5.cell? ⟨g, 0, none⟩ = some (.int .u8 p.toNat) := by
      rw [← hw5]
      rw [World.cell?_of_block (w := w4) (a := ⟨g, 0, none⟩) ((Below.heap_setCell _ ⟨w.heap.size, 14, none⟩ _ g HG.out.1).trans (Below.heap_setCell w4 ⟨w.heap.size, 12, none⟩ _ g HG.out.1))]
      exact HGC.out
    have m5 : w5.cell? ⟨s, 1, none⟩ = some (.int .u8 (vu L v).toNat) := by
      rw [← hw5]
      rw [World.cell?_of_block (w := w4) (a := ⟨s, 1, none⟩) ((Below.heap_setCell _ ⟨w.heap.size, 14, none⟩ _ s HG.out.2).trans (Below.heap_setCell w4 ⟨w.heap.size, 12, none⟩ _ s HG.out.2))]
      exact HSS.out.cell 1
    clear HF HZ HB hg4 m0 m1 HSS HGC
    go_wp2_with fail
    refine (in1_any (vu L v) p hg5).mono ?_
    clear hw5 f12 f14 c12 c14 hg5 m5
    cases hu : has8 (vu L v) p
    · obtain ⟨fr, hfr⟩ : ∃ fr, ({ f with tag := true, vid := v } : Fr) = fr := ⟨_, rfl⟩
      have HV := Lib.hid (vout_is (f := f) HM.out (show vfr L p v f = fr by rw [← hfr]; simp [vfr, hu]))
      have HD : Hid (fr.data.length ≤ 8388000) := Lib.hid (by rw [← hfr]; exact hd)
      have HF := Lib.hid (show FrA w5 w.heap.size fr by rw [← hfr]; exact HF5.out)
      have HZ := Lib.hid HZ5.out
      have HB := Lib.hid HB5.out
      clear HF5 HZ5 HB5 hfr hu HM hd
      rintro e w6 ⟨rfl, rfl⟩
      go_wp2_with (refine wpList_load_frame 7 rfl (by kernel_rfl) w.heap.size fr rfl HF.out ?_)
      refine (put_impl _ fr HD.out).mono ?_
      rintro e w9 ⟨rfl, hb9⟩
      have HF9 := Lib.hid (HF.out.next hb9)
      have HZ9 := Lib.hid (HZ.out.below hb9 HZ.out.lt)
      have HB9 : Hid (Below w.heap.size w w9) := Lib.hid (HB.out.trans (hb9.mono HB.out.size))
      clear hb9 HF HZ HB
      obtain ⟨E, hE⟩ : ∃ E, fputE fr = E := ⟨_, rfl⟩
      rw [hE] at HV
      rw [hE]
      obtain ⟨X, hX⟩ : ∃ X, (⟨(fputV fr).toArray⟩ : ByteArray) = X := ⟨_, rfl⟩
      rw [hX]
      clear hX hE
      by_cases h0 : E = 0
      · have HV0 := Lib.hid (HV.out.1 h0)
        clear HV
        subst h0
        go_wp2_with (first | refine wpList_load_frame 7 rfl (by kernel_rfl) w.heap.size fr rfl HF9.out ?_ | refine wpList_store_row rfl 27 (.tmp 8) _ rfl (w.heap.size + 1) rfl #[.int .u8 fr.d0.toNat, .int .u8 fr.d1.toNat, .int .u8 fr.d2.toNat, .int .u8 fr.d3.toNat, .int .u8 fr.d4.toNat, .int .u8 fr.d5.toNat, .int .u8 fr.s0.toNat, .int .u8 fr.s1.toNat, .int .u8 fr.s2.toNat, .int .u8 fr.s3.toNat, .int .u8 fr.s4.toNat, .int .u8 fr.s5.toNat, .bool fr.tag, .int .u8 fr.pri.toNat, .int .u16 fr.vid.toNat, .int .u16 fr.ty.toNat, .string ⟨fr.data.toArray⟩] rfl 27 _ HZ9.out (by kernel_rfl) rfl (by kernel_rfl) ?_)
        rw [HV0.out.1, HV0.out.2]
        have HR := Lib.hid (HZ9.out.row #[.int .u8 fr.d0.toNat, .int .u8 fr.d1.toNat, .int .u8 fr.d2.toNat, .int .u8 fr.d3.toNat, .int .u8 fr.d4.toNat, .int .u8 fr.d5.toNat, .int .u8 fr.s0.toNat, .int .u8 fr.s1.toNat, .int .u8 fr.s2.toNat, .int .u8 fr.s3.toNat, .int .u8 fr.s4.toNat, .int .u8 fr.s5.toNat, .bool fr.tag, .int .u8 fr.pri.toNat, .int .u16 fr.vid.toNat, .int .u16 fr.ty.toNat, .string ⟨fr.data.toArray⟩])
        refine bodyPost_ret (v := .tuple #[FV fr, .bool true]) (results_cell_slot Try.results15 _ _ (w.heap.size + 1) 27 _ _ rfl HR.out Try.underlying27 rfl (by kernel_rfl) _ rfl) rfl ⟨rfl, below_row HB9.out (Nat.le_succ _) _⟩
      · have HV0 := Lib.hid (HV.out.2 h0)
        clear HV
        go_wp2_with (refine wpList_store_row rfl 27 (.tmp 8) _ rfl (w.heap.size + 1) rfl #[.int .u8 0, .int .u8 0, .int .u8 0, .int .u8 0, .int .u8 0, .int .u8 0, .int .u8 0, .int .u8 0, .int .u8 0, .int .u8 0, .int .u8 0, .int .u8 0, .bool false, .int .u8 0, .int .u16 0, .int .u16 0, .string ⟨#[]⟩] rfl 27 _ HZ9.out (by kernel_rfl) rfl (by kernel_rfl) ?_)
        rw [HV0.out.1, HV0.out.2]
        have HR := Lib.hid (HZ9.out.row #[.int .u8 0, .int .u8 0, .int .u8 0, .int .u8 0, .int .u8 0, .int .u8 0, .int .u8 0, .int .u8 0, .int .u8 0, .int .u8 0, .int .u8 0, .int .u8 0, .bool false, .int .u8 0, .int .u16 0, .int .u16 0, .string ⟨#[]⟩])
        refine bodyPost_ret (v := .tuple #[FV Fr.zero, .bool false]) (results_cell_slot Try.results15 _ _ (w.heap.size + 1) 27 _ _ rfl HR.out Try.underlying27 rfl (by kernel_rfl) _ rfl) rfl ⟨rfl, below_row HB9.out (Nat.le_succ _) _⟩
    · obtain ⟨fr, hfr⟩ : ∃ fr, ({ f with tag := false, pri := 0, vid := 0 } : Fr) = fr := ⟨_, rfl⟩
      have HV := Lib.hid (vout_is (f := f) HM.out (show vfr L p v f = fr by rw [← hfr]; simp [vfr, hu]))
      have HD : Hid (fr.data.length ≤ 8388000) := Lib.hid (by rw [← hfr]; exact hd)
      have f12 : w5.frozen? ⟨w.heap.size, 12, none⟩ = false := HF5.out.frozen 12
      have f13 : w5.frozen? ⟨w.heap.size, 13, none⟩ = false := HF5.out.frozen 13
      have f14 : w5.frozen? ⟨w.heap.size, 14, none⟩ = false := HF5.out.frozen 14
      have c12 := HF5.out.cells.c12
      have c13 := HF5.out.cells.c13
      have c14 := HF5.out.cells.c14
      dsimp only at c12 c13 c14
      obtain ⟨w6, hw6⟩ : ∃ w6, ((w5.setCell ⟨w.heap.size, 12, none⟩ (.bool false)).setCell ⟨w.heap.size, 13, none⟩ (.int .u8 0)).setCell ⟨w.heap.size, 14, none⟩ (.int .u16 0) = w6 := ⟨_, rfl⟩
      have HF := Lib.hid (show FrA w6 w.heap.size fr by rw [← hfr, ← hw6]; exact ((HF5.out.setTag false).setPri 0).setVid 0)
      have HZ := Lib.hid (show Blk w6 (w.heap.size + 1) 27 #[.int .u8 0, .int .u8 0, .int .u8 0, .int .u8 0, .int .u8 0, .int .u8 0, .int .u8 0, .int .u8 0, .int .u8 0, .int .u8 0, .int .u8 0, .int .u8 0, .bool false, .int .u8 0, .int .u16 0, .int .u16 0, .string ⟨#[]⟩] by rw [← hw6]; exact ((HZ5.out.far (p := ⟨w.heap.size, 12, none⟩) (by simp) _).far (p := ⟨w.heap.size, 13, none⟩) (by simp) _).far (p := ⟨w.heap.size, 14, none⟩) (by simp) _)
      have HB := Lib.hid (show Below w.heap.size w w6 by rw [← hw6]; exact ((HB5.out.setCell (p := ⟨w.heap.size, 12, none⟩) (Nat.le_refl _) _).setCell (p := ⟨w.heap.size, 13, none⟩) (Nat.le_refl _) _).setCell (p := ⟨w.heap.size, 14, none⟩) (Nat.le_refl _) _)
      clear HF5 HZ5 HB5 hfr hu HM hd
      rintro e w7 ⟨rfl, rfl⟩
      go_upto_region 7 with fail
      clear hw6 f12 f13 f14 c12 c13 c14
      go_wp2_with (refine wpList_load_frame 7 rfl (by kernel_rfl) w.heap.size fr rfl HF.out ?_)
      refine (put_impl _ fr HD.out).mono ?_
      rintro e w9 ⟨rfl, hb9⟩
      have HF9 := Lib.hid (HF.out.next hb9)
      have HZ9 := Lib.hid (HZ.out.below hb9 HZ.out.lt)
      have HB9 : Hid (Below w.heap.size w w9) := Lib.hid (HB.out.trans (hb9.mono HB.out.size))
      clear hb9 HF HZ HB
      obtain ⟨E, hE⟩ : ∃ E, fputE fr = E := ⟨_, rfl⟩
      rw [hE] at HV
      rw [hE]
      obtain ⟨X, hX⟩ : ∃ X, (⟨(fputV fr).toArray⟩ : ByteArray) = X := ⟨_, rfl⟩
      rw [hX]
      clear hX hE
      by_cases h0 : E = 0
      · have HV0 := Lib.hid (HV.out.1 h0)
        clear HV
        subst h0
        go_wp2_with (first | refine wpList_load_frame 7 rfl (by kernel_rfl) w.heap.size fr rfl HF9.out ?_ | refine wpList_store_row rfl 27 (.tmp 8) _ rfl (w.heap.size + 1) rfl #[.int .u8 fr.d0.toNat, .int .u8 fr.d1.toNat, .int .u8 fr.d2.toNat, .int .u8 fr.d3.toNat, .int .u8 fr.d4.toNat, .int .u8 fr.d5.toNat, .int .u8 fr.s0.toNat, .int .u8 fr.s1.toNat, .int .u8 fr.s2.toNat, .int .u8 fr.s3.toNat, .int .u8 fr.s4.toNat, .int .u8 fr.s5.toNat, .bool fr.tag, .int .u8 fr.pri.toNat, .int .u16 fr.vid.toNat, .int .u16 fr.ty.toNat, .string ⟨fr.data.toArray⟩] rfl 27 _ HZ9.out (by kernel_rfl) rfl (by kernel_rfl) ?_)
        rw [HV0.out.1, HV0.out.2]
        have HR := Lib.hid (HZ9.out.row #[.int .u8 fr.d0.toNat, .int .u8 fr.d1.toNat, .int .u8 fr.d2.toNat, .int .u8 fr.d3.toNat, .int .u8 fr.d4.toNat, .int .u8 fr.d5.toNat, .int .u8 fr.s0.toNat, .int .u8 fr.s1.toNat, .int .u8 fr.s2.toNat, .int .u8 fr.s3.toNat, .int .u8 fr.s4.toNat, .int .u8 fr.s5.toNat, .bool fr.tag, .int .u8 fr.pri.toNat, .int .u16 fr.vid.toNat, .int .u16 fr.ty.toNat, .string ⟨fr.data.toArray⟩])
        refine bodyPost_ret (v := .tuple #[FV fr, .bool true]) (results_cell_slot Try.results15 _ _ (w.heap.size + 1) 27 _ _ rfl HR.out Try.underlying27 rfl (by kernel_rfl) _ rfl) rfl ⟨rfl, below_row HB9.out (Nat.le_succ _) _⟩
      · have HV0 := Lib.hid (HV.out.2 h0)
        clear HV
        go_wp2_with (refine wpList_store_row rfl 27 (.tmp 8) _ rfl (w.heap.size + 1) rfl #[.int .u8 0, .int .u8 0, .int .u8 0, .int .u8 0, .int .u8 0, .int .u8 0, .int .u8 0, .int .u8 0, .int .u8 0, .int .u8 0, .int .u8 0, .int .u8 0, .bool false, .int .u8 0, .int .u16 0, .int .u16 0, .string ⟨#[]⟩] rfl 27 _ HZ9.out (by kernel_rfl) rfl (by kernel_rfl) ?_)
        rw [HV0.out.1, HV0.out.2]
        have HR := Lib.hid (HZ9.out.row #[.int .u8 0, .int .u8 0, .int .u8 0, .int .u8 0, .int .u8 0, .int .u8 0, .int .u8 0, .int .u8 0, .int .u8 0, .int .u8 0, .int .u8 0, .int .u8 0, .bool false, .int .u8 0, .int .u16 0, .int .u16 0, .string ⟨#[]⟩])
        refine bodyPost_ret (v := .tuple #[FV Fr.zero, .bool false]) (results_cell_slot Try.results15 _ _ (w.heap.size + 1) 27 _ _ rfl HR.out Try.underlying27 rfl (by kernel_rfl) _ rfl) rfl ⟨rfl, below_row HB9.out (Nat.le_succ _) _⟩
theorem of_nil_z {w : World} (v : UInt16) {z : UInt8} (hz : z = 0) :
    Calls Try.prog 25 #[.pointer none, .int .u16 v.toNat] w fun e w' => e = .returned (.agg #[.int .u8 z.toNat, .int .u8 z.toNat]) ∧ Below w.heap.size w w' := by
  subst hz
  exact of_nil v
set_option maxRecDepth 100000 in
set_option maxHeartbeats 4000000 in
theorem out_nil {w : World} (p : UInt8) (v : UInt16) (f : Fr) :
    Calls Try.prog 15 #[.pointer none, .int .u8 p.toNat, .int .u16 v.toNat, FV f] w fun e w' => e = .returned (.tuple #[FV Fr.zero, .bool false]) ∧ Below w.heap.size w w' := by
  obtain ⟨z, hz⟩ : ∃ z : UInt8, z = 0 := ⟨_, rfl⟩
  have HZZ := Lib.hid hz
  clear hz
  obtain ⟨w1, hw1⟩ : ∃ w1, (w.alloc (.cells #[.int .u8 f.d0.toNat, .int .u8 f.d1.toNat, .int .u8 f.d2.toNat, .int .u8 f.d3.toNat, .int .u8 f.d4.toNat, .int .u8 f.d5.toNat, .int .u8 f.s0.toNat, .int .u8 f.s1.toNat, .int .u8 f.s2.toNat, .int .u8 f.s3.toNat, .int .u8 f.s4.toNat, .int .u8 f.s5.toNat, .bool f.tag, .int .u8 f.pri.toNat, .int .u16 f.vid.toNat, .int .u16 f.ty.toNat, .string ⟨f.data.toArray⟩] 27)).alloc (.cells #[.int .u8 0, .int .u8 0, .int .u8 0, .int .u8 0, .int .u8 0, .int .u8 0, .int .u8 0, .int .u8 0, .int .u8 0, .int .u8 0, .int .u8 0, .int .u8 0, .bool false, .int .u8 0, .int .u16 0, .int .u16 0, .string ⟨#[]⟩] 27) = w1 := ⟨_, rfl⟩
  have hF : FrA w1 w.heap.size f := by rw [← hw1]; exact (FrA.new w f).alloc _
  have hZ : Blk w1 (w.heap.size + 1) 27 #[.int .u8 0, .int .u8 0, .int .u8 0, .int .u8 0, .int .u8 0, .int .u8 0, .int .u8 0, .int .u8 0, .int .u8 0, .int .u8 0, .int .u8 0, .int .u8 0, .bool false, .int .u8 0, .int .u16 0, .int .u16 0, .string ⟨#[]⟩] := by rw [← hw1]; have := Blk.new (w.alloc (.cells #[.int .u8 f.d0.toNat, .int .u8 f.d1.toNat, .int .u8 f.d2.toNat, .int .u8 f.d3.toNat, .int .u8 f.d4.toNat, .int .u8 f.d5.toNat, .int .u8 f.s0.toNat, .int .u8 f.s1.toNat, .int .u8 f.s2.toNat, .int .u8 f.s3.toNat, .int .u8 f.s4.toNat, .int .u8 f.s5.toNat, .bool f.tag, .int .u8 f.pri.toNat, .int .u16 f.vid.toNat, .int .u16 f.ty.toNat, .string ⟨f.data.toArray⟩] 27)) 27 #[.int .u8 0, .int .u8 0, .int .u8 0, .int .u8 0, .int .u8 0, .int .u8 0, .int .u8 0, .int .u8 0, .int .u8 0, .int .u8 0, .int .u8 0, .int .u8 0, .bool false, .int .u8 0, .int .u16 0, .int .u16 0, .string ⟨#[]⟩]; simpa using this
  have hB : Below w.heap.size w w1 := by rw [← hw1]; exact ((Below.refl w.heap.size w).alloc (Nat.le_refl _) _).alloc (by simp) _
  have HF1 := Lib.hid hF
  have HZ1 := Lib.hid hZ
  have HB1 := Lib.hid hB
  clear hF hZ hB
  go_enter Try.func15, Try.ntmps15
  go_upto_region 1 with fail
  clear hw1
  go_wp2_with fail
  refine (of_nil_z v HZZ.out).mono ?_
  rintro e w2 ⟨rfl, hb2⟩
  have HF2 := Lib.hid (HF1.out.next hb2)
  have HZ2 := Lib.hid (HZ1.out.below hb2 HZ1.out.lt)
  have HB2 : Hid (Below w.heap.size w w2) := Lib.hid (HB1.out.trans (hb2.mono HB1.out.size))
  have HL2 := Lib.hid HZ2.out.lt
  clear hb2 HF1 HZ1 HB1
  go_wp2_with fail
  refine (in_ex2 p).mono ?_
  rintro e w3 ⟨g, rfl, hg, hb3, hgw⟩
  have HF3 := Lib.hid (HF2.out.next hb3)
  have HZ3 := Lib.hid (HZ2.out.below hb3 HZ2.out.lt)
  have HB3 : Hid (Below w.heap.size w w3) := Lib.hid (HB2.out.trans (hb3.mono HB2.out.size))
  have hb3s := hb3.size
  clear hb3 HF2 HZ2 HB2
  obtain ⟨w4, hw4⟩ : ∃ w4, w3.alloc (.cells #[.int .u8 z.toNat, .int .u8 z.toNat] 69) = w4 := ⟨_, rfl⟩
  obtain ⟨s, hs⟩ : ∃ s, w3.heap.size = s := ⟨_, rfl⟩
  have hS : Blk w4 s 69 #[.int .u8 z.toNat, .int .u8 z.toNat] := by rw [← hw4, ← hs]; exact Blk.new w3 _ _
  have m0 := hS.cell 0
  have m1 := hS.cell 1
  have hg4 : w4.cell? ⟨g, 0, none⟩ = some (.int .u8 p.toNat) := by rw [← hw4]; exact (World.cell?_of_block (w := w3) (Below.heap_alloc w3 _ g (World.block_lt_of_cell? w3 _ hg))).trans hg
  have HF := Lib.hid (show FrA w4 w.heap.size f by rw [← hw4]; exact HF3.out.alloc _)
  have HZ := Lib.hid (show Blk w4 (w.heap.size + 1) 27 #[.int .u8 0, .int .u8 0, .int .u8 0, .int .u8 0, .int .u8 0, .int .u8 0, .int .u8 0, .int .u8 0, .int .u8 0, .int .u8 0, .int .u8 0, .int .u8 0, .bool false, .int .u8 0, .int .u16 0, .int .u16 0, .string ⟨#[]⟩] by rw [← hw4]; exact HZ3.out.alloc _)
  have HB := Lib.hid (show Below w.heap.size w w4 by rw [← hw4]; exact HB3.out.alloc HB3.out.size _)
  have hgs : g ≠ w.heap.size ∧ s ≠ w.heap.size := by
    have a1 := HL2.out
    have a2 := hb3s
    constructor <;> omega
  have hgz : g ≠ w.heap.size + 1 ∧ s ≠ w.heap.size + 1 := by
    have a1 := HL2.out
    have a2 := hb3s
    constructor <;> omega
  have HG := Lib.hid hgs
  have HGL := Lib.hid (World.block_lt_of_cell? w4 _ hg4)
  have HSL := Lib.hid hS.lt
  have HSS := Lib.hid hS
  have HGC := Lib.hid hg4
  clear HF3 HZ3 HB3 hg hS hgs hgz hgw hb3s
  simp only [List.getElem?_toArray, List.getElem?_cons_zero, List.getElem?_cons_succ] at m0 m1
  go_wp2_with fail
  refine (in1_any z p hg4).mono ?_
  clear hw4 hs
  · rw [show has8 z p = false by rw [HZZ.out]; simp [has8]]
    rintro e w5 ⟨rfl, rfl⟩
    go_wp2_with (refine wpList_store_row rfl 27 (.tmp 8) _ rfl (w.heap.size + 1) rfl #[.int .u8 0, .int .u8 0, .int .u8 0, .int .u8 0, .int .u8 0, .int .u8 0, .int .u8 0, .int .u8 0, .int .u8 0, .int .u8 0, .int .u8 0, .int .u8 0, .bool false, .int .u8 0, .int .u16 0, .int .u16 0, .string ⟨#[]⟩] rfl 27 _ HZ.out (by kernel_rfl) rfl (by kernel_rfl) ?_)
    have HR := Lib.hid (HZ.out.row #[.int .u8 0, .int .u8 0, .int .u8 0, .int .u8 0, .int .u8 0, .int .u8 0, .int .u8 0, .int .u8 0, .int .u8 0, .int .u8 0, .int .u8 0, .int .u8 0, .bool false, .int .u8 0, .int .u16 0, .int .u16 0, .string ⟨#[]⟩])
    refine bodyPost_ret (v := .tuple #[FV Fr.zero, .bool false]) (results_cell_slot Try.results15 _ _ (w.heap.size + 1) 27 _ _ rfl HR.out Try.underlying27 rfl (by kernel_rfl) _ rfl) rfl ⟨rfl, below_row HB.out (Nat.le_succ _) _⟩
end Go.Proofs.Yteiopobkbfancaa
