/- Layer 16: the law's says, and where the rows lie. -/
import Derived.Test.YtfdiolfelecccaaZzLaw16
import Derived.Test.YtfdiolfelecccaaZzLe16
import Derived.Test.YtfdiolfelecccaaZzLa16
namespace Go.Proofs.Ytfdiolfelecccaa
open Go.RowKit
set_option linter.unusedVariables false
set_option linter.unusedSimpArgs false
set_option maxRecDepth 100000

set_option maxHeartbeats 8000000 in
theorem says16_loc (T : Tb) (X : TbX) (x : Ac) (B : Option Addr) (c : Nat) (w : World) (hT : TbD w T X) (hI : TbInv T) (hs : Sm T 1000) (hE : Els 1 u16c w B x.a.m) (hd : x.a.d.length ≤ 1000) (hn : x.a.n.length ≤ 1000) :
    Calls Try.prog 10 #[.agg (TbC T X), AcV x B c] w fun e w' => ∃ X', e = .returned (.tuple #[.agg (TbC (T.act x).1 X'), .int .i64 ((T.act x).2.1 : Nat), .int .i64 ((T.act x).2.2 : Nat)]) ∧ TbD w' (T.act x).1 X' ∧ Below w.heap.size w w' ∧ XTo w.heap.size w'.heap.size ⟨x.a, B, c⟩ X X' := by
  have HB0 : Hid (Below w.heap.size w (((w.alloc (.cells #[.int .i64 (T.n : Int), .slice X.A T.A.length X.ca, .slice X.E T.E.length X.ce, .slice X.M T.M.length X.cm] 34)).alloc (.cells #[.int .u8 x.k.toNat, .int .u8 x.a.l.toNat, .string ⟨x.a.d.toArray⟩, .string ⟨x.a.n.toArray⟩, .int .u16 x.a.v.toNat, .int .u8 x.a.i.toNat, .slice B x.a.m.length c, .int .i64 x.e.a, .int .u16 x.e.m.toNat, .int .u8 x.e.p.toNat, .bool x.e.u, .int .u8 x.m.p.toNat, .int .u16 x.m.v.toNat, .int .u8 x.m.l.toNat] 43)).alloc (.cells #[.int .i64 0, .slice none 0 0, .slice none 0 0, .slice none 0 0] 34))) := Lib.hid ((((Below.refl _ _).alloc (Nat.le_refl _) _).alloc (by simp) _).alloc (by simp; omega) _)
  have HK0 : Blk (((w.alloc (.cells #[.int .i64 (T.n : Int), .slice X.A T.A.length X.ca, .slice X.E T.E.length X.ce, .slice X.M T.M.length X.cm] 34)).alloc (.cells #[.int .u8 x.k.toNat, .int .u8 x.a.l.toNat, .string ⟨x.a.d.toArray⟩, .string ⟨x.a.n.toArray⟩, .int .u16 x.a.v.toNat, .int .u8 x.a.i.toNat, .slice B x.a.m.length c, .int .i64 x.e.a, .int .u16 x.e.m.toNat, .int .u8 x.e.p.toNat, .bool x.e.u, .int .u8 x.m.p.toNat, .int .u16 x.m.v.toNat, .int .u8 x.m.l.toNat] 43)).alloc (.cells #[.int .i64 0, .slice none 0 0, .slice none 0 0, .slice none 0 0] 34)) w.heap.size 34 #[.int .i64 (T.n : Int), .slice X.A T.A.length X.ca, .slice X.E T.E.length X.ce, .slice X.M T.M.length X.cm] := ((Blk.new _ _ _).alloc _).alloc _
  have HX0 : Blk (((w.alloc (.cells #[.int .i64 (T.n : Int), .slice X.A T.A.length X.ca, .slice X.E T.E.length X.ce, .slice X.M T.M.length X.cm] 34)).alloc (.cells #[.int .u8 x.k.toNat, .int .u8 x.a.l.toNat, .string ⟨x.a.d.toArray⟩, .string ⟨x.a.n.toArray⟩, .int .u16 x.a.v.toNat, .int .u8 x.a.i.toNat, .slice B x.a.m.length c, .int .i64 x.e.a, .int .u16 x.e.m.toNat, .int .u8 x.e.p.toNat, .bool x.e.u, .int .u8 x.m.p.toNat, .int .u16 x.m.v.toNat, .int .u8 x.m.l.toNat] 43)).alloc (.cells #[.int .i64 0, .slice none 0 0, .slice none 0 0, .slice none 0 0] 34)) (w.heap.size + 1) 43 #[.int .u8 x.k.toNat, .int .u8 x.a.l.toNat, .string ⟨x.a.d.toArray⟩, .string ⟨x.a.n.toArray⟩, .int .u16 x.a.v.toNat, .int .u8 x.a.i.toNat, .slice B x.a.m.length c, .int .i64 x.e.a, .int .u16 x.e.m.toNat, .int .u8 x.e.p.toNat, .bool x.e.u, .int .u8 x.m.p.toNat, .int .u16 x.m.v.toNat, .int .u8 x.m.l.toNat] := by
    have := (Blk.new (w.alloc (.cells #[.int .i64 (T.n : Int), .slice X.A T.A.length X.ca, .slice X.E T.E.length X.ce, .slice X.M T.M.length X.cm] 34)) 43 #[.int .u8 x.k.toNat, .int .u8 x.a.l.toNat, .string ⟨x.a.d.toArray⟩, .string ⟨x.a.n.toArray⟩, .int .u16 x.a.v.toNat, .int .u8 x.a.i.toNat, .slice B x.a.m.length c, .int .i64 x.e.a, .int .u16 x.e.m.toNat, .int .u8 x.e.p.toNat, .bool x.e.u, .int .u8 x.m.p.toNat, .int .u16 x.m.v.toNat, .int .u8 x.m.l.toNat]).alloc (.cells #[.int .i64 0, .slice none 0 0, .slice none 0 0, .slice none 0 0] 34)
    simpa using this
  have HR0 : Hid (Blk (((w.alloc (.cells #[.int .i64 (T.n : Int), .slice X.A T.A.length X.ca, .slice X.E T.E.length X.ce, .slice X.M T.M.length X.cm] 34)).alloc (.cells #[.int .u8 x.k.toNat, .int .u8 x.a.l.toNat, .string ⟨x.a.d.toArray⟩, .string ⟨x.a.n.toArray⟩, .int .u16 x.a.v.toNat, .int .u8 x.a.i.toNat, .slice B x.a.m.length c, .int .i64 x.e.a, .int .u16 x.e.m.toNat, .int .u8 x.e.p.toNat, .bool x.e.u, .int .u8 x.m.p.toNat, .int .u16 x.m.v.toNat, .int .u8 x.m.l.toNat] 43)).alloc (.cells #[.int .i64 0, .slice none 0 0, .slice none 0 0, .slice none 0 0] 34)) (w.heap.size + 2) 34 #[.int .i64 0, .slice none 0 0, .slice none 0 0, .slice none 0 0]) := Lib.hid (by
    have := Blk.new ((w.alloc (.cells #[.int .i64 (T.n : Int), .slice X.A T.A.length X.ca, .slice X.E T.E.length X.ce, .slice X.M T.M.length X.cm] 34)).alloc (.cells #[.int .u8 x.k.toNat, .int .u8 x.a.l.toNat, .string ⟨x.a.d.toArray⟩, .string ⟨x.a.n.toArray⟩, .int .u16 x.a.v.toNat, .int .u8 x.a.i.toNat, .slice B x.a.m.length c, .int .i64 x.e.a, .int .u16 x.e.m.toNat, .int .u8 x.e.p.toNat, .bool x.e.u, .int .u8 x.m.p.toNat, .int .u16 x.m.v.toNat, .int .u8 x.m.l.toNat] 43)) 34 #[.int .i64 0, .slice none 0 0, .slice none 0 0, .slice none 0 0]
    simpa using this)
  have HT0 := Lib.hid (hT.next HB0.out)
  have HI := Lib.hid hI
  have HS := Lib.hid hs
  have HE0 := Lib.hid (hE.next HB0.out)
  have HDN := Lib.hid (And.intro hd hn)
  have a0 := HX0.cell 0
  have a1 := HX0.cell 1
  have a2 := HX0.cell 2
  have a3 := HX0.cell 3
  have a4 := HX0.cell 4
  have a5 := HX0.cell 5
  have a6 := HX0.cell 6
  have a7 := HX0.cell 7
  have a8 := HX0.cell 8
  have a9 := HX0.cell 9
  have a10 := HX0.cell 10
  have a11 := HX0.cell 11
  have a12 := HX0.cell 12
  have a13 := HX0.cell 13
  simp only [List.getElem?_toArray, List.getElem?_cons_succ, List.getElem?_cons_zero] at a0 a1 a2 a3 a4 a5 a6 a7 a8 a9 a10 a11 a12 a13
  have t0 := HK0.cell 0
  have t1 := HK0.cell 1
  have t2 := HK0.cell 2
  have t3 := HK0.cell 3
  simp only [List.getElem?_toArray, List.getElem?_cons_succ, List.getElem?_cons_zero] at t0 t1 t2 t3
  clear HK0 HX0 hT hI hs hE hd hn
  show Calls _ _ #[.agg #[.int .i64 (T.n : Int), .slice X.A T.A.length X.ca, .slice X.E T.E.length X.ce, .slice X.M T.M.length X.cm], .agg #[.int .u8 x.k.toNat, .int .u8 x.a.l.toNat, .string ⟨x.a.d.toArray⟩, .string ⟨x.a.n.toArray⟩, .int .u16 x.a.v.toNat, .int .u8 x.a.i.toNat, .slice B x.a.m.length c, .int .i64 x.e.a, .int .u16 x.e.m.toNat, .int .u8 x.e.p.toNat, .bool x.e.u, .int .u8 x.m.p.toNat, .int .u16 x.m.v.toNat, .int .u8 x.m.l.toNat]] _ _
  by_cases h0 : x.k = 0
  · have HX : Hid (T.act x = ((T.addE x.e).1, 0, (T.addE x.e).2)) := Lib.hid (by unfold Tb.act; rw [if_pos h0])
    have q0 : ((x.k.toNat : Int) == 0) = true := by rw [h0]; rfl
    clear h0
    go_enter Try.func10, Try.ntmps10
    go_wp2_with fail
    refine (refadde16_loc T X x.e _ HT0.out HI.out HS.out.1 HS.out.2.1 HS.out.2.2).mono ?_
    rintro r w1 ⟨X', rfl, hT1, hb1, hto⟩
    have HTO := Lib.hid hto
    clear hto
    have HB1 : Hid (Below w.heap.size w w1) := Lib.hid (HB0.out.trans (hb1.mono HB0.out.size))
    have HR1 := Lib.hid (HR0.out.below hb1 HR0.out.lt)
    have HT1 := Lib.hid hT1
    clear hb1 hT1 HB0 HR0 a0 a1 a2 a3 a4 a5 a6 a7 a8 a9 a10 a11 a12 a13 t0 t1 t2 t3
    obtain ⟨T1, hT1⟩ : ∃ T1, (T.addE x.e).1 = T1 := ⟨_, rfl⟩
    have HX1 : Hid (T.act x = (T1, 0, (T.addE x.e).2)) := Lib.hid (by rw [HX.out, hT1])
    rw [hT1] at HT1
    have HB2 : Hid (Below w.heap.size w (w1.alloc (.cells #[.int .i64 ((T1).n : Int), .slice X'.A (T1).A.length X'.ca, .slice X'.E (T1).E.length X'.ce, .slice X'.M (T1).M.length X'.cm] 34))) := Lib.hid (HB1.out.alloc HB1.out.size _)
    have HR2 : Hid (Blk (w1.alloc (.cells #[.int .i64 ((T1).n : Int), .slice X'.A (T1).A.length X'.ca, .slice X'.E (T1).E.length X'.ce, .slice X'.M (T1).M.length X'.cm] 34)) (w.heap.size + 2) 34 #[.int .i64 0, .slice none 0 0, .slice none 0 0, .slice none 0 0]) := Lib.hid (HR1.out.alloc _)
    have HT2 : Hid (TbD (w1.alloc (.cells #[.int .i64 ((T1).n : Int), .slice X'.A (T1).A.length X'.ca, .slice X'.E (T1).E.length X'.ce, .slice X'.M (T1).M.length X'.cm] 34)) T1 X') := Lib.hid (HT1.out.next ((Below.refl _ _).alloc (Nat.le_refl _) _))
    have HG2 := Blk.new w1 34 #[.int .i64 ((T1).n : Int), .slice X'.A (T1).A.length X'.ca, .slice X'.E (T1).E.length X'.ce, .slice X'.M (T1).M.length X'.cm]
    have g0 := HG2.cell 0
    have g1 := HG2.cell 1
    have g2 := HG2.cell 2
    have g3 := HG2.cell 3
    simp only [List.getElem?_toArray, List.getElem?_cons_succ, List.getElem?_cons_zero] at  g0 g1 g2 g3
    clear HG2 HB1 HR1 HT1
    simp only [TbC, hT1]
    clear hT1
    go_wp2_with (refine wpList_store_row rfl 34 (.tmp 4) (.tmp 26) rfl (w.heap.size + 2) rfl _ rfl 34 _ HR2.out (by kernel_rfl) rfl (by kernel_rfl) ?_)
    refine bodyPost_ret (v := .tuple #[.agg #[.int .i64 ((T1).n : Int), .slice X'.A (T1).A.length X'.ca, .slice X'.E (T1).E.length X'.ce, .slice X'.M (T1).M.length X'.cm], .int .i64 0, .int .i64 (((T.addE x.e).2 : Nat) : Int)]) (results_cell_two (p := 4) (q := 5) (r := 6) (by kernel_rfl) _ _ (w.heap.size + 2) 34 _ _ rfl (Blk.row HR2.out _) Try.underlying34 rfl (by kernel_rfl) _ rfl _ rfl) rfl ?_
    exact ⟨X', by rw [HX1.out]; try rfl, by rw [HX1.out]; exact tbd_set HT2.out HR2.out, below_row HB2.out (by omega) _, XTo.mono (HTO.out _) (by simp; try omega) (by simp)⟩
  by_cases h1 : x.k = 1
  · have HX : Hid (T.act x = ((T.dropE x.e.a x.e.m).1, 0, (T.dropE x.e.a x.e.m).2)) := Lib.hid (by unfold Tb.act; rw [if_neg h0, if_pos h1])
    have q0 : ((x.k.toNat : Int) == 0) = false := by rw [h1]; rfl
    have q1 : ((x.k.toNat : Int) == 1) = true := by rw [h1]; rfl
    clear h0 h1
    go_enter Try.func10, Try.ntmps10
    go_wp2_with fail
    refine (refdrope16_loc T X x.e.a x.e.m _ HT0.out HS.out.2.1).mono ?_
    rintro r w1 ⟨X', rfl, hT1, hb1, hto⟩
    have HTO := Lib.hid hto
    clear hto
    have HB1 : Hid (Below w.heap.size w w1) := Lib.hid (HB0.out.trans (hb1.mono HB0.out.size))
    have HR1 := Lib.hid (HR0.out.below hb1 HR0.out.lt)
    have HT1 := Lib.hid hT1
    clear hb1 hT1 HB0 HR0 a0 a1 a2 a3 a4 a5 a6 a7 a8 a9 a10 a11 a12 a13 t0 t1 t2 t3
    obtain ⟨T1, hT1⟩ : ∃ T1, (T.dropE x.e.a x.e.m).1 = T1 := ⟨_, rfl⟩
    have HX1 : Hid (T.act x = (T1, 0, (T.dropE x.e.a x.e.m).2)) := Lib.hid (by rw [HX.out, hT1])
    rw [hT1] at HT1
    have HB2 : Hid (Below w.heap.size w (w1.alloc (.cells #[.int .i64 ((T1).n : Int), .slice X'.A (T1).A.length X'.ca, .slice X'.E (T1).E.length X'.ce, .slice X'.M (T1).M.length X'.cm] 34))) := Lib.hid (HB1.out.alloc HB1.out.size _)
    have HR2 : Hid (Blk (w1.alloc (.cells #[.int .i64 ((T1).n : Int), .slice X'.A (T1).A.length X'.ca, .slice X'.E (T1).E.length X'.ce, .slice X'.M (T1).M.length X'.cm] 34)) (w.heap.size + 2) 34 #[.int .i64 0, .slice none 0 0, .slice none 0 0, .slice none 0 0]) := Lib.hid (HR1.out.alloc _)
    have HT2 : Hid (TbD (w1.alloc (.cells #[.int .i64 ((T1).n : Int), .slice X'.A (T1).A.length X'.ca, .slice X'.E (T1).E.length X'.ce, .slice X'.M (T1).M.length X'.cm] 34)) T1 X') := Lib.hid (HT1.out.next ((Below.refl _ _).alloc (Nat.le_refl _) _))
    have HG2 := Blk.new w1 34 #[.int .i64 ((T1).n : Int), .slice X'.A (T1).A.length X'.ca, .slice X'.E (T1).E.length X'.ce, .slice X'.M (T1).M.length X'.cm]
    have g0 := HG2.cell 0
    have g1 := HG2.cell 1
    have g2 := HG2.cell 2
    have g3 := HG2.cell 3
    simp only [List.getElem?_toArray, List.getElem?_cons_succ, List.getElem?_cons_zero] at  g0 g1 g2 g3
    clear HG2 HB1 HR1 HT1
    simp only [TbC, hT1]
    clear hT1
    go_wp2_with (refine wpList_store_row rfl 34 (.tmp 4) (.tmp 41) rfl (w.heap.size + 2) rfl _ rfl 34 _ HR2.out (by kernel_rfl) rfl (by kernel_rfl) ?_)
    refine bodyPost_ret (v := .tuple #[.agg #[.int .i64 ((T1).n : Int), .slice X'.A (T1).A.length X'.ca, .slice X'.E (T1).E.length X'.ce, .slice X'.M (T1).M.length X'.cm], .int .i64 0, .int .i64 (((T.dropE x.e.a x.e.m).2 : Nat) : Int)]) (results_cell_two (p := 4) (q := 5) (r := 6) (by kernel_rfl) _ _ (w.heap.size + 2) 34 _ _ rfl (Blk.row HR2.out _) Try.underlying34 rfl (by kernel_rfl) _ rfl _ rfl) rfl ?_
    exact ⟨X', by rw [HX1.out]; try rfl, by rw [HX1.out]; exact tbd_set HT2.out HR2.out, below_row HB2.out (by omega) _, XTo.mono (HTO.out _) (by simp; try omega) (by simp)⟩
  by_cases h2 : x.k = 2
  · have HX : Hid (T.act x = ((T.addM x.m).1, 0, (T.addM x.m).2)) := Lib.hid (by unfold Tb.act; rw [if_neg h0, if_neg h1, if_pos h2])
    have q0 : ((x.k.toNat : Int) == 0) = false := by rw [h2]; rfl
    have q1 : ((x.k.toNat : Int) == 1) = false := by rw [h2]; rfl
    have q2 : ((x.k.toNat : Int) == 2) = true := by rw [h2]; rfl
    clear h0 h1 h2
    go_enter Try.func10, Try.ntmps10
    go_wp2_with fail
    refine (refaddm16_loc T X x.m _ HT0.out HI.out HS.out.1 HS.out.2.1 HS.out.2.2).mono ?_
    rintro r w1 ⟨X', rfl, hT1, hb1, hto⟩
    have HTO := Lib.hid hto
    clear hto
    have HB1 : Hid (Below w.heap.size w w1) := Lib.hid (HB0.out.trans (hb1.mono HB0.out.size))
    have HR1 := Lib.hid (HR0.out.below hb1 HR0.out.lt)
    have HT1 := Lib.hid hT1
    clear hb1 hT1 HB0 HR0 a0 a1 a2 a3 a4 a5 a6 a7 a8 a9 a10 a11 a12 a13 t0 t1 t2 t3
    obtain ⟨T1, hT1⟩ : ∃ T1, (T.addM x.m).1 = T1 := ⟨_, rfl⟩
    have HX1 : Hid (T.act x = (T1, 0, (T.addM x.m).2)) := Lib.hid (by rw [HX.out, hT1])
    rw [hT1] at HT1
    have HB2 : Hid (Below w.heap.size w (w1.alloc (.cells #[.int .i64 ((T1).n : Int), .slice X'.A (T1).A.length X'.ca, .slice X'.E (T1).E.length X'.ce, .slice X'.M (T1).M.length X'.cm] 34))) := Lib.hid (HB1.out.alloc HB1.out.size _)
    have HR2 : Hid (Blk (w1.alloc (.cells #[.int .i64 ((T1).n : Int), .slice X'.A (T1).A.length X'.ca, .slice X'.E (T1).E.length X'.ce, .slice X'.M (T1).M.length X'.cm] 34)) (w.heap.size + 2) 34 #[.int .i64 0, .slice none 0 0, .slice none 0 0, .slice none 0 0]) := Lib.hid (HR1.out.alloc _)
    have HT2 : Hid (TbD (w1.alloc (.cells #[.int .i64 ((T1).n : Int), .slice X'.A (T1).A.length X'.ca, .slice X'.E (T1).E.length X'.ce, .slice X'.M (T1).M.length X'.cm] 34)) T1 X') := Lib.hid (HT1.out.next ((Below.refl _ _).alloc (Nat.le_refl _) _))
    have HG2 := Blk.new w1 34 #[.int .i64 ((T1).n : Int), .slice X'.A (T1).A.length X'.ca, .slice X'.E (T1).E.length X'.ce, .slice X'.M (T1).M.length X'.cm]
    have g0 := HG2.cell 0
    have g1 := HG2.cell 1
    have g2 := HG2.cell 2
    have g3 := HG2.cell 3
    simp only [List.getElem?_toArray, List.getElem?_cons_succ, List.getElem?_cons_zero] at  g0 g1 g2 g3
    clear HG2 HB1 HR1 HT1
    simp only [TbC, hT1]
    clear hT1
    go_wp2_with (refine wpList_store_row rfl 34 (.tmp 4) (.tmp 52) rfl (w.heap.size + 2) rfl _ rfl 34 _ HR2.out (by kernel_rfl) rfl (by kernel_rfl) ?_)
    refine bodyPost_ret (v := .tuple #[.agg #[.int .i64 ((T1).n : Int), .slice X'.A (T1).A.length X'.ca, .slice X'.E (T1).E.length X'.ce, .slice X'.M (T1).M.length X'.cm], .int .i64 0, .int .i64 (((T.addM x.m).2 : Nat) : Int)]) (results_cell_two (p := 4) (q := 5) (r := 6) (by kernel_rfl) _ _ (w.heap.size + 2) 34 _ _ rfl (Blk.row HR2.out _) Try.underlying34 rfl (by kernel_rfl) _ rfl _ rfl) rfl ?_
    exact ⟨X', by rw [HX1.out]; try rfl, by rw [HX1.out]; exact tbd_set HT2.out HR2.out, below_row HB2.out (by omega) _, XTo.mono (HTO.out _) (by simp; try omega) (by simp)⟩
  by_cases h3 : x.k = 3
  · have HX : Hid (T.act x = ((T.dropM x.m.p x.m.v).1, 0, (T.dropM x.m.p x.m.v).2)) := Lib.hid (by unfold Tb.act; rw [if_neg h0, if_neg h1, if_neg h2, if_pos h3])
    have q0 : ((x.k.toNat : Int) == 0) = false := by rw [h3]; rfl
    have q1 : ((x.k.toNat : Int) == 1) = false := by rw [h3]; rfl
    have q2 : ((x.k.toNat : Int) == 2) = false := by rw [h3]; rfl
    have q3 : ((x.k.toNat : Int) == 3) = true := by rw [h3]; rfl
    clear h0 h1 h2 h3
    go_enter Try.func10, Try.ntmps10
    go_wp2_with fail
    refine (refdropm16_loc T X x.m.p x.m.v _ HT0.out HS.out.2.2).mono ?_
    rintro r w1 ⟨X', rfl, hT1, hb1, hto⟩
    have HTO := Lib.hid hto
    clear hto
    have HB1 : Hid (Below w.heap.size w w1) := Lib.hid (HB0.out.trans (hb1.mono HB0.out.size))
    have HR1 := Lib.hid (HR0.out.below hb1 HR0.out.lt)
    have HT1 := Lib.hid hT1
    clear hb1 hT1 HB0 HR0 a0 a1 a2 a3 a4 a5 a6 a7 a8 a9 a10 a11 a12 a13 t0 t1 t2 t3
    obtain ⟨T1, hT1⟩ : ∃ T1, (T.dropM x.m.p x.m.v).1 = T1 := ⟨_, rfl⟩
    have HX1 : Hid (T.act x = (T1, 0, (T.dropM x.m.p x.m.v).2)) := Lib.hid (by rw [HX.out, hT1])
    rw [hT1] at HT1
    have HB2 : Hid (Below w.heap.size w (w1.alloc (.cells #[.int .i64 ((T1).n : Int), .slice X'.A (T1).A.length X'.ca, .slice X'.E (T1).E.length X'.ce, .slice X'.M (T1).M.length X'.cm] 34))) := Lib.hid (HB1.out.alloc HB1.out.size _)
    have HR2 : Hid (Blk (w1.alloc (.cells #[.int .i64 ((T1).n : Int), .slice X'.A (T1).A.length X'.ca, .slice X'.E (T1).E.length X'.ce, .slice X'.M (T1).M.length X'.cm] 34)) (w.heap.size + 2) 34 #[.int .i64 0, .slice none 0 0, .slice none 0 0, .slice none 0 0]) := Lib.hid (HR1.out.alloc _)
    have HT2 : Hid (TbD (w1.alloc (.cells #[.int .i64 ((T1).n : Int), .slice X'.A (T1).A.length X'.ca, .slice X'.E (T1).E.length X'.ce, .slice X'.M (T1).M.length X'.cm] 34)) T1 X') := Lib.hid (HT1.out.next ((Below.refl _ _).alloc (Nat.le_refl _) _))
    have HG2 := Blk.new w1 34 #[.int .i64 ((T1).n : Int), .slice X'.A (T1).A.length X'.ca, .slice X'.E (T1).E.length X'.ce, .slice X'.M (T1).M.length X'.cm]
    have g0 := HG2.cell 0
    have g1 := HG2.cell 1
    have g2 := HG2.cell 2
    have g3 := HG2.cell 3
    simp only [List.getElem?_toArray, List.getElem?_cons_succ, List.getElem?_cons_zero] at  g0 g1 g2 g3
    clear HG2 HB1 HR1 HT1
    simp only [TbC, hT1]
    clear hT1
    go_wp2_with (refine wpList_store_row rfl 34 (.tmp 4) (.tmp 67) rfl (w.heap.size + 2) rfl _ rfl 34 _ HR2.out (by kernel_rfl) rfl (by kernel_rfl) ?_)
    refine bodyPost_ret (v := .tuple #[.agg #[.int .i64 ((T1).n : Int), .slice X'.A (T1).A.length X'.ca, .slice X'.E (T1).E.length X'.ce, .slice X'.M (T1).M.length X'.cm], .int .i64 0, .int .i64 (((T.dropM x.m.p x.m.v).2 : Nat) : Int)]) (results_cell_two (p := 4) (q := 5) (r := 6) (by kernel_rfl) _ _ (w.heap.size + 2) 34 _ _ rfl (Blk.row HR2.out _) Try.underlying34 rfl (by kernel_rfl) _ rfl _ rfl) rfl ?_
    exact ⟨X', by rw [HX1.out]; try rfl, by rw [HX1.out]; exact tbd_set HT2.out HR2.out, below_row HB2.out (by omega) _, XTo.mono (HTO.out _) (by simp; try omega) (by simp)⟩
  · have HX : Hid (T.act x = T.addA x.a) := Lib.hid (by unfold Tb.act; rw [if_neg h0, if_neg h1, if_neg h2, if_neg h3])
    have q0 : ((x.k.toNat : Int) == 0) = false := u8_ne (b := 0) h0
    have q1 : ((x.k.toNat : Int) == 1) = false := u8_ne (b := 1) h1
    have q2 : ((x.k.toNat : Int) == 2) = false := u8_ne (b := 2) h2
    have q3 : ((x.k.toNat : Int) == 3) = false := u8_ne (b := 3) h3
    clear h0 h1 h2 h3
    go_enter Try.func10, Try.ntmps10
    go_wp2_with fail
    refine (refadda16_loc T X x.a B c _ HT0.out HI.out HS.out.1 HS.out.2.1 HS.out.2.2 HE0.out HDN.out.1 HDN.out.2).mono ?_
    rintro r w1 ⟨X', rfl, hT1, hb1, hto⟩
    have HTO := Lib.hid hto
    clear hto
    have HB1 : Hid (Below w.heap.size w w1) := Lib.hid (HB0.out.trans (hb1.mono HB0.out.size))
    have HR1 := Lib.hid (HR0.out.below hb1 HR0.out.lt)
    have HT1 := Lib.hid hT1
    clear hb1 hT1 HB0 HR0 a0 a1 a2 a3 a4 a5 a6 a7 a8 a9 a10 a11 a12 a13 t0 t1 t2 t3
    obtain ⟨T1, hT1⟩ : ∃ T1, (T.addA x.a).1 = T1 := ⟨_, rfl⟩
    obtain ⟨n1, hn1⟩ : ∃ n, (T.addA x.a).2.1 = n := ⟨_, rfl⟩
    obtain ⟨n2, hn2⟩ : ∃ n, (T.addA x.a).2.2 = n := ⟨_, rfl⟩
    have HX1 : Hid (T.act x = (T1, n1, n2)) := Lib.hid (by rw [HX.out, ← hT1, ← hn1, ← hn2])
    rw [hT1] at HT1
    simp only [TbC, hT1, hn1, hn2]
    clear hT1 hn1 hn2
    go_wp2_with (refine wpList_store_row rfl 34 (.tmp 4) (.tmp 73) rfl (w.heap.size + 2) rfl _ rfl 34 _ HR1.out (by kernel_rfl) rfl (by kernel_rfl) ?_)
    refine bodyPost_ret (v := .tuple #[.agg #[.int .i64 ((T1).n : Int), .slice X'.A (T1).A.length X'.ca, .slice X'.E (T1).E.length X'.ce, .slice X'.M (T1).M.length X'.cm], .int .i64 (n1 : Nat), .int .i64 (n2 : Nat)]) (results_cell_two (p := 4) (q := 5) (r := 6) (by kernel_rfl) _ _ (w.heap.size + 2) 34 _ _ rfl (Blk.row HR1.out _) Try.underlying34 rfl (by kernel_rfl) _ rfl _ rfl) rfl ?_
    exact ⟨X', by rw [HX1.out]; try rfl, by rw [HX1.out]; exact tbd_set HT1.out HR1.out, below_row HB1.out (by omega) _, XTo.mono HTO.out (by simp; try omega) (by simp)⟩
end Go.Proofs.Ytfdiolfelecccaa
