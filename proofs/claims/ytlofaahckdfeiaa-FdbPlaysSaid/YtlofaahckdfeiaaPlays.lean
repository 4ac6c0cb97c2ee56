/- FdbPlays: a database behind any acts answers, has, and tells of any place, what the document says. -/
import Derived.Test.YtlofaahckdfeiaaKit8
import Derived.OpenShut
import Derived.ShutString
import Derived.ChangeOld
namespace Go.Proofs.Ytlofaahckdfeiaa.fdbPlays
open Go.ChangeShapes Go.WideShapes Go.ChangeAt Go.RowKit
open Go.ChangeMaps (open_string shut_string)
set_option linter.unusedVariables false
set_option linter.unusedSimpArgs false
set_option maxRecDepth 100000


set_option maxRecDepth 100000 in
set_option maxHeartbeats 16000000 in
theorem plays_law (W : World) (Aa : Option Addr) (ca : Nat) (l : List Ac) (vv : UInt16) (mm : Mc) (hE : Els 10 encA W Aa l) (hna : 0 < l.length → ∀ a, Aa = some a → a.block < W.heap.size) : Calls Try.prog 3 #[.slice Aa l.length ca, .int .u16 vv.toNat, mV mm] W fun e w' => e = .returned (.bool true) ∧ Below W.heap.size W w' := by
  obtain ⟨w1, hw1⟩ : ∃ w1, W.alloc (.cells #[.int .u8 mm.a.toNat, .int .u8 mm.b.toNat, .int .u8 mm.c.toNat, .int .u8 mm.d.toNat, .int .u8 mm.e.toNat, .int .u8 mm.f.toNat] 25) = w1 := ⟨_, rfl⟩
  obtain ⟨gm, hg⟩ : ∃ g, W.heap.size = g := ⟨_, rfl⟩
  have HM1 := Lib.hid (show Blk w1 gm 25 #[.int .u8 mm.a.toNat, .int .u8 mm.b.toNat, .int .u8 mm.c.toNat, .int .u8 mm.d.toNat, .int .u8 mm.e.toNat, .int .u8 mm.f.toNat] by rw [← hw1, ← hg]; exact Blk.new W _ _)
  have HB1 := Lib.hid (show Below W.heap.size W w1 by rw [← hw1]; exact (Below.refl W.heap.size W).alloc (Nat.le_refl _) _)
  have HE1 := Lib.hid (hE.next HB1.out)
  have HGM := Lib.hid hg
  have HNA := Lib.hid hna
  obtain ⟨n, hn⟩ : ∃ n, l.length = n := ⟨_, rfl⟩
  have HN := Lib.hid hn
  rw [hn]
  clear hn hE hna
  go_enter Try.func3, Try.ntmps3
  go_upto_region 1 with fail
  clear hw1 hg
  by_cases hl : 300 < n
  · have hl' : (300 : Int) < (n : Int) := by omega
    go_wp2_with fail
    refine (wakes_any _).mono ?_
    rintro e w2 ⟨rfl, hb⟩
    have HB2 := Lib.hid (HB1.out.trans (hb.mono HB1.out.size))
    clear hb
    go_wp2
    go_ret
    exact ⟨rfl, HB2.out⟩
  have hl' : ¬ (300 : Int) < (n : Int) := by omega
  go_wp2_with fail
  refine (new_db _).mono ?_
  rintro e w2 ⟨t, X, rfl, hD, hup, hG⟩
  obtain ⟨q, hq⟩ : ∃ q, w2.heap.size = q := ⟨_, rfl⟩
  obtain ⟨w3, hw3⟩ : ∃ w3, w2.alloc (.cells #[.slice none 0 0, .slice none 0 0] 32) = w3 := ⟨_, rfl⟩
  have HS0 : Hid (PlS W t X q gm mm Aa l [] [] [] [] w3) := Lib.hid (by
    have hB2 := HB1.out.trans (hG.below.mono HB1.out.size)
    have hlt := hD.lt
    have hm2 := hG.blk HM1.out
    have hgr : Gro w2 w3 := by rw [← hw3]; exact (Gro.refl _).alloc _
    refine ⟨hD.gro hgr, ⟨none, 0, none, 0, by rw [← hw3, ← hq]; exact Blk.new w2 _ _, ⟨fun h => absurd h (by simp), fun h => absurd h (by simp), Nat.le_refl _, Nat.le_refl _, fun _ => rfl, fun _ => rfl, fun a e => (by cases e), fun a e => (by cases e), Nat.zero_le _, Nat.zero_le _⟩⟩, hgr.blk hm2, (HE1.out.next (hG.below)).next hgr.below, hB2.trans (hgr.below.mono hB2.size), fun k e => Nat.le_trans HB1.out.size (hup k e), fun e => by have := hlt q e; omega, fun e => by have := hup gm e; have := HM1.out.lt; omega, by have := hm2.lt; omega, HNA.out, by rw [← hq]; exact hB2.size⟩)
  clear hD hup hG
  go_upto_region 5 with fail
  clear hq hw3
  go_wp2_with fail
  go_loopw [9] (fun i wr => ∃ (k : Nat) (X : Nat → Prop) (L : List En) (S : List (Pl × UInt8)), k ≤ n ∧ i = .int .i64 k ∧ Hid (PlS W t X q gm mm Aa l L S L S wr)) (fun i _ => n - (intOf i).toNat)
  case atStart => exact ⟨0, X, [], [], Nat.zero_le _, rfl, HS0⟩
  case round =>
    clear HS0 HM1 HB1 HE1
    obtain ⟨k, X, L, S, hk, rfl, HK⟩ := hrel
    have HOLD := Lib.hid HK.out.db.old
    have HND := Lib.hid HK.out.db.nd
    by_cases hlt : k < n
    · obtain ⟨x, hx⟩ : ∃ x, l[k]? = some x := ⟨_, List.getElem?_eq_getElem (by rw [HN.out]; exact hlt)⟩
      obtain ⟨b, off, rfl, hcl⟩ := els_act HK.out.el hx
      obtain ⟨d, ⟨v, m⟩, p, s⟩ := x
      have HLD := Lib.hid hcl
      have hki : (k : Int) < n := by omega
      obtain ⟨ga, hga⟩ : ∃ g, wr.heap.size = g := ⟨_, rfl⟩
      obtain ⟨w2, hw2⟩ : ∃ w2, wr.alloc (.cells ([.int .u8 d.toNat, .int .u16 v.toNat, .int .u8 m.a.toNat, .int .u8 m.b.toNat, .int .u8 m.c.toNat, .int .u8 m.d.toNat, .int .u8 m.e.toNat, .int .u8 m.f.toNat, .int .u8 p.toNat, .int .u8 s.toNat] : List Value).toArray 34) = w2 := ⟨_, rfl⟩
      have HS : Hid (PlA W t X q gm mm (some ⟨b, off, none⟩) l ga ⟨d, ⟨v, m⟩, p, s⟩ L S L S w2) := Lib.hid (by
        have hgr : Gro wr w2 := by rw [← hw2]; exact (Gro.refl _).alloc _
        exact ⟨HK.out.calm hgr.below, by rw [← hw2, ← hga]; exact Blk.new wr _ _, fun e => by have := HK.out.db.lt ga e; omega, fun e => by have := HK.out.qlt; omega⟩)
      clear hx hcl
      go_upto_region 9 with (refine wpList_load_at 34 37 rfl (by kernel_rfl) b (off + k * 10) [.int .u8 d.toNat, .int .u16 v.toNat, .int .u8 m.a.toNat, .int .u8 m.b.toNat, .int .u8 m.c.toNat, .int .u8 m.d.toNat, .int .u8 m.e.toNat, .int .u8 m.f.toNat, .int .u8 p.toNat, .int .u8 s.toNat] rfl HLD.out isAggA sizeA ?_)
      clear hw2 hga HLD HK
      obtain ⟨y, hy⟩ : ∃ y, d.toNat = y := ⟨_, rfl⟩
      have HY := Lib.hid hy
      obtain ⟨a0, a1, a2, a3, a4, a5, a6, a7, a8, a9⟩ := HS.out.cells
      simp only at a0
      rw [hy] at a0
      clear hy
      by_cases h0 : y = 0
      · subst h0
        obtain ⟨a0, a1, a2, a3, a4, a5, a6, a7, a8, a9⟩ := HS.out.cells
        go_wp2_with fail
        refine (tick_db HS.out.st.db).mono ?_
        rintro e w3 ⟨rfl, hd⟩
        obtain ⟨X3, hs3⟩ := HS.out.prog hd
        have HS3 := Lib.hid hs3
        clear hd hs3 HS
        have HS := HS3
        clear HS3
        clear a0 a1 a2 a3 a4 a5 a6 a7 a8 a9
        obtain ⟨A1, c1, B1, d1, hq1, hr1, t0, t1⟩ := HS.out.st.tbl
        have HQ1 := Lib.hid hq1
        have HR1 := Lib.hid hr1
        clear hq1 hr1
        go_wp2_with fail
        refine (tick_R HR1.out HS.out.st.hY HOLD.out).mono ?_
        rintro e w4 ⟨v', rfl, ⟨A2, c2, B2, d2, rfl, hr2⟩, hb⟩
        have HS4 := Lib.hid (HS.out.calm hb)
        have HR4 := Lib.hid hr2
        have HQ4 := Lib.hid (HQ1.out.below hb HQ1.out.lt)
        have HS5 := Lib.hid (HS4.out.doc hr2)
        obtain ⟨w5, hw5⟩ : ∃ w5, w4.setRow q #[.slice A2 (ltick L).length c2, .slice B2 (S).length d2] = w5 := ⟨_, rfl⟩
        rw [hw5] at HS5
        clear hr2 hb
        go_upto_region 28 with (refine wpList_store_row rfl 32 (.tmp 8) _ rfl q rfl #[.slice A2 (ltick L).length c2, .slice B2 (S).length d2] rfl 32 _ HQ4.out info_rt rfl (by kernel_rfl) ?_)
        try rw [hw5]
        clear hw5 HS4 HR4 HQ4 HS HQ1 HR1 t0 t1
        have HS := HS5
        clear HS5
        obtain ⟨a0, a1, a2, a3, a4, a5, a6, a7, a8, a9⟩ := HS.out.cells
        go_wp2_with fail
        refine (look_db HS.out.st.db v m).mono ?_
        rintro e w6 ⟨rfl, hg⟩
        have HS6 := Lib.hid (HS.out.calm hg.below)
        clear hg HS a0 a1 a2 a3 a4 a5 a6 a7 a8 a9
        obtain ⟨a0, a1, a2, a3, a4, a5, a6, a7, a8, a9⟩ := HS6.out.cells
        obtain ⟨A1, c1, B1, d1, hq1, hr1, t0, t1⟩ := HS6.out.st.tbl
        have HR1 := Lib.hid hr1
        clear hq1 hr1
        go_wp2_with fail
        refine (look_ref HR1.out HS6.out.st.db.prt v m).mono ?_
        rintro e w7 ⟨rfl, hg⟩
        have HS7 := Lib.hid (HS6.out.calm hg.below)
        clear hg HS6 HR1 t0 t1 a0 a1 a2 a3 a4 a5 a6 a7 a8 a9
        obtain ⟨A1, c1, B1, d1, hq1, hr1, t0, t1⟩ := HS7.out.st.tbl
        have HR1 := Lib.hid hr1
        clear hq1 hr1
        go_wp2_with fail
        refine (same_any HS7.out.st.db HR1.out).mono ?_
        rintro e w8 ⟨rfl, hb⟩
        have HS8 := Lib.hid (HS7.out.st.calm hb)
        clear hb HS7 HR1 t0 t1
        go_wp2_with fail
        go_roundw
        case rel => exact ⟨k + 1, _, _, _, by omega, by go_num, HS8⟩
        case measure => simp [intOf]; omega

      by_cases h1 : y = 1
      · subst h1
        obtain ⟨z, hz⟩ : ∃ z : Int, (L.length : Int) - ((lflush L s).length : Int) = z := ⟨_, rfl⟩
        obtain ⟨a0, a1, a2, a3, a4, a5, a6, a7, a8, a9⟩ := HS.out.cells
        go_wp2_with fail
        refine (flush_db HS.out.st.db s).mono ?_
        rintro e w3 ⟨rfl, hd⟩
        obtain ⟨X3, hs3⟩ := HS.out.prog hd
        have HS3 := Lib.hid hs3
        clear hd hs3 HS
        have HS := HS3
        clear HS3
        rw [hz]
        clear a0 a1 a2 a3 a4 a5 a6 a7 a8 a9
        obtain ⟨a0, a1, a2, a3, a4, a5, a6, a7, a8, a9⟩ := HS.out.cells
        obtain ⟨A1, c1, B1, d1, hq1, hr1, t0, t1⟩ := HS.out.st.tbl
        have HQ1 := Lib.hid hq1
        have HR1 := Lib.hid hr1
        clear hq1 hr1
        go_wp2_with fail
        refine (flush_R HR1.out HS.out.st.hY s).mono ?_
        rintro e w4 ⟨v', rfl, ⟨A2, c2, B2, d2, rfl, hr2⟩, hb⟩
        rw [hz]
        have HS4 := Lib.hid (HS.out.calm hb)
        have HQ4 := Lib.hid (HQ1.out.below hb HQ1.out.lt)
        obtain ⟨gv, hgv⟩ : ∃ gv, w4.heap.size = gv := ⟨_, rfl⟩
        obtain ⟨w5, hw5⟩ : ∃ w5, w4.alloc (.cells #[.slice A2 (lflush L s).length c2, .slice B2 S.length d2] 32) = w5 := ⟨_, rfl⟩
        have hg5 : Gro w4 w5 := by rw [← hw5]; exact (Gro.refl _).alloc _
        have HV5 := Lib.hid (show Blk w5 gv 32 #[.slice A2 (lflush L s).length c2, .slice B2 S.length d2] by rw [← hw5, ← hgv]; exact Blk.new w4 _ _)
        have HS5 := Lib.hid (HS4.out.calm hg5.below)
        have HR5 := Lib.hid (hr2.gro hg5)
        have HQ5 := Lib.hid (hg5.blk HQ4.out)
        have HS6 := Lib.hid (HS5.out.doc HR5.out)
        clear hr2 hb hg5 t0 t1
        go_upto_region 19 with fail
        clear hw5 hgv HS4 HQ4 HQ1 HR1 HS
        have v0 := HV5.out.cell 0
        have v1 := HV5.out.cell 1
        simp only [List.getElem?_toArray, List.getElem?_cons_succ, List.getElem?_cons_zero] at v0 v1
        obtain ⟨w6, hw6⟩ : ∃ w6, w5.setRow q #[.slice A2 (lflush L s).length c2, .slice B2 S.length d2] = w6 := ⟨_, rfl⟩
        rw [hw6] at HS6
        go_upto_region 20 with (refine wpList_store_row rfl 32 (.tmp 8) _ rfl q rfl #[.slice A2 (lflush L s).length c2, .slice B2 S.length d2] rfl 32 _ HQ5.out info_rt rfl (by kernel_rfl) ?_)
        try rw [hw6]
        clear hw6 v0 v1 HS5 HR5 HQ5 HV5 hz
        have HS := HS6
        clear HS6
        clear a0 a1 a2 a3 a4 a5 a6 a7 a8 a9
        obtain ⟨a0, a1, a2, a3, a4, a5, a6, a7, a8, a9⟩ := HS.out.cells
        go_wp2_with fail
        refine (look_db HS.out.st.db v m).mono ?_
        rintro e w6 ⟨rfl, hg⟩
        have HS6 := Lib.hid (HS.out.calm hg.below)
        clear hg HS a0 a1 a2 a3 a4 a5 a6 a7 a8 a9
        obtain ⟨a0, a1, a2, a3, a4, a5, a6, a7, a8, a9⟩ := HS6.out.cells
        obtain ⟨A1, c1, B1, d1, hq1, hr1, t0, t1⟩ := HS6.out.st.tbl
        have HR1 := Lib.hid hr1
        clear hq1 hr1
        go_wp2_with fail
        refine (look_ref HR1.out HS6.out.st.db.prt v m).mono ?_
        rintro e w7 ⟨rfl, hg⟩
        have HS7 := Lib.hid (HS6.out.calm hg.below)
        clear hg HS6 HR1 t0 t1 a0 a1 a2 a3 a4 a5 a6 a7 a8 a9
        obtain ⟨A1, c1, B1, d1, hq1, hr1, t0, t1⟩ := HS7.out.st.tbl
        have HR1 := Lib.hid hr1
        clear hq1 hr1
        go_wp2_with fail
        refine (same_any HS7.out.st.db HR1.out).mono ?_
        rintro e w8 ⟨rfl, hb⟩
        have HS8 := Lib.hid (HS7.out.st.calm hb)
        clear hb HS7 HR1 t0 t1
        go_wp2_with fail
        go_roundw
        case rel => exact ⟨k + 1, _, _, _, by omega, by go_num, HS8⟩
        case measure => simp [intOf]; omega

      by_cases h2 : y = 2
      · subst h2
        obtain ⟨ee, hee⟩ : ∃ ee : Nat, sete S ⟨v, m⟩ = ee := ⟨_, rfl⟩
        obtain ⟨a0, a1, a2, a3, a4, a5, a6, a7, a8, a9⟩ := HS.out.cells
        go_wp2_with fail
        refine (set_db HS.out.st.db v m s).mono ?_
        rintro e w3 ⟨rfl, hd⟩
        obtain ⟨X3, hs3⟩ := HS.out.prog hd
        have HS3 := Lib.hid hs3
        clear hd hs3 HS
        have HS := HS3
        clear HS3
        rw [hee]
        clear a0 a1 a2 a3 a4 a5 a6 a7 a8 a9
        obtain ⟨a0, a1, a2, a3, a4, a5, a6, a7, a8, a9⟩ := HS.out.cells
        obtain ⟨A1, c1, B1, d1, hq1, hr1, t0, t1⟩ := HS.out.st.tbl
        have HQ1 := Lib.hid hq1
        have HR1 := Lib.hid hr1
        clear hq1 hr1
        go_wp2_with fail
        refine (set_R HR1.out HS.out.st.hY HND.out v m s).mono ?_
        rintro e w4 ⟨v', rfl, ⟨A2, c2, B2, d2, rfl, hr2⟩, hb⟩
        rw [hee]
        have HS4 := Lib.hid (HS.out.calm hb)
        have HR4 := Lib.hid hr2
        have HQ4 := Lib.hid (HQ1.out.below hb HQ1.out.lt)
        have HS5 := Lib.hid (HS4.out.doc hr2)
        obtain ⟨w5, hw5⟩ : ∃ w5, w4.setRow q #[.slice A2 (setL L S ⟨v, m⟩).length c2, .slice B2 (setS S ⟨v, m⟩ s).length d2] = w5 := ⟨_, rfl⟩
        rw [hw5] at HS5
        clear hr2 hb
        go_upto_region 28 with (refine wpList_store_row rfl 32 (.tmp 8) _ rfl q rfl #[.slice A2 (setL L S ⟨v, m⟩).length c2, .slice B2 (setS S ⟨v, m⟩ s).length d2] rfl 32 _ HQ4.out info_rt rfl (by kernel_rfl) ?_)
        try rw [hw5]
        clear hw5 HS4 HR4 HQ4 HS HQ1 HR1 t0 t1
        have HS := HS5
        clear HS5
        clear a0 a1 a2 a3 a4 a5 a6 a7 a8 a9
        clear hee
        obtain ⟨a0, a1, a2, a3, a4, a5, a6, a7, a8, a9⟩ := HS.out.cells
        go_wp2_with fail
        refine (look_db HS.out.st.db v m).mono ?_
        rintro e w6 ⟨rfl, hg⟩
        have HS6 := Lib.hid (HS.out.calm hg.below)
        clear hg HS a0 a1 a2 a3 a4 a5 a6 a7 a8 a9
        obtain ⟨a0, a1, a2, a3, a4, a5, a6, a7, a8, a9⟩ := HS6.out.cells
        obtain ⟨A1, c1, B1, d1, hq1, hr1, t0, t1⟩ := HS6.out.st.tbl
        have HR1 := Lib.hid hr1
        clear hq1 hr1
        go_wp2_with fail
        refine (look_ref HR1.out HS6.out.st.db.prt v m).mono ?_
        rintro e w7 ⟨rfl, hg⟩
        have HS7 := Lib.hid (HS6.out.calm hg.below)
        clear hg HS6 HR1 t0 t1 a0 a1 a2 a3 a4 a5 a6 a7 a8 a9
        obtain ⟨A1, c1, B1, d1, hq1, hr1, t0, t1⟩ := HS7.out.st.tbl
        have HR1 := Lib.hid hr1
        clear hq1 hr1
        go_wp2_with fail
        refine (same_any HS7.out.st.db HR1.out).mono ?_
        rintro e w8 ⟨rfl, hb⟩
        have HS8 := Lib.hid (HS7.out.st.calm hb)
        clear hb HS7 HR1 t0 t1
        go_wp2_with fail
        go_roundw
        case rel => exact ⟨k + 1, _, _, _, by omega, by go_num, HS8⟩
        case measure => simp [intOf]; omega

      by_cases h3 : y = 3
      · subst h3
        obtain ⟨ee, hee⟩ : ∃ ee : Nat, drope S ⟨v, m⟩ = ee := ⟨_, rfl⟩
        obtain ⟨a0, a1, a2, a3, a4, a5, a6, a7, a8, a9⟩ := HS.out.cells
        go_wp2_with fail
        refine (drop_db HS.out.st.db v m).mono ?_
        rintro e w3 ⟨rfl, hd⟩
        obtain ⟨X3, hs3⟩ := HS.out.prog hd
        have HS3 := Lib.hid hs3
        clear hd hs3 HS
        have HS := HS3
        clear HS3
        rw [hee]
        clear a0 a1 a2 a3 a4 a5 a6 a7 a8 a9
        obtain ⟨a0, a1, a2, a3, a4, a5, a6, a7, a8, a9⟩ := HS.out.cells
        obtain ⟨A1, c1, B1, d1, hq1, hr1, t0, t1⟩ := HS.out.st.tbl
        have HQ1 := Lib.hid hq1
        have HR1 := Lib.hid hr1
        clear hq1 hr1
        go_wp2_with fail
        refine (drop_R HR1.out HS.out.st.hY HND.out v m).mono ?_
        rintro e w4 ⟨v', rfl, ⟨A2, c2, B2, d2, rfl, hr2⟩, hb⟩
        rw [hee]
        have HS4 := Lib.hid (HS.out.calm hb)
        have HR4 := Lib.hid hr2
        have HQ4 := Lib.hid (HQ1.out.below hb HQ1.out.lt)
        have HS5 := Lib.hid (HS4.out.doc hr2)
        obtain ⟨w5, hw5⟩ : ∃ w5, w4.setRow q #[.slice A2 (L).length c2, .slice B2 (dropS S ⟨v, m⟩).length d2] = w5 := ⟨_, rfl⟩
        rw [hw5] at HS5
        clear hr2 hb
        go_upto_region 28 with (refine wpList_store_row rfl 32 (.tmp 8) _ rfl q rfl #[.slice A2 (L).length c2, .slice B2 (dropS S ⟨v, m⟩).length d2] rfl 32 _ HQ4.out info_rt rfl (by kernel_rfl) ?_)
        try rw [hw5]
        clear hw5 HS4 HR4 HQ4 HS HQ1 HR1 t0 t1
        have HS := HS5
        clear HS5
        clear a0 a1 a2 a3 a4 a5 a6 a7 a8 a9
        clear hee
        obtain ⟨a0, a1, a2, a3, a4, a5, a6, a7, a8, a9⟩ := HS.out.cells
        go_wp2_with fail
        refine (look_db HS.out.st.db v m).mono ?_
        rintro e w6 ⟨rfl, hg⟩
        have HS6 := Lib.hid (HS.out.calm hg.below)
        clear hg HS a0 a1 a2 a3 a4 a5 a6 a7 a8 a9
        obtain ⟨a0, a1, a2, a3, a4, a5, a6, a7, a8, a9⟩ := HS6.out.cells
        obtain ⟨A1, c1, B1, d1, hq1, hr1, t0, t1⟩ := HS6.out.st.tbl
        have HR1 := Lib.hid hr1
        clear hq1 hr1
        go_wp2_with fail
        refine (look_ref HR1.out HS6.out.st.db.prt v m).mono ?_
        rintro e w7 ⟨rfl, hg⟩
        have HS7 := Lib.hid (HS6.out.calm hg.below)
        clear hg HS6 HR1 t0 t1 a0 a1 a2 a3 a4 a5 a6 a7 a8 a9
        obtain ⟨A1, c1, B1, d1, hq1, hr1, t0, t1⟩ := HS7.out.st.tbl
        have HR1 := Lib.hid hr1
        clear hq1 hr1
        go_wp2_with fail
        refine (same_any HS7.out.st.db HR1.out).mono ?_
        rintro e w8 ⟨rfl, hb⟩
        have HS8 := Lib.hid (HS7.out.st.calm hb)
        clear hb HS7 HR1 t0 t1
        go_wp2_with fail
        go_roundw
        case rel => exact ⟨k + 1, _, _, _, by omega, by go_num, HS8⟩
        case measure => simp [intOf]; omega

      have b0 : ((y : Int) == 0) = false := beq_eq_false_iff_ne.2 (by omega)
      have b1 : ((y : Int) == 1) = false := beq_eq_false_iff_ne.2 (by omega)
      have b2 : ((y : Int) == 2) = false := beq_eq_false_iff_ne.2 (by omega)
      have b3 : ((y : Int) == 3) = false := beq_eq_false_iff_ne.2 (by omega)
      clear h0 h1 h2 h3
      go_wp2_with fail
      refine (learn_db HS.out.st.db v m p).mono ?_
      rintro e w3 ⟨rfl, hd⟩
      obtain ⟨X3, hs3⟩ := HS.out.prog hd
      have HS3 := Lib.hid hs3
      clear hd hs3 HS
      have HS := HS3
      clear HS3
      clear a0 a1 a2 a3 a4 a5 a6 a7 a8 a9
      obtain ⟨a0, a1, a2, a3, a4, a5, a6, a7, a8, a9⟩ := HS.out.cells
      obtain ⟨A1, c1, B1, d1, hq1, hr1, t0, t1⟩ := HS.out.st.tbl
      have HQ1 := Lib.hid hq1
      have HR1 := Lib.hid hr1
      clear hq1 hr1
      go_wp2_with fail
      refine (learn_R HR1.out HS.out.st.hY v m p).mono ?_
      rintro e w4 ⟨v', rfl, ⟨A2, c2, B2, d2, rfl, hr2⟩, hb⟩
      have HS4 := Lib.hid (HS.out.calm hb)
      have HR4 := Lib.hid hr2
      have HQ4 := Lib.hid (HQ1.out.below hb HQ1.out.lt)
      have HS5 := Lib.hid (HS4.out.doc hr2)
      obtain ⟨w5, hw5⟩ : ∃ w5, w4.setRow q #[.slice A2 (llearn L S ⟨v, m⟩ p).length c2, .slice B2 (S).length d2] = w5 := ⟨_, rfl⟩
      rw [hw5] at HS5
      clear hr2 hb
      go_upto_region 28 with (refine wpList_store_row rfl 32 (.tmp 8) _ rfl q rfl #[.slice A2 (llearn L S ⟨v, m⟩ p).length c2, .slice B2 (S).length d2] rfl 32 _ HQ4.out info_rt rfl (by kernel_rfl) ?_)
      try rw [hw5]
      clear hw5 HS4 HR4 HQ4 HS HQ1 HR1 t0 t1
      have HS := HS5
      clear HS5
      clear a0 a1 a2 a3 a4 a5 a6 a7 a8 a9
      obtain ⟨a0, a1, a2, a3, a4, a5, a6, a7, a8, a9⟩ := HS.out.cells
      go_wp2_with fail
      refine (look_db HS.out.st.db v m).mono ?_
      rintro e w6 ⟨rfl, hg⟩
      have HS6 := Lib.hid (HS.out.calm hg.below)
      clear hg HS a0 a1 a2 a3 a4 a5 a6 a7 a8 a9
      obtain ⟨a0, a1, a2, a3, a4, a5, a6, a7, a8, a9⟩ := HS6.out.cells
      obtain ⟨A1, c1, B1, d1, hq1, hr1, t0, t1⟩ := HS6.out.st.tbl
      have HR1 := Lib.hid hr1
      clear hq1 hr1
      go_wp2_with fail
      refine (look_ref HR1.out HS6.out.st.db.prt v m).mono ?_
      rintro e w7 ⟨rfl, hg⟩
      have HS7 := Lib.hid (HS6.out.calm hg.below)
      clear hg HS6 HR1 t0 t1 a0 a1 a2 a3 a4 a5 a6 a7 a8 a9
      obtain ⟨A1, c1, B1, d1, hq1, hr1, t0, t1⟩ := HS7.out.st.tbl
      have HR1 := Lib.hid hr1
      clear hq1 hr1
      go_wp2_with fail
      refine (same_any HS7.out.st.db HR1.out).mono ?_
      rintro e w8 ⟨rfl, hb⟩
      have HS8 := Lib.hid (HS7.out.st.calm hb)
      clear hb HS7 HR1 t0 t1
      go_wp2_with fail
      go_roundw
      case rel => exact ⟨k + 1, _, _, _, by omega, by go_num, HS8⟩
      case measure => simp [intOf]; omega

    · obtain rfl : k = n := by omega
      obtain ⟨m0, m1, m2, m3, m4, m5⟩ := mcells HK.out.mc
      go_wp2_with fail
      refine (look_db HK.out.db vv mm).mono ?_
      rintro e w6 ⟨rfl, hg⟩
      have HS6 := Lib.hid (HK.out.calm hg.below)
      clear hg HK m0 m1 m2 m3 m4 m5
      obtain ⟨m0, m1, m2, m3, m4, m5⟩ := mcells HS6.out.mc
      obtain ⟨A1, c1, B1, d1, hq1, hr1, t0, t1⟩ := HS6.out.tbl
      have HR1 := Lib.hid hr1
      clear hq1 hr1
      go_wp2_with fail
      refine (look_ref HR1.out HS6.out.db.prt vv mm).mono ?_
      rintro e w7 ⟨rfl, hg⟩
      have HS7 := Lib.hid (HS6.out.calm hg.below)
      clear hg HS6 HR1 t0 t1 m0 m1 m2 m3 m4 m5
      go_wp2_with fail
      refine (wakes_any _).mono ?_
      rintro e w8 ⟨rfl, hb⟩
      have HB8 := Lib.hid (HS7.out.bl.trans (hb.mono HS7.out.bl.size))
      clear hb HS7
      go_wp2
      go_ret
      exact ⟨rfl, HB8.out⟩

set_option maxRecDepth 100000 in
set_option maxHeartbeats 4000000 in
theorem walk {H : Type} {enc : TypeId × Value → H} (W : World) (base : Nat) {v0 v1 v2 : Value} {d0 d1 d2 : DataW H} {p0 p1 p2 : List MemPlace}
    (o0 : Value.okWide Try.prog W .any base 22 v0) (h0 : DataW.Trod enc Try.prog W 0 (fun _ => true) true 22 v0 d0 p0) (o1 : Value.okWide Try.prog W .any base 23 v1) (h1 : DataW.Trod enc Try.prog W 0 (fun _ => true) true 23 v1 d1 p1) (o2 : Value.okWide Try.prog W .any base 25 v2) (h2 : DataW.Trod enc Try.prog W 0 (fun _ => true) true 25 v2 d2 p2) :
    Calls Try.prog 3 #[v0, v1, v2] W fun e w' => e = .returned (.bool true) ∧ Below W.heap.size W w' := by
  obtain ⟨A, c, l, rfl, hl, _, hna, hE⟩ := open_els 10 encA (fun _ => True) Try.underlying22 (e := 34) (by kernel_rfl) (by omega)
    (fun cs fuel x hl h => ac_trod Try.underlying34 ⟨rfl, rfl, rfl, rfl, rfl⟩ ⟨rfl, rfl, rfl, rfl, rfl⟩ (hl.trans (by kernel_rfl)) h) o0 h0
  obtain ⟨v, rfl, hv⟩ := open_num Try.underlying23 o1 h1
  obtain ⟨m, rfl⟩ := open_mc o2 h2
  obtain ⟨v', rfl⟩ := u16_of hv
  exact plays_law W A c l v' m hE (fun h0 a ha => by obtain ⟨b, off, e, hlt, _⟩ := hE h0; rw [e] at ha; cases ha; exact hlt)

theorem own : ownKnob Try.prog.godebug = none := by kernel_rfl
theorem laidOut : laidOutB Try.prog = true := by kernel_rfl
set_option maxRecDepth 100000 in
theorem lifted (os : Os) (started : os.Started) (H : Type) (enc : TypeId × Value → H) :
    ReturnsInHanded {} Try.checked os 3 .any (Rows.fdbPlaysSpec.pre6 enc Try.prog Try.f3 Rows.fdbPlaysRow.domain false) (Rows.fdbPlaysSpec.post enc Try.prog Try.f3 false true false false) := by
  refine returnsInHanded_of_change (C := Try.checked) own started (by kernel_rfl) Try.func3
    (ChangeSpec.witness6 (enc := enc) (C := Try.checked) false ⟨#[], #[.slice none 0 0, .int .u16 0, .agg #[.int .u8 0, .int .u8 0, .int .u8 0, .int .u8 0, .int .u8 0, .int .u8 0]], []⟩ 8 (by kernel_rfl) (by kernel_rfl) (by kernel_rfl) (by kernel_rfl)) ?_
  intro W base args ds gs before hval0 hW hcnd _
  have hval : ∀ (j : Nat) t v, Try.f3.params[j]? = some t → args[j]? = some v → Value.okWide Try.prog W .any base t v := hval0
  have hW' := hW
  obtain ⟨p, q, hA0, hV, rfl, hfz, hnd⟩ := hW
  have hA : DataW.TrodAll enc Try.prog W 0 (fun _ => true) true Try.f3.params.toList args.toList ds p := hA0
  rw [Try.params3] at hA hval
  obtain ⟨v0, vs0, d0, ds0, p0, q0, hargs, rfl, rfl, h0, r0⟩ := trodAll_cons hA
  obtain ⟨v1, vs1, d1, ds1, p1, q1, rfl, rfl, rfl, h1, r1⟩ := trodAll_cons r0
  obtain ⟨v2, vs2, d2, ds2, p2, q2, rfl, rfl, rfl, h2, r2⟩ := trodAll_cons r1
  obtain ⟨rfl, rfl, rfl⟩ := trodAll_nil r2
  obtain rfl : args = #[v0, v1, v2] := by cases args; simp_all
  obtain ⟨rfl, rfl⟩ := trodVars_none hV
  have o0 := hval 0 22 v0 rfl rfl
  have lt0 : ∀ x ∈ p0, x.block < W.heap.size := by obtain ⟨m, hm⟩ := h0; exact DataW.trod_lt m _ _ _ hm
  have o1 := hval 1 23 v1 rfl rfl
  have lt1 : ∀ x ∈ p1, x.block < W.heap.size := by obtain ⟨m, hm⟩ := h1; exact DataW.trod_lt m _ _ _ hm
  have o2 := hval 2 25 v2 rfl rfl
  have lt2 : ∀ x ∈ p2, x.block < W.heap.size := by obtain ⟨m, hm⟩ := h2; exact DataW.trod_lt m _ _ _ hm
  clear hA0 hval0
  refine (walk W base o0 h0 o1 h1 o2 h2).mono fun e W' ⟨he, bel⟩ => ?_
  subst he
  exact ⟨_, rfl, _, _, _, [], _, [], hW', trodAll_mk1 (shut_bool Try.underlying4 _), (trodAll_cons_mk (Below.trod laidOut (by kernel_rfl) (of_decide_eq_true (by kernel_rfl)) h0 bel lt0) (trodAll_cons_mk (Below.trod laidOut (by kernel_rfl) (of_decide_eq_true (by kernel_rfl)) h1 bel lt1) (trodAll_cons_mk (Below.trod laidOut (by kernel_rfl) (of_decide_eq_true (by kernel_rfl)) h2 bel lt2) trodAll_mk0))), rfl, bel.frame _, fun h => by cases h⟩

theorem over : Rows.fdbPlaysRow.holds Try.pinned (OpenSpec.ofChange Rows.fdbPlaysSpec) :=
  OpenClaim.holds_of_wide 3 Try.f3 rfl rfl rfl rfl rfl rfl rfl ⟨rfl, rfl, rfl, rfl, rfl⟩ rfl rfl rfl rfl rfl (by kernel_rfl) Try.func3 (by kernel_rfl)
    (of_decide_eq_true (by kernel_rfl)) (by unfold Func.isWrapper; first | (rw [if_pos (by decide +kernel)]; kernel_rfl) | (rw [if_neg (by decide +kernel)]; exact ⟨rfl, rfl⟩))
    (fun os started H enc _ => lifted os started H enc)

/-- THE STATEMENT -/
theorem proved : Rows.FdbPlaysSaid := over
end Go.Proofs.Ytlofaahckdfeiaa.fdbPlays
