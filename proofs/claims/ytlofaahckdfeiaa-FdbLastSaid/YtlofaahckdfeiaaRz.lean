/- Layer 8: the document's SetStatic, DropStatic. -/
import Derived.Test.YtlofaahckdfeiaaRy
namespace Go.Proofs.Ytlofaahckdfeiaa
open Go.RowKit
set_option linter.unusedVariables false
set_option linter.unusedSimpArgs false
set_option maxRecDepth 100000

theorem els_one8 (w : World) (x : Pl × UInt8) : Els 8 esV (w.alloc (.cells (esV x).toArray 76)) (some ⟨w.heap.size, 0, none⟩) [x] := by
  intro _
  refine ⟨_, 0, rfl, by simp, fun i hi j v hv => ?_⟩
  obtain rfl : i = 0 := by simpa using hi
  have := newcells w (esV x) 76 j v hv
  have hadd : (⟨w.heap.size, 0, none⟩ : Addr).add j = ⟨w.heap.size, j, none⟩ := by unfold Addr.add; split <;> simp_all
  rw [hadd] at this
  simpa using this
theorem size_setRow' (w : World) (g : Nat) (cs : Array Value) : (w.setRow g cs).heap.size = w.heap.size := by simp
theorem own_cell {α : Type} {k : Nat} {enc : α → List Value} {w : World} {base : Nat} {t : TypeId} {g cap j : Nat} {u : Value} {l l' : List α} (h : w.ownsRow base t k (.slice (some ⟨g, 0, none⟩) l.length cap) l.length (l.flatMap enc)) (hl : l'.flatMap enc = (l.flatMap enc).set j u) (hn : l'.length = l.length) :
    (w.setCell ⟨g, j, none⟩ u).ownsRow base t k (.slice (some ⟨g, 0, none⟩) l.length cap) l'.length (l'.flatMap enc) := by
  rcases h.2 with ⟨e, _⟩ | ⟨g', cap', cur, e, hb, hg, h1, h2, h3, h4⟩
  · cases e
  · cases e
    refine ⟨by rw [hl, List.length_set, h.1, hn], .inr ⟨g, cap, cur.setIfInBounds j u, by rw [hn], hb, ?_, by rw [hn]; exact h1, h2, by simpa using h3, ?_⟩⟩
    · have hB : Blk w g t cur := hg
      exact hB.put j u
    · rw [hl, hn, ← h4, Array.toList_setIfInBounds, List.take_set]
theorem map_set {S : List (Pl × UInt8)} {k : Pl} {s : UInt8} {i : Nat} {x : Pl × UInt8} (hn : Nd S) (hx : S[i]? = some x) (hk : x.1 = k) : sput S k s = S.set i (k, s) := by
  obtain ⟨hi, e⟩ := List.getElem?_eq_some_iff.1 hx
  have hs : shas S k = true := by
    unfold shas
    exact List.any_eq_true.2 ⟨x, List.mem_of_getElem? hx, by simpa using hk⟩
  unfold sput
  rw [if_pos hs]
  apply List.ext_getElem
  · simp
  · intro j h1 h2
    rw [List.getElem_map, List.getElem_set]
    by_cases hj : i = j
    · subst hj
      rw [if_pos rfl, e, if_pos hk]
    · rw [if_neg hj]
      have hj' : j < S.length := by simpa using h1
      have hne : ¬ S[j].1 = k := by
        intro e2
        unfold Nd at hn
        rw [List.pairwise_iff_getElem] at hn
        rcases Nat.lt_or_ge i j with h | h
        · have := hn i j hi hj' h
          rw [e, e2, hk] at this
          exact this rfl
        · have := hn j i hj' hi (by omega)
          rw [e, e2, hk] at this
          exact this rfl
      rw [if_neg hne]
theorem flat_set {S : List (Pl × UInt8)} {i : Nat} {x : Pl × UInt8} {k : Pl} {s : UInt8} (hx : S[i]? = some x) (hk : x.1 = k) : (S.set i (k, s)).flatMap esV = (S.flatMap esV).set (i * 8 + 7) (.int .u8 s.toNat) := by
  obtain ⟨hi, e⟩ := List.getElem?_eq_some_iff.1 hx
  apply List.ext_getElem?
  intro q
  have hl := flatK (enc := esV) esV_len (S.set i (k, s))
  have hl2 := flatK (enc := esV) esV_len S
  rw [List.length_set] at hl
  rcases Nat.lt_or_ge q (S.length * 8) with hq | hq
  · have hdm := Nat.div_add_mod q 8
    have hq8 : q / 8 < S.length := by omega
    have hm := Nat.mod_lt q (show 0 < 8 by decide)
    have e1 := flat_at 8 esV esV_len (S.set i (k, s)) (q / 8) (by simpa using hq8) (q % 8) hm
    have e2 := flat_at 8 esV esV_len S (q / 8) hq8 (q % 8) hm
    rw [show q / 8 * 8 + q % 8 = q by omega] at e1 e2
    rw [e1, List.getElem?_set, e2]
    by_cases hj : i * 8 + 7 = q
    · have h1 : q / 8 = i := by omega
      have h2 : q % 8 = 7 := by omega
      rw [if_pos hj, if_pos (by omega)]
      simp only [h1, h2, List.getElem_set_self]
      rfl
    · rw [if_neg hj]
      by_cases hi2 : i = q / 8
      · have h2 : q % 8 < 7 := by omega
        subst hi2
        rw [List.getElem_set_self, e]
        subst hk
        rcases (by omega : q % 8 = 0 ∨ q % 8 = 1 ∨ q % 8 = 2 ∨ q % 8 = 3 ∨ q % 8 = 4 ∨ q % 8 = 5 ∨ q % 8 = 6) with h | h | h | h | h | h | h <;> rw [h] <;> rfl
      · rw [List.getElem_set_ne hi2]
  · rw [List.getElem?_eq_none (by omega), List.getElem?_eq_none (by rw [List.length_set]; omega)]
set_option maxHeartbeats 4000000 in
theorem set_bad_ref {w : World} {Y : Nat → Prop} {A B : Option Addr} {c d : Nat} {L : List En} {S : List (Pl × UInt8)} (h : RvE Y w A c L B d S) (v : UInt16) (m : Mc) (s : UInt8) (hb : okVid v = false) :
    Calls Try.prog 13 #[.agg #[.slice A L.length c, .slice B S.length d], .int .u16 v.toNat, mV m, .int .u8 s.toNat] w fun e w' => ∃ A' c' B' d', e = .returned (.tuple #[.agg #[.slice A' (L).length c', .slice B' (S).length d'], .int .i64 2]) ∧ RvE Y w' A' c' (L) B' d' (S) ∧ Below w.heap.size w w' := by
  obtain ⟨w1, hw1⟩ : ∃ w1, ((w.alloc (.cells #[.slice A L.length c, .slice B S.length d] 32)).alloc (.cells #[.int .u8 m.a.toNat, .int .u8 m.b.toNat, .int .u8 m.c.toNat, .int .u8 m.d.toNat, .int .u8 m.e.toNat, .int .u8 m.f.toNat] 25)).alloc (.cells #[.slice none 0 0, .slice none 0 0] 32) = w1 := ⟨_, rfl⟩
  obtain ⟨g, hg⟩ : ∃ g, w.heap.size = g := ⟨_, rfl⟩
  have HG := Lib.hid (show Gro w w1 by rw [← hw1]; exact (((Gro.refl w).alloc _).alloc _).alloc _)
  have HB := Lib.hid (show Blk w1 g 32 #[.slice A L.length c, .slice B S.length d] by rw [← hw1, ← hg]; exact ((Blk.new w _ _).alloc _).alloc _)
  have HM := Lib.hid (show Blk w1 (g + 1) 25 #[.int .u8 m.a.toNat, .int .u8 m.b.toNat, .int .u8 m.c.toNat, .int .u8 m.d.toNat, .int .u8 m.e.toNat, .int .u8 m.f.toNat] by rw [← hw1, ← hg]; have := (Blk.new (w.alloc (.cells #[.slice A L.length c, .slice B S.length d] 32)) 25 #[.int .u8 m.a.toNat, .int .u8 m.b.toNat, .int .u8 m.c.toNat, .int .u8 m.d.toNat, .int .u8 m.e.toNat, .int .u8 m.f.toNat]).alloc (.cells #[.slice none 0 0, .slice none 0 0] 32); simpa using this)
  have HZ := Lib.hid (show Blk w1 (g + 2) 32 #[.slice none 0 0, .slice none 0 0] by rw [← hw1, ← hg]; have := Blk.new ((w.alloc (.cells #[.slice A L.length c, .slice B S.length d] 32)).alloc (.cells #[.int .u8 m.a.toNat, .int .u8 m.b.toNat, .int .u8 m.c.toNat, .int .u8 m.d.toNat, .int .u8 m.e.toNat, .int .u8 m.f.toNat] 25)) 32 #[.slice none 0 0, .slice none 0 0]; simpa using this)
  have HS : Hid (w1.heap.size = g + 3) := Lib.hid (by rw [← hw1, ← hg]; simp)
  have HGE := Lib.hid hg
  have HR := Lib.hid (h.gro HG.out)
  have HW := Lib.hid h
  clear h
  have c0 := HB.out.cell 0
  have c1 := HB.out.cell 1
  simp only [List.getElem?_toArray, List.getElem?_cons_succ, List.getElem?_cons_zero] at c0 c1
  obtain ⟨m0, m1, m2, m3, m4, m5⟩ := mcells HM.out
  go_enter Try.func13, Try.ntmps13
  go_upto_region 1 with fail
  clear hw1 hg
  have hv := okVid_no hb
  by_cases h4 : v.toNat < 1
  · have h4' : (v.toNat : Int) < 1 := by omega
    clear h4 hv hb
    go_wp2_with (refine wpList_store_row rfl 32 (.tmp 8) _ rfl (g + 2) rfl (#[.slice A L.length c, .slice B S.length d]) rfl 32 _ HZ.out info_rt rfl (by kernel_rfl) ?_)
    have HRS := Lib.hid (HZ.out.row (#[.slice A L.length c, .slice B S.length d]))
    have HBF : Hid (Below w.heap.size w (w1.setRow (g + 2) (#[.slice A L.length c, .slice B S.length d]))) := Lib.hid (below_row HG.out.below (by rw [HGE.out]; omega) _)
    refine bodyPost_ret (v := .tuple #[.agg #[.slice A L.length c, .slice B S.length d], .int .i64 2]) (results_cell_slot Try.results13 _ _ (g + 2) 32 _ _ rfl HRS.out Try.underlying32 rfl info_rt _ rfl) rfl ⟨A, c, B, d, rfl, HW.out.next HBF.out, HBF.out⟩
  · have h4' : ¬ (v.toNat : Int) < 1 := by omega
    have h5' : (4094 : Int) < (v.toNat : Int) := by omega
    clear h4 hv hb
    go_wp2_with (refine wpList_store_row rfl 32 (.tmp 8) _ rfl (g + 2) rfl (#[.slice A L.length c, .slice B S.length d]) rfl 32 _ HZ.out info_rt rfl (by kernel_rfl) ?_)
    have HRS := Lib.hid (HZ.out.row (#[.slice A L.length c, .slice B S.length d]))
    have HBF : Hid (Below w.heap.size w (w1.setRow (g + 2) (#[.slice A L.length c, .slice B S.length d]))) := Lib.hid (below_row HG.out.below (by rw [HGE.out]; omega) _)
    refine bodyPost_ret (v := .tuple #[.agg #[.slice A L.length c, .slice B S.length d], .int .i64 2]) (results_cell_slot Try.results13 _ _ (g + 2) 32 _ _ rfl HRS.out Try.underlying32 rfl info_rt _ rfl) rfl ⟨A, c, B, d, rfl, HW.out.next HBF.out, HBF.out⟩

set_option maxHeartbeats 4000000 in
theorem set_full_ref {w : World} {Y : Nat → Prop} {A B : Option Addr} {c d : Nat} {L : List En} {S : List (Pl × UInt8)} (h : RvE Y w A c L B d S) (v : UInt16) (m : Mc) (s : UInt8) (hb : okVid v = true) (hs : shas S ⟨v, m⟩ = false) (h16 : 16 ≤ S.length) :
    Calls Try.prog 13 #[.agg #[.slice A L.length c, .slice B S.length d], .int .u16 v.toNat, mV m, .int .u8 s.toNat] w fun e w' => ∃ A' c' B' d', e = .returned (.tuple #[.agg #[.slice A' (L).length c', .slice B' (S).length d'], .int .i64 6]) ∧ RvE Y w' A' c' (L) B' d' (S) ∧ Below w.heap.size w w' := by
  obtain ⟨w1, hw1⟩ : ∃ w1, ((w.alloc (.cells #[.slice A L.length c, .slice B S.length d] 32)).alloc (.cells #[.int .u8 m.a.toNat, .int .u8 m.b.toNat, .int .u8 m.c.toNat, .int .u8 m.d.toNat, .int .u8 m.e.toNat, .int .u8 m.f.toNat] 25)).alloc (.cells #[.slice none 0 0, .slice none 0 0] 32) = w1 := ⟨_, rfl⟩
  obtain ⟨g, hg⟩ : ∃ g, w.heap.size = g := ⟨_, rfl⟩
  have HG := Lib.hid (show Gro w w1 by rw [← hw1]; exact (((Gro.refl w).alloc _).alloc _).alloc _)
  have HB := Lib.hid (show Blk w1 g 32 #[.slice A L.length c, .slice B S.length d] by rw [← hw1, ← hg]; exact ((Blk.new w _ _).alloc _).alloc _)
  have HM := Lib.hid (show Blk w1 (g + 1) 25 #[.int .u8 m.a.toNat, .int .u8 m.b.toNat, .int .u8 m.c.toNat, .int .u8 m.d.toNat, .int .u8 m.e.toNat, .int .u8 m.f.toNat] by rw [← hw1, ← hg]; have := (Blk.new (w.alloc (.cells #[.slice A L.length c, .slice B S.length d] 32)) 25 #[.int .u8 m.a.toNat, .int .u8 m.b.toNat, .int .u8 m.c.toNat, .int .u8 m.d.toNat, .int .u8 m.e.toNat, .int .u8 m.f.toNat]).alloc (.cells #[.slice none 0 0, .slice none 0 0] 32); simpa using this)
  have HZ := Lib.hid (show Blk w1 (g + 2) 32 #[.slice none 0 0, .slice none 0 0] by rw [← hw1, ← hg]; have := Blk.new ((w.alloc (.cells #[.slice A L.length c, .slice B S.length d] 32)).alloc (.cells #[.int .u8 m.a.toNat, .int .u8 m.b.toNat, .int .u8 m.c.toNat, .int .u8 m.d.toNat, .int .u8 m.e.toNat, .int .u8 m.f.toNat] 25)) 32 #[.slice none 0 0, .slice none 0 0]; simpa using this)
  have HS : Hid (w1.heap.size = g + 3) := Lib.hid (by rw [← hw1, ← hg]; simp)
  have HGE := Lib.hid hg
  have HR := Lib.hid (h.gro HG.out)
  have HW := Lib.hid h
  clear h
  have c0 := HB.out.cell 0
  have c1 := HB.out.cell 1
  simp only [List.getElem?_toArray, List.getElem?_cons_succ, List.getElem?_cons_zero] at c0 c1
  obtain ⟨m0, m1, m2, m3, m4, m5⟩ := mcells HM.out
  have h4' : ¬ (v.toNat : Int) < 1 := by have := okVid_yes hb; omega
  have h5' : ¬ (4094 : Int) < (v.toNat : Int) := by have := okVid_yes hb; omega
  have hI : (16 : Int) ≤ (S.length : Int) := by omega
  have HH := Lib.hid hs
  clear hs hb h16
  go_enter Try.func13, Try.ntmps13
  go_upto_region 1 with fail
  clear hw1 hg
  go_wp2_with fail
  refine (static_any HR.out v m).mono ?_
  rintro e w2 ⟨z, rfl, hz, hgr⟩
  have HG2 := Lib.hid (HG.out.trans hgr)
  have HR2 := Lib.hid (HR.out.gro hgr)
  have HB2 := Lib.hid (hgr.blk HB.out)
  have HM2 := Lib.hid (hgr.blk HM.out)
  have HZ2 := Lib.hid (hgr.blk HZ.out)
  have HS2 : Hid (g + 3 ≤ w2.heap.size) := Lib.hid (by have := hgr.size; have := HS.out; omega)
  have HZZ := Lib.hid hz
  clear hgr c0 c1 m0 m1 m2 m3 m4 m5 HG HR HB HM HZ HS hz
  obtain rfl : z = -1 := by
    rcases HZZ.out with ⟨_, h0⟩ | ⟨i, x, hzi, hx, hk, hf⟩
    · exact h0
    · have := (sget_at' hx hk hf); rw [HH.out] at this; cases this
  have c0 := HB2.out.cell 0
  have c1 := HB2.out.cell 1
  simp only [List.getElem?_toArray, List.getElem?_cons_succ, List.getElem?_cons_zero] at c0 c1
  obtain ⟨m0, m1, m2, m3, m4, m5⟩ := mcells HM2.out
  go_wp2_with (refine wpList_store_row rfl 32 (.tmp 8) _ rfl (g + 2) rfl (#[.slice A L.length c, .slice B S.length d]) rfl 32 _ HZ2.out info_rt rfl (by kernel_rfl) ?_)
  have HRS := Lib.hid (HZ2.out.row (#[.slice A L.length c, .slice B S.length d]))
  have HBF : Hid (Below w.heap.size w (w2.setRow (g + 2) (#[.slice A L.length c, .slice B S.length d]))) := Lib.hid (below_row HG2.out.below (by rw [HGE.out]; omega) _)
  refine bodyPost_ret (v := .tuple #[.agg #[.slice A L.length c, .slice B S.length d], .int .i64 6]) (results_cell_slot Try.results13 _ _ (g + 2) 32 _ _ rfl HRS.out Try.underlying32 rfl info_rt _ rfl) rfl ⟨A, c, B, d, rfl, HW.out.next HBF.out, HBF.out⟩
set_option maxHeartbeats 8000000 in
theorem set_ok_ref {w : World} {Y : Nat → Prop} {A B : Option Addr} {c d : Nat} {L : List En} {S : List (Pl × UInt8)} (h : RvE Y w A c L B d S) (hY : ∀ k, w.heap.size ≤ k → Y k) (hnd : Nd S) (v : UInt16) (m : Mc) (s : UInt8) (hb : okVid v = true) (h16 : shas S ⟨v, m⟩ = true ∨ S.length < 16) :
    Calls Try.prog 13 #[.agg #[.slice A L.length c, .slice B S.length d], .int .u16 v.toNat, mV m, .int .u8 s.toNat] w fun e w' => ∃ A' c' B' d', e = .returned (.tuple #[.agg #[.slice A' (lwo L ⟨v, m⟩).length c', .slice B' (sput S ⟨v, m⟩ s).length d'], .int .i64 0]) ∧ RvE Y w' A' c' (lwo L ⟨v, m⟩) B' d' (sput S ⟨v, m⟩ s) ∧ Below w.heap.size w w' := by
  obtain ⟨i0, hi0⟩ := infoRS
  have HIS := Lib.hid hi0
  clear hi0
  have HYY := Lib.hid hY
  have HND := Lib.hid hnd
  have H16 := Lib.hid h16
  obtain ⟨w1, hw1⟩ : ∃ w1, ((w.alloc (.cells #[.slice A L.length c, .slice B S.length d] 32)).alloc (.cells #[.int .u8 m.a.toNat, .int .u8 m.b.toNat, .int .u8 m.c.toNat, .int .u8 m.d.toNat, .int .u8 m.e.toNat, .int .u8 m.f.toNat] 25)).alloc (.cells #[.slice none 0 0, .slice none 0 0] 32) = w1 := ⟨_, rfl⟩
  obtain ⟨g, hg⟩ : ∃ g, w.heap.size = g := ⟨_, rfl⟩
  have HG := Lib.hid (show Gro w w1 by rw [← hw1]; exact (((Gro.refl w).alloc _).alloc _).alloc _)
  have HB := Lib.hid (show Blk w1 g 32 #[.slice A L.length c, .slice B S.length d] by rw [← hw1, ← hg]; exact ((Blk.new w _ _).alloc _).alloc _)
  have HM := Lib.hid (show Blk w1 (g + 1) 25 #[.int .u8 m.a.toNat, .int .u8 m.b.toNat, .int .u8 m.c.toNat, .int .u8 m.d.toNat, .int .u8 m.e.toNat, .int .u8 m.f.toNat] by rw [← hw1, ← hg]; have := (Blk.new (w.alloc (.cells #[.slice A L.length c, .slice B S.length d] 32)) 25 #[.int .u8 m.a.toNat, .int .u8 m.b.toNat, .int .u8 m.c.toNat, .int .u8 m.d.toNat, .int .u8 m.e.toNat, .int .u8 m.f.toNat]).alloc (.cells #[.slice none 0 0, .slice none 0 0] 32); simpa using this)
  have HZ := Lib.hid (show Blk w1 (g + 2) 32 #[.slice none 0 0, .slice none 0 0] by rw [← hw1, ← hg]; have := Blk.new ((w.alloc (.cells #[.slice A L.length c, .slice B S.length d] 32)).alloc (.cells #[.int .u8 m.a.toNat, .int .u8 m.b.toNat, .int .u8 m.c.toNat, .int .u8 m.d.toNat, .int .u8 m.e.toNat, .int .u8 m.f.toNat] 25)) 32 #[.slice none 0 0, .slice none 0 0]; simpa using this)
  have HS : Hid (w1.heap.size = g + 3) := Lib.hid (by rw [← hw1, ← hg]; simp)
  have HGE := Lib.hid hg
  have HR := Lib.hid (h.gro HG.out)
  have HW := Lib.hid h
  have HS16 := Lib.hid h.s16
  clear h hY hnd h16
  have c0 := HB.out.cell 0
  have c1 := HB.out.cell 1
  simp only [List.getElem?_toArray, List.getElem?_cons_succ, List.getElem?_cons_zero] at c0 c1
  obtain ⟨m0, m1, m2, m3, m4, m5⟩ := mcells HM.out
  have h4' : ¬ (v.toNat : Int) < 1 := by have := okVid_yes hb; omega
  have h5' : ¬ (4094 : Int) < (v.toNat : Int) := by have := okVid_yes hb; omega
  clear hb
  go_enter Try.func13, Try.ntmps13
  go_upto_region 1 with fail
  clear hw1 hg
  go_wp2_with fail
  refine (static_any HR.out v m).mono ?_
  rintro e w2 ⟨z, rfl, hz, hgr⟩
  have HG2 := Lib.hid (HG.out.trans hgr)
  have HR2 := Lib.hid (HR.out.gro hgr)
  have HB2 := Lib.hid (hgr.blk HB.out)
  have HM2 := Lib.hid (hgr.blk HM.out)
  have HZ2 := Lib.hid (hgr.blk HZ.out)
  have HS2 : Hid (g + 3 ≤ w2.heap.size) := Lib.hid (by have := hgr.size; have := HS.out; omega)
  have HZZ := Lib.hid hz
  clear hgr c0 c1 m0 m1 m2 m3 m4 m5 HG HR HB HM HZ HS hz
  have HWS : Hid (RvE (fun k => Y k ∧ (k < g ∨ g + 3 ≤ k)) w2 A c L B d S) := Lib.hid ((HW.out.swap (Y' := fun k => Y k ∧ (k < g ∨ g + 3 ≤ k)) (fun k hk hy => ⟨hy, .inl (by rw [HGE.out] at hk; exact hk)⟩)).next HG2.out.below)
  have c0 := HB2.out.cell 0
  have c1 := HB2.out.cell 1
  simp only [List.getElem?_toArray, List.getElem?_cons_succ, List.getElem?_cons_zero] at c0 c1
  obtain ⟨m0, m1, m2, m3, m4, m5⟩ := mcells HM2.out
  obtain ⟨kk, hkk⟩ : ∃ kk : Pl, kk = ⟨v, m⟩ := ⟨_, rfl⟩
  have HKK := Lib.hid hkk
  clear hkk
  have hzg : ((decide (z < 0)) = true → ¬ (16 : Int) ≤ (S.length : Int)) := by
    intro h0
    have h0' : z < 0 := by simpa using h0
    rcases HZZ.out with ⟨h1, _⟩ | ⟨i, x, hzi, _⟩
    · rcases H16.out with h2 | h2
      · rw [h1] at h2; cases h2
      · omega
    · omega
  have HZG := Lib.hid hzg
  clear hzg
  cases hz0 : decide (z < 0) with
  | true =>
    obtain rfl : z = -1 := by
      have : z < 0 := by simpa using hz0
      rcases HZZ.out with ⟨_, h0⟩ | ⟨i, x, hzi, _⟩
      · exact h0
      · omega
    have hz1 := HZG.out hz0
    clear hz0
    go_wp2_with fail
    refine (without_any HWS.out (fun k hk => ⟨HYY.out k (Nat.le_trans HG2.out.size hk), .inr (Nat.le_trans HS2.out hk)⟩) v m).mono ?_
    rintro e w3 ⟨A3, c3, rfl, hR3, hb3⟩
    clear c0 c1 m0 m1 m2 m3 m4 m5
    obtain ⟨n3, hn3⟩ : ∃ n3, (lwo L ⟨v, m⟩).length = n3 := ⟨_, rfl⟩
    have HN3 := Lib.hid hn3
    obtain ⟨w4, hw4⟩ : ∃ w4, w3.setRow g #[.slice A3 n3 c3, .slice B S.length d] = w4 := ⟨_, rfl⟩
    have HB3 := Lib.hid (HB2.out.below hb3 HB2.out.lt)
    have HX4 : Hid (LrS w g m A3 n3 c3 (lwo L ⟨v, m⟩) B S.length d w4) := Lib.hid (by
      rw [← hw4]
      refine ⟨HB3.out.row _, (HM2.out.below hb3 HM2.out.lt).rowFar (by omega) _, (HZ2.out.below hb3 HZ2.out.lt).rowFar (by omega) _, hR3.elL.chg ((Chg.refl (fun k => k = g) w3).setRow (g := g) (.inr rfl) _) (fun a e => by have := (hR3.yL a e).1.2; omega), below_row (HG2.out.below.trans (hb3.mono HG2.out.size)) (Nat.le_of_eq HGE.out) _⟩)
    have HS3 : Hid (g + 3 ≤ w4.heap.size) := Lib.hid (by rw [← hw4]; have := hb3.size; have := HS2.out; simp; omega)
    have HS34 : Hid (w3.heap.size ≤ w4.heap.size) := Lib.hid (by rw [← hw4]; simp)
    have hcL := hR3.cL
    have H3 := Lib.hid (And.intro hcL (And.intro hR3.nL (And.intro hR3.l32 hR3.yL)))
    have HW4 := Lib.hid (HW.out.next HX4.out.bl)
    clear hR3 hb3 hcL
    rw [hn3]
    clear hn3
    go_upto_region 7 with (refine wpList_store_row rfl 32 (.tmp 4) _ rfl g rfl (#[.slice A3 n3 c3, .slice B S.length d]) rfl 32 _ HB3.out info_rt rfl (by kernel_rfl) ?_)
    try rw [hw4]
    clear hw4 HB3
    obtain ⟨c0, c1, m0, m1, m2, m3, m4, m5, z0, z1, f0, f1⟩ := HX4.out.cells
    go_upto_region 8 with (at_builtin; refine wpl_app rfl (.const (.slice none 0 0)) (.tmp 37) 30 rfl esV_len esV_one (by decide) w4.heap.size 76 i0 (.agg #[.int .u16 0, .int .u8 0, .int .u8 0, .int .u8 0, .int .u8 0, .int .u8 0, .int .u8 0, .int .u8 0]) 10 Try.underlying30 HIS.out rfl (.slice none 0 0) ([]) rfl (World.ownsRow_nil _ _ _ _) B S.length d (S) rfl rfl HW4.out.nS HW4.out.elS (by have := HS16.out; simp; omega) (by decide) (by simp) ?_; intro v7 w7 ho7 hg7 hob7; rw [List.nil_append] at ho7; have HO7 := Lib.hid ho7; have HB7 : Hid (Below w4.heap.size w4 w7) := Lib.hid ((Below.refl _ _).grown hg7 (Nat.le_refl _) (by intro k hk; cases hk)); have HX7 := Lib.hid (HX4.out.next HB7.out); clear ho7 hg7 hob7)
    clear c0 c1 m0 m1 m2 m3 m4 m5 z0 z1 f0 f1
    have HSP : Hid (sput S ⟨v, m⟩ s = S ++ [((⟨v, m⟩, s) : Pl × UInt8)]) := Lib.hid (by
      rcases HZZ.out with ⟨h1, _⟩ | ⟨i, x, hzi, _⟩
      · unfold sput; rw [h1]; rfl
      · omega)
    have HSZ : Hid ((sput S ⟨v, m⟩ s).length ≤ 16) := Lib.hid (sput_le H16.out HS16.out)
    obtain ⟨c0, c1, m0, m1, m2, m3, m4, m5, z0, z1, f0, f1⟩ := HX7.out.cells
    have hsz7 := HB7.out.size
    go_upto_region 11 with (at_builtin; refine wpl_app rfl (.tmp 41) (.tmp 46) 30 rfl esV_len esV_one (by decide) w4.heap.size 76 i0 (.agg #[.int .u16 0, .int .u8 0, .int .u8 0, .int .u8 0, .int .u8 0, .int .u8 0, .int .u8 0, .int .u8 0]) 10 Try.underlying30 HIS.out rfl v7 (S) rfl (own_below HO7.out ((Below.refl _ _).alloc (Nat.le_refl _) _)) (some ⟨w7.heap.size, 0, none⟩) 1 1 ([((⟨v, m⟩, s) : Pl × UInt8)]) rfl rfl (fun e => by cases e) (els_one8 w7 ((⟨v, m⟩, s) : Pl × UInt8)) (by have := HS16.out; simp; omega) (by decide) (by simp; omega) ?_; intro v9 w9 ho9 hg9 _; have HO9a := Lib.hid ho9; have HB9 : Hid (Below w4.heap.size w4 w9) := Lib.hid (grown_below (HB7.out.alloc HB7.out.size _) (Nat.le_refl _) (own_below HO7.out ((Below.refl _ _).alloc (Nat.le_refl _) _)) hg9); clear ho9 hg9)
    clear c0 c1 m0 m1 m2 m3 m4 m5 z0 z1 f0 f1
    have ho9 := HO9a.out
    rw [← HSP.out] at ho9
    obtain ⟨A9, c9, rfl, hE9, hc9, hA9, ha9⟩ := own_full (enc := esV) (k := 8) esV_len ho9
    obtain ⟨n9, hn9⟩ : ∃ n9, (sput S ⟨v, m⟩ s).length = n9 := ⟨_, rfl⟩
    have HN9 := Lib.hid hn9
    have HO9 := Lib.hid (And.intro hE9 (And.intro hc9 (And.intro hA9 ha9)))
    have HL9 := HSZ
    rw [hn9]
    have HX9 := Lib.hid (HX4.out.next HB9.out)
    have HS9 : Hid (w3.heap.size ≤ w9.heap.size) := Lib.hid (Nat.le_trans HS34.out HB9.out.size)
    clear ho9 hE9 hc9 hA9 ha9 hn9 HO9a
    obtain ⟨c0, c1, m0, m1, m2, m3, m4, m5, z0, z1, f0, f1⟩ := HX9.out.cells
    go_wp2_with (refine wpList_store_row rfl 32 (.tmp 8) _ rfl (g + 2) rfl (#[.slice A3 n3 c3, .slice A9 n9 c9]) rfl 32 _ HX9.out.b2 info_rt rfl (by kernel_rfl) ?_)
    have HRS := Lib.hid (HX9.out.b2.row #[.slice A3 n3 c3, .slice A9 n9 c9])
    have HBF : Hid (Below w.heap.size w (w9.setRow (g + 2) #[.slice A3 n3 c3, .slice A9 n9 c9])) := Lib.hid (below_row HX9.out.bl (by rw [HGE.out]; omega) _)
    have HE8 := Lib.hid (HO9.out.1.chg ((Chg.refl (fun k => k = g + 2) w9).setRow (g := g + 2) (.inr rfl) #[.slice A3 n3 c3, .slice A9 n9 c9]) (fun a e => by have := (HO9.out.2.2.2 a e).1; have := HS3.out; omega))
    have HE7 := Lib.hid (HX9.out.el.chg ((Chg.refl (fun k => k = g + 2) w9).setRow (g := g + 2) (.inr rfl) #[.slice A3 n3 c3, .slice A9 n9 c9]) (fun a e => by have := (H3.out.2.2.2 a e).1.2; omega))
    refine bodyPost_ret (v := .tuple #[.agg #[.slice A3 n3 c3, .slice A9 n9 c9], .int .i64 0]) (results_cell_slot Try.results13 _ _ (g + 2) 32 _ _ rfl HRS.out Try.underlying32 rfl info_rt _ rfl) rfl ⟨A3, c3, A9, c9, by rw [HN3.out, HN9.out], ⟨HE7.out, HE8.out, H3.out.1, HO9.out.2.1, H3.out.2.1, HO9.out.2.2.1, fun a e => ⟨(H3.out.2.2.2 a e).1.1, ?_⟩, fun a e => ⟨HYY.out _ ?_, ?_⟩, H3.out.2.2.1, HL9.out⟩, HBF.out⟩
    · have := (H3.out.2.2.2 a e).2
      have := HS9.out
      simp only [size_setRow']
      omega
    · have := (HO9.out.2.2.2 a e).1
      have := HS3.out
      have := HGE.out
      omega
    · have := (HO9.out.2.2.2 a e).2
      simpa using this
  | false =>
    obtain ⟨i, x, hzi, hx, hxk, hxf⟩ : ∃ (i : Nat) (x : Pl × UInt8), z = (i : Int) ∧ S[i]? = some x ∧ x.1 = ⟨v, m⟩ ∧ shas (S.take i) ⟨v, m⟩ = false := by
      have : ¬ z < 0 := by simpa using hz0
      rcases HZZ.out with ⟨_, h0⟩ | h
      · omega
      · exact h
    subst hzi
    have HXX := Lib.hid (And.intro hx hxk)
    have hi0 : ¬ (i : Int) < 0 := by omega
    clear hz0 hx hxk hxf
    go_wp2_with fail
    refine (without_any HWS.out (fun k hk => ⟨HYY.out k (Nat.le_trans HG2.out.size hk), .inr (Nat.le_trans HS2.out hk)⟩) v m).mono ?_
    rintro e w3 ⟨A3, c3, rfl, hR3, hb3⟩
    clear c0 c1 m0 m1 m2 m3 m4 m5
    obtain ⟨n3, hn3⟩ : ∃ n3, (lwo L ⟨v, m⟩).length = n3 := ⟨_, rfl⟩
    have HN3 := Lib.hid hn3
    obtain ⟨w4, hw4⟩ : ∃ w4, w3.setRow g #[.slice A3 n3 c3, .slice B S.length d] = w4 := ⟨_, rfl⟩
    have HB3 := Lib.hid (HB2.out.below hb3 HB2.out.lt)
    have HX4 : Hid (LrS w g m A3 n3 c3 (lwo L ⟨v, m⟩) B S.length d w4) := Lib.hid (by
      rw [← hw4]
      refine ⟨HB3.out.row _, (HM2.out.below hb3 HM2.out.lt).rowFar (by omega) _, (HZ2.out.below hb3 HZ2.out.lt).rowFar (by omega) _, hR3.elL.chg ((Chg.refl (fun k => k = g) w3).setRow (g := g) (.inr rfl) _) (fun a e => by have := (hR3.yL a e).1.2; omega), below_row (HG2.out.below.trans (hb3.mono HG2.out.size)) (Nat.le_of_eq HGE.out) _⟩)
    have HS3 : Hid (g + 3 ≤ w4.heap.size) := Lib.hid (by rw [← hw4]; have := hb3.size; have := HS2.out; simp; omega)
    have HS34 : Hid (w3.heap.size ≤ w4.heap.size) := Lib.hid (by rw [← hw4]; simp)
    have hcL := hR3.cL
    have H3 := Lib.hid (And.intro hcL (And.intro hR3.nL (And.intro hR3.l32 hR3.yL)))
    have HW4 := Lib.hid (HW.out.next HX4.out.bl)
    clear hR3 hb3 hcL
    rw [hn3]
    clear hn3
    go_upto_region 7 with (refine wpList_store_row rfl 32 (.tmp 4) _ rfl g rfl (#[.slice A3 n3 c3, .slice B S.length d]) rfl 32 _ HB3.out info_rt rfl (by kernel_rfl) ?_)
    try rw [hw4]
    clear hw4 HB3
    obtain ⟨c0, c1, m0, m1, m2, m3, m4, m5, z0, z1, f0, f1⟩ := HX4.out.cells
    go_upto_region 8 with (at_builtin; refine wpl_app rfl (.const (.slice none 0 0)) (.tmp 37) 30 rfl esV_len esV_one (by decide) w4.heap.size 76 i0 (.agg #[.int .u16 0, .int .u8 0, .int .u8 0, .int .u8 0, .int .u8 0, .int .u8 0, .int .u8 0, .int .u8 0]) 10 Try.underlying30 HIS.out rfl (.slice none 0 0) ([]) rfl (World.ownsRow_nil _ _ _ _) B S.length d (S) rfl rfl HW4.out.nS HW4.out.elS (by have := HS16.out; simp; omega) (by decide) (by simp) ?_; intro v7 w7 ho7 hg7 hob7; rw [List.nil_append] at ho7; have HO7 := Lib.hid ho7; have HB7 : Hid (Below w4.heap.size w4 w7) := Lib.hid ((Below.refl _ _).grown hg7 (Nat.le_refl _) (by intro k hk; cases hk)); have HX7 := Lib.hid (HX4.out.next HB7.out); clear ho7 hg7 hob7)
    clear c0 c1 m0 m1 m2 m3 m4 m5 z0 z1 f0 f1
    have HSP : Hid (sput S ⟨v, m⟩ s = S.set i ((⟨v, m⟩, s) : Pl × UInt8)) := Lib.hid (map_set HND.out HXX.out.1 HXX.out.2)
    have HSZ : Hid ((sput S ⟨v, m⟩ s).length ≤ 16) := Lib.hid (sput_le H16.out HS16.out)
    have hiS : i < S.length := (List.getElem?_eq_some_iff.1 HXX.out.1).1
    obtain ⟨g9, c9, rfl⟩ : ∃ g9 c9, v7 = .slice (some ⟨g9, 0, none⟩) S.length c9 := by
      rcases HO7.out.2 with ⟨_, h0⟩ | ⟨g9, cap9, cur, e, _⟩
      · omega
      · exact ⟨g9, cap9, e⟩
    obtain ⟨A9', c9', e9, hE9, hc9, hA9, ha9⟩ := own_full (enc := esV) (k := 8) esV_len HO7.out
    cases e9
    obtain ⟨b9, off9, e9, hb9, _, _, _, _, _, _, _, e7⟩ := es_at hE9 HXX.out.1
    cases e9
    have hg9 := ha9 _ rfl
    have f7 : w7.frozen? ⟨g9, i * 8 + 7, none⟩ = false := by
      rcases HO7.out.2 with ⟨e, _⟩ | ⟨g', cap', cur, e, _, hgb, _⟩
      · cases e
      · cases e
        have hB : Blk w7 g9 76 cur := hgb
        exact hB.frozen _
    rw [Nat.zero_add] at e7
    obtain ⟨w9, hw9⟩ : ∃ w9, w7.setCell ⟨g9, i * 8 + 7, none⟩ (.int .u8 s.toNat) = w9 := ⟨_, rfl⟩
    have HO9a := Lib.hid (own_cell HO7.out (flat_set (s := s) HXX.out.1 HXX.out.2) (by simp))
    have HB9 : Hid (Below w4.heap.size w4 w9) := Lib.hid (by rw [← hw9]; exact HB7.out.setCell (p := ⟨g9, i * 8 + 7, none⟩) hg9.1 _)
    rw [hw9] at HO9a
    have hiI : (i : Int) < (S.length : Int) := by omega
    have HN9 : Hid ((sput S ⟨v, m⟩ s).length = S.length) := Lib.hid (by rw [HSP.out]; simp)
    obtain ⟨A9, c9', e9, hE9', hc9', hA9', ha9'⟩ := own_full (enc := esV) (k := 8) esV_len HO9a.out
    simp only [Value.slice.injEq] at e9
    obtain ⟨rfl, _, rfl⟩ := e9
    rw [← HSP.out] at hE9' hc9'
    have HO9 := Lib.hid (And.intro hE9' (And.intro hc9' (And.intro hA9' ha9')))
    have HL9 := HSZ
    have HX9 := Lib.hid (HX4.out.next HB9.out)
    have HS9 : Hid (w3.heap.size ≤ w9.heap.size) := Lib.hid (Nat.le_trans HS34.out HB9.out.size)
    clear HO9a hE9' hc9' hA9' ha9' hE9 hc9 hA9 ha9 hb9 hg9
    obtain ⟨nS, hnS⟩ : ∃ nS, S.length = nS := ⟨_, rfl⟩
    rw [hnS] at HX9 HN9 hiI hiS ⊢
    clear hnS
    go_upto_region 11 with fail
    clear hw9 e7 f7
    obtain ⟨c0, c1, m0, m1, m2, m3, m4, m5, z0, z1, f0, f1⟩ := HX9.out.cells
    go_wp2_with (refine wpList_store_row rfl 32 (.tmp 8) _ rfl (g + 2) rfl (#[.slice A3 n3 c3, .slice (some ⟨g9, 0, none⟩) nS c9]) rfl 32 _ HX9.out.b2 info_rt rfl (by kernel_rfl) ?_)
    have HRS := Lib.hid (HX9.out.b2.row #[.slice A3 n3 c3, .slice (some ⟨g9, 0, none⟩) nS c9])
    have HBF : Hid (Below w.heap.size w (w9.setRow (g + 2) #[.slice A3 n3 c3, .slice (some ⟨g9, 0, none⟩) nS c9])) := Lib.hid (below_row HX9.out.bl (by rw [HGE.out]; omega) _)
    have HE8 := Lib.hid (HO9.out.1.chg ((Chg.refl (fun k => k = g + 2) w9).setRow (g := g + 2) (.inr rfl) #[.slice A3 n3 c3, .slice (some ⟨g9, 0, none⟩) nS c9]) (fun a e => by have := (HO9.out.2.2.2 a e).1; have := HS3.out; omega))
    have HE7 := Lib.hid (HX9.out.el.chg ((Chg.refl (fun k => k = g + 2) w9).setRow (g := g + 2) (.inr rfl) #[.slice A3 n3 c3, .slice (some ⟨g9, 0, none⟩) nS c9]) (fun a e => by have := (H3.out.2.2.2 a e).1.2; omega))
    refine bodyPost_ret (v := .tuple #[.agg #[.slice A3 n3 c3, .slice (some ⟨g9, 0, none⟩) nS c9], .int .i64 0]) (results_cell_slot Try.results13 _ _ (g + 2) 32 _ _ rfl HRS.out Try.underlying32 rfl info_rt _ rfl) rfl ⟨A3, c3, (some ⟨g9, 0, none⟩), c9, by rw [HN3.out, HN9.out], ⟨HE7.out, HE8.out, H3.out.1, HO9.out.2.1, H3.out.2.1, HO9.out.2.2.1, fun a e => ⟨(H3.out.2.2.2 a e).1.1, ?_⟩, fun a e => ⟨HYY.out _ ?_, ?_⟩, H3.out.2.2.1, HL9.out⟩, HBF.out⟩
    · have := (H3.out.2.2.2 a e).2
      have := HS9.out
      simp only [size_setRow']
      omega
    · have := (HO9.out.2.2.2 a e).1
      have := HS3.out
      have := HGE.out
      omega
    · have := (HO9.out.2.2.2 a e).2
      simpa using this
set_option maxHeartbeats 4000000 in
theorem drop_bad_ref {w : World} {Y : Nat → Prop} {A B : Option Addr} {c d : Nat} {L : List En} {S : List (Pl × UInt8)} (h : RvE Y w A c L B d S) (v : UInt16) (m : Mc) (hb : okVid v = false) :
    Calls Try.prog 15 #[.agg #[.slice A L.length c, .slice B S.length d], .int .u16 v.toNat, mV m] w fun e w' => ∃ A' c' B' d', e = .returned (.tuple #[.agg #[.slice A' (L).length c', .slice B' (S).length d'], .int .i64 2]) ∧ RvE Y w' A' c' (L) B' d' (S) ∧ Below w.heap.size w w' := by
  obtain ⟨w1, hw1⟩ : ∃ w1, ((w.alloc (.cells #[.slice A L.length c, .slice B S.length d] 32)).alloc (.cells #[.int .u8 m.a.toNat, .int .u8 m.b.toNat, .int .u8 m.c.toNat, .int .u8 m.d.toNat, .int .u8 m.e.toNat, .int .u8 m.f.toNat] 25)).alloc (.cells #[.slice none 0 0, .slice none 0 0] 32) = w1 := ⟨_, rfl⟩
  obtain ⟨g, hg⟩ : ∃ g, w.heap.size = g := ⟨_, rfl⟩
  have HG := Lib.hid (show Gro w w1 by rw [← hw1]; exact (((Gro.refl w).alloc _).alloc _).alloc _)
  have HB := Lib.hid (show Blk w1 g 32 #[.slice A L.length c, .slice B S.length d] by rw [← hw1, ← hg]; exact ((Blk.new w _ _).alloc _).alloc _)
  have HM := Lib.hid (show Blk w1 (g + 1) 25 #[.int .u8 m.a.toNat, .int .u8 m.b.toNat, .int .u8 m.c.toNat, .int .u8 m.d.toNat, .int .u8 m.e.toNat, .int .u8 m.f.toNat] by rw [← hw1, ← hg]; have := (Blk.new (w.alloc (.cells #[.slice A L.length c, .slice B S.length d] 32)) 25 #[.int .u8 m.a.toNat, .int .u8 m.b.toNat, .int .u8 m.c.toNat, .int .u8 m.d.toNat, .int .u8 m.e.toNat, .int .u8 m.f.toNat]).alloc (.cells #[.slice none 0 0, .slice none 0 0] 32); simpa using this)
  have HZ := Lib.hid (show Blk w1 (g + 2) 32 #[.slice none 0 0, .slice none 0 0] by rw [← hw1, ← hg]; have := Blk.new ((w.alloc (.cells #[.slice A L.length c, .slice B S.length d] 32)).alloc (.cells #[.int .u8 m.a.toNat, .int .u8 m.b.toNat, .int .u8 m.c.toNat, .int .u8 m.d.toNat, .int .u8 m.e.toNat, .int .u8 m.f.toNat] 25)) 32 #[.slice none 0 0, .slice none 0 0]; simpa using this)
  have HS : Hid (w1.heap.size = g + 3) := Lib.hid (by rw [← hw1, ← hg]; simp)
  have HGE := Lib.hid hg
  have HR := Lib.hid (h.gro HG.out)
  have HW := Lib.hid h
  clear h
  have c0 := HB.out.cell 0
  have c1 := HB.out.cell 1
  simp only [List.getElem?_toArray, List.getElem?_cons_succ, List.getElem?_cons_zero] at c0 c1
  obtain ⟨m0, m1, m2, m3, m4, m5⟩ := mcells HM.out
  go_enter Try.func15, Try.ntmps15
  go_upto_region 1 with fail
  clear hw1 hg
  have hv := okVid_no hb
  by_cases h4 : v.toNat < 1
  · have h4' : (v.toNat : Int) < 1 := by omega
    clear h4 hv hb
    go_wp2_with (refine wpList_store_row rfl 32 (.tmp 6) _ rfl (g + 2) rfl (#[.slice A L.length c, .slice B S.length d]) rfl 32 _ HZ.out info_rt rfl (by kernel_rfl) ?_)
    have HRS := Lib.hid (HZ.out.row (#[.slice A L.length c, .slice B S.length d]))
    have HBF : Hid (Below w.heap.size w (w1.setRow (g + 2) (#[.slice A L.length c, .slice B S.length d]))) := Lib.hid (below_row HG.out.below (by rw [HGE.out]; omega) _)
    refine bodyPost_ret (v := .tuple #[.agg #[.slice A L.length c, .slice B S.length d], .int .i64 2]) (results_cell_slot Try.results15 _ _ (g + 2) 32 _ _ rfl HRS.out Try.underlying32 rfl info_rt _ rfl) rfl ⟨A, c, B, d, rfl, HW.out.next HBF.out, HBF.out⟩
  · have h4' : ¬ (v.toNat : Int) < 1 := by omega
    have h5' : (4094 : Int) < (v.toNat : Int) := by omega
    clear h4 hv hb
    go_wp2_with (refine wpList_store_row rfl 32 (.tmp 6) _ rfl (g + 2) rfl (#[.slice A L.length c, .slice B S.length d]) rfl 32 _ HZ.out info_rt rfl (by kernel_rfl) ?_)
    have HRS := Lib.hid (HZ.out.row (#[.slice A L.length c, .slice B S.length d]))
    have HBF : Hid (Below w.heap.size w (w1.setRow (g + 2) (#[.slice A L.length c, .slice B S.length d]))) := Lib.hid (below_row HG.out.below (by rw [HGE.out]; omega) _)
    refine bodyPost_ret (v := .tuple #[.agg #[.slice A L.length c, .slice B S.length d], .int .i64 2]) (results_cell_slot Try.results15 _ _ (g + 2) 32 _ _ rfl HRS.out Try.underlying32 rfl info_rt _ rfl) rfl ⟨A, c, B, d, rfl, HW.out.next HBF.out, HBF.out⟩

set_option maxHeartbeats 4000000 in
theorem drop_none_ref {w : World} {Y : Nat → Prop} {A B : Option Addr} {c d : Nat} {L : List En} {S : List (Pl × UInt8)} (h : RvE Y w A c L B d S) (v : UInt16) (m : Mc) (hb : okVid v = true) (hs : shas S ⟨v, m⟩ = false) :
    Calls Try.prog 15 #[.agg #[.slice A L.length c, .slice B S.length d], .int .u16 v.toNat, mV m] w fun e w' => ∃ A' c' B' d', e = .returned (.tuple #[.agg #[.slice A' (L).length c', .slice B' (S).length d'], .int .i64 7]) ∧ RvE Y w' A' c' (L) B' d' (S) ∧ Below w.heap.size w w' := by
  obtain ⟨w1, hw1⟩ : ∃ w1, ((w.alloc (.cells #[.slice A L.length c, .slice B S.length d] 32)).alloc (.cells #[.int .u8 m.a.toNat, .int .u8 m.b.toNat, .int .u8 m.c.toNat, .int .u8 m.d.toNat, .int .u8 m.e.toNat, .int .u8 m.f.toNat] 25)).alloc (.cells #[.slice none 0 0, .slice none 0 0] 32) = w1 := ⟨_, rfl⟩
  obtain ⟨g, hg⟩ : ∃ g, w.heap.size = g := ⟨_, rfl⟩
  have HG := Lib.hid (show Gro w w1 by rw [← hw1]; exact (((Gro.refl w).alloc _).alloc _).alloc _)
  have HB := Lib.hid (show Blk w1 g 32 #[.slice A L.length c, .slice B S.length d] by rw [← hw1, ← hg]; exact ((Blk.new w _ _).alloc _).alloc _)
  have HM := Lib.hid (show Blk w1 (g + 1) 25 #[.int .u8 m.a.toNat, .int .u8 m.b.toNat, .int .u8 m.c.toNat, .int .u8 m.d.toNat, .int .u8 m.e.toNat, .int .u8 m.f.toNat] by rw [← hw1, ← hg]; have := (Blk.new (w.alloc (.cells #[.slice A L.length c, .slice B S.length d] 32)) 25 #[.int .u8 m.a.toNat, .int .u8 m.b.toNat, .int .u8 m.c.toNat, .int .u8 m.d.toNat, .int .u8 m.e.toNat, .int .u8 m.f.toNat]).alloc (.cells #[.slice none 0 0, .slice none 0 0] 32); simpa using this)
  have HZ := Lib.hid (show Blk w1 (g + 2) 32 #[.slice none 0 0, .slice none 0 0] by rw [← hw1, ← hg]; have := Blk.new ((w.alloc (.cells #[.slice A L.length c, .slice B S.length d] 32)).alloc (.cells #[.int .u8 m.a.toNat, .int .u8 m.b.toNat, .int .u8 m.c.toNat, .int .u8 m.d.toNat, .int .u8 m.e.toNat, .int .u8 m.f.toNat] 25)) 32 #[.slice none 0 0, .slice none 0 0]; simpa using this)
  have HS : Hid (w1.heap.size = g + 3) := Lib.hid (by rw [← hw1, ← hg]; simp)
  have HGE := Lib.hid hg
  have HR := Lib.hid (h.gro HG.out)
  have HW := Lib.hid h
  clear h
  have c0 := HB.out.cell 0
  have c1 := HB.out.cell 1
  simp only [List.getElem?_toArray, List.getElem?_cons_succ, List.getElem?_cons_zero] at c0 c1
  obtain ⟨m0, m1, m2, m3, m4, m5⟩ := mcells HM.out
  have h4' : ¬ (v.toNat : Int) < 1 := by have := okVid_yes hb; omega
  have h5' : ¬ (4094 : Int) < (v.toNat : Int) := by have := okVid_yes hb; omega
  have HH := Lib.hid hs
  clear hs hb
  go_enter Try.func15, Try.ntmps15
  go_upto_region 1 with fail
  clear hw1 hg
  go_wp2_with fail
  refine (static_any HR.out v m).mono ?_
  rintro e w2 ⟨z, rfl, hz, hgr⟩
  have HG2 := Lib.hid (HG.out.trans hgr)
  have HR2 := Lib.hid (HR.out.gro hgr)
  have HB2 := Lib.hid (hgr.blk HB.out)
  have HM2 := Lib.hid (hgr.blk HM.out)
  have HZ2 := Lib.hid (hgr.blk HZ.out)
  have HS2 : Hid (g + 3 ≤ w2.heap.size) := Lib.hid (by have := hgr.size; have := HS.out; omega)
  have HZZ := Lib.hid hz
  clear hgr c0 c1 m0 m1 m2 m3 m4 m5 HG HR HB HM HZ HS hz
  obtain rfl : z = -1 := by
    rcases HZZ.out with ⟨_, h0⟩ | ⟨i, x, hzi, hx, hk, hf⟩
    · exact h0
    · have := (sget_at' hx hk hf); rw [HH.out] at this; cases this
  have c0 := HB2.out.cell 0
  have c1 := HB2.out.cell 1
  simp only [List.getElem?_toArray, List.getElem?_cons_succ, List.getElem?_cons_zero] at c0 c1
  obtain ⟨m0, m1, m2, m3, m4, m5⟩ := mcells HM2.out
  go_wp2_with (refine wpList_store_row rfl 32 (.tmp 6) _ rfl (g + 2) rfl (#[.slice A L.length c, .slice B S.length d]) rfl 32 _ HZ2.out info_rt rfl (by kernel_rfl) ?_)
  have HRS := Lib.hid (HZ2.out.row (#[.slice A L.length c, .slice B S.length d]))
  have HBF : Hid (Below w.heap.size w (w2.setRow (g + 2) (#[.slice A L.length c, .slice B S.length d]))) := Lib.hid (below_row HG2.out.below (by rw [HGE.out]; omega) _)
  refine bodyPost_ret (v := .tuple #[.agg #[.slice A L.length c, .slice B S.length d], .int .i64 7]) (results_cell_slot Try.results15 _ _ (g + 2) 32 _ _ rfl HRS.out Try.underlying32 rfl info_rt _ rfl) rfl ⟨A, c, B, d, rfl, HW.out.next HBF.out, HBF.out⟩
theorem sdel_at {S : List (Pl × UInt8)} {k : Pl} {i : Nat} {x : Pl × UInt8} (hn : Nd S) (hx : S[i]? = some x) (hk : x.1 = k) : sdel S k = S.take i ++ S.drop (i + 1) := by
  obtain ⟨hi, e⟩ := List.getElem?_eq_some_iff.1 hx
  have e2 : S = S.take i ++ x :: S.drop (i + 1) := by
    rw [← e, ← List.drop_eq_getElem_cons hi, List.take_append_drop]
  unfold Nd at hn
  rw [e2, List.pairwise_append] at hn
  obtain ⟨_, h2, h3⟩ := hn
  have h2' := (List.pairwise_cons.1 h2).1
  unfold sdel
  conv => lhs; rw [e2]
  rw [List.filter_append, List.filter_cons]
  have f1 : (S.take i).filter (fun x => !decide (x.1 = k)) = S.take i := by
    rw [List.filter_eq_self]
    intro y hy
    have := h3 y hy x (List.mem_cons_self ..)
    rw [hk] at this
    simpa using this
  have f2 : (S.drop (i + 1)).filter (fun x => !decide (x.1 = k)) = S.drop (i + 1) := by
    rw [List.filter_eq_self]
    intro y hy
    have := h2' y hy
    rw [hk] at this
    simpa using fun e => this e.symm
  rw [f1, f2]
  simp [hk]
theorem els_take {α : Type} {k : Nat} {enc : α → List Value} {w : World} {B : Option Addr} {l : List α} (h : Els k enc w B l) (i : Nat) : Els k enc w B (l.take i) := by
  intro h0
  rw [List.length_take] at h0
  obtain ⟨b, off, e, hlt, hc⟩ := h (by omega)
  refine ⟨b, off, e, hlt, fun q hq j v hv => ?_⟩
  rw [List.length_take] at hq
  exact hc q (by omega) j v (by rw [← hv, List.getElem_take])
theorem els_dropN {α : Type} {k : Nat} {enc : α → List Value} {w : World} {b off : Nat} {l : List α} (h : Els k enc w (some ⟨b, off, none⟩) l) (i : Nat) : Els k enc w (some ⟨b, off + i * k, none⟩) (l.drop i) := by
  intro h0
  rw [List.length_drop] at h0
  obtain ⟨b', off', e, hlt, hc⟩ := h (by omega)
  cases e
  refine ⟨b, off + i * k, rfl, hlt, fun q hq j v hv => ?_⟩
  rw [List.length_drop] at hq
  have := hc (i + q) (by omega) j v (by rw [← hv, List.getElem_drop])
  rw [show off + (i + q) * k + j = off + i * k + q * k + j by rw [Nat.add_mul]; omega] at this
  exact this
set_option maxHeartbeats 8000000 in
theorem drop_ok_ref {w : World} {Y : Nat → Prop} {A B : Option Addr} {c d : Nat} {L : List En} {S : List (Pl × UInt8)} (h : RvE Y w A c L B d S) (hY : ∀ k, w.heap.size ≤ k → Y k) (hnd : Nd S) (v : UInt16) (m : Mc) (hb : okVid v = true) (hs : shas S ⟨v, m⟩ = true) :
    Calls Try.prog 15 #[.agg #[.slice A L.length c, .slice B S.length d], .int .u16 v.toNat, mV m] w fun e w' => ∃ A' c' B' d', e = .returned (.tuple #[.agg #[.slice A' (L).length c', .slice B' (sdel S ⟨v, m⟩).length d'], .int .i64 0]) ∧ RvE Y w' A' c' (L) B' d' (sdel S ⟨v, m⟩) ∧ Below w.heap.size w w' := by
  obtain ⟨i0, hi0⟩ := infoRS
  have HIS := Lib.hid hi0
  clear hi0
  have HYY := Lib.hid hY
  have HND := Lib.hid hnd
  have HH := Lib.hid hs
  obtain ⟨w1, hw1⟩ : ∃ w1, ((w.alloc (.cells #[.slice A L.length c, .slice B S.length d] 32)).alloc (.cells #[.int .u8 m.a.toNat, .int .u8 m.b.toNat, .int .u8 m.c.toNat, .int .u8 m.d.toNat, .int .u8 m.e.toNat, .int .u8 m.f.toNat] 25)).alloc (.cells #[.slice none 0 0, .slice none 0 0] 32) = w1 := ⟨_, rfl⟩
  obtain ⟨g, hg⟩ : ∃ g, w.heap.size = g := ⟨_, rfl⟩
  have HG := Lib.hid (show Gro w w1 by rw [← hw1]; exact (((Gro.refl w).alloc _).alloc _).alloc _)
  have HB := Lib.hid (show Blk w1 g 32 #[.slice A L.length c, .slice B S.length d] by rw [← hw1, ← hg]; exact ((Blk.new w _ _).alloc _).alloc _)
  have HM := Lib.hid (show Blk w1 (g + 1) 25 #[.int .u8 m.a.toNat, .int .u8 m.b.toNat, .int .u8 m.c.toNat, .int .u8 m.d.toNat, .int .u8 m.e.toNat, .int .u8 m.f.toNat] by rw [← hw1, ← hg]; have := (Blk.new (w.alloc (.cells #[.slice A L.length c, .slice B S.length d] 32)) 25 #[.int .u8 m.a.toNat, .int .u8 m.b.toNat, .int .u8 m.c.toNat, .int .u8 m.d.toNat, .int .u8 m.e.toNat, .int .u8 m.f.toNat]).alloc (.cells #[.slice none 0 0, .slice none 0 0] 32); simpa using this)
  have HZ := Lib.hid (show Blk w1 (g + 2) 32 #[.slice none 0 0, .slice none 0 0] by rw [← hw1, ← hg]; have := Blk.new ((w.alloc (.cells #[.slice A L.length c, .slice B S.length d] 32)).alloc (.cells #[.int .u8 m.a.toNat, .int .u8 m.b.toNat, .int .u8 m.c.toNat, .int .u8 m.d.toNat, .int .u8 m.e.toNat, .int .u8 m.f.toNat] 25)) 32 #[.slice none 0 0, .slice none 0 0]; simpa using this)
  have HS : Hid (w1.heap.size = g + 3) := Lib.hid (by rw [← hw1, ← hg]; simp)
  have HGE := Lib.hid hg
  have HR := Lib.hid (h.gro HG.out)
  have HW := Lib.hid h
  have HS16 := Lib.hid h.s16
  clear h hY hnd hs
  have c0 := HB.out.cell 0
  have c1 := HB.out.cell 1
  simp only [List.getElem?_toArray, List.getElem?_cons_succ, List.getElem?_cons_zero] at c0 c1
  obtain ⟨m0, m1, m2, m3, m4, m5⟩ := mcells HM.out
  have h4' : ¬ (v.toNat : Int) < 1 := by have := okVid_yes hb; omega
  have h5' : ¬ (4094 : Int) < (v.toNat : Int) := by have := okVid_yes hb; omega
  clear hb
  go_enter Try.func15, Try.ntmps15
  go_upto_region 1 with fail
  clear hw1 hg
  go_wp2_with fail
  refine (static_any HR.out v m).mono ?_
  rintro e w2 ⟨z, rfl, hz, hgr⟩
  have HG2 := Lib.hid (HG.out.trans hgr)
  have HR2 := Lib.hid (HR.out.gro hgr)
  have HB2 := Lib.hid (hgr.blk HB.out)
  have HM2 := Lib.hid (hgr.blk HM.out)
  have HZ2 := Lib.hid (hgr.blk HZ.out)
  have HS2 : Hid (g + 3 ≤ w2.heap.size) := Lib.hid (by have := hgr.size; have := HS.out; omega)
  have HZZ := Lib.hid hz
  clear hgr c0 c1 m0 m1 m2 m3 m4 m5 HG HR HB HM HZ HS hz
  obtain ⟨i, x, rfl, hx, hxk⟩ : ∃ (i : Nat) (x : Pl × UInt8), z = (i : Int) ∧ S[i]? = some x ∧ x.1 = ⟨v, m⟩ := by
    rcases HZZ.out with ⟨h0, _⟩ | ⟨i, x, h1, h2, h3, _⟩
    · rw [HH.out] at h0; cases h0
    · exact ⟨i, x, h1, h2, h3⟩
  have HSD := Lib.hid (sdel_at HND.out hx hxk)
  have hiS : i < S.length := (List.getElem?_eq_some_iff.1 hx).1
  obtain ⟨b, off, rfl, hbl, _⟩ := es_at HR2.out.elS hx
  have HX2 : Hid (LrS w g m A L.length c L (some ⟨b, off, none⟩) S.length d w2) := Lib.hid ⟨HB2.out, HM2.out, HZ2.out, HR2.out.elL, HG2.out.below⟩
  have HE1 := Lib.hid (els_take HR2.out.elS i)
  have HE2 := Lib.hid (els_dropN HR2.out.elS (i + 1))
  have hcS := HR2.out.cS
  have HNS := Lib.hid HR2.out.nS
  clear hx hxk hbl
  obtain ⟨nS, hnS⟩ : ∃ nS, S.length = nS := ⟨_, rfl⟩
  have HNL := Lib.hid hnS
  rw [hnS] at HX2 hiS hcS
  have hn16 : nS ≤ 16 := by rw [← hnS]; exact HS16.out
  have l1 : Hid ((S.take i).length = i) := Lib.hid (by rw [List.length_take]; omega)
  have l2 : Hid ((S.drop (i + 1)).length = nS - (i + 1)) := Lib.hid (by rw [List.length_drop, hnS])
  obtain ⟨n2, hn2⟩ : ∃ n2, nS - (i + 1) = n2 := ⟨_, rfl⟩
  obtain ⟨d2, hd2⟩ : ∃ d2, d - (i + 1) = d2 := ⟨_, rfl⟩
  have hii : IntKind.i64.wrap ((i : Int) + 1) = ((i + 1 : Nat) : Int) := by rw [IntWalk.i64_in _ (by omega)]; omega
  have hin : ¬ (i : Int) < 0 := by omega
  clear hnS
  have c0 := HB2.out.cell 0
  have c1 := HB2.out.cell 1
  simp only [List.getElem?_toArray, List.getElem?_cons_succ, List.getElem?_cons_zero] at c0 c1
  obtain ⟨m0, m1, m2, m3, m4, m5⟩ := mcells HM2.out
  go_upto_region 6 with fail
  clear c0 c1 m0 m1 m2 m3 m4 m5
  have HX2d := Lib.hid (show LrS w g m A L.length c L (some ⟨b, off, none⟩) nS d w2.drew from HX2.out.next ((Below.refl _ _).drew))
  obtain ⟨c0, c1, m0, m1, m2, m3, m4, m5, z0, z1, f0, f1⟩ := HX2.out.cells
  have hiiS : i + 1 ≤ nS := hiS
  have hid : i ≤ d := by omega
  have hid1 : i + 1 ≤ d := by omega
  have hI1 : (0 : Int) ≤ (i : Int) + 1 := by omega
  have hI2 : (i : Int) + 1 ≤ (nS : Int) := by omega
  by_cases hdi : d = i + 1
  · obtain rfl : n2 = 0 := by omega
    obtain rfl : d2 = 0 := by omega
    obtain rfl : nS = i + 1 := by omega
    subst hdi
    have hI3 : (i : Int) ≤ (i : Int) + 1 := by omega
    have HE3 := Lib.hid (show Els 8 esV w2 (some ⟨b, off, none⟩) (S.drop (i + 1)) from fun h0 => absurd h0 (by have := l2.out; omega))
    have HE1d := Lib.hid (HE1.out.next ((Below.refl _ w2).drew))
    go_wp2_with fail
    go_region_law (first | (refine step_app rfl (.const (.slice none 0 0)) (.tmp 28) 30 rfl esV_len esV_one (by decide) w2.heap.size 76 i0 (.agg #[.int .u16 0, .int .u8 0, .int .u8 0, .int .u8 0, .int .u8 0, .int .u8 0, .int .u8 0, .int .u8 0]) 10 Try.underlying30 HIS.out rfl (.slice none 0 0) [] rfl (World.ownsRow_nil _ _ _ _) (some ⟨b, off, none⟩) i (i + 1) (S.take i) l1.out (by simp [Act.eval, Act.put]) (fun e => by cases e) HE1d.out (by have := l1.out; simp; omega) (by decide) (by simp) ?_; intro v6 w6 ho6 hg6 hob6; rw [List.nil_append] at ho6; have HO6 := Lib.hid ho6; have HB6 : Hid (Below w2.heap.size w2 w6) := Lib.hid (((Below.refl _ w2).drew).grown hg6 (by simp) (by intro k hk; cases hk)); have HX6 := Lib.hid (HX2.out.next HB6.out); have HE6 := Lib.hid (HE3.out.next HB6.out); obtain ⟨c0, c1, m0, m1, m2, m3, m4, m5, z0, z1, f0, f1⟩ := HX6.out.cells; clear ho6 hob6 hg6) | (refine step_app rfl (.tmp 29) (.tmp 34) 30 rfl esV_len esV_one (by decide) w2.heap.size 76 i0 (.agg #[.int .u16 0, .int .u8 0, .int .u8 0, .int .u8 0, .int .u8 0, .int .u8 0, .int .u8 0, .int .u8 0]) 10 Try.underlying30 HIS.out rfl v6 (S.take i) (by simp [Act.eval, Act.put]) HO6.out (some ⟨b, off, none⟩) 0 0 (S.drop (i + 1)) (by have := l2.out; omega) (by simp [Act.eval, Act.put]) (fun e => by cases e) HE6.out (by have := l1.out; have := l2.out; omega) (by decide) (by have := HB6.out.size; simp; omega) ?_; intro v7 w7 ho7 hg7 hob7; rw [← HSD.out] at ho7; obtain ⟨A7, c7, rfl, hE7, hc7, hA7, ha7⟩ := own_full (enc := esV) (k := 8) esV_len ho7; have HO7 := Lib.hid (And.intro hE7 (And.intro hc7 (And.intro hA7 ha7))); have HB7 : Hid (Below w2.heap.size w2 w7) := Lib.hid (grown_below HB6.out (Nat.le_refl _) HO6.out hg7); have HX7 := Lib.hid (HX2.out.next HB7.out); obtain ⟨c0, c1, m0, m1, m2, m3, m4, m5, z0, z1, f0, f1⟩ := HX7.out.cells; clear ho7 hg7 hob7 hE7 hc7 hA7 ha7))
    all_goals (
      go_wp2_with fail
      have HRS := Lib.hid (show Blk ((w7.setCell ⟨g + 2, 0, none⟩ (.slice A L.length c)).setCell ⟨g + 2, 1, none⟩ (.slice A7 (sdel S ⟨v, m⟩).length c7)) (g + 2) 32 #[.slice A L.length c, .slice A7 (sdel S ⟨v, m⟩).length c7] from (HX7.out.b2.put 0 _).put 1 _)
      have HBF : Hid (Below w.heap.size w ((w7.setCell ⟨g + 2, 0, none⟩ (.slice A L.length c)).setCell ⟨g + 2, 1, none⟩ (.slice A7 (sdel S ⟨v, m⟩).length c7))) := Lib.hid (((HX7.out.bl).setCell (p := ⟨g + 2, 0, none⟩) (by rw [HGE.out]; exact Nat.le_add_right _ _) _).setCell (p := ⟨g + 2, 1, none⟩) (by rw [HGE.out]; exact Nat.le_add_right _ _) _)
      have HE8 := Lib.hid (HO7.out.1.chg ((((Chg.refl (fun k => k = g + 2) w7).setCell (p := ⟨g + 2, 0, none⟩) (.inr rfl) (.slice A L.length c)).setCell (p := ⟨g + 2, 1, none⟩) (.inr rfl) (.slice A7 (sdel S ⟨v, m⟩).length c7))) (fun a e => by have := (HO7.out.2.2.2 a e).1; have := HX2.out.b2.lt; omega))
      have HW8 := Lib.hid (HW.out.next HBF.out)
      have hsl : (sdel S ⟨v, m⟩).length ≤ 16 := Nat.le_trans (List.length_filter_le _ _) HS16.out
      refine bodyPost_ret (v := .tuple #[.agg #[.slice A L.length c, .slice A7 (sdel S ⟨v, m⟩).length c7], .int .i64 0]) (results_cell_slot Try.results15 _ _ (g + 2) 32 _ _ rfl HRS.out Try.underlying32 rfl info_rt _ rfl) rfl ⟨A, c, A7, c7, rfl, ⟨HW8.out.elL, HE8.out, HW8.out.cL, HO7.out.2.1, HW8.out.nL, HO7.out.2.2.1, HW8.out.yL, fun a e => ⟨HYY.out _ ?_, ?_⟩, HW8.out.l32, hsl⟩, HBF.out⟩
      · have := (HO7.out.2.2.2 a e).1
        have := HG2.out.size
        omega
      · have := (HO7.out.2.2.2 a e).2
        simpa [World.setCell] using this)
  · have HE3 := HE2
    have HE1d := Lib.hid (HE1.out.next ((Below.refl _ w2).drew))
    go_wp2_with fail
    go_region_law (first | (refine step_app rfl (.const (.slice none 0 0)) (.tmp 28) 30 rfl esV_len esV_one (by decide) w2.heap.size 76 i0 (.agg #[.int .u16 0, .int .u8 0, .int .u8 0, .int .u8 0, .int .u8 0, .int .u8 0, .int .u8 0, .int .u8 0]) 10 Try.underlying30 HIS.out rfl (.slice none 0 0) [] rfl (World.ownsRow_nil _ _ _ _) (some ⟨b, off, none⟩) i d (S.take i) l1.out (by simp [Act.eval, Act.put]) (fun e => by cases e) HE1d.out (by have := l1.out; simp; omega) (by decide) (by simp) ?_; intro v6 w6 ho6 hg6 hob6; rw [List.nil_append] at ho6; have HO6 := Lib.hid ho6; have HB6 : Hid (Below w2.heap.size w2 w6) := Lib.hid (((Below.refl _ w2).drew).grown hg6 (by simp) (by intro k hk; cases hk)); have HX6 := Lib.hid (HX2.out.next HB6.out); have HE6 := Lib.hid (HE3.out.next HB6.out); obtain ⟨c0, c1, m0, m1, m2, m3, m4, m5, z0, z1, f0, f1⟩ := HX6.out.cells; clear ho6 hob6 hg6) | (refine step_app rfl (.tmp 29) (.tmp 34) 30 rfl esV_len esV_one (by decide) w2.heap.size 76 i0 (.agg #[.int .u16 0, .int .u8 0, .int .u8 0, .int .u8 0, .int .u8 0, .int .u8 0, .int .u8 0, .int .u8 0]) 10 Try.underlying30 HIS.out rfl v6 (S.take i) (by simp [Act.eval, Act.put]) HO6.out (some ⟨b, off + (i + 1) * 8, none⟩) n2 d2 (S.drop (i + 1)) (by have := l2.out; omega) (by simp [Act.eval, Act.put]) (fun e => by cases e) HE6.out (by have := l1.out; have := l2.out; omega) (by decide) (by have := HB6.out.size; simp; omega) ?_; intro v7 w7 ho7 hg7 hob7; rw [← HSD.out] at ho7; obtain ⟨A7, c7, rfl, hE7, hc7, hA7, ha7⟩ := own_full (enc := esV) (k := 8) esV_len ho7; have HO7 := Lib.hid (And.intro hE7 (And.intro hc7 (And.intro hA7 ha7))); have HB7 : Hid (Below w2.heap.size w2 w7) := Lib.hid (grown_below HB6.out (Nat.le_refl _) HO6.out hg7); have HX7 := Lib.hid (HX2.out.next HB7.out); obtain ⟨c0, c1, m0, m1, m2, m3, m4, m5, z0, z1, f0, f1⟩ := HX7.out.cells; clear ho7 hg7 hob7 hE7 hc7 hA7 ha7))
    all_goals (
      go_wp2_with fail
      have HRS := Lib.hid (show Blk ((w7.setCell ⟨g + 2, 0, none⟩ (.slice A L.length c)).setCell ⟨g + 2, 1, none⟩ (.slice A7 (sdel S ⟨v, m⟩).length c7)) (g + 2) 32 #[.slice A L.length c, .slice A7 (sdel S ⟨v, m⟩).length c7] from (HX7.out.b2.put 0 _).put 1 _)
      have HBF : Hid (Below w.heap.size w ((w7.setCell ⟨g + 2, 0, none⟩ (.slice A L.length c)).setCell ⟨g + 2, 1, none⟩ (.slice A7 (sdel S ⟨v, m⟩).length c7))) := Lib.hid (((HX7.out.bl).setCell (p := ⟨g + 2, 0, none⟩) (by rw [HGE.out]; exact Nat.le_add_right _ _) _).setCell (p := ⟨g + 2, 1, none⟩) (by rw [HGE.out]; exact Nat.le_add_right _ _) _)
      have HE8 := Lib.hid (HO7.out.1.chg ((((Chg.refl (fun k => k = g + 2) w7).setCell (p := ⟨g + 2, 0, none⟩) (.inr rfl) (.slice A L.length c)).setCell (p := ⟨g + 2, 1, none⟩) (.inr rfl) (.slice A7 (sdel S ⟨v, m⟩).length c7))) (fun a e => by have := (HO7.out.2.2.2 a e).1; have := HX2.out.b2.lt; omega))
      have HW8 := Lib.hid (HW.out.next HBF.out)
      have hsl : (sdel S ⟨v, m⟩).length ≤ 16 := Nat.le_trans (List.length_filter_le _ _) HS16.out
      refine bodyPost_ret (v := .tuple #[.agg #[.slice A L.length c, .slice A7 (sdel S ⟨v, m⟩).length c7], .int .i64 0]) (results_cell_slot Try.results15 _ _ (g + 2) 32 _ _ rfl HRS.out Try.underlying32 rfl info_rt _ rfl) rfl ⟨A, c, A7, c7, rfl, ⟨HW8.out.elL, HE8.out, HW8.out.cL, HO7.out.2.1, HW8.out.nL, HO7.out.2.2.1, HW8.out.yL, fun a e => ⟨HYY.out _ ?_, ?_⟩, HW8.out.l32, hsl⟩, HBF.out⟩
      · have := (HO7.out.2.2.2 a e).1
        have := HG2.out.size
        omega
      · have := (HO7.out.2.2.2 a e).2
        simpa [World.setCell] using this)
end Go.Proofs.Ytlofaahckdfeiaa
