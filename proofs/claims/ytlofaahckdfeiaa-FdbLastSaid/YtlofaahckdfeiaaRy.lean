/- Layer 8: the document's Learn. -/
import Derived.Test.YtlofaahckdfeiaaRt
import Derived.Deep.RegionLaw
namespace Go.Proofs.Ytlofaahckdfeiaa
open Go.RowKit
set_option linter.unusedVariables false
set_option linter.unusedSimpArgs false
set_option maxRecDepth 100000

theorem sget_at' {S : List (Pl × UInt8)} {k : Pl} {i : Nat} {x : Pl × UInt8} (hx : S[i]? = some x) (hk : x.1 = k) (h : shas (S.take i) k = false) : shas S k = true := by
  unfold shas
  exact List.any_eq_true.2 ⟨x, List.mem_of_getElem? hx, by simpa using hk⟩
def bad0 (v : UInt16) (m : Mc) (p : UInt8) : Bool := grp m || decide (8 ≤ p.toNat) || !okVid v
theorem grp_t (m : Mc) : (Int.tmod (m.a.toNat : Int) 2 == 1) = grp m := by
  unfold grp
  rw [Int.tmod_eq_emod_of_nonneg (by omega), Bool.eq_iff_iff]
  simp only [beq_iff_eq]
  omega
theorem grp_m (m : Mc) : ((m.a.toNat : Int) % 2 == 1) = grp m := by
  unfold grp
  rw [Bool.eq_iff_iff]
  simp only [beq_iff_eq]
  omega
theorem okVid_no {v : UInt16} (h : okVid v = false) : v.toNat < 1 ∨ 4094 < v.toNat := by
  unfold okVid at h
  rw [Bool.and_eq_false_iff] at h
  simp only [decide_eq_false_iff_not] at h
  omega
theorem okVid_yes {v : UInt16} (h : okVid v = true) : 1 ≤ v.toNat ∧ v.toNat ≤ 4094 := by
  unfold okVid at h
  simpa using h
set_option maxHeartbeats 4000000 in
theorem learn_bad_ref {w : World} {Y : Nat → Prop} {A B : Option Addr} {c d : Nat} {L : List En} {S : List (Pl × UInt8)} (h : RvE Y w A c L B d S) (v : UInt16) (m : Mc) (p : UInt8) (hb : bad0 v m p = true) :
    Calls Try.prog 17 #[.agg #[.slice A L.length c, .slice B S.length d], .int .u16 v.toNat, mV m, .int .u8 p.toNat] w fun e w' => ∃ A' c', e = .returned (.agg #[.slice A' (L).length c', .slice B S.length d]) ∧ RvE Y w' A' c' (L) B d S ∧ Below w.heap.size w w' := by
  obtain ⟨w1, hw1⟩ : ∃ w1, ((w.alloc (.cells #[.slice A L.length c, .slice B S.length d] 32)).alloc (.cells #[.int .u8 m.a.toNat, .int .u8 m.b.toNat, .int .u8 m.c.toNat, .int .u8 m.d.toNat, .int .u8 m.e.toNat, .int .u8 m.f.toNat] 25)).alloc (.cells #[.slice none 0 0, .slice none 0 0] 32) = w1 := ⟨_, rfl⟩
  obtain ⟨g, hg⟩ : ∃ g, w.heap.size = g := ⟨_, rfl⟩
  have HG := Lib.hid (show Gro w w1 by rw [← hw1]; exact (((Gro.refl w).alloc _).alloc _).alloc _)
  have HB := Lib.hid (show Blk w1 g 32 #[.slice A L.length c, .slice B S.length d] by rw [← hw1, ← hg]; exact ((Blk.new w _ _).alloc _).alloc _)
  have HM := Lib.hid (show Blk w1 (g + 1) 25 #[.int .u8 m.a.toNat, .int .u8 m.b.toNat, .int .u8 m.c.toNat, .int .u8 m.d.toNat, .int .u8 m.e.toNat, .int .u8 m.f.toNat] by rw [← hw1, ← hg]; have := (Blk.new (w.alloc (.cells #[.slice A L.length c, .slice B S.length d] 32)) 25 #[.int .u8 m.a.toNat, .int .u8 m.b.toNat, .int .u8 m.c.toNat, .int .u8 m.d.toNat, .int .u8 m.e.toNat, .int .u8 m.f.toNat]).alloc (.cells #[.slice none 0 0, .slice none 0 0] 32); simpa using this)
  have HZ := Lib.hid (show Blk w1 (g + 2) 32 #[.slice none 0 0, .slice none 0 0] by rw [← hw1, ← hg]; have := Blk.new ((w.alloc (.cells #[.slice A L.length c, .slice B S.length d] 32)).alloc (.cells #[.int .u8 m.a.toNat, .int .u8 m.b.toNat, .int .u8 m.c.toNat, .int .u8 m.d.toNat, .int .u8 m.e.toNat, .int .u8 m.f.toNat] 25)) 32 #[.slice none 0 0, .slice none 0 0]; simpa using this)
  have HS : Hid (w1.heap.size = g + 3) := Lib.hid (by rw [← hw1, ← hg]; simp)
  have HGE := Lib.hid hg
  have HR := Lib.hid (h.gro HG.out)
  have HW := Lib.hid h
  clear h
  have c0 := HB.out.cell 0
  have c1 := HB.out.cell 1
  simp only [List.getElem?_toArray, List.getElem?_cons_succ, List.getElem?_cons_zero] at c0 c1
  obtain ⟨m0, m1, m2, m3, m4, m5⟩ := mcells HM.out
  have q1 := grp_t m
  have q2 := grp_m m
  go_enter Try.func17, Try.ntmps17
  go_upto_region 1 with fail
  clear hw1 hg
  cases h1 : grp m with
  | true =>
    rw [h1] at q1 q2
    clear hb
    go_wp2_with (refine wpList_store_row rfl 32 (.tmp 8) _ rfl (g + 2) rfl (#[.slice A L.length c, .slice B S.length d]) rfl 32 _ HZ.out info_rt rfl (by kernel_rfl) ?_)
    have HRS := Lib.hid (HZ.out.row (#[.slice A L.length c, .slice B S.length d]))
    have HBF : Hid (Below w.heap.size w (w1.setRow (g + 2) (#[.slice A L.length c, .slice B S.length d]))) := Lib.hid (below_row HG.out.below (by rw [HGE.out]; omega) _)
    refine bodyPost_ret (v := .agg #[.slice A L.length c, .slice B S.length d]) (results_cell Try.results17 _ _ (g + 2) 32 _ _ rfl HRS.out Try.underlying32 rfl info_rt) rfl ⟨A, c, rfl, HW.out.next HBF.out, HBF.out⟩
  | false =>
    rw [h1] at q1 q2
    by_cases h2 : 8 ≤ p.toNat
    · have h2' : (7 : Int) < (p.toNat : Int) := by omega
      clear hb h2
      go_wp2_with (refine wpList_store_row rfl 32 (.tmp 8) _ rfl (g + 2) rfl (#[.slice A L.length c, .slice B S.length d]) rfl 32 _ HZ.out info_rt rfl (by kernel_rfl) ?_)
      have HRS := Lib.hid (HZ.out.row (#[.slice A L.length c, .slice B S.length d]))
      have HBF : Hid (Below w.heap.size w (w1.setRow (g + 2) (#[.slice A L.length c, .slice B S.length d]))) := Lib.hid (below_row HG.out.below (by rw [HGE.out]; omega) _)
      refine bodyPost_ret (v := .agg #[.slice A L.length c, .slice B S.length d]) (results_cell Try.results17 _ _ (g + 2) 32 _ _ rfl HRS.out Try.underlying32 rfl info_rt) rfl ⟨A, c, rfl, HW.out.next HBF.out, HBF.out⟩
    · have h2' : ¬ (7 : Int) < (p.toNat : Int) := by omega
      have h3 : okVid v = false := by
        unfold bad0 at hb
        rw [h1] at hb
        simpa [h2] using hb
      clear hb h2
      by_cases h4 : v.toNat < 1
      · have h4' : (v.toNat : Int) < 1 := by omega
        clear h4 h3
        go_wp2_with (refine wpList_store_row rfl 32 (.tmp 8) _ rfl (g + 2) rfl (#[.slice A L.length c, .slice B S.length d]) rfl 32 _ HZ.out info_rt rfl (by kernel_rfl) ?_)
        have HRS := Lib.hid (HZ.out.row (#[.slice A L.length c, .slice B S.length d]))
        have HBF : Hid (Below w.heap.size w (w1.setRow (g + 2) (#[.slice A L.length c, .slice B S.length d]))) := Lib.hid (below_row HG.out.below (by rw [HGE.out]; omega) _)
        refine bodyPost_ret (v := .agg #[.slice A L.length c, .slice B S.length d]) (results_cell Try.results17 _ _ (g + 2) 32 _ _ rfl HRS.out Try.underlying32 rfl info_rt) rfl ⟨A, c, rfl, HW.out.next HBF.out, HBF.out⟩
      · have h4' : ¬ (v.toNat : Int) < 1 := by omega
        have h5' : (4094 : Int) < (v.toNat : Int) := by have := okVid_no h3; omega
        clear h4 h3
        go_wp2_with (refine wpList_store_row rfl 32 (.tmp 8) _ rfl (g + 2) rfl (#[.slice A L.length c, .slice B S.length d]) rfl 32 _ HZ.out info_rt rfl (by kernel_rfl) ?_)
        have HRS := Lib.hid (HZ.out.row (#[.slice A L.length c, .slice B S.length d]))
        have HBF : Hid (Below w.heap.size w (w1.setRow (g + 2) (#[.slice A L.length c, .slice B S.length d]))) := Lib.hid (below_row HG.out.below (by rw [HGE.out]; omega) _)
        refine bodyPost_ret (v := .agg #[.slice A L.length c, .slice B S.length d]) (results_cell Try.results17 _ _ (g + 2) 32 _ _ rfl HRS.out Try.underlying32 rfl info_rt) rfl ⟨A, c, rfl, HW.out.next HBF.out, HBF.out⟩
set_option maxHeartbeats 4000000 in
theorem learn_st_ref {w : World} {Y : Nat → Prop} {A B : Option Addr} {c d : Nat} {L : List En} {S : List (Pl × UInt8)} (h : RvE Y w A c L B d S) (v : UInt16) (m : Mc) (p : UInt8) (hb : bad0 v m p = false) (hs : shas S ⟨v, m⟩ = true) :
    Calls Try.prog 17 #[.agg #[.slice A L.length c, .slice B S.length d], .int .u16 v.toNat, mV m, .int .u8 p.toNat] w fun e w' => ∃ A' c', e = .returned (.agg #[.slice A' (L).length c', .slice B S.length d]) ∧ RvE Y w' A' c' (L) B d S ∧ Below w.heap.size w w' := by
  obtain ⟨w1, hw1⟩ : ∃ w1, ((w.alloc (.cells #[.slice A L.length c, .slice B S.length d] 32)).alloc (.cells #[.int .u8 m.a.toNat, .int .u8 m.b.toNat, .int .u8 m.c.toNat, .int .u8 m.d.toNat, .int .u8 m.e.toNat, .int .u8 m.f.toNat] 25)).alloc (.cells #[.slice none 0 0, .slice none 0 0] 32) = w1 := ⟨_, rfl⟩
  obtain ⟨g, hg⟩ : ∃ g, w.heap.size = g := ⟨_, rfl⟩
  have HG := Lib.hid (show Gro w w1 by rw [← hw1]; exact (((Gro.refl w).alloc _).alloc _).alloc _)
  have HB := Lib.hid (show Blk w1 g 32 #[.slice A L.length c, .slice B S.length d] by rw [← hw1, ← hg]; exact ((Blk.new w _ _).alloc _).alloc _)
  have HM := Lib.hid (show Blk w1 (g + 1) 25 #[.int .u8 m.a.toNat, .int .u8 m.b.toNat, .int .u8 m.c.toNat, .int .u8 m.d.toNat, .int .u8 m.e.toNat, .int .u8 m.f.toNat] by rw [← hw1, ← hg]; have := (Blk.new (w.alloc (.cells #[.slice A L.length c, .slice B S.length d] 32)) 25 #[.int .u8 m.a.toNat, .int .u8 m.b.toNat, .int .u8 m.c.toNat, .int .u8 m.d.toNat, .int .u8 m.e.toNat, .int .u8 m.f.toNat]).alloc (.cells #[.slice none 0 0, .slice none 0 0] 32); simpa using this)
  have HZ := Lib.hid (show Blk w1 (g + 2) 32 #[.slice none 0 0, .slice none 0 0] by rw [← hw1, ← hg]; have := Blk.new ((w.alloc (.cells #[.slice A L.length c, .slice B S.length d] 32)).alloc (.cells #[.int .u8 m.a.toNat, .int .u8 m.b.toNat, .int .u8 m.c.toNat, .int .u8 m.d.toNat, .int .u8 m.e.toNat, .int .u8 m.f.toNat] 25)) 32 #[.slice none 0 0, .slice none 0 0]; simpa using this)
  have HS : Hid (w1.heap.size = g + 3) := Lib.hid (by rw [← hw1, ← hg]; simp)
  have HGE := Lib.hid hg
  have HR := Lib.hid (h.gro HG.out)
  have HW := Lib.hid h
  clear h
  have c0 := HB.out.cell 0
  have c1 := HB.out.cell 1
  simp only [List.getElem?_toArray, List.getElem?_cons_succ, List.getElem?_cons_zero] at c0 c1
  obtain ⟨m0, m1, m2, m3, m4, m5⟩ := mcells HM.out
  have hg0 : grp m = false ∧ p.toNat < 8 ∧ okVid v = true := by
    unfold bad0 at hb
    simp only [Bool.or_eq_false_iff, decide_eq_false_iff_not, Bool.not_eq_false'] at hb
    exact ⟨hb.1.1, by omega, hb.2⟩
  have q1 := grp_t m
  have q2 := grp_m m
  rw [hg0.1] at q1 q2
  have h2' : ¬ (7 : Int) < (p.toNat : Int) := by have := hg0.2.1; omega
  have h4' : ¬ (v.toNat : Int) < 1 := by have := okVid_yes hg0.2.2; omega
  have h5' : ¬ (4094 : Int) < (v.toNat : Int) := by have := okVid_yes hg0.2.2; omega
  have HG0 := Lib.hid hg0
  clear hb hg0
  have HH := Lib.hid hs
  clear hs
  go_enter Try.func17, Try.ntmps17
  go_upto_region 1 with fail
  clear hw1 hg
  go_wp2_with fail
  refine (static_any HR.out v m).mono ?_
  rintro e w2 ⟨z, rfl, hz, hgr⟩
  have HG2 := Lib.hid (HG.out.trans hgr)
  have HR2 := Lib.hid (HR.out.gro hgr)
  have HB2 := Lib.hid (hgr.blk HB.out)
  have HM2 := Lib.hid (hgr.blk HM.out)
  have HZ2 := Lib.hid (hgr.blk HZ.out)
  have HS2 : Hid (g + 3 ≤ w2.heap.size) := Lib.hid (by have := hgr.size; have := HS.out; omega)
  have HZZ := Lib.hid hz
  clear hgr c0 c1 m0 m1 m2 m3 m4 m5 HG HR HB HM HZ HS hz
  obtain ⟨i, hi⟩ : ∃ i : Nat, z = i := by
    rcases HZZ.out with ⟨h0, _⟩ | ⟨i, x, hzi, _⟩
    · rw [HH.out] at h0; cases h0
    · exact ⟨i, hzi⟩
  subst hi
  have c0 := HB2.out.cell 0
  have c1 := HB2.out.cell 1
  simp only [List.getElem?_toArray, List.getElem?_cons_succ, List.getElem?_cons_zero] at c0 c1
  obtain ⟨m0, m1, m2, m3, m4, m5⟩ := mcells HM2.out
  go_wp2_with (refine wpList_store_row rfl 32 (.tmp 8) _ rfl (g + 2) rfl (#[.slice A L.length c, .slice B S.length d]) rfl 32 _ HZ2.out info_rt rfl (by kernel_rfl) ?_)
  have HRS := Lib.hid (HZ2.out.row (#[.slice A L.length c, .slice B S.length d]))
  have HBF : Hid (Below w.heap.size w (w2.setRow (g + 2) (#[.slice A L.length c, .slice B S.length d]))) := Lib.hid (below_row HG2.out.below (by rw [HGE.out]; omega) _)
  refine bodyPost_ret (v := .agg #[.slice A L.length c, .slice B S.length d]) (results_cell Try.results17 _ _ (g + 2) 32 _ _ rfl HRS.out Try.underlying32 rfl info_rt) rfl ⟨A, c, rfl, HW.out.next HBF.out, HBF.out⟩
/-- what memory holds while Learn ends -/
structure LrS (w0 : World) (g : Nat) (m : Mc) (A : Option Addr) (n c : Nat) (L : List En) (B : Option Addr) (k d : Nat) (w : World) : Prop where
  b0 : Blk w g 32 #[.slice A n c, .slice B k d]
  b1 : Blk w (g + 1) 25 #[.int .u8 m.a.toNat, .int .u8 m.b.toNat, .int .u8 m.c.toNat, .int .u8 m.d.toNat, .int .u8 m.e.toNat, .int .u8 m.f.toNat]
  b2 : Blk w (g + 2) 32 #[.slice none 0 0, .slice none 0 0]
  el : Els 9 enV w A L
  bl : Below w0.heap.size w0 w
section
variable {w0 w w' : World} {g n c k d : Nat} {m : Mc} {A B : Option Addr} {L : List En}
theorem LrS.next (h : LrS w0 g m A n c L B k d w) (hb : Below w.heap.size w w') : LrS w0 g m A n c L B k d w' :=
  ⟨h.b0.below hb h.b0.lt, h.b1.below hb h.b1.lt, h.b2.below hb h.b2.lt, h.el.next hb, h.bl.trans (hb.mono h.bl.size)⟩
theorem LrS.cells (h : LrS w0 g m A n c L B k d w) : w.cell? ⟨g, 0, none⟩ = some (.slice A n c) ∧ w.cell? ⟨g, 1, none⟩ = some (.slice B k d) ∧ w.cell? ⟨g + 1, 0, none⟩ = some (.int .u8 m.a.toNat) ∧ w.cell? ⟨g + 1, 1, none⟩ = some (.int .u8 m.b.toNat) ∧ w.cell? ⟨g + 1, 2, none⟩ = some (.int .u8 m.c.toNat) ∧ w.cell? ⟨g + 1, 3, none⟩ = some (.int .u8 m.d.toNat) ∧ w.cell? ⟨g + 1, 4, none⟩ = some (.int .u8 m.e.toNat) ∧ w.cell? ⟨g + 1, 5, none⟩ = some (.int .u8 m.f.toNat) ∧ w.cell? ⟨g + 2, 0, none⟩ = some (.slice none 0 0) ∧ w.cell? ⟨g + 2, 1, none⟩ = some (.slice none 0 0) ∧ w.frozen? ⟨g + 2, 0, none⟩ = false ∧ w.frozen? ⟨g + 2, 1, none⟩ = false :=
  ⟨h.b0.cell 0, h.b0.cell 1, h.b1.cell 0, h.b1.cell 1, h.b1.cell 2, h.b1.cell 3, h.b1.cell 4, h.b1.cell 5, h.b2.cell 0, h.b2.cell 1, h.b2.frozen 0, h.b2.frozen 1⟩
end
theorem els_drop {α : Type} {k : Nat} {enc : α → List Value} {w : World} {b off : Nat} {l : List α} (h : Els k enc w (some ⟨b, off, none⟩) l) : Els k enc w (some ⟨b, off + k, none⟩) (l.drop 1) := by
  intro h0
  rw [List.length_drop] at h0
  obtain ⟨b', off', e, hlt, hc⟩ := h (by omega)
  cases e
  refine ⟨b, off + k, rfl, hlt, fun i hi j v hv => ?_⟩
  rw [List.length_drop] at hi
  have := hc (1 + i) (by omega) j v (by rw [← hv, List.getElem_drop])
  rw [show off + (1 + i) * k + j = off + k + i * k + j by rw [Nat.add_mul, Nat.one_mul]; omega] at this
  exact this
set_option maxHeartbeats 8000000 in
theorem learn_ok_ref {w : World} {Y : Nat → Prop} {A B : Option Addr} {c d : Nat} {L : List En} {S : List (Pl × UInt8)} (h : RvE Y w A c L B d S) (hY : ∀ k, w.heap.size ≤ k → Y k) (v : UInt16) (m : Mc) (p : UInt8) (hb : bad0 v m p = false) (hs : shas S ⟨v, m⟩ = false) :
    Calls Try.prog 17 #[.agg #[.slice A L.length c, .slice B S.length d], .int .u16 v.toNat, mV m, .int .u8 p.toNat] w fun e w' => ∃ A' c', e = .returned (.agg #[.slice A' (llearn L S ⟨v, m⟩ p).length c', .slice B S.length d]) ∧ RvE Y w' A' c' (llearn L S ⟨v, m⟩ p) B d S ∧ Below w.heap.size w w' := by
  obtain ⟨i0, hi0⟩ := infoRE
  have HIE := Lib.hid hi0
  clear hi0
  have HYY := Lib.hid hY
  obtain ⟨w1, hw1⟩ : ∃ w1, ((w.alloc (.cells #[.slice A L.length c, .slice B S.length d] 32)).alloc (.cells #[.int .u8 m.a.toNat, .int .u8 m.b.toNat, .int .u8 m.c.toNat, .int .u8 m.d.toNat, .int .u8 m.e.toNat, .int .u8 m.f.toNat] 25)).alloc (.cells #[.slice none 0 0, .slice none 0 0] 32) = w1 := ⟨_, rfl⟩
  obtain ⟨g, hg⟩ : ∃ g, w.heap.size = g := ⟨_, rfl⟩
  have HG := Lib.hid (show Gro w w1 by rw [← hw1]; exact (((Gro.refl w).alloc _).alloc _).alloc _)
  have HB := Lib.hid (show Blk w1 g 32 #[.slice A L.length c, .slice B S.length d] by rw [← hw1, ← hg]; exact ((Blk.new w _ _).alloc _).alloc _)
  have HM := Lib.hid (show Blk w1 (g + 1) 25 #[.int .u8 m.a.toNat, .int .u8 m.b.toNat, .int .u8 m.c.toNat, .int .u8 m.d.toNat, .int .u8 m.e.toNat, .int .u8 m.f.toNat] by rw [← hw1, ← hg]; have := (Blk.new (w.alloc (.cells #[.slice A L.length c, .slice B S.length d] 32)) 25 #[.int .u8 m.a.toNat, .int .u8 m.b.toNat, .int .u8 m.c.toNat, .int .u8 m.d.toNat, .int .u8 m.e.toNat, .int .u8 m.f.toNat]).alloc (.cells #[.slice none 0 0, .slice none 0 0] 32); simpa using this)
  have HZ := Lib.hid (show Blk w1 (g + 2) 32 #[.slice none 0 0, .slice none 0 0] by rw [← hw1, ← hg]; have := Blk.new ((w.alloc (.cells #[.slice A L.length c, .slice B S.length d] 32)).alloc (.cells #[.int .u8 m.a.toNat, .int .u8 m.b.toNat, .int .u8 m.c.toNat, .int .u8 m.d.toNat, .int .u8 m.e.toNat, .int .u8 m.f.toNat] 25)) 32 #[.slice none 0 0, .slice none 0 0]; simpa using this)
  have HS : Hid (w1.heap.size = g + 3) := Lib.hid (by rw [← hw1, ← hg]; simp)
  have HGE := Lib.hid hg
  have HR := Lib.hid (h.gro HG.out)
  have HW := Lib.hid h
  clear h hY
  have c0 := HB.out.cell 0
  have c1 := HB.out.cell 1
  simp only [List.getElem?_toArray, List.getElem?_cons_succ, List.getElem?_cons_zero] at c0 c1
  obtain ⟨m0, m1, m2, m3, m4, m5⟩ := mcells HM.out
  have HNB := Lib.hid hb
  have hg0 : grp m = false ∧ p.toNat < 8 ∧ okVid v = true := by
    unfold bad0 at hb
    simp only [Bool.or_eq_false_iff, decide_eq_false_iff_not, Bool.not_eq_false'] at hb
    exact ⟨hb.1.1, by omega, hb.2⟩
  have q1 := grp_t m
  have q2 := grp_m m
  rw [hg0.1] at q1 q2
  have h2' : ¬ (7 : Int) < (p.toNat : Int) := by have := hg0.2.1; omega
  have h4' : ¬ (v.toNat : Int) < 1 := by have := okVid_yes hg0.2.2; omega
  have h5' : ¬ (4094 : Int) < (v.toNat : Int) := by have := okVid_yes hg0.2.2; omega
  have HG0 := Lib.hid hg0
  clear hb hg0
  have HH := Lib.hid hs
  clear hs
  go_enter Try.func17, Try.ntmps17
  go_upto_region 1 with fail
  clear hw1 hg
  go_wp2_with fail
  refine (static_any HR.out v m).mono ?_
  rintro e w2 ⟨z, rfl, hz, hgr⟩
  have HG2 := Lib.hid (HG.out.trans hgr)
  have HR2 := Lib.hid (HR.out.gro hgr)
  have HB2 := Lib.hid (hgr.blk HB.out)
  have HM2 := Lib.hid (hgr.blk HM.out)
  have HZ2 := Lib.hid (hgr.blk HZ.out)
  have HS2 : Hid (g + 3 ≤ w2.heap.size) := Lib.hid (by have := hgr.size; have := HS.out; omega)
  have HZZ := Lib.hid hz
  clear hgr c0 c1 m0 m1 m2 m3 m4 m5 HG HR HB HM HZ HS hz
  obtain rfl : z = -1 := by
    rcases HZZ.out with ⟨_, h0⟩ | ⟨i, x, hzi, hx, hk, hf⟩
    · exact h0
    · have := (sget_at' hx hk hf); rw [HH.out] at this; cases this
  have c0 := HB2.out.cell 0
  have c1 := HB2.out.cell 1
  simp only [List.getElem?_toArray, List.getElem?_cons_succ, List.getElem?_cons_zero] at c0 c1
  obtain ⟨m0, m1, m2, m3, m4, m5⟩ := mcells HM2.out
  have HLE : Hid (llearn L S ⟨v, m⟩ p = lput L ⟨v, m⟩ p) := Lib.hid (by
    unfold llearn badLearn
    have h1 := HNB.out
    unfold bad0 at h1
    rw [HH.out, Bool.or_false]
    show (if (grp m || decide (8 ≤ p.toNat) || !okVid v) = true then L else _) = _
    rw [h1]
    rfl)
  have HWS : Hid (RvE (fun k => Y k ∧ (k < g ∨ g + 3 ≤ k)) w2 A c L B d S) := Lib.hid ((HW.out.swap (Y' := fun k => Y k ∧ (k < g ∨ g + 3 ≤ k)) (fun k hk hy => ⟨hy, .inl (by rw [HGE.out] at hk; exact hk)⟩)).next HG2.out.below)
  go_wp2_with fail
  refine (without_any HWS.out (fun k hk => ⟨HYY.out k (Nat.le_trans HG2.out.size hk), .inr (Nat.le_trans HS2.out hk)⟩) v m).mono ?_
  rintro e w3 ⟨A3, c3, rfl, hR3, hb3⟩
  clear c0 c1 m0 m1 m2 m3 m4 m5 q1 q2
  obtain ⟨w4, hw4⟩ : ∃ w4, w3.setRow g #[.slice A3 (lwo L ⟨v, m⟩).length c3, .slice B S.length d] = w4 := ⟨_, rfl⟩
  have HB3 := Lib.hid (HB2.out.below hb3 HB2.out.lt)
  have HX4 : Hid (LrS w g m A3 (lwo L ⟨v, m⟩).length c3 (lwo L ⟨v, m⟩) B S.length d w4) := Lib.hid (by
    rw [← hw4]
    refine ⟨HB3.out.row _, (HM2.out.below hb3 HM2.out.lt).rowFar (by omega) _, (HZ2.out.below hb3 HZ2.out.lt).rowFar (by omega) _, hR3.elL.chg ((Chg.refl (fun k => k = g) w3).setRow (g := g) (.inr rfl) _) (fun a e => by have := (hR3.yL a e).1.2; omega), below_row (HG2.out.below.trans (hb3.mono HG2.out.size)) (Nat.le_of_eq HGE.out) _⟩)
  have HSX4 : Hid (g + 3 ≤ w4.heap.size) := Lib.hid (by rw [← hw4]; have := hb3.size; have := HS2.out; simp; omega)
  have H3 := Lib.hid (And.intro hR3.cL (And.intro hR3.nL hR3.l32))
  have HBG : Hid (∀ a, A3 = some a → ¬ a.block = g) := Lib.hid (fun a e => by have := (hR3.yL a e).1.2; omega)
  clear hR3 hb3
  go_upto_region 4 with (refine wpList_store_row rfl 32 (.tmp 4) _ rfl g rfl (#[.slice A3 (lwo L ⟨v, m⟩).length c3, .slice B S.length d]) rfl 32 _ HB3.out info_rt rfl (by kernel_rfl) ?_)
  try rw [hw4]
  clear hw4 HB3
  obtain ⟨c0, c1, m0, m1, m2, m3, m4, m5, z0, z1, f0, f1⟩ := HX4.out.cells
  obtain ⟨n4, hn4⟩ : ∃ n4, (lwo L ⟨v, m⟩).length = n4 := ⟨_, rfl⟩
  have HN4 := Lib.hid hn4
  rw [hn4] at c0 HX4 H3
  clear hn4
  go_upto_if 40 with fail
  go_cut [8] (fun t8 wx => t8 = .pointer (some ⟨g + 1 + 1, 0, none⟩) ∧ ∃ (A5 : Option Addr) (n5 c5 : Nat) (L5 : List En), Hid (LrS w g m A5 n5 c5 L5 B S.length d wx) ∧ Hid (L5.length = n5) ∧ Hid (L5.length ≤ 31) ∧ Hid (A5 = none → c5 = 0) ∧ Hid (llearn L S ⟨v, m⟩ p = L5 ++ [(⟨⟨v, m⟩, p, 0⟩ : En)]) ∧ Hid (g + 3 ≤ wx.heap.size))
  case first =>
    by_cases h32 : n4 = 32
    · subst h32
      have hc32 := H3.out.1
      have hE4 := HX4.out.el
      obtain ⟨b, off, rfl, hbl, _⟩ := hE4 (by rw [HN4.out]; decide)
      have HED := Lib.hid (els_drop hE4)
      have hcI : (32 : Int) ≤ (c3 : Int) := by omega
      clear hE4
      have fg := HX4.out.b0.frozen 0
      go_wp2_with fail
      go_meet
      refine ⟨rfl, some ⟨b, off + 9, none⟩, 31, c3 - 1, (lwo L ⟨v, m⟩).drop 1, Lib.hid ⟨?_, HX4.out.b1.far (p := ⟨g, 0, none⟩) (by simp) _, HX4.out.b2.far (p := ⟨g, 0, none⟩) (by simp) _, ?_, ?_⟩, Lib.hid (by rw [List.length_drop, HN4.out]), Lib.hid (by rw [List.length_drop, HN4.out]; decide), Lib.hid (fun e => by cases e), Lib.hid (by rw [HLE.out]; unfold lput; rw [if_pos HN4.out]), Lib.hid (by simpa [World.setCell] using HSX4.out)⟩
      · simpa using HX4.out.b0.put 0 (.slice (some ⟨b, off + 9, none⟩) 31 (c3 - 1))
      · exact HED.out.chg ((Chg.refl (fun k => k = g) w4).setCell (p := ⟨g, 0, none⟩) (.inr rfl) _) (fun a e => by cases e; exact HBG.out ⟨b, off, none⟩ rfl)
      · exact HX4.out.bl.setCell (p := ⟨g, 0, none⟩) (Nat.le_of_eq HGE.out) _
    · have hbq : ((n4 : Int) == 32) = false := beq_eq_false_iff_ne.2 (by omega)
      go_wp2_with fail
      go_meet
      refine ⟨rfl, A3, n4, c3, lwo L ⟨v, m⟩, HX4, HN4, Lib.hid (by have := H3.out.2.2; have := HN4.out; omega), Lib.hid H3.out.2.1, Lib.hid (by rw [HLE.out]; unfold lput; rw [if_neg (by rw [HN4.out]; exact h32)]), HSX4⟩
  obtain ⟨rfl, A5, n5, c5, L5, HLX, HL5, H31, HNA, HLL, HSX⟩ := hcut
  clear c0 c1 m0 m1 m2 m3 m4 m5 z0 z1 f0 f1

  have HXa := Lib.hid (show LrS w g m A5 n5 c5 (L5) B S.length d wc.drew from HLX.out.next ((Below.refl _ _).drew))
  have HXb := Lib.hid (show LrS w g m A5 n5 c5 (L5) B S.length d (wc.drew.alloc (.cells #[.int .u16 v.toNat, .int .u8 m.a.toNat, .int .u8 m.b.toNat, .int .u8 m.c.toNat, .int .u8 m.d.toNat, .int .u8 m.e.toNat, .int .u8 m.f.toNat, .int .u8 p.toNat, .int .i64 0] 67)) from HLX.out.next (((Below.refl _ _).drew).alloc (Nat.le_refl _) _))
  have HEx : Hid (Els 9 enV (wc.drew.alloc (.cells #[.int .u16 v.toNat, .int .u8 m.a.toNat, .int .u8 m.b.toNat, .int .u8 m.c.toNat, .int .u8 m.d.toNat, .int .u8 m.e.toNat, .int .u8 m.f.toNat, .int .u8 p.toNat, .int .i64 0] 67)) (some ⟨wc.heap.size, 0, none⟩) [(⟨⟨v, m⟩, p, 0⟩ : En)]) := Lib.hid (els_one wc.drew (⟨⟨v, m⟩, p, 0⟩ : En))
  have HXc := Lib.hid (show LrS w g m A5 n5 c5 (L5) B S.length d (wc.alloc (.cells #[.int .u16 v.toNat, .int .u8 m.a.toNat, .int .u8 m.b.toNat, .int .u8 m.c.toNat, .int .u8 m.d.toNat, .int .u8 m.e.toNat, .int .u8 m.f.toNat, .int .u8 p.toNat, .int .i64 0] 67)) from HLX.out.next ((Below.refl _ _).alloc (Nat.le_refl _) _))
  obtain ⟨c0, c1, m0, m1, m2, m3, m4, m5, z0, z1, f0, f1⟩ := HLX.out.cells
  obtain ⟨c0, c1, m0, m1, m2, m3, m4, m5, z0, z1, f0, f1⟩ := HXc.out.cells
  go_wp2_with fail
  go_region_law (first | (refine step_app rfl (.const (.slice none 0 0)) (.tmp 46) 29 rfl enV_len enV_one (by decide) wc.heap.size 67 i0 (.agg #[.int .u16 0, .int .u8 0, .int .u8 0, .int .u8 0, .int .u8 0, .int .u8 0, .int .u8 0, .int .u8 0, .int .i64 0]) 24 Try.underlying29 HIE.out rfl (.slice none 0 0) [] rfl (World.ownsRow_nil _ _ _ _) A5 n5 c5 (L5) HL5.out (by simp [Act.eval, Act.put]) HNA.out (by first | exact HXa.out.el | exact HXb.out.el) (by have := H31.out; simp; omega) (by decide) (by simp) ?_; intro v6 w6 ho6 hg6 hob6; rw [List.nil_append] at ho6; have HO6 := Lib.hid ho6; have HB6 : Hid (Below wc.heap.size wc w6) := Lib.hid (by first | exact ((Below.refl _ wc).drew).grown hg6 (by simp) (by intro k hk; cases hk) | exact (((Below.refl _ wc).drew).alloc (Nat.le_refl _) _).grown hg6 (by simp) (by intro k hk; cases hk)); have HX6 := Lib.hid (HLX.out.next HB6.out); have HX6a := Lib.hid (HLX.out.next (HB6.out.alloc HB6.out.size (.cells #[.int .u16 v.toNat, .int .u8 m.a.toNat, .int .u8 m.b.toNat, .int .u8 m.c.toNat, .int .u8 m.d.toNat, .int .u8 m.e.toNat, .int .u8 m.f.toNat, .int .u8 p.toNat, .int .i64 0] 67))); have HO6a : Hid ((w6.alloc (.cells #[.int .u16 v.toNat, .int .u8 m.a.toNat, .int .u8 m.b.toNat, .int .u8 m.c.toNat, .int .u8 m.d.toNat, .int .u8 m.e.toNat, .int .u8 m.f.toNat, .int .u8 p.toNat, .int .i64 0] 67)).ownsRow wc.heap.size 67 9 v6 (L5).length ((L5).flatMap enV)) := Lib.hid (own_below ho6 ((Below.refl _ _).alloc (Nat.le_refl _) _)); obtain ⟨c0, c1, m0, m1, m2, m3, m4, m5, z0, z1, f0, f1⟩ := HX6.out.cells; obtain ⟨c0, c1, m0, m1, m2, m3, m4, m5, z0, z1, f0, f1⟩ := HX6a.out.cells; have HE6 : Hid (Els 9 enV (w6.alloc (.cells #[.int .u16 v.toNat, .int .u8 m.a.toNat, .int .u8 m.b.toNat, .int .u8 m.c.toNat, .int .u8 m.d.toNat, .int .u8 m.e.toNat, .int .u8 m.f.toNat, .int .u8 p.toNat, .int .i64 0] 67)) (some ⟨w6.heap.size, 0, none⟩) [(⟨⟨v, m⟩, p, 0⟩ : En)]) := Lib.hid (els_one w6 (⟨⟨v, m⟩, p, 0⟩ : En)); clear ho6 hob6) | (refine step_app rfl (.tmp 47) (.tmp 52) 29 rfl enV_len enV_one (by decide) wc.heap.size 67 i0 (.agg #[.int .u16 0, .int .u8 0, .int .u8 0, .int .u8 0, .int .u8 0, .int .u8 0, .int .u8 0, .int .u8 0, .int .i64 0]) 24 Try.underlying29 HIE.out rfl v6 (L5) (by simp [Act.eval, Act.put]) HO6a.out (some ⟨w6.heap.size, 0, none⟩) 1 1 [(⟨⟨v, m⟩, p, 0⟩ : En)] rfl (by simp [Act.eval, Act.put]) (fun e => by cases e) HE6.out (by have := H31.out; simp; omega) (by decide) (by have := HB6.out.size; simp; omega) ?_; intro v7 w7 ho7 hg7 hob7; obtain ⟨A7, c7, rfl, hE7, hc7, hA7, ha7⟩ := own_full (enc := enV) (k := 9) enV_len ho7; have HO7 := Lib.hid (And.intro hE7 (And.intro hc7 (And.intro hA7 ha7))); have HB7 : Hid (Below wc.heap.size wc w7) := Lib.hid (grown_below (HB6.out.alloc HB6.out.size _) (Nat.le_refl _) HO6a.out hg7); have HX7 := Lib.hid (HLX.out.next HB7.out); obtain ⟨c0, c1, m0, m1, m2, m3, m4, m5, z0, z1, f0, f1⟩ := HX7.out.cells; rw [show ((L5) ++ [(⟨⟨v, m⟩, p, 0⟩ : En)]).length = n5 + 1 by rw [List.length_append, HL5.out]; rfl] at *; clear ho7 hg7 hob7 hE7 hc7 hA7 ha7) | (refine step_app rfl (.tmp 47) (.tmp 52) 29 rfl enV_len enV_one (by decide) wc.heap.size 67 i0 (.agg #[.int .u16 0, .int .u8 0, .int .u8 0, .int .u8 0, .int .u8 0, .int .u8 0, .int .u8 0, .int .u8 0, .int .i64 0]) 24 Try.underlying29 HIE.out rfl v6 (L5) (by simp [Act.eval, Act.put]) HO6.out (some ⟨wc.heap.size, 0, none⟩) 1 1 [(⟨⟨v, m⟩, p, 0⟩ : En)] rfl (by simp [Act.eval, Act.put]) (fun e => by cases e) (HEx.out.next (Below.trans (Below.refl _ _) (show Below (wc.drew.alloc (.cells #[.int .u16 v.toNat, .int .u8 m.a.toNat, .int .u8 m.b.toNat, .int .u8 m.c.toNat, .int .u8 m.d.toNat, .int .u8 m.e.toNat, .int .u8 m.f.toNat, .int .u8 p.toNat, .int .i64 0] 67)).heap.size (wc.drew.alloc (.cells #[.int .u16 v.toNat, .int .u8 m.a.toNat, .int .u8 m.b.toNat, .int .u8 m.c.toNat, .int .u8 m.d.toNat, .int .u8 m.e.toNat, .int .u8 m.f.toNat, .int .u8 p.toNat, .int .i64 0] 67)) w6 from (Below.refl _ _).grown hg6 (Nat.le_refl _) (by intro k hk; cases hk)))) (by have := H31.out; simp; omega) (by decide) (by have := HB6.out.size; simp; omega) ?_; intro v7 w7 ho7 hg7 hob7; obtain ⟨A7, c7, rfl, hE7, hc7, hA7, ha7⟩ := own_full (enc := enV) (k := 9) enV_len ho7; have HO7 := Lib.hid (And.intro hE7 (And.intro hc7 (And.intro hA7 ha7))); have HB7 : Hid (Below wc.heap.size wc w7) := Lib.hid (grown_below HB6.out (Nat.le_refl _) HO6.out hg7); have HX7 := Lib.hid (HLX.out.next HB7.out); obtain ⟨c0, c1, m0, m1, m2, m3, m4, m5, z0, z1, f0, f1⟩ := HX7.out.cells; rw [show ((L5) ++ [(⟨⟨v, m⟩, p, 0⟩ : En)]).length = n5 + 1 by rw [List.length_append, HL5.out]; rfl] at *; clear ho7 hg7 hob7 hE7 hc7 hA7 ha7))
  
  all_goals (
    go_wp2_with fail
    have HRS := Lib.hid (show Blk ((w7.setCell ⟨g + 2, 0, none⟩ (.slice A7 (n5 + 1) c7)).setCell ⟨g + 2, 1, none⟩ (.slice B S.length d)) (g + 2) 32 #[.slice A7 (n5 + 1) c7, .slice B S.length d] from (HX7.out.b2.put 0 _).put 1 _)
    have HBF : Hid (Below w.heap.size w ((w7.setCell ⟨g + 2, 0, none⟩ (.slice A7 (n5 + 1) c7)).setCell ⟨g + 2, 1, none⟩ (.slice B S.length d))) := Lib.hid (((HX7.out.bl).setCell (p := ⟨g + 2, 0, none⟩) (by rw [HGE.out]; exact Nat.le_add_right _ _) _).setCell (p := ⟨g + 2, 1, none⟩) (by rw [HGE.out]; exact Nat.le_add_right _ _) _)
    have HE8 := Lib.hid (HO7.out.1.chg ((((Chg.refl (fun k => k = g + 2) w7).setCell (p := ⟨g + 2, 0, none⟩) (.inr rfl) (.slice A7 (n5 + 1) c7)).setCell (p := ⟨g + 2, 1, none⟩) (.inr rfl) (.slice B S.length d))) (fun a e => by have := (HO7.out.2.2.2 a e).1; have := HX7.out.b2.lt; have := HSX.out; omega))
    have HW8 := Lib.hid (HW.out.next HBF.out)
    have hl : (llearn L S ⟨v, m⟩ p).length = n5 + 1 := by rw [HLL.out, List.length_append, HL5.out]; rfl
    refine bodyPost_ret (v := .agg #[.slice A7 (n5 + 1) c7, .slice B S.length d]) (results_cell Try.results17 _ _ (g + 2) 32 _ _ rfl HRS.out Try.underlying32 rfl info_rt) rfl ⟨A7, c7, by rw [hl], ⟨by rw [HLL.out]; exact HE8.out, HW8.out.elS, by rw [hl]; exact HO7.out.2.1, HW8.out.cS, HO7.out.2.2.1, HW8.out.nS, fun a e => ⟨HYY.out _ ?_, ?_⟩, HW8.out.yS, by rw [hl]; have := H31.out; have := HL5.out; omega, HW8.out.s16⟩, HBF.out⟩
    · have := (HO7.out.2.2.2 a e).1
      have := HSX.out
      have := HGE.out
      omega
    · have := (HO7.out.2.2.2 a e).2
      simpa [World.setCell] using this)
end Go.Proofs.Ytlofaahckdfeiaa
