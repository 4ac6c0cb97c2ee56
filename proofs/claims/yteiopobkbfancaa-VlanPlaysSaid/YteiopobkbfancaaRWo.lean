/- Layer 7: the document's without, Drop, SetOwn. -/
import Derived.Test.YteiopobkbfancaaRTab
import Derived.Test.YteiopobkbfancaaOwnEls
namespace Go.Proofs.Yteiopobkbfancaa
open Go.RowKit
set_option linter.unusedVariables false
set_option linter.unusedSimpArgs false
set_option maxRecDepth 100000

theorem infoN : (Try.prog.info? 43).map (fun i => (i.zero, i.size, i.bytes)) = some (some (.agg #[.int .u16 0, .int .u8 0, .int .u8 0]), 3, 4) := by kernel_rfl
theorem encN_one (x : Vn) : ∀ u ∈ encN x, u.oneCell' = true := by
  intro u hu
  simp only [encN, List.mem_cons, List.mem_nil_iff, or_false] at hu
  rcases hu with rfl | rfl | rfl <;> rfl
theorem del_step {L : List Vn} {v : UInt16} {k : Nat} {x : Vn} (hx : L[k]? = some x) : (x.v = v → vdel (L.take (k + 1)) v = vdel (L.take k) v) ∧ (x.v ≠ v → vdel (L.take (k + 1)) v = vdel (L.take k) v ++ [x]) := by
  rw [List.take_add_one, hx]
  unfold vdel
  rw [List.filter_append]
  constructor
  · intro e; simp [e]
  · intro e; simp [e]
theorem vn_snoc (l : List Vn) (x : Vn) : (l ++ [x]).flatMap encN = l.flatMap encN ++ encN x := by simp
set_option maxRecDepth 100000 in
set_option maxHeartbeats 4000000 in
theorem without_any {w : World} {cs : Array Value} {N c : Nat} {A : Option Addr} {L : List Vn} {own : List UInt16} (hv : DTV cs N A c L own) (hE : Els 3 encN w A L) (h8 : L.length ≤ 8) (v : UInt16) :
    Calls Try.prog 35 #[.agg cs, .int .u16 v.toNat] w fun e w' => ∃ cs' A' c', e = .returned (.agg cs') ∧ DTV cs' N A' c' (vdel L v) own ∧ Els 3 encN w' A' (vdel L v) ∧ (∀ b off, A' = some ⟨b, off, none⟩ → w.heap.size ≤ b) ∧ Below w.heap.size w w' := by
  obtain ⟨i0, hi, hz0, hz1, hz2⟩ := info_parts infoN
  have HI := Lib.hid (And.intro hi (And.intro hz0 (And.intro hz1 hz2)))
  clear hi hz0 hz1 hz2
  obtain ⟨w1, hw1⟩ : ∃ w1, (w.alloc (.cells cs 36)).alloc (.cells #[.int .i64 0, .slice none 0 0, .int .u16 0, .int .u16 0, .int .u16 0, .int .u16 0, .int .u16 0, .int .u16 0, .int .u16 0, .int .u16 0] 36) = w1 := ⟨_, rfl⟩
  obtain ⟨g, hg⟩ : ∃ g, w.heap.size = g := ⟨_, rfl⟩
  have HB := Lib.hid (show Below w.heap.size w w1 by rw [← hw1]; exact ((Below.refl w.heap.size w).alloc (Nat.le_refl _) _).alloc (by simp) _)
  have HD := Lib.hid (show DT w1 g cs N A c L own from ⟨by rw [← hw1, ← hg]; exact (Blk.new w _ _).alloc _, hv⟩)
  have HZ := Lib.hid (show Blk w1 (g + 1) 36 #[.int .i64 0, .slice none 0 0, .int .u16 0, .int .u16 0, .int .u16 0, .int .u16 0, .int .u16 0, .int .u16 0, .int .u16 0, .int .u16 0] by rw [← hw1, ← hg]; have := Blk.new (w.alloc (.cells cs 36)) 36 #[.int .i64 0, .slice none 0 0, .int .u16 0, .int .u16 0, .int .u16 0, .int .u16 0, .int .u16 0, .int .u16 0, .int .u16 0, .int .u16 0]; simpa using this)
  have HE := Lib.hid (hE.next HB.out)
  have HG := Lib.hid hg
  obtain ⟨n, hn⟩ : ∃ n, L.length = n := ⟨_, rfl⟩
  have HN := Lib.hid hn
  have c1 := HD.out.c1
  rw [hn] at c1 h8
  clear hE hv hn
  go_enter Try.func35, Try.ntmps35
  go_upto_region 1 with fail
  clear hw1 hg
  go_wp2_with fail
  go_loopw [5, 6] (fun l i wr => ∃ k m : Nat, k ≤ n ∧ m ≤ k ∧ i = .int .i64 k ∧ Hid (m = (vdel (L.take k) v).length) ∧ Hid (wr.ownsRow w1.heap.size 43 3 l m ((vdel (L.take k) v).flatMap encN)) ∧ Hid (Below w1.heap.size w1 wr)) (fun _ i _ => n - (intOf i).toNat)
  case atStart => exact ⟨0, 0, Nat.zero_le _, Nat.le_refl _, rfl, Lib.hid (by simp [vdel]), Lib.hid (World.ownsRow_nil _ _ _ _), Lib.hid (Below.refl _ _)⟩
  case round =>
    obtain ⟨k, m, hk, hm, rfl, HM, HO, HBr⟩ := hrel
    have HDr := Lib.hid (HD.out.next HBr.out)
    have c1r := HDr.out.c1
    rw [HN.out] at c1r
    by_cases hlt : k < n
    · obtain ⟨x, hx⟩ : ∃ x, L[k]? = some x := ⟨_, List.getElem?_eq_getElem (by rw [HN.out]; exact hlt)⟩
      obtain ⟨b, off, rfl, hb, e0, e1, e2⟩ := els_vn (HE.out.next HBr.out) hx
      have HX := Lib.hid hx
      have hkn : (k : Int) < n := by omega
      obtain ⟨y, hy⟩ : ∃ y, x.v.toNat = y := ⟨_, rfl⟩
      obtain ⟨q, hq⟩ : ∃ q, v.toNat = q := ⟨_, rfl⟩
      have HY := Lib.hid (And.intro hy hq)
      rw [hy] at e0
      have HST := Lib.hid (del_step (v := v) hx)
      clear hx c1
      by_cases he : y = q
      · have HF := Lib.hid (HST.out.1 (UInt16.toNat_inj.1 (by rw [HY.out.1, HY.out.2, he])))
        rw [hq]
        clear hq hy
        subst he
        have he2 : ((y : Int) != (y : Int)) = false := by simp
        go_wp2
        go_roundw
        case rel => exact ⟨k + 1, m, by omega, by omega, by go_num, Lib.hid (by rw [HF.out]; exact HM.out), Lib.hid (by rw [HF.out]; exact HO.out), HBr⟩
        case measure => simp [intOf]; omega
      · have HF := Lib.hid (HST.out.2 (fun e => he (by rw [← HY.out.1, ← HY.out.2, e])))
        have he2 : ((y : Int) == (q : Int)) = false := by simpa using (show ¬ ((y : Int) = (q : Int)) by omega)
        have he3 : ¬ ((y : Int) = (q : Int)) := by omega
        rw [hq]
        clear hq hy he
        have hsz := HBr.out.size
        go_wp2_with (at_builtin; refine wpl_append_own rfl (.tmp 22) (.tmp 28) 33 rfl w1.heap.size 43 i0 (.agg #[.int .u16 0, .int .u8 0, .int .u8 0]) 3 4 Try.underlying33 HI.out.1 HI.out.2.1 HI.out.2.2.1 HI.out.2.2.2 rfl (by decide) u5 m ((vdel (L.take k) v).flatMap encN) (by simp [Act.eval, Act.put]) (HO.out.alloc _) ⟨wr.heap.size, 0, none⟩ 1 1 (encN x) (by simp [Act.eval, Act.put]) rfl (by rw [← HY.out.1]; exact newcells wr (encN x) _) (encN_one _) (by simp only [maxLen]; omega) (by omega) (by simp; omega) ?_; intro v6 w6 ho6 hg6; have HO6 : Hid (w6.ownsRow w1.heap.size 43 3 v6 (m + 1) ((vdel (L.take (k + 1)) v).flatMap encN)) := Lib.hid (by rw [HF.out, vn_snoc]; exact ho6); have HB6 : Hid (Below w1.heap.size w1 w6) := Lib.hid (grown_below (HBr.out.alloc HBr.out.size _) (Nat.le_refl _) (HO.out.alloc _) hg6); clear ho6 hg6)
        go_roundw
        case rel => exact ⟨k + 1, m + 1, by omega, by omega, by go_num, Lib.hid (by rw [HF.out, List.length_append, ← HM.out]; rfl), HO6, HB6⟩
        case measure => simp [intOf]; omega
    · obtain rfl : k = n := by omega
      have HT : Hid (L.take k = L) := Lib.hid (List.take_of_length_le (by rw [HN.out]; exact Nat.le_refl _))
      rw [HT.out] at HO HM
      have hO := HO.out
      rw [HM.out] at hO
      obtain ⟨A', c', rfl, hE', hA'⟩ := own_elsB (enc := encN) (k := 3) (fun _ => rfl) hO
      have HX := Lib.hid (And.intro hE' hA')
      have c1w := HDr.out.blk.cell 1
      have f1w : wr.frozen? ⟨g, 1, none⟩ = false := HDr.out.blk.frozen 1
      obtain ⟨w5, hw5⟩ : ∃ w5, wr.setCell ⟨g, 1, none⟩ (.slice A' (vdel L v).length c') = w5 := ⟨_, rfl⟩
      have HD5 := Lib.hid (show DT w5 g (cs.setIfInBounds 1 (.slice A' (vdel L v).length c')) N A' c' (vdel L v) own from ⟨by rw [← hw5]; exact HDr.out.blk.put 1 _, HDr.out.v.setL⟩)
      have HZ5 := Lib.hid (show Blk w5 (g + 1) 36 #[.int .i64 0, .slice none 0 0, .int .u16 0, .int .u16 0, .int .u16 0, .int .u16 0, .int .u16 0, .int .u16 0, .int .u16 0, .int .u16 0] by rw [← hw5]; exact ((HZ.out.below HBr.out HZ.out.lt).far (p := ⟨g, 1, none⟩) (by simp) _))
      have HB5 := Lib.hid (show Below w.heap.size w w5 by rw [← hw5]; exact (HB.out.trans (HBr.out.mono HB.out.size)).setCell (p := ⟨g, 1, none⟩) (by rw [HG.out]; exact Nat.le_refl _) _)
      have HE5 := Lib.hid (show Els 3 encN w5 A' (vdel L v) by
        rw [← hw5]
        intro h0
        obtain ⟨b, off, e, hlt, hc⟩ := HX.out.1 h0
        refine ⟨b, off, e, by simpa [World.setCell] using hlt, fun i hi j u hu => ?_⟩
        rw [World.cell?_of_block (w := wr) (a := ⟨b, off + i * 3 + j, none⟩) (Below.heap_setCell wr ⟨g, 1, none⟩ _ b (by
          have h1 := HX.out.2 b off e
          have h2 := HD.out.blk.lt
          show b ≠ g
          omega))]
        exact hc i hi j u hu)
      have HA5 := Lib.hid HX.out.2
      clear hO HO hE' hA' HX c1 HT
      go_upto_region 8 with fail
      clear hw5 c1w c1r f1w
      go_wp2_with (first
        | refine wpList_load_dt 2 rfl (by kernel_rfl) g rfl _ HD5.out.blk HD5.out.v.sz ?_
        | refine wpList_store_row rfl 36 (.tmp 4) _ rfl (g + 1) rfl (cs.setIfInBounds 1 (.slice A' (vdel L v).length c')) rfl 36 _ HZ5.out (by rw [HD5.out.v.sz]; exact info_rt) (by rw [HD5.out.v.sz]; rfl) HD5.out.v.one ?_)
      have HR := Lib.hid (HZ5.out.row (cs.setIfInBounds 1 (.slice A' (vdel L v).length c')))
      refine bodyPost_ret (v := .agg (cs.setIfInBounds 1 (.slice A' (vdel L v).length c'))) (results_cell Try.results35 _ _ (g + 1) 36 _ _ rfl HR.out Try.underlying36 rfl (by rw [HD5.out.v.sz]; exact info_rt)) rfl ⟨_, A', c', rfl, HD5.out.v, ?_, fun b off e => Nat.le_trans HB.out.size (HA5.out b off e), ?_⟩
      · intro h0
        obtain ⟨b, off, e, hlt, hc⟩ := HE5.out h0
        refine ⟨b, off, e, by simpa using hlt, fun i hi j u hu => ?_⟩
        have hne : b ≠ g + 1 := by
          have h1 := HA5.out b off e
          have h2 := HZ.out.lt
          omega
        rw [World.cell?_of_block (w := w5) (a := ⟨b, off + i * 3 + j, none⟩) (setRow_other w5 (g + 1) b _ hne)]
        exact hc i hi j u hu
      · exact below_row HB5.out (by rw [HG.out]; omega) _

end Go.Proofs.Yteiopobkbfancaa
