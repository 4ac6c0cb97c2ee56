/- Layer 8: the document's without. -/
import Derived.Test.YtlofaahckdfeiaaRv
import Derived.BigGuard
import Derived.StillTailTactics
namespace Go.Proofs.Ytlofaahckdfeiaa
open Go.RowKit
set_option linter.unusedVariables false
set_option linter.unusedSimpArgs false
set_option maxRecDepth 100000

theorem infoRE : ∃ i, Try.prog.info? 67 = some i ∧ i.zero = some (.agg #[.int .u16 0, .int .u8 0, .int .u8 0, .int .u8 0, .int .u8 0, .int .u8 0, .int .u8 0, .int .u8 0, .int .i64 0]) ∧ i.size = 9 ∧ i.bytes = 24 := by
  have h : (Try.prog.info? 67).map (fun i => (i.zero, i.size, i.bytes)) = some (some (.agg #[.int .u16 0, .int .u8 0, .int .u8 0, .int .u8 0, .int .u8 0, .int .u8 0, .int .u8 0, .int .u8 0, .int .i64 0]), 9, 24) := by kernel_rfl
  cases hi : Try.prog.info? 67 with
  | none => rw [hi] at h; cases h
  | some i =>
    rw [hi] at h
    simp only [Option.map_some, Option.some.injEq, Prod.mk.injEq] at h
    exact ⟨i, rfl, h.1, h.2.1, h.2.2⟩
theorem infoRS : ∃ i, Try.prog.info? 76 = some i ∧ i.zero = some (.agg #[.int .u16 0, .int .u8 0, .int .u8 0, .int .u8 0, .int .u8 0, .int .u8 0, .int .u8 0, .int .u8 0]) ∧ i.size = 8 ∧ i.bytes = 10 := by
  have h : (Try.prog.info? 76).map (fun i => (i.zero, i.size, i.bytes)) = some (some (.agg #[.int .u16 0, .int .u8 0, .int .u8 0, .int .u8 0, .int .u8 0, .int .u8 0, .int .u8 0, .int .u8 0]), 8, 10) := by kernel_rfl
  cases hi : Try.prog.info? 76 with
  | none => rw [hi] at h; cases h
  | some i =>
    rw [hi] at h
    simp only [Option.map_some, Option.some.injEq, Prod.mk.injEq] at h
    exact ⟨i, rfl, h.1, h.2.1, h.2.2⟩
theorem info_rt : (Try.prog.info? 32).map (·.size) = some 2 := by kernel_rfl
theorem agg_re (w : World) : (isAgg 67).run Try.prog w = .ok true w := by kernel_rfl
theorem size_re (w : World) : (Go.sizeOf 67).run Try.prog w = .ok 9 w := by kernel_rfl
theorem results_cell {P : Program} {fn : Func} {p : Tmp} {ty : TypeId} (h : fn.results = #[.cell p ty]) (tmps : Array Value) (w : World) (g : Nat) (t : TypeId) (cs : Array Value) (d : TypeDesc)
    (hp : tmps.getD p undef = .pointer (some ⟨g, 0, none⟩)) (hg : Blk w g t cs)
    (hu : P.underlying ty = some d) (hd : (match d with | .struct _ | .array _ _ => true | _ => false) = true) (hi : (P.info? ty).map (·.size) = some cs.size) :
    (results fn tmps).run P w = .ok (.agg cs) w := by
  have hp' : tmps[p]?.getD undef = .pointer (some ⟨g, 0, none⟩) := by simpa using hp
  simp [results, h, hp', asAddr, run_loadVar_row w g t ty cs (0, 0) d hg hu hd hi]
theorem bdrN {B : Nat} {w w' : World} (h : Below B w w') (n : Nat) : Below B w (w'.drewN n) := ⟨h.os, h.tape, h.output, h.size, h.block⟩
theorem lwo_step {L : List En} {q : Pl} {k : Nat} {x : En} (hx : L[k]? = some x) : (x.k = q → lwo (L.take (k + 1)) q = lwo (L.take k) q) ∧ (x.k ≠ q → lwo (L.take (k + 1)) q = lwo (L.take k) q ++ [x]) := by
  rw [List.take_add_one, hx]
  unfold lwo
  rw [List.filter_append]
  constructor
  · intro e; simp [e]
  · intro e
    have : ¬ q = x.k := fun e' => e e'.symm
    simp [this]
theorem lwo_le (L : List En) (q : Pl) : (lwo L q).length ≤ L.length := List.length_filter_le _ _
theorem els_one (w : World) (x : En) : Els 9 enV (w.alloc (.cells (enV x).toArray 67)) (some ⟨w.heap.size, 0, none⟩) [x] := by
  intro _
  refine ⟨_, 0, rfl, by simp, fun i hi j v hv => ?_⟩
  obtain rfl : i = 0 := by simpa using hi
  have := newcells w (enV x) 67 j v hv
  have hadd : (⟨w.heap.size, 0, none⟩ : Addr).add j = ⟨w.heap.size, j, none⟩ := by unfold Addr.add; split <;> simp_all
  rw [hadd] at this
  simpa using this
theorem els_load {w : World} {b off k : Nat} {L : List En} {x : En} (h : Els 9 enV w (some ⟨b, off, none⟩) L) (hx : L[k]? = some x) : ∀ j u, (enV x)[j]? = some u → w.cell? ⟨b, off + k * 9 + j, none⟩ = some u := by
  obtain ⟨hk, rfl⟩ := List.getElem?_eq_some_iff.1 hx
  obtain ⟨b', off', e, hlt, hc⟩ := h (by omega)
  cases e
  exact hc k hk
set_option maxHeartbeats 4000000 in
theorem without_any {w : World} {Y : Nat → Prop} {A B : Option Addr} {c d : Nat} {L : List En} {S : List (Pl × UInt8)} (h : RvE Y w A c L B d S) (hY : ∀ k, w.heap.size ≤ k → Y k) (v : UInt16) (m : Mc) :
    Calls Try.prog 32 #[.agg #[.slice A L.length c, .slice B S.length d], .int .u16 v.toNat, mV m] w fun e w' => ∃ A' c', e = .returned (.agg #[.slice A' (lwo L ⟨v, m⟩).length c', .slice B S.length d]) ∧ RvE Y w' A' c' (lwo L ⟨v, m⟩) B d S ∧ Below w.heap.size w w' := by
  obtain ⟨kk, hkk⟩ : ∃ kk : Pl, kk = ⟨v, m⟩ := ⟨_, rfl⟩
  have HKK := Lib.hid hkk
  rw [← hkk]
  clear hkk
  obtain ⟨i0, hi0⟩ := infoRE
  have HIE := Lib.hid hi0
  clear hi0
  obtain ⟨w1, hw1⟩ : ∃ w1, ((w.alloc (.cells #[.slice A L.length c, .slice B S.length d] 32)).alloc (.cells #[.int .u8 m.a.toNat, .int .u8 m.b.toNat, .int .u8 m.c.toNat, .int .u8 m.d.toNat, .int .u8 m.e.toNat, .int .u8 m.f.toNat] 25)).alloc (.cells #[.slice none 0 0, .slice none 0 0] 32) = w1 := ⟨_, rfl⟩
  obtain ⟨g, hg⟩ : ∃ g, w.heap.size = g := ⟨_, rfl⟩
  have HG := Lib.hid (show Gro w w1 by rw [← hw1]; exact (((Gro.refl w).alloc _).alloc _).alloc _)
  have HB := Lib.hid (show Blk w1 g 32 #[.slice A L.length c, .slice B S.length d] by rw [← hw1, ← hg]; exact ((Blk.new w _ _).alloc _).alloc _)
  have HM := Lib.hid (show Blk w1 (g + 1) 25 #[.int .u8 m.a.toNat, .int .u8 m.b.toNat, .int .u8 m.c.toNat, .int .u8 m.d.toNat, .int .u8 m.e.toNat, .int .u8 m.f.toNat] by rw [← hw1, ← hg]; have := (Blk.new (w.alloc (.cells #[.slice A L.length c, .slice B S.length d] 32)) 25 #[.int .u8 m.a.toNat, .int .u8 m.b.toNat, .int .u8 m.c.toNat, .int .u8 m.d.toNat, .int .u8 m.e.toNat, .int .u8 m.f.toNat]).alloc (.cells #[.slice none 0 0, .slice none 0 0] 32); simpa using this)
  have HZ := Lib.hid (show Blk w1 (g + 2) 32 #[.slice none 0 0, .slice none 0 0] by rw [← hw1, ← hg]; have := Blk.new ((w.alloc (.cells #[.slice A L.length c, .slice B S.length d] 32)).alloc (.cells #[.int .u8 m.a.toNat, .int .u8 m.b.toNat, .int .u8 m.c.toNat, .int .u8 m.d.toNat, .int .u8 m.e.toNat, .int .u8 m.f.toNat] 25)) 32 #[.slice none 0 0, .slice none 0 0]; simpa using this)
  have HS : Hid (w1.heap.size = g + 3) := Lib.hid (by rw [← hw1, ← hg]; simp)
  have HGE := Lib.hid hg
  have HR := Lib.hid (h.gro HG.out)
  have HW := Lib.hid h
  obtain ⟨n, hn⟩ : ∃ n, L.length = n := ⟨_, rfl⟩
  have HN := Lib.hid hn
  have HYY := Lib.hid hY
  rw [hn] at HB
  clear h hn hY
  go_enter Try.func32, Try.ntmps32
  go_upto_region 1 with fail
  clear hw1 hg
  go_wp2_with fail
  go_loopw [7, 8] (fun l i wr => ∃ k j : Nat, k ≤ n ∧ j ≤ k ∧ i = .int .i64 k ∧ Hid (j = (lwo (L.take k) kk).length) ∧ Hid (wr.ownsRow w1.heap.size 67 9 l j ((lwo (L.take k) kk).flatMap enV)) ∧ Hid (Below w1.heap.size w1 wr)) (fun _ i _ => n - (intOf i).toNat)
  case atStart => exact ⟨0, 0, Nat.zero_le _, Nat.le_refl _, rfl, Lib.hid (by simp [lwo]), Lib.hid (World.ownsRow_nil _ _ _ _), Lib.hid (Below.refl _ _)⟩
  case round =>
    obtain ⟨k, j, hk, hj, rfl, HJ, HO, HBr⟩ := hrel
    have HRr := Lib.hid (HR.out.next HBr.out)
    have hn32 : n ≤ 32 := by rw [← HN.out]; exact HR.out.l32
    have c1 := (HB.out.below HBr.out HB.out.lt).cell 0
    simp only [List.getElem?_toArray, List.getElem?_cons_succ, List.getElem?_cons_zero] at c1
    by_cases hlt : k < n
    · obtain ⟨x, hx⟩ : ∃ x, L[k]? = some x := ⟨_, List.getElem?_eq_getElem (by rw [HN.out]; exact hlt)⟩
      obtain ⟨b, off, rfl, hb, e0, e1, e2, e3, e4, e5, e6, _⟩ := en_at HRr.out.elL hx
      have HLD := Lib.hid (els_load HRr.out.elL hx)
      have HST := Lib.hid (lwo_step (q := kk) hx)
      have HX := Lib.hid hx
      have hkn : (k : Int) < n := by omega
      obtain ⟨m0, m1, m2, m3, m4, m5⟩ := mcells (HM.out.below HBr.out HM.out.lt)
      have hsz := HBr.out.size
      have HJL : Hid ((lwo (L.take k) kk).length + 1 ≤ 1000) := Lib.hid (by rw [← HJ.out]; omega)
      clear hx
      by_cases he : x.k.v = v
      · by_cases hm : x.k.m = m
        · have HF := Lib.hid (HST.out.1 (by rw [HKK.out, ← he, ← hm]))
          subst he hm
          have q := fun w => run_eqM x.k.m x.k.m w
          go_wp2_with fail
          go_quiet (fail)
          go_wp2
          go_roundw
          case rel => exact ⟨k + 1, j, by omega, by omega, by go_num, Lib.hid (by rw [HF.out]; exact HJ.out), Lib.hid (by rw [HF.out]; exact own_below HO.out (bdrN (Below.refl _ _) _)), Lib.hid (bdrN HBr.out _)⟩
          case measure => simp [intOf]; omega
        · have HF := Lib.hid (HST.out.2 (fun e => hm (by rw [e, HKK.out])))
          subst he
          have q := fun w => run_eqM x.k.m m w
          have hd : decide (x.k.m = m) = false := by simpa using hm
          simp only [hd] at q
          go_wp2_with fail
          go_quiet (fail)
          go_upto_region 6 with fail
          clear q
          clear e0 e1 e2 e3 e4 e5 e6 m0 m1 m2 m3 m4 m5
          obtain ⟨w2, hw2⟩ : ∃ w2, wr.drewN nq = w2 := ⟨_, rfl⟩
          have HB2 : Hid (Below wr.heap.size wr w2) := Lib.hid (by rw [← hw2]; exact bdrN (Below.refl _ _) _)
          rw [hw2]
          have c1' : w2.cell? ⟨g, 0, none⟩ = some (.slice (some ⟨b, off, none⟩) n c) := by rw [← hw2]; exact c1
          clear hw2 c1
          have HO2 := Lib.hid (own_below HO.out HB2.out)
          have HLD2 := Lib.hid (els_load (HRr.out.next HB2.out).elL HX.out)
          have hsz2 := HB2.out.size
          go_wp2_with (first
            | refine wpList_load_at 67 38 rfl (by kernel_rfl) b (off + k * 9) [.int .u16 x.k.v.toNat, .int .u8 x.k.m.a.toNat, .int .u8 x.k.m.b.toNat, .int .u8 x.k.m.c.toNat, .int .u8 x.k.m.d.toNat, .int .u8 x.k.m.e.toNat, .int .u8 x.k.m.f.toNat, .int .u8 x.p.toNat, .int .i64 (x.a : Nat)] rfl HLD2.out agg_re size_re ?_
            | (at_builtin; refine wpl_app rfl (.tmp 34) (.tmp 40) 29 rfl enV_len enV_one (by decide) w1.heap.size 67 i0 (.agg #[.int .u16 0, .int .u8 0, .int .u8 0, .int .u8 0, .int .u8 0, .int .u8 0, .int .u8 0, .int .u8 0, .int .i64 0]) 24 Try.underlying29 HIE.out rfl u7 (lwo (L.take k) kk) rfl (by rw [← HJ.out]; exact own_below HO2.out ((Below.refl _ _).alloc (Nat.le_refl _) _)) (some ⟨w2.heap.size, 0, none⟩) 1 1 [x] rfl rfl (fun e => by cases e) (els_one w2 x) HJL.out (by decide) (by simp; omega) ?_; intro v6 w6 ho6 hg6 _; have HO6 : Hid (w6.ownsRow w1.heap.size 67 9 v6 (j + 1) ((lwo (L.take (k + 1)) kk).flatMap enV)) := Lib.hid (by rw [HF.out, HJ.out]; simpa using ho6); have HB6 : Hid (Below w1.heap.size w1 w6) := Lib.hid (grown_below ((HBr.out.trans (HB2.out.mono hsz)).alloc (by omega) _) (Nat.le_refl _) (own_below HO2.out ((Below.refl _ _).alloc (Nat.le_refl _) _)) hg6); clear ho6 hg6))
          go_roundw
          case rel => exact ⟨k + 1, j + 1, by omega, by omega, by go_num, Lib.hid (by rw [HF.out, List.length_append, ← HJ.out]; rfl), HO6, HB6⟩
          case measure => simp [intOf]; omega
      · have HF := Lib.hid (HST.out.2 (fun e => he (by rw [e, HKK.out])))
        have he2 : ((x.k.v.toNat : Int) == (v.toNat : Int)) = false := by rw [u16_eqI]; simpa using he
        have he3 : ¬ ((x.k.v.toNat : Int) = (v.toNat : Int)) := by simpa using he2
        go_wp2_with fail
        go_quiet (fail)
        go_upto_region 6 with fail
        clear he2 he3
        clear e0 e1 e2 e3 e4 e5 e6 m0 m1 m2 m3 m4 m5
        obtain ⟨w2, hw2⟩ : ∃ w2, wr.drewN nq = w2 := ⟨_, rfl⟩
        have HB2 : Hid (Below wr.heap.size wr w2) := Lib.hid (by rw [← hw2]; exact bdrN (Below.refl _ _) _)
        rw [hw2]
        have c1' : w2.cell? ⟨g, 0, none⟩ = some (.slice (some ⟨b, off, none⟩) n c) := by rw [← hw2]; exact c1
        clear hw2 c1
        have HO2 := Lib.hid (own_below HO.out HB2.out)
        have HLD2 := Lib.hid (els_load (HRr.out.next HB2.out).elL HX.out)
        have hsz2 := HB2.out.size
        go_wp2_with (first
          | refine wpList_load_at 67 38 rfl (by kernel_rfl) b (off + k * 9) [.int .u16 x.k.v.toNat, .int .u8 x.k.m.a.toNat, .int .u8 x.k.m.b.toNat, .int .u8 x.k.m.c.toNat, .int .u8 x.k.m.d.toNat, .int .u8 x.k.m.e.toNat, .int .u8 x.k.m.f.toNat, .int .u8 x.p.toNat, .int .i64 (x.a : Nat)] rfl HLD2.out agg_re size_re ?_
          | (at_builtin; refine wpl_app rfl (.tmp 34) (.tmp 40) 29 rfl enV_len enV_one (by decide) w1.heap.size 67 i0 (.agg #[.int .u16 0, .int .u8 0, .int .u8 0, .int .u8 0, .int .u8 0, .int .u8 0, .int .u8 0, .int .u8 0, .int .i64 0]) 24 Try.underlying29 HIE.out rfl u7 (lwo (L.take k) kk) rfl (by rw [← HJ.out]; exact own_below HO2.out ((Below.refl _ _).alloc (Nat.le_refl _) _)) (some ⟨w2.heap.size, 0, none⟩) 1 1 [x] rfl rfl (fun e => by cases e) (els_one w2 x) HJL.out (by decide) (by simp; omega) ?_; intro v6 w6 ho6 hg6 _; have HO6 : Hid (w6.ownsRow w1.heap.size 67 9 v6 (j + 1) ((lwo (L.take (k + 1)) kk).flatMap enV)) := Lib.hid (by rw [HF.out, HJ.out]; simpa using ho6); have HB6 : Hid (Below w1.heap.size w1 w6) := Lib.hid (grown_below ((HBr.out.trans (HB2.out.mono hsz)).alloc (by omega) _) (Nat.le_refl _) (own_below HO2.out ((Below.refl _ _).alloc (Nat.le_refl _) _)) hg6); clear ho6 hg6))
        go_roundw
        case rel => exact ⟨k + 1, j + 1, by omega, by omega, by go_num, Lib.hid (by rw [HF.out, List.length_append, ← HJ.out]; rfl), HO6, HB6⟩
        case measure => simp [intOf]; omega
    · obtain rfl : k = n := by omega
      have HT : Hid (L.take k = L) := Lib.hid (List.take_of_length_le (by rw [HN.out]; exact Nat.le_refl _))
      rw [HT.out] at HO HJ
      have hO := HO.out
      rw [HJ.out] at hO
      obtain ⟨A', c', rfl, hE', hc', hA', ha'⟩ := own_full (enc := enV) (k := 9) enV_len hO
      have HX := Lib.hid (And.intro hE' (And.intro hc' (And.intro hA' ha')))
      have c2 := (HB.out.below HBr.out HB.out.lt).cell 1
      simp only [List.getElem?_toArray, List.getElem?_cons_succ, List.getElem?_cons_zero] at c2
      have HZr := Lib.hid (HZ.out.below HBr.out HZ.out.lt)
      clear hO HO hE' hc' hA' ha' HT hlt
      go_wp2_with (refine wpList_store_row rfl 32 (.tmp 6) _ rfl (g + 2) rfl (#[.slice A' (lwo L kk).length c', .slice B S.length d]) rfl 32 _ HZr.out info_rt rfl (by kernel_rfl) ?_)
      have HRS := Lib.hid (HZr.out.row #[.slice A' (lwo L kk).length c', .slice B S.length d])
      have HBF : Hid (Below w.heap.size w (wr.setRow (g + 2) #[.slice A' (lwo L kk).length c', .slice B S.length d])) := Lib.hid (below_row (HG.out.below.trans (HBr.out.mono HG.out.size)) (by rw [HGE.out]; omega) _)
      have hE8 := HX.out.1.chg ((Chg.refl (fun k => k = g + 2) wr).setRow (g := g + 2) (.inr rfl) #[.slice A' (lwo L kk).length c', .slice B S.length d]) (fun a e => by have := (HX.out.2.2.2 a e).1; have := HS.out; omega)
      have hW8 := HW.out.next HBF.out
      refine bodyPost_ret (v := .agg #[.slice A' (lwo L kk).length c', .slice B S.length d]) (results_cell Try.results32 _ _ (g + 2) 32 _ _ rfl HRS.out Try.underlying32 rfl info_rt) rfl ⟨A', c', rfl, ⟨hE8, hW8.elS, HX.out.2.1, hW8.cS, HX.out.2.2.1, hW8.nS, fun a e => ⟨HYY.out _ ?_, ?_⟩, hW8.yS, Nat.le_trans (lwo_le _ _) hW8.l32, hW8.s16⟩, HBF.out⟩
      · have := (HX.out.2.2.2 a e).1
        have := HS.out
        have := HGE.out
        omega
      · have := (HX.out.2.2.2 a e).2
        simpa using this
end Go.Proofs.Ytlofaahckdfeiaa
