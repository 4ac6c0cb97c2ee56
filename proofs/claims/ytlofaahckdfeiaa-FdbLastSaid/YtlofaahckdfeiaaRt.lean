/- Layer 8: the document's Has, Tick, Flush. -/
import Derived.Test.YtlofaahckdfeiaaRw
namespace Go.Proofs.Ytlofaahckdfeiaa
open Go.RowKit
set_option linter.unusedVariables false
set_option linter.unusedSimpArgs false
set_option maxRecDepth 100000

set_option maxHeartbeats 1000000 in
theorem has7_any {w : World} (s p : UInt8) :
    Calls Try.prog 27 #[.int .u8 s.toNat, .int .u8 p.toNat] w fun e w' => e = .returned (.bool (pbit s p)) ∧ w = w' := by
  obtain ⟨q, hq⟩ : ∃ q, p.toNat = q := ⟨_, rfl⟩
  obtain ⟨n, hn⟩ : ∃ n, s.toNat = n := ⟨_, rfl⟩
  have hq8 : q < 256 := by rw [← hq]; exact p.toNat_lt
  have hn8 : n < 256 := by rw [← hn]; exact s.toNat_lt
  have HE : Hid (pbit s p = (n / 2 ^ q % 2 == 1)) := Lib.hid (by unfold pbit; rw [hq, hn])
  rw [hq, hn]
  clear hq hn
  go_enter Try.func27, Try.ntmps27
  go_wp2
  go_loopw [0, 5] (fun s i wr => ∃ k : Nat, k ≤ q ∧ i = .int .u8 k ∧ s = .int .u8 (n / 2 ^ k : Nat) ∧ w = wr) (fun _ i _ => q - (intOf i).toNat)
  case atStart => exact ⟨0, Nat.zero_le _, rfl, by simp, rfl⟩
  case round =>
    obtain ⟨k, hk, rfl, rfl, rfl⟩ := hrel
    have h1 : n / 2 ^ k < 256 := Nat.lt_of_le_of_lt (Nat.div_le_self _ _) hn8
    obtain ⟨d, hd⟩ : ∃ d, n / 2 ^ k = d := ⟨_, rfl⟩
    have HD : Hid (n / 2 ^ (k + 1) = d / 2) := Lib.hid (by rw [Nat.pow_succ, ← Nat.div_div_eq_div_mul, hd])
    rw [hd] at h1 ⊢
    by_cases hlt : k < q
    · clear hd
      go_wp2
      go_roundw
      case rel => exact ⟨k + 1, by omega, by go_num, by rw [HD.out]; go_num, by first | rfl | trivial⟩
      case measure => simp [intOf]; omega
    · obtain rfl : k = q := by omega
      rw [hd] at HE
      clear hd HD
      go_wp2
      go_ret
      rw [HE.out]
      exact ⟨ret_ (congrArg Value.bool (by rw [Bool.eq_iff_iff]; simp only [beq_iff_eq]; omega)), rfl⟩


theorem step_store_row {P : Program} {ops : Array Oper} {o : Oper} {a : Act} {w : World} {K : Act → World → Prop} {Q : Exit → Act → World → Prop} {E : Prop} (hgd : o.guard = none) (ty : TypeId) (p v : Operand) (ho : o.op = .store ty p v)
    (g : Nat) (hp : a.eval p = .pointer (some ⟨g, 0, none⟩)) (c' : Array Value) (hv : a.eval v = .agg c') (t : TypeId) (cs : Array Value) (hg : Blk w g t cs)
    (hi : (P.info? ty).map (·.size) = some c'.size) (hs : cs.size = c'.size) (h1 : c'.all (·.oneCell') = true)
    (h : K (a.put o.dst (.tuple #[])) (w.setRow g c')) : if Region.wanted o (yielded ops a.tmps) = true then Oper.wp P o a w K Q else E := by
  have hw : Region.wanted o (yielded ops a.tmps) = true := by simp [Region.wanted, hgd]
  rw [if_pos hw]
  unfold Oper.wp execOp
  simp only [ho, hp, hv, Instr.storeAt, Instr.sureAddr, Sem.run_bind, Sem.run_pure, Result.andThen_ok, run_storeVar_row w g t ty cs c' hg hi hs h1]
  exact h
theorem blk_load {w : World} {g : Nat} {t : TypeId} {cs : List Value} (h : Blk w g t cs.toArray) : ∀ j u, cs[j]? = some u → w.cell? ⟨g, 0 + j, none⟩ = some u := fun j u hu => by
  rw [Nat.zero_add]
  exact (h.cell j).trans (by simpa using hu)
theorem ltick_step {L : List En} {k : Nat} {x : En} (hx : L[k]? = some x) : (x.a + 1 = 40 → ltick (L.take (k + 1)) = ltick (L.take k)) ∧ (x.a + 1 ≠ 40 → ltick (L.take (k + 1)) = ltick (L.take k) ++ [older x]) := by
  rw [List.take_add_one, hx]
  unfold ltick
  rw [List.map_append, List.filter_append]
  constructor
  · intro e; simp [older, e]
  · intro e; simp [older, e]
theorem ltick_le (L : List En) : (ltick L).length ≤ L.length := by
  unfold ltick
  have := List.length_filter_le (fun e => !decide (e.a = 40)) (L.map older)
  simpa using this
theorem lflush_step {L : List En} {s : UInt8} {k : Nat} {x : En} (hx : L[k]? = some x) : (pbit s x.p = true → lflush (L.take (k + 1)) s = lflush (L.take k) s) ∧ (pbit s x.p = false → lflush (L.take (k + 1)) s = lflush (L.take k) s ++ [x]) := by
  rw [List.take_add_one, hx]
  unfold lflush
  rw [List.filter_append]
  constructor
  · intro e; simp [e]
  · intro e; simp [e]
theorem lflush_le (L : List En) (s : UInt8) : (lflush L s).length ≤ L.length := List.length_filter_le _ _
set_option maxHeartbeats 4000000 in
theorem tick_ref {w : World} {Y : Nat → Prop} {A B : Option Addr} {c d : Nat} {L : List En} {S : List (Pl × UInt8)} (h : RvE Y w A c L B d S) (hY : ∀ k, w.heap.size ≤ k → Y k) (ho : ∀ e ∈ L, e.a < 40) :
    Calls Try.prog 9 #[.agg #[.slice A L.length c, .slice B S.length d]] w fun e w' => ∃ A' c', e = .returned (.agg #[.slice A' (ltick L).length c', .slice B S.length d]) ∧ RvE Y w' A' c' (ltick L) B d S ∧ Below w.heap.size w w' := by
  obtain ⟨i0, hi0⟩ := infoRE
  have HIE := Lib.hid hi0
  have HO40 := Lib.hid ho
  clear hi0 ho
  obtain ⟨w1, hw1⟩ : ∃ w1, (w.alloc (.cells #[.slice A L.length c, .slice B S.length d] 32)).alloc (.cells #[.slice none 0 0, .slice none 0 0] 32) = w1 := ⟨_, rfl⟩
  obtain ⟨g, hg⟩ : ∃ g, w.heap.size = g := ⟨_, rfl⟩
  have HG := Lib.hid (show Gro w w1 by rw [← hw1]; exact ((Gro.refl w).alloc _).alloc _)
  have HB := Lib.hid (show Blk w1 g 32 #[.slice A L.length c, .slice B S.length d] by rw [← hw1, ← hg]; exact (Blk.new w _ _).alloc _)
  have HZ := Lib.hid (show Blk w1 (g + 1) 32 #[.slice none 0 0, .slice none 0 0] by rw [← hw1, ← hg]; have := Blk.new (w.alloc (.cells #[.slice A L.length c, .slice B S.length d] 32)) 32 #[.slice none 0 0, .slice none 0 0]; simpa using this)
  have HS : Hid (w1.heap.size = g + 2) := Lib.hid (by rw [← hw1, ← hg]; simp)
  have HGE := Lib.hid hg
  have HR := Lib.hid (h.gro HG.out)
  have HW := Lib.hid h
  obtain ⟨n, hn⟩ : ∃ n, L.length = n := ⟨_, rfl⟩
  have HN := Lib.hid hn
  have HYY := Lib.hid hY
  rw [hn] at HB
  clear h hn hY
  go_enter Try.func9, Try.ntmps9
  go_upto_region 1 with fail
  clear hw1 hg
  go_wp2_with fail
  go_loopw [3, 4] (fun l i wr => ∃ k j : Nat, k ≤ n ∧ j ≤ k ∧ i = .int .i64 k ∧ Hid (j = (ltick (L.take k)).length) ∧ Hid (wr.ownsRow w1.heap.size 67 9 l j ((ltick (L.take k)).flatMap enV)) ∧ Hid (Below w1.heap.size w1 wr)) (fun _ i _ => n - (intOf i).toNat)
  case atStart => exact ⟨0, 0, Nat.zero_le _, Nat.le_refl _, rfl, Lib.hid (by simp [ltick]), Lib.hid (World.ownsRow_nil _ _ _ _), Lib.hid (Below.refl _ _)⟩
  case round =>
    obtain ⟨k, j, hk, hj, rfl, HJ, HO, HBr⟩ := hrel
    have HRr := Lib.hid (HR.out.next HBr.out)
    have hn32 : n ≤ 32 := by rw [← HN.out]; exact HR.out.l32
    have c1 := (HB.out.below HBr.out HB.out.lt).cell 0
    simp only [List.getElem?_toArray, List.getElem?_cons_succ, List.getElem?_cons_zero] at c1
    by_cases hlt : k < n
    · obtain ⟨x, hx⟩ : ∃ x, L[k]? = some x := ⟨_, List.getElem?_eq_getElem (by rw [HN.out]; exact hlt)⟩
      obtain ⟨b, off, rfl, hb, _⟩ := en_at HRr.out.elL hx
      have HLD := Lib.hid (els_load HRr.out.elL hx)
      have HST := Lib.hid (ltick_step hx)
      have hxa : x.a < 40 := HO40.out x (List.mem_of_getElem? hx)
      obtain ⟨y, hy⟩ : ∃ y, x.a + 1 = y := ⟨_, rfl⟩
      have hyi : (x.a : Int) + 1 = (y : Int) := by omega
      have HY := Lib.hid hy
      have hkn : (k : Int) < n := by omega
      have hsz := HBr.out.size
      have HJL : Hid ((ltick (L.take k)).length + 1 ≤ 1000) := Lib.hid (by rw [← HJ.out]; omega)
      have HLI := Lib.hid (And.intro hj hlt)
      clear hx hj
      obtain ⟨gx, hgx⟩ : ∃ gx, wr.heap.size = gx := ⟨_, rfl⟩
      obtain ⟨w2, hw2⟩ : ∃ w2, wr.alloc (.cells ([.int .u16 x.k.v.toNat, .int .u8 x.k.m.a.toNat, .int .u8 x.k.m.b.toNat, .int .u8 x.k.m.c.toNat, .int .u8 x.k.m.d.toNat, .int .u8 x.k.m.e.toNat, .int .u8 x.k.m.f.toNat, .int .u8 x.p.toNat, .int .i64 (x.a : Nat)] : List Value).toArray 67) = w2 := ⟨_, rfl⟩
      have HX2 := Lib.hid (show Blk w2 gx 67 ([.int .u16 x.k.v.toNat, .int .u8 x.k.m.a.toNat, .int .u8 x.k.m.b.toNat, .int .u8 x.k.m.c.toNat, .int .u8 x.k.m.d.toNat, .int .u8 x.k.m.e.toNat, .int .u8 x.k.m.f.toNat, .int .u8 x.p.toNat, .int .i64 (x.a : Nat)] : List Value).toArray by rw [← hw2, ← hgx]; exact Blk.new wr _ _)
      have HB2 := Lib.hid (show Below wr.heap.size wr w2 by rw [← hw2]; exact (Below.refl _ _).alloc (Nat.le_refl _) _)
      go_upto_region 6 with (first
        | refine wpList_load_at 67 16 rfl (by kernel_rfl) b (off + k * 9) [.int .u16 x.k.v.toNat, .int .u8 x.k.m.a.toNat, .int .u8 x.k.m.b.toNat, .int .u8 x.k.m.c.toNat, .int .u8 x.k.m.d.toNat, .int .u8 x.k.m.e.toNat, .int .u8 x.k.m.f.toNat, .int .u8 x.p.toNat, .int .i64 (x.a : Nat)] rfl HLD.out agg_re size_re ?_)
      clear hw2 c1 hlt hkn
      obtain ⟨w3, hw3⟩ : ∃ w3, w2.setCell ⟨gx, 8, none⟩ (.int .i64 y) = w3 := ⟨_, rfl⟩
      have HX3 := Lib.hid (show Blk w3 gx 67 ([.int .u16 x.k.v.toNat, .int .u8 x.k.m.a.toNat, .int .u8 x.k.m.b.toNat, .int .u8 x.k.m.c.toNat, .int .u8 x.k.m.d.toNat, .int .u8 x.k.m.e.toNat, .int .u8 x.k.m.f.toNat, .int .u8 x.p.toNat, .int .i64 (y : Nat)] : List Value).toArray by rw [← hw3]; exact HX2.out.put 8 _)
      have HB3 := Lib.hid (show Below wr.heap.size wr w3 by rw [← hw3]; exact HB2.out.setCell (p := ⟨gx, 8, none⟩) (by rw [hgx]; exact Nat.le_refl _) _)
      have c8 := HX2.out.cell 8
      have f8 := HX2.out.frozen 8
      simp only [List.getElem?_toArray, List.getElem?_cons_succ, List.getElem?_cons_zero] at c8
      have hy40 : y ≤ 40 := by omega
      go_upto_region 7 with fail
      clear hw3 c8 f8
      have c8 := HX3.out.cell 8
      simp only [List.getElem?_toArray, List.getElem?_cons_succ, List.getElem?_cons_zero] at c8
      by_cases h40 : y < 40
      · have hyI : (y : Int) < 40 := by omega
        have HF : Hid (ltick (L.take (k + 1)) = ltick (L.take k) ++ [⟨x.k, x.p, y⟩]) := Lib.hid (by rw [HST.out.2 (by rw [HY.out]; omega)]; unfold older; rw [HY.out])
        have HO3 := Lib.hid (own_below HO.out HB3.out)
        have HL3 := Lib.hid (blk_load HX3.out)
        have hsz3 := HB3.out.size
        clear hyi hxa hgx
        go_wp2_with (first
          | refine wpList_load_at 67 5 rfl (by kernel_rfl) gx 0 [.int .u16 x.k.v.toNat, .int .u8 x.k.m.a.toNat, .int .u8 x.k.m.b.toNat, .int .u8 x.k.m.c.toNat, .int .u8 x.k.m.d.toNat, .int .u8 x.k.m.e.toNat, .int .u8 x.k.m.f.toNat, .int .u8 x.p.toNat, .int .i64 (y : Nat)] rfl HL3.out agg_re size_re ?_
          | (at_builtin; refine wpl_app rfl (.tmp 25) (.tmp 27) 29 rfl enV_len enV_one (by decide) w1.heap.size 67 i0 (.agg #[.int .u16 0, .int .u8 0, .int .u8 0, .int .u8 0, .int .u8 0, .int .u8 0, .int .u8 0, .int .u8 0, .int .i64 0]) 24 Try.underlying29 HIE.out rfl u3 (ltick (L.take k)) rfl (by rw [← HJ.out]; exact own_below HO3.out ((Below.refl _ _).alloc (Nat.le_refl _) _)) (some ⟨w3.heap.size, 0, none⟩) 1 1 [(⟨x.k, x.p, y⟩ : En)] rfl rfl (fun e => by cases e) (els_one w3 (⟨x.k, x.p, y⟩ : En)) HJL.out (by decide) (by simp; omega) ?_; intro v6 w6 ho6 hg6 _; have HO6 : Hid (w6.ownsRow w1.heap.size 67 9 v6 (j + 1) ((ltick (L.take (k + 1))).flatMap enV)) := Lib.hid (by rw [HF.out, HJ.out]; simpa using ho6); have HB6 : Hid (Below w1.heap.size w1 w6) := Lib.hid (grown_below ((HBr.out.trans (HB3.out.mono hsz)).alloc (by omega) _) (Nat.le_refl _) (own_below HO3.out ((Below.refl _ _).alloc (Nat.le_refl _) _)) hg6); clear ho6 hg6))
        go_roundw
        case rel => exact ⟨k + 1, j + 1, by have := HLI.out; omega, by have := HLI.out; omega, by go_num, Lib.hid (by rw [HF.out, List.length_append, ← HJ.out]; rfl), HO6, HB6⟩
        case measure => have := HLI.out; simp [intOf]; omega
      · have hyI : ¬ (y : Int) < 40 := by omega
        have HF : Hid (ltick (L.take (k + 1)) = ltick (L.take k)) := Lib.hid (HST.out.1 (by rw [HY.out]; omega))
        go_wp2
        go_roundw
        case rel => exact ⟨k + 1, j, by have := HLI.out; omega, by have := HLI.out; omega, by go_num, Lib.hid (by rw [HF.out]; exact HJ.out), Lib.hid (by rw [HF.out]; exact own_below HO.out HB3.out), Lib.hid (HBr.out.trans (HB3.out.mono hsz))⟩
        case measure => have := HLI.out; simp [intOf]; omega
    · obtain rfl : k = n := by omega
      have HT : Hid (L.take k = L) := Lib.hid (List.take_of_length_le (by rw [HN.out]; exact Nat.le_refl _))
      rw [HT.out] at HO HJ
      have hO := HO.out
      rw [HJ.out] at hO
      obtain ⟨A', c', rfl, hE', hc', hA', ha'⟩ := own_full (enc := enV) (k := 9) enV_len hO
      have HX := Lib.hid (And.intro hE' (And.intro hc' (And.intro hA' ha')))
      have c2 := (HB.out.below HBr.out HB.out.lt).cell 1
      simp only [List.getElem?_toArray, List.getElem?_cons_succ, List.getElem?_cons_zero] at c2
      have HZr := Lib.hid (HZ.out.below HBr.out HZ.out.lt)
      clear hO HO hE' hc' hA' ha' HT hlt
      go_wp2_with (refine wpList_store_row rfl 32 (.tmp 2) _ rfl (g + 1) rfl (#[.slice A' (ltick L).length c', .slice B S.length d]) rfl 32 _ HZr.out info_rt rfl (by kernel_rfl) ?_)
      have HRS := Lib.hid (HZr.out.row #[.slice A' (ltick L).length c', .slice B S.length d])
      have HBF : Hid (Below w.heap.size w (wr.setRow (g + 1) #[.slice A' (ltick L).length c', .slice B S.length d])) := Lib.hid (below_row (HG.out.below.trans (HBr.out.mono HG.out.size)) (by rw [HGE.out]; omega) _)
      have HE8 := Lib.hid (HX.out.1.chg ((Chg.refl (fun k => k = g + 1) wr).setRow (g := g + 1) (.inr rfl) #[.slice A' (ltick L).length c', .slice B S.length d]) (fun a e => by have := (HX.out.2.2.2 a e).1; have := HS.out; omega))
      have HSZ : Hid (wr.heap.size ≤ (wr.setRow (g + 1) #[.slice A' (ltick L).length c', .slice B S.length d]).heap.size) := Lib.hid (by simp)
      have HW8 := Lib.hid (HW.out.next HBF.out)
      refine bodyPost_ret (v := .agg #[.slice A' (ltick L).length c', .slice B S.length d]) (results_cell Try.results9 _ _ (g + 1) 32 _ _ rfl HRS.out Try.underlying32 rfl info_rt) rfl ⟨A', c', rfl, ⟨HE8.out, HW8.out.elS, HX.out.2.1, HW8.out.cS, HX.out.2.2.1, HW8.out.nS, fun a e => ⟨HYY.out _ ?_, ?_⟩, HW8.out.yS, Nat.le_trans (ltick_le _) HW8.out.l32, HW8.out.s16⟩, HBF.out⟩
      · have := (HX.out.2.2.2 a e).1
        have := HS.out
        have := HGE.out
        omega
      · have := (HX.out.2.2.2 a e).2
        have := HSZ.out
        omega
set_option maxHeartbeats 4000000 in
theorem flush_ref {w : World} {Y : Nat → Prop} {A B : Option Addr} {c d : Nat} {L : List En} {S : List (Pl × UInt8)} (h : RvE Y w A c L B d S) (hY : ∀ k, w.heap.size ≤ k → Y k) (s : UInt8) :
    Calls Try.prog 11 #[.agg #[.slice A L.length c, .slice B S.length d], .int .u8 s.toNat] w fun e w' => ∃ A' c', e = .returned (.tuple #[.agg #[.slice A' (lflush L s).length c', .slice B S.length d], .int .i64 ((L.length : Int) - ((lflush L s).length : Int))]) ∧ RvE Y w' A' c' (lflush L s) B d S ∧ Below w.heap.size w w' := by
  obtain ⟨i0, hi0⟩ := infoRE
  have HIE := Lib.hid hi0
  clear hi0
  obtain ⟨w1, hw1⟩ : ∃ w1, (w.alloc (.cells #[.slice A L.length c, .slice B S.length d] 32)).alloc (.cells #[.slice none 0 0, .slice none 0 0] 32) = w1 := ⟨_, rfl⟩
  obtain ⟨g, hg⟩ : ∃ g, w.heap.size = g := ⟨_, rfl⟩
  have HG := Lib.hid (show Gro w w1 by rw [← hw1]; exact ((Gro.refl w).alloc _).alloc _)
  have HB := Lib.hid (show Blk w1 g 32 #[.slice A L.length c, .slice B S.length d] by rw [← hw1, ← hg]; exact (Blk.new w _ _).alloc _)
  have HZ := Lib.hid (show Blk w1 (g + 1) 32 #[.slice none 0 0, .slice none 0 0] by rw [← hw1, ← hg]; have := Blk.new (w.alloc (.cells #[.slice A L.length c, .slice B S.length d] 32)) 32 #[.slice none 0 0, .slice none 0 0]; simpa using this)
  have HS : Hid (w1.heap.size = g + 2) := Lib.hid (by rw [← hw1, ← hg]; simp)
  have HGE := Lib.hid hg
  have HR := Lib.hid (h.gro HG.out)
  have HW := Lib.hid h
  obtain ⟨n, hn⟩ : ∃ n, L.length = n := ⟨_, rfl⟩
  have HN := Lib.hid hn
  have HYY := Lib.hid hY
  rw [hn] at HB
  clear h hn hY
  go_enter Try.func11, Try.ntmps11
  go_upto_region 1 with fail
  clear hw1 hg
  go_wp2_with fail
  go_loopw [6, 7] (fun l i wr => ∃ k j : Nat, k ≤ n ∧ j ≤ k ∧ i = .int .i64 k ∧ Hid (j = (lflush (L.take k) s).length) ∧ Hid (wr.ownsRow w1.heap.size 67 9 l j ((lflush (L.take k) s).flatMap enV)) ∧ Hid (Below w1.heap.size w1 wr)) (fun _ i _ => n - (intOf i).toNat)
  case atStart => exact ⟨0, 0, Nat.zero_le _, Nat.le_refl _, rfl, Lib.hid (by simp [lflush]), Lib.hid (World.ownsRow_nil _ _ _ _), Lib.hid (Below.refl _ _)⟩
  case round =>
    obtain ⟨k, j, hk, hj, rfl, HJ, HO, HBr⟩ := hrel
    have HRr := Lib.hid (HR.out.next HBr.out)
    have hn32 : n ≤ 32 := by rw [← HN.out]; exact HR.out.l32
    have c1 := (HB.out.below HBr.out HB.out.lt).cell 0
    simp only [List.getElem?_toArray, List.getElem?_cons_succ, List.getElem?_cons_zero] at c1
    by_cases hlt : k < n
    · obtain ⟨x, hx⟩ : ∃ x, L[k]? = some x := ⟨_, List.getElem?_eq_getElem (by rw [HN.out]; exact hlt)⟩
      obtain ⟨b, off, rfl, hb, _, _, _, _, _, _, _, e7, _⟩ := en_at HRr.out.elL hx
      have HLD := Lib.hid (els_load HRr.out.elL hx)
      have HST := Lib.hid (lflush_step (s := s) hx)
      have hkn : (k : Int) < n := by omega
      have hsz := HBr.out.size
      have HJL : Hid ((lflush (L.take k) s).length + 1 ≤ 1000) := Lib.hid (by rw [← HJ.out]; omega)
      have HHAS := Lib.hid (has7_any (w := wr) s x.p)
      clear hx
      cases hb7 : pbit s x.p with
      | true =>
        have HF := Lib.hid (HST.out.1 hb7)
        rw [hb7] at HHAS
        go_wp2_with fail
        refine HHAS.out.mono ?_
        rintro e w2 ⟨rfl, rfl⟩
        go_wp2
        go_roundw
        case rel => exact ⟨k + 1, j, by omega, by omega, by go_num, Lib.hid (by rw [HF.out]; exact HJ.out), Lib.hid (by rw [HF.out]; exact HO.out), HBr⟩
        case measure => simp [intOf]; omega
      | false =>
        have HF := Lib.hid (HST.out.2 hb7)
        rw [hb7] at HHAS
        go_wp2_with fail
        refine HHAS.out.mono ?_
        rintro e w2 ⟨rfl, rfl⟩
        clear HHAS e7
        go_wp2_with (first
          | refine wpList_load_at 67 28 rfl (by kernel_rfl) b (off + k * 9) [.int .u16 x.k.v.toNat, .int .u8 x.k.m.a.toNat, .int .u8 x.k.m.b.toNat, .int .u8 x.k.m.c.toNat, .int .u8 x.k.m.d.toNat, .int .u8 x.k.m.e.toNat, .int .u8 x.k.m.f.toNat, .int .u8 x.p.toNat, .int .i64 (x.a : Nat)] rfl HLD.out agg_re size_re ?_
          | (at_builtin; refine wpl_app rfl (.tmp 24) (.tmp 30) 29 rfl enV_len enV_one (by decide) w1.heap.size 67 i0 (.agg #[.int .u16 0, .int .u8 0, .int .u8 0, .int .u8 0, .int .u8 0, .int .u8 0, .int .u8 0, .int .u8 0, .int .i64 0]) 24 Try.underlying29 HIE.out rfl u6 (lflush (L.take k) s) rfl (by rw [← HJ.out]; exact own_below HO.out ((Below.refl _ _).alloc (Nat.le_refl _) _)) (some ⟨wr.heap.size, 0, none⟩) 1 1 [x] rfl rfl (fun e => by cases e) (els_one wr x) HJL.out (by decide) (by simp; omega) ?_; intro v6 w6 ho6 hg6 _; have HO6 : Hid (w6.ownsRow w1.heap.size 67 9 v6 (j + 1) ((lflush (L.take (k + 1)) s).flatMap enV)) := Lib.hid (by rw [HF.out, HJ.out]; simpa using ho6); have HB6 : Hid (Below w1.heap.size w1 w6) := Lib.hid (grown_below ((HBr.out).alloc (by omega) _) (Nat.le_refl _) (own_below HO.out ((Below.refl _ _).alloc (Nat.le_refl _) _)) hg6); clear ho6 hg6))
        go_roundw
        case rel => exact ⟨k + 1, j + 1, by omega, by omega, by go_num, Lib.hid (by rw [HF.out, List.length_append, ← HJ.out]; rfl), HO6, HB6⟩
        case measure => simp [intOf]; omega
    · obtain rfl : k = n := by omega
      have HT : Hid (L.take k = L) := Lib.hid (List.take_of_length_le (by rw [HN.out]; exact Nat.le_refl _))
      rw [HT.out] at HO HJ
      have hO := HO.out
      rw [HJ.out] at hO
      obtain ⟨A', c', rfl, hE', hc', hA', ha'⟩ := own_full (enc := enV) (k := 9) enV_len hO
      have HX := Lib.hid (And.intro hE' (And.intro hc' (And.intro hA' ha')))
      have c2 := (HB.out.below HBr.out HB.out.lt).cell 1
      simp only [List.getElem?_toArray, List.getElem?_cons_succ, List.getElem?_cons_zero] at c2
      have HZr := Lib.hid (HZ.out.below HBr.out HZ.out.lt)
      clear hO HO hE' hc' hA' ha' HT hlt
      have HLL : Hid ((lflush L s).length ≤ L.length) := Lib.hid (lflush_le _ _)
      obtain ⟨nn, hnn⟩ : ∃ nn, (lflush L s).length = nn := ⟨_, rfl⟩
      have HNN := Lib.hid hnn
      have HZd := Lib.hid (show Blk wr.drew (g + 1) 32 #[.slice none 0 0, .slice none 0 0] from HZr.out)
      rw [hnn]
      have hn32 : k ≤ 32 := by rw [← HN.out]; exact HR.out.l32
      have hnk : nn ≤ k := by rw [← hnn, ← HN.out]; exact HLL.out
      clear hnn
      go_wp2_with fail
      have z0 := HZr.out.cell 0
      have z1 := HZr.out.cell 1
      have f0 := HZr.out.frozen 0
      have f1 := HZr.out.frozen 1
      simp only [List.getElem?_toArray, List.getElem?_cons_succ, List.getElem?_cons_zero] at z0 z1
      have hwr : IntKind.i64.wrap ((k : Int) - (nn : Int)) = (k : Int) - (nn : Int) := IntWalk.i64_in _ (by omega)
      have HRS := Lib.hid (show Blk ((wr.setCell ⟨g + 1, 0, none⟩ (.slice A' nn c')).setCell ⟨g + 1, 1, none⟩ (.slice B S.length d)).drew (g + 1) 32 #[.slice A' nn c', .slice B S.length d] from (HZr.out.put 0 _).put 1 _)
      have HBF : Hid (Below w.heap.size w ((wr.setCell ⟨g + 1, 0, none⟩ (.slice A' nn c')).setCell ⟨g + 1, 1, none⟩ (.slice B S.length d)).drew) := Lib.hid ((((HG.out.below.trans (HBr.out.mono HG.out.size)).setCell (p := ⟨g + 1, 0, none⟩) (by rw [HGE.out]; exact Nat.le_succ _) _).setCell (p := ⟨g + 1, 1, none⟩) (by rw [HGE.out]; exact Nat.le_succ _) _).drew)
      have hE8 := HX.out.1.chg (((((Chg.refl (fun k => k = g + 1) wr).setCell (p := ⟨g + 1, 0, none⟩) (.inr rfl) (.slice A' nn c')).setCell (p := ⟨g + 1, 1, none⟩) (.inr rfl) (.slice B S.length d))).drew) (fun a e => by have := (HX.out.2.2.2 a e).1; have := HS.out; omega)
      have HE8 := Lib.hid hE8
      have HSZ : Hid (wr.heap.size ≤ ((wr.setCell ⟨g + 1, 0, none⟩ (.slice A' nn c')).setCell ⟨g + 1, 1, none⟩ (.slice B S.length d)).drew.heap.size) := Lib.hid (by simp [World.setCell])
      clear hE8
      go_region_law (fail)
      all_goals (
        go_wp2_with fail
        have HW8 := Lib.hid (HW.out.next HBF.out)
        refine bodyPost_ret (v := .tuple #[.agg #[.slice A' nn c', .slice B S.length d], .int .i64 ((k : Int) - (nn : Int))]) (results_cell_slot Try.results11 _ _ (g + 1) 32 _ _ rfl HRS.out Try.underlying32 rfl info_rt _ rfl) rfl ⟨A', c', (by rw [HN.out, HNN.out]), ⟨HE8.out, HW8.out.elS, HX.out.2.1, HW8.out.cS, HX.out.2.2.1, HW8.out.nS, fun a e => ⟨HYY.out _ ?_, ?_⟩, HW8.out.yS, Nat.le_trans (lflush_le _ _) HW8.out.l32, HW8.out.s16⟩, HBF.out⟩
        · have := (HX.out.2.2.2 a e).1
          have := HS.out
          have := HGE.out
          omega
        · have := (HX.out.2.2.2 a e).2
          have := HSZ.out
          omega)
end Go.Proofs.Ytlofaahckdfeiaa
