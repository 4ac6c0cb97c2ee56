/- Layer 7: the law's after. -/
import Derived.Test.YteiopobkbfancaaAfterA
import Derived.StillTailTactics
namespace Go.Proofs.Yteiopobkbfancaa
open Go.RowKit
set_option linter.unusedVariables false
set_option linter.unusedSimpArgs false
set_option maxRecDepth 100000

theorem stores_dt (w : World) (v0 v1 v2 v3 v4 v5 v6 v7 v8 v9 : Value) (h1 : (#[v0, v1, v2, v3, v4, v5, v6, v7, v8, v9] : Array Value).all (·.oneCell') = true) :
    (storeCells ⟨w.heap.size, 0, none⟩ [v0, v1, v2, v3, v4, v5, v6, v7, v8, v9] 0).run Try.prog (w.alloc (.cells #[.int .i64 0, .slice none 0 0, .int .u16 0, .int .u16 0, .int .u16 0, .int .u16 0, .int .u16 0, .int .u16 0, .int .u16 0, .int .u16 0] 36)) = .ok () (w.alloc (.cells #[v0, v1, v2, v3, v4, v5, v6, v7, v8, v9] 36)) :=
  run_storeCells_new w 36 _ #[v0, v1, v2, v3, v4, v5, v6, v7, v8, v9] (by kernel_rfl) rfl h1
/-- what after hands back: the program's table, and the document's, which are alike -/
def AfP (W : World) (N : Nat) (e : Ending) (w' : World) : Prop :=
  ∃ t mb cs A c L own, e = .returned (.tuple #[.pointer (some ⟨t, 0, none⟩), .agg cs, .bool true]) ∧ Tbl w' t mb N L own ∧ DTV cs N A c L own ∧ Els 3 encN w' A L ∧ MemOk N L ∧ Below W.heap.size W w'
set_option maxRecDepth 100000 in
set_option maxHeartbeats 4000000 in
theorem after_any {W : World} (N : Nat) (h1 : 1 ≤ N) (h8 : N ≤ 8) {Aa : Option Addr} {ca : Nat} {l : List Ac} (hl : l.length ≤ 100) (hE : Els 5 encA W Aa l) :
    Calls Try.prog 9 #[.int .i64 N, .slice Aa l.length ca] W fun e w' => AfP W N e w' := by
  have HEl := Lib.hid hE
  obtain ⟨w0, hw0⟩ : ∃ w0, W.alloc (.cells #[.int .i64 0, .slice none 0 0, .int .u16 0, .int .u16 0, .int .u16 0, .int .u16 0, .int .u16 0, .int .u16 0, .int .u16 0, .int .u16 0] 36) = w0 := ⟨_, rfl⟩
  obtain ⟨r, hr⟩ : ∃ r, W.heap.size = r := ⟨_, rfl⟩
  have HR0 := Lib.hid (show Blk w0 r 36 #[.int .i64 0, .slice none 0 0, .int .u16 0, .int .u16 0, .int .u16 0, .int .u16 0, .int .u16 0, .int .u16 0, .int .u16 0, .int .u16 0] by rw [← hw0, ← hr]; exact Blk.new W _ _)
  have HB0 := Lib.hid (show Below W.heap.size W w0 by rw [← hw0]; exact (Below.refl W.heap.size W).alloc (Nat.le_refl _) _)
  have HRr := Lib.hid hr
  have HN1 := Lib.hid (And.intro h1 h8)
  obtain ⟨n, hn⟩ : ∃ n, l.length = n := ⟨_, rfl⟩
  have HN := Lib.hid hn
  rw [hn] at hl ⊢
  clear hE hn h1 h8
  go_enter Try.func9, Try.ntmps9
  go_upto_region 1 with fail
  clear hw0 hr
  go_wp2_with fail
  refine (new_any N HN1.out.1 HN1.out.2).mono ?_
  rintro e w1 ⟨t, rfl, hT, ht, hb⟩
  have HT1 := Lib.hid hT
  have HTt := Lib.hid ht
  have HR1 := Lib.hid (HR0.out.below hb HR0.out.lt)
  have HB1 : Hid (Below W.heap.size W w1) := Lib.hid (HB0.out.trans (hb.mono HB0.out.size))
  have HL0 := Lib.hid HR0.out.lt
  clear hT ht hb HR0 
  go_upto_region 5 with fail
  obtain ⟨q, hq⟩ : ∃ q, w1.heap.size = q := ⟨_, rfl⟩
  obtain ⟨cs0, hcs0⟩ : ∃ cs0 : Array Value, cs0 = #[.int .i64 N, .slice none 0 0, .int .u16 0, .int .u16 0, .int .u16 0, .int .u16 0, .int .u16 0, .int .u16 0, .int .u16 0, .int .u16 0] := ⟨_, rfl⟩
  obtain ⟨w2, hw2⟩ : ∃ w2, w1.alloc (.cells #[.int .i64 N, .slice none 0 0, .int .u16 0, .int .u16 0, .int .u16 0, .int .u16 0, .int .u16 0, .int .u16 0, .int .u16 0, .int .u16 0] 36) = w2 := ⟨_, rfl⟩
  rw [hw2, hq]
  have HA : Hid (Aft W t none q r N [] own0 cs0 none 0 [] own0 w2) := Lib.hid (by
    have a1 := HB0.out.size
    have a2 := HL0.out
    have a3 := HTt.out
    have a4 := HT1.out.lt0
    have a5 := HRr.out
    have hb : Below w1.heap.size w1 w2 := by rw [← hw2]; exact (Below.refl _ _).alloc (Nat.le_refl _) _
    have hd : DTV cs0 N none 0 [] own0 := by subst hcs0; exact ⟨rfl, rfl, rfl, rfl, own0_co _ _, by kernel_rfl⟩
    refine ⟨HT1.out.next hb, ⟨by rw [← hw2, ← hq, hcs0]; exact Blk.new w1 _ _, hd⟩, fun h0 => absurd h0 (by simp), HR1.out.below hb HR1.out.lt, ?_, ?_, ?_, ?_, by omega, ?_, by have := HB1.out.size; omega, by omega, HB1.out.trans (hb.mono HB1.out.size)⟩
    · intro x hx
      cases hx
    · intro b off e
      cases e
    · rintro (e | e)
      · have e' : q = t := e
        omega
      · cases e
    · rintro (e | e)
      · have e' : r = t := e
        omega
      · cases e
    · rintro k (e | e)
      · have e' : k = t := e
        omega
      · cases e)
  clear hw2 hq
  go_wp2_with fail
  go_loopw [10] (fun i wr => ∃ k : Nat, k ≤ n ∧ i = .int .i64 k ∧ Hid (∃ mb cs A c L own, Aft W t mb q r N L own cs A c L own wr)) (fun i _ => n - (intOf i).toNat)
  case atStart => exact ⟨0, Nat.zero_le _, rfl, Lib.hid ⟨_, _, _, _, _, _, HA.out⟩⟩
  case round =>
    clear HA HB0 HB1 HR1 HT1 HTt HL0 hcs0
    obtain ⟨k, hk, rfl, HA⟩ := hrel
    obtain ⟨mb, cs, A, c, L, own, hA⟩ := HA.out
    clear HA
    by_cases hlt : k < n
    · obtain ⟨x, hx⟩ : ∃ x, l[k]? = some x := ⟨_, List.getElem?_eq_getElem (by rw [HN.out]; exact hlt)⟩
      obtain ⟨b, off, rfl, hb, e0, e1, e2, e3, e4⟩ := els_ac HEl.out hx
      have hkn : (k : Int) < n := by omega
      have hk0 : ∀ j v, W.cell? ⟨b, j, none⟩ = some v → wr.cell? ⟨b, j, none⟩ = some v := fun j v h => (hA.bl.cell (p := ⟨b, j, none⟩) hb).trans h
      have c0 := hk0 _ _ e0
      have c1 := hk0 _ _ e1
      have c2 := hk0 _ _ e2
      have c3 := hk0 _ _ e3
      have c4 := hk0 _ _ e4
      obtain ⟨w1', hw1'⟩ : ∃ w1', wr.alloc (.cells #[.int .u8 x.d, .int .u16 x.v.toNat, .int .u8 x.m.toNat, .int .u8 x.u.toNat, .int .u8 x.p.toNat] 59) = w1' := ⟨_, rfl⟩
      obtain ⟨g, hg⟩ : ∃ g, wr.heap.size = g := ⟨_, rfl⟩
      have HA1 := Lib.hid (show Aft W t mb q r N L own cs A c L own w1' from hA.calm (by rw [← hw1']; exact (Below.refl _ _).alloc (Nat.le_refl _) _))
      have HX1 := Lib.hid (show Blk w1' g 59 #[.int .u8 x.d, .int .u16 x.v.toNat, .int .u8 x.m.toNat, .int .u8 x.u.toNat, .int .u8 x.p.toNat] by rw [← hw1', ← hg]; exact Blk.new wr _ _)
      have HNB : Hid (¬ tset t mb g) := Lib.hid (fun e => by have := hA.tb.lt g e; omega)
      have a0 := HX1.out.cell 0
      have a1 := HX1.out.cell 1
      have a2 := HX1.out.cell 2
      have a3 := HX1.out.cell 3
      have a4 := HX1.out.cell 4
      simp only [List.getElem?_toArray, List.getElem?_cons_zero, List.getElem?_cons_succ] at a0 a1 a2 a3 a4
      clear hx e0 e1 e2 e3 e4 hk0 hA hb
      go_upto_region 9 with fail
      clear hw1' hg c0 c1 c2 c3 c4
      obtain ⟨d, v, m, u, p⟩ := x
      dsimp only at a0 a1 a2 a3 a4 HX1 ⊢
      by_cases hd0 : d = 0
      · subst hd0
        obtain ⟨E, hE⟩ : ∃ E : Int, dropE L v = E := ⟨_, rfl⟩
        have hEE : (E != E) = false := by simp
        have HL8 := Lib.hid HA1.out.tb.l8
        have hM2 : MemOk N (dropL L v) := HA1.out.mem.drop v
        have HM2 := Lib.hid hM2
        clear hM2
        go_wp2_with fail
        refine (drop_all HA1.out.tb v).mono ?_
        rw [hE]
        intro e w2 hp
        obtain ⟨rfl, mb2, hA2, hC2⟩ := HA1.out.prog hp
        have HA2 := Lib.hid hA2
        have HX2 := Lib.hid (HX1.out.chg hC2 HNB.out)
        have b0 := HX2.out.cell 0
        have b1 := HX2.out.cell 1
        have b2 := HX2.out.cell 2
        have b3 := HX2.out.cell 3
        have b4 := HX2.out.cell 4
        simp only [List.getElem?_toArray, List.getElem?_cons_zero, List.getElem?_cons_succ] at b0 b1 b2 b3 b4
        clear hp hA2 hC2 HA1 HX1 a0 a1 a2 a3 a4
        go_wp2_with (refine wpList_load_dt 9 rfl (by kernel_rfl) q rfl cs HA2.out.dt.blk HA2.out.dt.v.sz ?_)
        refine (ddrop_all HA2.out.dt.v HA2.out.el HL8.out HA2.out.tb.n8 v).mono ?_
        rw [hE]
        intro e w3 hp
        obtain ⟨cs', A', c', rfl, hsz, hone, hblk, hA3⟩ := HA2.out.doc hp HM2.out
        have HA3 := Lib.hid hA3
        have HK := Lib.hid hblk
        have HS := Lib.hid (And.intro hsz hone)
        have HS2 := Lib.hid HA2.out.dt.v.sz
        clear hp hA3 hblk hsz hone hE b0 b1 b2 b3 b4 HX2 HA2
        go_wp2_with (refine wpList_store_row rfl 36 (.tmp 9) _ rfl q rfl cs' rfl 36 _ HK.out (by rw [HS.out.1]; exact info_rt) (by rw [HS.out.1, HS2.out]) HS.out.2 ?_)
        go_roundw
        case rel => exact ⟨k + 1, by omega, by go_num, Lib.hid ⟨_, _, _, _, _, _, HA3.out⟩⟩
        case measure => simp [intOf]; omega
      · by_cases hd1 : d = 1
        · subst hd1
          obtain ⟨E, hE⟩ : ∃ E : Int, sownE N p v = E := ⟨_, rfl⟩
          have hEE : (E != E) = false := by simp
          have HL8 := Lib.hid HA1.out.tb.l8
          have hM2 : MemOk N (L) := HA1.out.mem
          have HM2 := Lib.hid hM2
          clear hM2
          go_wp2_with fail
          refine (own_all HA1.out.tb p v).mono ?_
          rw [hE]
          intro e w2 hp
          obtain ⟨rfl, mb2, hA2, hC2⟩ := HA1.out.prog hp
          have HA2 := Lib.hid hA2
          have HX2 := Lib.hid (HX1.out.chg hC2 HNB.out)
          have b0 := HX2.out.cell 0
          have b1 := HX2.out.cell 1
          have b2 := HX2.out.cell 2
          have b3 := HX2.out.cell 3
          have b4 := HX2.out.cell 4
          simp only [List.getElem?_toArray, List.getElem?_cons_zero, List.getElem?_cons_succ] at b0 b1 b2 b3 b4
          clear hp hA2 hC2 HA1 HX1 a0 a1 a2 a3 a4
          go_wp2_with (refine wpList_load_dt 9 rfl (by kernel_rfl) q rfl cs HA2.out.dt.blk HA2.out.dt.v.sz ?_)
          refine (down_all HA2.out.dt.v HA2.out.el HL8.out HA2.out.tb.n8 p v).mono ?_
          rw [hE]
          intro e w3 hp
          obtain ⟨cs', A', c', rfl, hsz, hone, hblk, hA3⟩ := HA2.out.doc hp HM2.out
          have HA3 := Lib.hid hA3
          have HK := Lib.hid hblk
          have HS := Lib.hid (And.intro hsz hone)
          have HS2 := Lib.hid HA2.out.dt.v.sz
          clear hp hA3 hblk hsz hone hE b0 b1 b2 b3 b4 HX2 HA2
          go_wp2_with (refine wpList_store_row rfl 36 (.tmp 9) _ rfl q rfl cs' rfl 36 _ HK.out (by rw [HS.out.1]; exact info_rt) (by rw [HS.out.1, HS2.out]) HS.out.2 ?_)
          go_roundw
          case rel => exact ⟨k + 1, by omega, by go_num, Lib.hid ⟨_, _, _, _, _, _, HA3.out⟩⟩
          case measure => simp [intOf]; omega
        · have hd0' : (d == 0) = false := by simpa using hd0
          have hd1' : (d == 1) = false := by simpa using hd1
          obtain ⟨E, hE⟩ : ∃ E : Int, setE N L v m u = E := ⟨_, rfl⟩
          have hEE : (E != E) = false := by simp
          have HL8 := Lib.hid HA1.out.tb.l8
          have hM2 : MemOk N (setL N L v m u) := HA1.out.mem.set v m u
          have HM2 := Lib.hid hM2
          clear hM2
          go_wp2_with fail
          refine (set_all HA1.out.tb v m u).mono ?_
          rw [hE]
          intro e w2 hp
          obtain ⟨rfl, mb2, hA2, hC2⟩ := HA1.out.prog hp
          have HA2 := Lib.hid hA2
          have HX2 := Lib.hid (HX1.out.chg hC2 HNB.out)
          have b0 := HX2.out.cell 0
          have b1 := HX2.out.cell 1
          have b2 := HX2.out.cell 2
          have b3 := HX2.out.cell 3
          have b4 := HX2.out.cell 4
          simp only [List.getElem?_toArray, List.getElem?_cons_zero, List.getElem?_cons_succ] at b0 b1 b2 b3 b4
          clear hp hA2 hC2 HA1 HX1 a0 a1 a2 a3 a4
          go_wp2_with (refine wpList_load_dt 9 rfl (by kernel_rfl) q rfl cs HA2.out.dt.blk HA2.out.dt.v.sz ?_)
          refine (dput_all HA2.out.dt.v HA2.out.el HL8.out HA2.out.tb.n8 v m u).mono ?_
          rw [hE]
          intro e w3 hp
          obtain ⟨cs', A', c', rfl, hsz, hone, hblk, hA3⟩ := HA2.out.doc hp HM2.out
          have HA3 := Lib.hid hA3
          have HK := Lib.hid hblk
          have HS := Lib.hid (And.intro hsz hone)
          have HS2 := Lib.hid HA2.out.dt.v.sz
          clear hp hA3 hblk hsz hone hE b0 b1 b2 b3 b4 HX2 HA2
          go_wp2_with (refine wpList_store_row rfl 36 (.tmp 9) _ rfl q rfl cs' rfl 36 _ HK.out (by rw [HS.out.1]; exact info_rt) (by rw [HS.out.1, HS2.out]) HS.out.2 ?_)
          go_roundw
          case rel => exact ⟨k + 1, by omega, by go_num, Lib.hid ⟨_, _, _, _, _, _, HA3.out⟩⟩
          case measure => simp [intOf]; omega
    · obtain rfl : k = n := by omega
      have HA := Lib.hid hA
      clear hA
      go_upto_region 21 with fail
      have HD := Lib.hid (HA.out.calm (Below.refl _ wr).drew)
      clear HA
      refine wp_region_still_tail 3 (by kernel_rfl) (by kernel_rfl) ?_
      simp only [List.take_succ_cons, List.take_zero, List.drop_succ_cons, List.drop_zero]
      still_step
      refine still_row 36 9 rfl (by kernel_rfl) q rfl 36 _ _ HD.out.dt.blk Try.underlying36 rfl (by rw [HD.out.dt.v.sz]; exact info_rt) ?_
      simp only [Act.put, List.setIfInBounds_toArray, List.set_cons_zero, List.set_cons_succ]
      still_step
      refine wpStill_nil ?_
      change wpList _ _ _ _ _ wr.drew
      go_wp2_with (refine wpList_store_row rfl 36 (.tmp 5) _ rfl r rfl cs rfl 36 _ HD.out.rs (by rw [HD.out.dt.v.sz]; exact info_rt) (by rw [HD.out.dt.v.sz]; rfl) HD.out.dt.v.one ?_)
      have HR := Lib.hid (HD.out.rs.row cs)
      refine bodyPost_ret (v := .tuple #[.pointer (some ⟨t, 0, none⟩), .agg cs, .bool true]) (results_slot_cell_slot Try.results9 _ _ r 36 _ _ rfl HR.out Try.underlying36 rfl (by rw [HD.out.dt.v.sz]; exact info_rt) _ _ rfl rfl) rfl ?_
      have hset : Chg (fun k => k = r) wr.drew (wr.drew.setRow r cs) := (Chg.refl (fun k => k = r) wr.drew).setRow (g := r) (.inr rfl) _
      exact ⟨t, mb, cs, A, c, L, own, rfl, HD.out.tb.chg hset (fun k e e' => by subst e'; exact HD.out.dr e), HD.out.dt.v, els_row HD.out.el HD.out.rs (fun b off e h0 => (HD.out.dis b off e h0).2.2) _, HD.out.mem, below_row HD.out.bl HD.out.br _⟩
end Go.Proofs.Yteiopobkbfancaa
