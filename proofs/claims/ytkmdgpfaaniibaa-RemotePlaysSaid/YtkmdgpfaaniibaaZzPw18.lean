/- Layer 18: RemotePlays's walk. -/
import Derived.Test.YtkmdgpfaaniibaaZzWk18
import Derived.Deep.DeepCutAuto
namespace Go.Proofs.Ytkmdgpfaaniibaa
open Go.RowKit
set_option linter.unusedVariables false
set_option linter.unusedSimpArgs false
set_option maxRecDepth 100000

theorem infoHd : (Try.prog.info? 47).map (fun i => (i.zero, i.size, i.bytes)) = some (some (.agg #[.int .i64 0, .int .u8 0, .bool false, .int .u8 0, .int .u32 0, .int .u16 0, .string ⟨#[]⟩]), 7, 40) := by kernel_rfl
/-- what was heard, as a row of one's own -/
def Oh (w : World) (base : Nat) (v : Value) (L : List Hd) : Prop := w.ownsRow base 47 7 v L.length (L.flatMap hdE)
theorem Oh.keep {w w' : World} {base : Nat} {v : Value} {L : List Hd} (h : Oh w base v L) (hg : ∀ k, base ≤ k → k < w.heap.size → w'.heap[k]? = w.heap[k]?) : Oh w' base v L := by
  refine ⟨h.1, ?_⟩
  rcases h.2 with hn | ⟨g, cap, cur, hv, hb, hgb, rest⟩
  · exact .inl hn
  · exact .inr ⟨g, cap, cur, hv, hb, (hg g hb (Array.getElem?_eq_some_iff.1 hgb).1).trans hgb, rest⟩
set_option maxHeartbeats 8000000 in
theorem plays18_walk {R : World → (Nat → Prop) → Nat → Rm → Prop} (HI : RmI R) (W : World) (o : On) (A B : Option Addr) (ca cb : Nat) (os : List UInt16) (l : List Ac) (hE : Els 1 u16c W A os) (hEl : Els 7 acE W B l) :
    Calls Try.prog 3 #[.agg #[.int .u8 o.lv.toNat, .int .u16 o.me.toNat, .int .u8 o.iv.toNat, .string ⟨o.ma.toArray⟩], .slice A os.length ca, .slice B l.length cb] W fun e w' => e = .returned (.bool true) ∧ Below W.heap.size W w' := by
  have H := Lib.hid HI
  have KWK := Lib.hid (fun w => wakes18 HI w)
  have HB0 : Hid (Below W.heap.size W (W.alloc (.cells #[.int .u8 o.lv.toNat, .int .u16 o.me.toNat, .int .u8 o.iv.toNat, .string ⟨o.ma.toArray⟩] 24))) := Lib.hid ((Below.refl _ _).alloc (Nat.le_refl _) _)
  have HK0 : Hid (Blk (W.alloc (.cells #[.int .u8 o.lv.toNat, .int .u16 o.me.toNat, .int .u8 o.iv.toNat, .string ⟨o.ma.toArray⟩] 24)) W.heap.size 24 #[.int .u8 o.lv.toNat, .int .u16 o.me.toNat, .int .u8 o.iv.toNat, .string ⟨o.ma.toArray⟩]) := Lib.hid (Blk.new _ _ _)
  have HO := Lib.hid hE
  have HE := Lib.hid hEl
  have KG := Lib.hid (fun w (h : Els 7 acE w B l) => great18_any o A B ca cb os l w h)
  obtain ⟨G, hG⟩ : ∃ G, grB o os l = G := ⟨_, rfl⟩
  rw [hG] at KG
  have KOF := Lib.hid (fun w => of18_any o w)
  obtain ⟨mn, hmn⟩ : ∃ v, os.length = v := ⟨_, rfl⟩
  obtain ⟨n, hn⟩ : ∃ v, l.length = v := ⟨_, rfl⟩
  cases G with
  | true =>
    rw [hmn, hn] at KG ⊢
    clear hG hmn hn hE hEl HI
    have k0 := HK0.out.cell 0
    have k1 := HK0.out.cell 1
    have k2 := HK0.out.cell 2
    have k3 := HK0.out.cell 3
    simp only [List.getElem?_toArray, List.getElem?_cons_succ, List.getElem?_cons_zero] at k0 k1 k2 k3
    go_enter Try.func3, Try.ntmps3
    go_wp2_with fail
    refine (KG.out _ (HE.out.next HB0.out)).mono ?_
    rintro r w1 ⟨rfl, hb⟩
    have HB1 : Hid (Below W.heap.size W w1) := Lib.hid (HB0.out.trans (hb.mono HB0.out.size))
    clear hb
    go_wp2_with fail
    refine (KWK.out _).mono ?_
    rintro r w2 ⟨rfl, hb⟩
    have HBz : Hid (Below W.heap.size W w2) := Lib.hid (HB1.out.trans (hb.mono HB1.out.size))
    go_wp2
    go_ret
    exact ⟨rfl, HBz.out⟩
  | false =>
  obtain ⟨g1, g2, g3, g4⟩ := grB_no hG
  have KM := Lib.hid (fun w (h : Els 1 u16c w A os) => may18_any o A ca os w (by omega) h)
  obtain ⟨M, hM⟩ : ∃ M, rmMay o os = M := ⟨_, rfl⟩
  rw [hM] at KM
  cases M with
  | false =>
    have KN := Lib.hid (fun w (h : Els 1 u16c w A os) => HI.bad o A ca os w hM (by omega) (by omega) h)
    rw [hmn, hn] at KG ⊢
    rw [hmn] at KN KM
    clear hG hmn hn hE hEl HI g1 g2 g3 g4 hM
    have k0 := HK0.out.cell 0
    have k1 := HK0.out.cell 1
    have k2 := HK0.out.cell 2
    have k3 := HK0.out.cell 3
    simp only [List.getElem?_toArray, List.getElem?_cons_succ, List.getElem?_cons_zero] at k0 k1 k2 k3
    go_enter Try.func3, Try.ntmps3
    go_wp2_with fail
    refine (KG.out _ (HE.out.next HB0.out)).mono ?_
    rintro r w1 ⟨rfl, hb⟩
    have HB1 : Hid (Below W.heap.size W w1) := Lib.hid (HB0.out.trans (hb.mono HB0.out.size))
    have HK1 := Lib.hid (HK0.out.below hb HK0.out.lt)
    clear hb k0 k1 k2 k3 HB0 HK0
    have k0 := HK1.out.cell 0
    have k1 := HK1.out.cell 1
    have k2 := HK1.out.cell 2
    have k3 := HK1.out.cell 3
    simp only [List.getElem?_toArray, List.getElem?_cons_succ, List.getElem?_cons_zero] at k0 k1 k2 k3
    go_wp2_with fail
    refine (KOF.out _).mono ?_
    rintro r w2 ⟨rfl, hb⟩
    have HB2 : Hid (Below W.heap.size W w2) := Lib.hid (HB1.out.trans (hb.mono HB1.out.size))
    have HK2 := Lib.hid (HK1.out.below hb HK1.out.lt)
    clear hb k0 k1 k2 k3 HB1 HK1
    go_wp2_with fail
    refine (KN.out _ (HO.out.next HB2.out)).mono ?_
    rintro r w3 ⟨rfl, hb⟩
    have HB3 : Hid (Below W.heap.size W w3) := Lib.hid (HB2.out.trans (hb.mono HB2.out.size))
    have HK3 := Lib.hid (HK2.out.below hb HK2.out.lt)
    clear hb HB2 HK2
    have k0 := HK3.out.cell 0
    have k1 := HK3.out.cell 1
    have k2 := HK3.out.cell 2
    have k3 := HK3.out.cell 3
    simp only [List.getElem?_toArray, List.getElem?_cons_succ, List.getElem?_cons_zero] at k0 k1 k2 k3
    go_wp2_with fail
    refine (KM.out _ (HO.out.next HB3.out)).mono ?_
    rintro r w4 ⟨rfl, hb⟩
    have HB4 : Hid (Below W.heap.size W w4) := Lib.hid (HB3.out.trans (hb.mono HB3.out.size))
    clear hb HB3 HK3 k0 k1 k2 k3
    go_wp2_with fail
    refine (KWK.out _).mono ?_
    rintro r w5 ⟨rfl, hb⟩
    have HBz : Hid (Below W.heap.size W w5) := Lib.hid (HB4.out.trans (hb.mono HB4.out.size))
    go_wp2
    go_ret
    exact ⟨rfl, HBz.out⟩
  | true =>
  have KN := Lib.hid (fun w (h : Els 1 u16c w A os) => HI.new o A ca os w hM h)
  have KR := Lib.hid (fun w (h : Els 1 u16c w A os) => rising18_any A ca os w (by omega) h)
  have hml := rmMay_is hM
  have hrl : (risen os).length ≤ 1000 := by rw [risen_len hml.2.2.2 (fun x hx => by have := (hml.2.2.1 x hx).2.1; omega)]; omega
  have HRL := Lib.hid hrl
  obtain ⟨i0, hi⟩ := info_parts18 infoHd
  have HIT := Lib.hid hi
  have H4 := Lib.hid g4
  have HN := Lib.hid hn
  have hn150 : n ≤ 150 := by omega
  have HN150 := Lib.hid hn150
  have hn150i : (n : Int) ≤ 150 := by omega
  obtain ⟨rl, hrr⟩ : ∃ v, (risen os).length = v := ⟨_, rfl⟩
  rw [hmn, hn] at KG ⊢
  rw [hmn] at KN KM KR
  rw [hrr] at KR
  have HRR := Lib.hid hrr
  clear hG hmn hn hE hEl HI g1 g2 g3 g4 hM hml hrl hi hn150 hrr
  have k0 := HK0.out.cell 0
  have k1 := HK0.out.cell 1
  have k2 := HK0.out.cell 2
  have k3 := HK0.out.cell 3
  simp only [List.getElem?_toArray, List.getElem?_cons_succ, List.getElem?_cons_zero] at k0 k1 k2 k3
  go_enter Try.func3, Try.ntmps3
  go_wp2_with fail
  refine (KG.out _ (HE.out.next HB0.out)).mono ?_
  rintro r w1 ⟨rfl, hb⟩
  have HB1 : Hid (Below W.heap.size W w1) := Lib.hid (HB0.out.trans (hb.mono HB0.out.size))
  have HK1 := Lib.hid (HK0.out.below hb HK0.out.lt)
  clear hb k0 k1 k2 k3 HB0 HK0
  have k0 := HK1.out.cell 0
  have k1 := HK1.out.cell 1
  have k2 := HK1.out.cell 2
  have k3 := HK1.out.cell 3
  simp only [List.getElem?_toArray, List.getElem?_cons_succ, List.getElem?_cons_zero] at k0 k1 k2 k3
  go_wp2_with fail
  refine (KOF.out _).mono ?_
  rintro r w2 ⟨rfl, hb⟩
  have HB2 : Hid (Below W.heap.size W w2) := Lib.hid (HB1.out.trans (hb.mono HB1.out.size))
  have HK2 := Lib.hid (HK1.out.below hb HK1.out.lt)
  clear hb k0 k1 k2 k3 HB1 HK1
  go_wp2_with fail
  refine (KN.out _ (HO.out.next HB2.out)).mono ?_
  rintro r w3 ⟨b, S, rfl, hR, hS, hb⟩
  have HB3 : Hid (Below W.heap.size W w3) := Lib.hid (HB2.out.trans (hb.mono HB2.out.size))
  have HK3 := Lib.hid (HK2.out.below hb HK2.out.lt)
  have HS : Hid (∀ k, S k → w2.heap.size ≤ k) := Lib.hid hS
  have HW2 : Hid (W.heap.size < w2.heap.size) := Lib.hid HK2.out.lt
  have HR3 := Lib.hid hR
  clear hb HB2 HK2 hR hS
  have k0 := HK3.out.cell 0
  have k1 := HK3.out.cell 1
  have k2 := HK3.out.cell 2
  have k3 := HK3.out.cell 3
  simp only [List.getElem?_toArray, List.getElem?_cons_succ, List.getElem?_cons_zero] at k0 k1 k2 k3
  go_wp2_with fail
  refine (KM.out _ (HO.out.next HB3.out)).mono ?_
  rintro r w4 ⟨rfl, hb⟩
  have HB4 : Hid (Below W.heap.size W w4) := Lib.hid (HB3.out.trans (hb.mono HB3.out.size))
  have HK4 := Lib.hid (HK3.out.below hb HK3.out.lt)
  have HR4 := Lib.hid (H.out.after HR3.out hb)
  clear hb HB3 HK3 HR3 k0 k1 k2 k3
  go_wp2_with fail
  refine (KR.out _ (HO.out.next HB4.out)).mono ?_
  rintro r wz ⟨D, cd, rfl, hE, hf, hb⟩
  have HB5 : Hid (Below W.heap.size W wz) := Lib.hid (HB4.out.trans (hb.mono HB4.out.size))
  have HK5 := Lib.hid (HK4.out.below hb HK4.out.lt)
  have HR5 := Lib.hid (H.out.after HR4.out hb)
  have HD5 := Lib.hid hE
  have HDS : Hid (∀ a, D = some a → ¬ S a.block) := Lib.hid (fun a ha hs => by have := hf a ha; have := H.out.inn _ _ _ _ HR4.out _ hs; omega)
  have HIN : Hid (∀ k, S k → k < wz.heap.size) := Lib.hid (H.out.inn _ _ _ _ HR5.out)
  have HSW : Hid (∀ k, S k → W.heap.size ≤ k) := Lib.hid (fun k hk => by have := HS.out k hk; have := HW2.out; omega)
  have HSN : Hid (¬ S W.heap.size) := Lib.hid (fun hs => by have := HS.out _ hs; have := HW2.out; omega)
  clear hb hE hf HB4 HK4 HR4 HS HW2
  go_wp2
  go_loopw [12, 10, 11] (fun i v now wr => ∃ (k tm : Nat) (L : List Hd) (m : Rm), k ≤ n ∧ i = .int .i64 k ∧ now = .int .i64 tm ∧ Hid (tm ≤ k ∧ L.length ≤ k ∧ ∀ e ∈ L, e.2.a.length ≤ 100) ∧ Hid (Oh wr wz.heap.size v L) ∧ Hid (RmIs o (risen os) L tm m) ∧ Hid (R wr S b m) ∧ Hid (Chg S wz wr)) (fun i _ _ _ => n - (intOf i).toNat)
  case atStart => exact ⟨0, 0, [], rmNew o (risen os), Nat.zero_le _, rfl, rfl, Lib.hid ⟨Nat.le_refl _, Nat.le_refl _, fun e he => absurd he (by simp)⟩, Lib.hid (World.ownsRow_nil _ _ _ _), Lib.hid (RmIs.new o (risen os)), HR5, Lib.hid (Chg.refl _ _)⟩
  case round =>
    obtain ⟨k, tm, L, m, hk, rfl, rfl, HQ, HOH, HIS, HR, HC⟩ := hrel
    clear HR5
    have HB : Hid (Below W.heap.size W wr) := Lib.hid (chg_from18 HB5.out HSW.out HC.out)
    have HK := Lib.hid (HK5.out.chg HC.out HSN.out)
    by_cases hlt : k < n
    · obtain ⟨x, hx⟩ : ∃ x, l[k]? = some x := ⟨_, List.getElem?_eq_getElem (by rw [HN.out]; exact hlt)⟩
      have hki : (k : Int) < n := by omega
      obtain ⟨b1, o1, rfl, hb1, c0, c1, c2, c3, c4, c5, c6⟩ := ac_at (HE.out.next HB.out) hx
      have HX := Lib.hid hx
      have HLT := Lib.hid hlt
      have hxa := H4.out x (List.mem_of_getElem? hx)
      clear hx hlt
      by_cases h0 : x.1 = 0
      · have d0 : ((x.1.toNat : Int) == 0) = true := by rw [h0]; rfl
        have d1 : (x.1.toNat : Int) = 0 := by rw [h0]; rfl
        clear h0
        go_wp2_with fail
        refine (H.out.tick _ _ _ _ HR.out).mono ?_
        rintro r w6 ⟨rfl, hR, hc⟩
        have HR6 := Lib.hid hR
        have HC6 := Lib.hid (HC.out.trans hc)
        have HOH6 : Hid (Oh w6 wz.heap.size _ L) := Lib.hid (HOH.out.keep (fun k hb hk => hc.block k hk (fun hs => by have := HIN.out k hs; omega)))
        have HIS6 := Lib.hid HIS.out.tick
        have HB6 : Hid (Below W.heap.size W w6) := Lib.hid (chg_from18 HB5.out HSW.out HC6.out)
        have HK6 := Lib.hid (HK5.out.chg HC6.out HSN.out)
        have hQ := HQ.out
        have htm : tm ≤ k := hQ.1
        have HKN := Lib.hid (show k < n from HLT.out)
        have htmi : (tm : Int) ≤ (k : Int) := by omega
        clear hR hc HR HC HOH HIS HB HK c0 c1 c2 c3 c4 c5 c6 d0 d1 hxa hQ
        obtain ⟨Ah, ch, rfl, hEh, _, _, _⟩ := own_fullL hdE_len HOH6.out
        have KT := Lib.hid (tells18_any H.out o D Ah cd ch (risen os) L (tm + 1) (rmTick m) S b w6 HIS6.out HR6.out HRL.out (by have := HQ.out; have := HN150.out; omega) (by have := HN150.out; omega) (fun e he => by have := HQ.out.2.2 e he; omega) (elsL_chg HD5.out HC6.out HDS.out) hEh)
        rw [HRR.out] at KT
        clear hEh htm
        obtain ⟨ll, hll⟩ : ∃ v, L.length = v := ⟨_, rfl⟩
        rw [hll] at KT
        rw [hll]
        have k0 := HK6.out.cell 0
        have k1 := HK6.out.cell 1
        have k2 := HK6.out.cell 2
        have k3 := HK6.out.cell 3
        simp only [List.getElem?_toArray, List.getElem?_cons_succ, List.getElem?_cons_zero] at k0 k1 k2 k3
        go_wp2_with fail
        refine (KT.out).mono ?_
        rintro r w7 ⟨rfl, hR, hb⟩
        have HR7 := Lib.hid hR
        have HC7 := Lib.hid (HC6.out.trans (Chg.of_below hb))
        have HOH7 : Hid (Oh w7 wz.heap.size (.slice Ah ll ch) L) := Lib.hid (by rw [← hll]; exact HOH6.out.keep (fun k _ hk => hb.block k hk))
        clear hR hb HR6 HC6 HOH6 HB6 HK6 k0 k1 k2 k3 hll KT
        go_wp2
        go_roundw
        case rel => exact ⟨k + 1, tm + 1, L, rmTick m, by have := HLT.out; omega, by go_num, by go_num, Lib.hid ⟨by have := HQ.out.1; omega, by have := HQ.out.2.1; omega, HQ.out.2.2⟩, HOH7, HIS6, HR7, HC7⟩
        case measure => have := HLT.out; simp [intOf]; omega
      · have d0 : ((x.1.toNat : Int) == 0) = false := by
          rw [beq_eq_false_iff_ne]
          intro e
          exact h0 (UInt8.toNat_inj.1 (by simpa using (by omega : x.1.toNat = 0)))
        have d1 : ¬ (x.1.toNat : Int) = 0 := by
          intro e
          exact h0 (UInt8.toNat_inj.1 (by simpa using (by omega : x.1.toNat = 0)))
        clear h0
        go_wp2_with fail
        refine (check18_any x.2 _).mono ?_
        rintro r w5 ⟨rfl, hb⟩
        have HR5 := Lib.hid (H.out.after HR.out hb)
        have HC5 := Lib.hid (HC.out.trans (Chg.of_below hb))
        have HOH5 : Hid (Oh w5 wz.heap.size _ L) := Lib.hid (HOH.out.keep (fun k _ hk => hb.block k hk))
        clear hb HR HC HOH HB HK c0 c1 c2 c3 c4 c5 c6 d0 d1
        go_wp2_with fail
        refine (H.out.hear _ _ _ _ x.2 HR5.out (by omega)).mono ?_
        rintro r w6 ⟨rfl, hR, hc⟩
        have HR6 := Lib.hid hR
        have HC6 := Lib.hid (HC5.out.trans hc)
        have HOH6 : Hid (Oh w6 wz.heap.size _ L) := Lib.hid (HOH5.out.keep (fun k hb hk => hc.block k hk (fun hs => by have := HIN.out k hs; omega)))
        have HIS6 := Lib.hid (HIS.out.hear x.2)
        have HB6 : Hid (Below W.heap.size W w6) := Lib.hid (chg_from18 HB5.out HSW.out HC6.out)
        clear hR hc HR5 HC5 HOH5 HIS
        obtain ⟨b2, o2, hA2, hb2, c0, c1, c2, c3, c4, c5, c6⟩ := ac_at (HE.out.next HB6.out) HX.out
        cases hA2
        have hll1 : L.length ≤ 150 := by have := HQ.out.2.1; have := HN150.out; have := HLT.out; omega
        have HLL1 := Lib.hid hll1
        have HXA := Lib.hid hxa
        have hszw : wz.heap.size ≤ w6.heap.size := HC6.out.size
        have HSZ := Lib.hid hszw
        clear hll1 hxa hszw
        go_wp2_with (at_builtin; refine wpl_appL rfl (.tmp 70) (.tmp 78) _ rfl hdE_len hdE_one (by decide) wz.heap.size _ i0 _ 40 Try.underlying37 HIT.out rfl _ L rfl (World.ownsRow.alloc HOH6.out _) (some ⟨w6.heap.size, 0, none⟩) 1 1 [(tm, x.2)] rfl rfl (fun e => by cases e) (els_one18 w6 _ (tm, x.2) _ rfl) (by have := HLL1.out; simp; omega) (by decide) (by have := HSZ.out; simp; omega) ?_)
        intro v7 w7 ho7 hg7 _
        have HOH7 : Hid (Oh w7 wz.heap.size v7 (L ++ [(tm, x.2)])) := Lib.hid (by unfold Oh; simpa using ho7)
        have hgr : Chg (fun k => wz.heap.size ≤ k) w6 w7 := ((Chg.refl _ w6).alloc _).trans (Chg.of_grown hg7 (fun k hk => .inr (World.ownsRow.lt HOH6.out k hk).1))
        have HR7 := Lib.hid (H.out.next _ _ _ _ _ _ HR6.out hgr (fun k hs => by have := HIN.out k hs; omega))
        have HC7 : Hid (Chg S wz w7) := Lib.hid ⟨hgr.os.trans HC6.out.os, hgr.tape.trans HC6.out.tape, hgr.output.trans HC6.out.output, Nat.le_trans HC6.out.size hgr.size, fun k hk hs => (hgr.block k (Nat.lt_of_lt_of_le hk HC6.out.size) (by omega)).trans (HC6.out.block k hk hs)⟩
        have HB7 : Hid (Below W.heap.size W w7) := Lib.hid (chg_from18 HB5.out HSW.out HC7.out)
        have HK7 := Lib.hid (HK5.out.chg HC7.out HSN.out)
        clear ho7 hg7 hgr HR6 HC6 HOH6 HB6 c0 c1 c2 c3 c4 c5 c6
        obtain ⟨Ah, ch, rfl, hEh, _, _, _⟩ := own_fullL hdE_len HOH7.out
        have KT := Lib.hid (tells18_any H.out o D Ah cd ch (risen os) (L ++ [(tm, x.2)]) tm (rmHear m x.2) S b w7 HIS6.out HR7.out HRL.out (by have := HLL1.out; simp; omega) (by have := HQ.out.1; have := HN150.out; have := HLT.out; omega) (fun e he => by
          rcases List.mem_append.1 he with h | h
          · have := HQ.out.2.2 e h; omega
          · rw [List.mem_singleton.1 h]; have := HXA.out; simp; omega) (elsL_chg HD5.out HC7.out HDS.out) hEh)
        rw [HRR.out] at KT
        clear hEh
        obtain ⟨L2, hL2⟩ : ∃ v, L ++ [(tm, x.2)] = v := ⟨_, rfl⟩
        obtain ⟨ll, hll⟩ : ∃ v, L2.length = v := ⟨_, rfl⟩
        have HL2 := Lib.hid hL2
        rw [hL2, hll] at KT
        rw [hL2] at HOH7 HIS6
        rw [hL2, hll]
        clear hL2
        have k0 := HK7.out.cell 0
        have k1 := HK7.out.cell 1
        have k2 := HK7.out.cell 2
        have k3 := HK7.out.cell 3
        simp only [List.getElem?_toArray, List.getElem?_cons_succ, List.getElem?_cons_zero] at k0 k1 k2 k3
        go_wp2_with fail
        refine (KT.out).mono ?_
        rintro r w8 ⟨rfl, hR, hb⟩
        have HR8 := Lib.hid hR
        have HC8 := Lib.hid (HC7.out.trans (Chg.of_below hb))
        have HOH8 : Hid (Oh w8 wz.heap.size (.slice Ah ll ch) L2) := Lib.hid (by rw [← hll]; rw [hll] at HOH7; exact hll ▸ HOH7.out.keep (fun k _ hk => hb.block k hk))
        have HLL : Hid (L2.length ≤ k + 1 ∧ ∀ e ∈ L2, e.2.a.length ≤ 100) := Lib.hid (by
          rw [← HL2.out]
          refine ⟨by have := HQ.out.2.1; simp; omega, fun e he => ?_⟩
          rcases List.mem_append.1 he with h | h
          · exact HQ.out.2.2 e h
          · rw [List.mem_singleton.1 h]; exact HXA.out)
        clear hR hb HR7 HC7 HOH7 HB7 HK7 k0 k1 k2 k3 hll KT
        go_wp2
        go_roundw
        case rel => exact ⟨k + 1, tm, L2, rmHear m x.2, by have := HLT.out; omega, by go_num, rfl, Lib.hid ⟨by have := HQ.out.1; omega, HLL.out.1, HLL.out.2⟩, HOH8, HIS6, HR8, HC8⟩
        case measure => have := HLT.out; simp [intOf]; omega
    · obtain rfl : k = n := by omega
      obtain ⟨Ah, ch, rfl, hEh, _, _, _⟩ := own_fullL hdE_len HOH.out
      have KT := Lib.hid (tells18_any H.out o D Ah cd ch (risen os) L tm m S b wr HIS.out HR.out HRL.out (by have := HQ.out; have := HN150.out; omega) (by have := HQ.out; have := HN150.out; omega) (fun e he => by have := HQ.out.2.2 e he; omega) (elsL_chg HD5.out HC.out HDS.out) hEh)
      rw [HRR.out] at KT
      clear hEh
      obtain ⟨ll, hll⟩ : ∃ v, L.length = v := ⟨_, rfl⟩
      rw [hll] at KT
      rw [hll]
      clear hll HOH
      have k0 := HK.out.cell 0
      have k1 := HK.out.cell 1
      have k2 := HK.out.cell 2
      have k3 := HK.out.cell 3
      simp only [List.getElem?_toArray, List.getElem?_cons_succ, List.getElem?_cons_zero] at k0 k1 k2 k3
      go_wp2_with fail
      refine (KT.out).mono ?_
      rintro r w7 ⟨rfl, hR, hb⟩
      have HB7 : Hid (Below W.heap.size W w7) := Lib.hid (HB.out.trans (hb.mono HB.out.size))
      clear hR hb k0 k1 k2 k3 KT
      go_wp2_with fail
      refine (KWK.out _).mono ?_
      rintro r w8 ⟨rfl, hb⟩
      have HBz : Hid (Below W.heap.size W w8) := Lib.hid (HB7.out.trans (hb.mono HB7.out.size))
      go_wp2
      go_ret
      exact ⟨rfl, HBz.out⟩
end Go.Proofs.Ytkmdgpfaaniibaa
