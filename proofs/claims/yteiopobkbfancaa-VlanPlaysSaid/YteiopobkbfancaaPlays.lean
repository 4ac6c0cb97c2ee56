/- VlanPlays: a table of any ports behind any acts, as the document says. -/
import Derived.Test.YteiopobkbfancaaKit8
import Derived.BigGuard
import Derived.BigQuiet
import Derived.Deep.QuietTactic
import Derived.Deep.DeepCutAuto
import Derived.Deep.CutBlock
import Derived.StillTailTactics
import Derived.OpenShut
import Derived.ShutString
import Derived.ChangeOld
namespace Go.Proofs.Yteiopobkbfancaa.vlanPlays
open Go.Shelf
open Go.Sort (grow)
open Go.ChangeShapes Go.WideShapes Go.ChangeAt Go.RowKit
open Go.ChangeMaps (open_string shut_string)
set_option linter.unusedVariables false
set_option linter.unusedSimpArgs false
set_option maxRecDepth 100000


theorem eqSame (f : Fr) (W : World) : (Op.equalIn 10000 27 (FV f) (FV f)).run Try.prog W = .ok true W := by
  have := run_eqF f f W
  rw [Fr.same_self] at this
  exact this

set_option maxRecDepth 100000 in
set_option maxHeartbeats 4000000 in
theorem plays_law (W : World) (n : Int) (Aa : Option Addr) (ca : Nat) (l : List Ac) (p : UInt8) (v : UInt16) (f : Fr) (hE : Els 5 encA W Aa l) : Calls Try.prog 3 #[.int .i64 n, .slice Aa l.length ca, .int .u8 p.toNat, .int .u16 v.toNat, FV f] W fun e w' => e = .returned (.bool true) ∧ Below W.heap.size W w' := by
  obtain ⟨w1, hw1⟩ : ∃ w1, W.alloc (.cells #[.int .u8 f.d0.toNat, .int .u8 f.d1.toNat, .int .u8 f.d2.toNat, .int .u8 f.d3.toNat, .int .u8 f.d4.toNat, .int .u8 f.d5.toNat, .int .u8 f.s0.toNat, .int .u8 f.s1.toNat, .int .u8 f.s2.toNat, .int .u8 f.s3.toNat, .int .u8 f.s4.toNat, .int .u8 f.s5.toNat, .bool f.tag, .int .u8 f.pri.toNat, .int .u16 f.vid.toNat, .int .u16 f.ty.toNat, .string ⟨f.data.toArray⟩] 27) = w1 := ⟨_, rfl⟩
  obtain ⟨g, hg⟩ : ∃ g, W.heap.size = g := ⟨_, rfl⟩
  have HF1 := Lib.hid (show FrA w1 g f by rw [← hw1, ← hg]; exact FrA.new W f)
  have HB1 := Lib.hid (show Below W.heap.size W w1 by rw [← hw1]; exact (Below.refl W.heap.size W).alloc (Nat.le_refl _) _)
  have HEl := Lib.hid (show Els 5 encA w1 Aa l by rw [← hw1]; exact hE.next ((Below.refl _ W).alloc (Nat.le_refl _) _))
  have c16 := HF1.out.cells.c16
  obtain ⟨m, hm⟩ : ∃ m, l.length = m := ⟨_, rfl⟩
  have HN := Lib.hid hm
  rw [hm]
  clear hm hE
  go_enter Try.func3, Try.ntmps3
  go_upto_region 1 with fail
  clear hw1 hg
  by_cases hl : 100 < m
  · have hl' : (100 : Int) < (m : Int) := by omega
    clear c16
    go_wp2_with fail
    all_goals (
      refine (wakes_any _).mono ?_
      rintro e w9 ⟨rfl, hb⟩
      have HB9 : Hid (Below W.heap.size W w9) := Lib.hid (HB1.out.trans (hb.mono HB1.out.size))
      clear hb
      go_wp2
      go_ret
      exact ⟨rfl, HB9.out⟩)
  have hl' : ¬ (100 : Int) < (m : Int) := by omega
  by_cases hd : 2000 < f.data.length
  · have hdd : (2000 : Int) < ((⟨f.data.toArray⟩ : ByteArray).size : Int) := by
      rw [show (⟨f.data.toArray⟩ : ByteArray).size = f.data.length by simp [ByteArray.size]]
      omega
    obtain ⟨D, hD⟩ : ∃ D : ByteArray, (⟨f.data.toArray⟩ : ByteArray) = D := ⟨_, rfl⟩
    rw [hD] at c16 hdd
    clear hd hD
    go_wp2_with fail
    refine (wakes_any _).mono ?_
    rintro e w9 ⟨rfl, hb⟩
    have HB9 : Hid (Below W.heap.size W w9) := Lib.hid (HB1.out.trans (hb.mono HB1.out.size))
    clear hb
    go_wp2
    go_ret
    exact ⟨rfl, HB9.out⟩
  have hdd : ¬ (2000 : Int) < ((⟨f.data.toArray⟩ : ByteArray).size : Int) := by
    rw [show (⟨f.data.toArray⟩ : ByteArray).size = f.data.length by simp [ByteArray.size]]
    omega
  have HDL : Hid (f.data.length ≤ 8388000) := Lib.hid (by omega)
  obtain ⟨D, hD⟩ : ∃ D : ByteArray, (⟨f.data.toArray⟩ : ByteArray) = D := ⟨_, rfl⟩
  rw [hD] at c16 hdd
  clear hd hD
  by_cases hlo : n < 1
  · have HNo := Lib.hid (@new_no w1 n (.inl hlo))
    go_wp2_with fail
    refine HNo.out.mono ?_
    rintro e w2 ⟨rfl, rfl⟩
    clear HNo
    go_wp2_with fail
    refine (wakes_any _).mono ?_
    rintro e w9 ⟨rfl, hb⟩
    have HB9 : Hid (Below W.heap.size W w9) := Lib.hid (HB1.out.trans (hb.mono HB1.out.size))
    clear hb
    go_wp2
    go_ret
    exact ⟨rfl, HB9.out⟩
  by_cases hhi : 8 < n
  · have HNo := Lib.hid (@new_no w1 n (.inr hhi))
    go_wp2_with fail
    refine HNo.out.mono ?_
    rintro e w2 ⟨rfl, rfl⟩
    clear HNo
    go_wp2_with fail
    refine (wakes_any _).mono ?_
    rintro e w9 ⟨rfl, hb⟩
    have HB9 : Hid (Below W.heap.size W w9) := Lib.hid (HB1.out.trans (hb.mono HB1.out.size))
    clear hb
    go_wp2
    go_ret
    exact ⟨rfl, HB9.out⟩
  obtain ⟨N, rfl⟩ : ∃ N : Nat, n = N := ⟨n.toNat, by omega⟩
  have HN18 : Hid (1 ≤ N ∧ N ≤ 8) := Lib.hid ⟨by omega, by omega⟩
  have HAF := Lib.hid (after_any N HN18.out.1 HN18.out.2 (ca := ca) (by rw [HN.out]; omega) HEl.out)
  rw [HN.out] at HAF
  go_wp2_with fail
  refine HAF.out.mono ?_
  clear HAF hl hl' c16 hdd HEl hlo hhi
  intro e w2 hp
  obtain ⟨t, mb, cs, A, c, L, own, rfl, hT, hD, hEl, hM, hb⟩ := hp
  have HD := Lib.hid (And.intro hD.sz hD.one)
  have HV := Lib.hid hD
  have HM := Lib.hid hM
  have HRL := Lib.hid (And.intro hT.ris hT.l8)
  have HT2 := Lib.hid hT
  have HE2 := Lib.hid hEl
  have HF2 := Lib.hid (HF1.out.next hb)
  have HB2 := Lib.hid (HB1.out.trans (hb.mono HB1.out.size))
  clear hT hD hEl hM hb HF1 HB1
  go_upto_region 7 with (refine wpList_store_row rfl 36 (.tmp 14) _ rfl w2.heap.size rfl cs rfl 36 _ (Blk.new w2 _ _) (by rw [HD.out.1]; exact info_rt) (by rw [HD.out.1]; rfl) HD.out.2 ?_)
  obtain ⟨w3, hw3⟩ : ∃ w3, (w2.alloc (.cells #[.int .i64 0, .slice none 0 0, .int .u16 0, .int .u16 0, .int .u16 0, .int .u16 0, .int .u16 0, .int .u16 0, .int .u16 0, .int .u16 0] 36)).setRow w2.heap.size cs = w3 := ⟨_, rfl⟩
  obtain ⟨q, hq⟩ : ∃ q, w2.heap.size = q := ⟨_, rfl⟩
  have HB3 := Lib.hid (show Below w2.heap.size w2 w3 by
    rw [← hw3]
    exact below_row ((Below.refl _ w2).alloc (Nat.le_refl _) _) (Nat.le_refl _) _)
  have HA3 := Lib.hid (show PlS W t mb N L own q cs A c g f w3 from
    ⟨HT2.out.next HB3.out, ⟨by rw [← hw3, ← hq]; exact (Blk.new w2 _ _).row cs, HV.out⟩, HE2.out.next HB3.out, HF2.out.next HB3.out, HB2.out.trans (HB3.out.mono HB2.out.size)⟩)
  rw [hw3, hq]
  clear hw3 hq HB3 HT2 HE2 HF2 HB2 HD
  go_wp2_with fail
  refine (vlans_any HA3.out.tb).mono ?_
  rintro e w5 ⟨A2, c2, rfl, hEl, _, hb⟩
  have HA5 : Hid (Pl2 W t mb N L own q cs A c g f A2 w5) := Lib.hid ⟨HA3.out.calm hb, hEl⟩
  clear hEl hb HA3
  obtain ⟨n2, hn2⟩ : ∃ n2, L.length = n2 := ⟨_, rfl⟩
  have HN2 := Lib.hid hn2
  rw [hn2]
  clear hn2
  have mixed : Try.prog.follows .mixedOrders = true := by kernel_rfl
  have c1 := HA5.out.a.dt.c1
  rw [HN2.out] at c1
  have g1 := fun n os => cell_gr c1 n os
  have kA := fun n os => members_grow (w := grow (w5.drewN n) os) ((HA5.out.calm (Gro.of_grow n os).below).a.tb) v
  have kB := fun n os => dmem_grow (w := grow (w5.drewN n) os) HV.out ((HA5.out.calm (Gro.of_grow n os).below).a.el) (Nat.le_trans HRL.out.2 (by decide)) v
  go_wp2_with fail
  refine wp_region_quiet_grown mixed (by kernel_rfl) ?_
  repeat (first | go_big_quiet_step ((go_at_call 11; exact Calls.grown_of (kA _ _))) | quiet_step ((go_at_call 11; exact Calls.grown_of (kA _ _))))
  refine wpQuiet_step (fun K hK => ?_)
  rw [if_pos (by kernel_rfl)]
  refine quiet_row 36 14 rfl q rfl 36 cs _ (by rintro w ⟨a, rfl⟩; exact (HA5.out.calm (Gro.of_grow a.n a.os).below).a.dt.blk) Try.underlying36 rfl (by rw [HV.out.sz]; exact info_rt) ?_
  go_simp
  refine hK _ ?_
  clear hK K
  repeat (first | go_big_quiet_step ((go_at_call 12; exact Calls.grown_of (kB _ _))) | quiet_step ((go_at_call 12; exact Calls.grown_of (kB _ _))))
  refine wpQuiet_nil ?_
  intro _ hw'
  obtain ⟨⟨nq, osq⟩, hw''⟩ := hw'
  subst hw''
  have HA6 : Hid (Pl2 W t mb N L own q cs A c g f A2 (grow (w5.drewN nq) osq)) := Lib.hid (HA5.out.calm (Gro.of_grow nq osq).below)
  clear c1 g1 kA kB HA5
  generalize grow (w5.drewN nq) osq = w6 at *
  go_wp2_with fail
  go_loopw [17] (fun i wr => ∃ k : Nat, k ≤ n2 ∧ i = .int .i64 k ∧ Hid (Pl2 W t mb N L own q cs A c g f A2 wr)) (fun i _ => n2 - (intOf i).toNat)
  case atStart => exact ⟨0, Nat.zero_le _, rfl, HA6⟩
  case round =>
    clear HA6
    obtain ⟨k, hk, rfl, HK⟩ := hrel
    by_cases hlt : k < n2
    · as_aux_lemma =>
        obtain ⟨x, hx⟩ : ∃ x, L[k]? = some x := ⟨_, List.getElem?_eq_getElem (by rw [HN2.out]; exact hlt)⟩
        obtain ⟨b, off, rfl, _, e0⟩ := els_k HK.out.b hx
        obtain ⟨b2, off2, rfl, _, e1, e2, _⟩ := els_vn HK.out.a.el hx
        have c1 := HK.out.a.dt.c1
        rw [HN2.out] at c1
        have hkn : (k : Int) < n2 := by omega
        have HVM := Lib.hid (vm_at HRL.out.1 hx)
        have hn8 : n2 ≤ 8 := by have := HRL.out.2; rw [HN2.out] at this; exact this
        have g1 := fun n os => cell_gr c1 n os
        have g2 := fun n os => cell_gr e0 n os
        have g3 := fun n os => cell_gr e1 n os
        have g4 := fun n os => cell_gr e2 n os
        have kL : ∀ n os, Calls Try.prog 11 #[.pointer (some ⟨t, 0, none⟩), .int .u16 x.v.toNat] (grow (wr.drewN n) os) fun e w' => e = .returned (.int .u8 x.m.toNat) ∧ ∃ q os', w' = grow ((grow (wr.drewN n) os).drewN q) os' := fun n os => by
          have := members_grow (w := grow (wr.drewN n) os) ((HK.out.calm (Gro.of_grow n os).below).a.tb) x.v
          rw [HVM.out] at this
          exact this
        clear hx c1 e0 e1 e2
        go_wp2_with fail
        refine wp_region_quiet_grown mixed (by kernel_rfl) ?_
        repeat (first | go_big_quiet_step ((go_at_call 11; exact Calls.grown_of (kL _ _))) | quiet_step ((go_at_call 11; exact Calls.grown_of (kL _ _))))
        refine wpQuiet_nil ?_
        intro _ hw'
        obtain ⟨⟨nq, osq⟩, hw''⟩ := hw'
        subst hw''
        have HK3 : Hid (Pl2 W t mb N L own q cs (some ⟨b2, off2, none⟩) c g f (some ⟨b, off, none⟩) (grow (wr.drewN nq) osq)) := Lib.hid (HK.out.calm (Gro.of_grow nq osq).below)
        clear g1 g2 g3 g4 kL HK
        generalize grow (wr.drewN nq) osq = wg at *
        go_wp2_with fail
        go_roundw
        case rel => exact ⟨k + 1, by omega, by go_num, HK3⟩
        case measure => simp [intOf]; omega
    · obtain rfl : k = n2 := by omega
      clear hk hlt
      obtain ⟨V, hV⟩ : ∃ V, vinV N L own p f = V := ⟨_, rfl⟩
      obtain ⟨B, hB⟩ : ∃ B, vinB N L own p f = B := ⟨_, rfl⟩
      obtain ⟨fo, hfo⟩ : ∃ fo, voutF L p v f = fo := ⟨_, rfl⟩
      obtain ⟨bo, hbo⟩ : ∃ bo, voutB L p v f = bo := ⟨_, rfl⟩
      have HIn := Lib.hid (And.intro hV hB)
      have HOut := Lib.hid (And.intro hfo hbo)
      clear hV hB hfo hbo
      have HCI := Lib.hid (in_impl HK.out.a.tb p f)
      rw [HIn.out.1, HIn.out.2] at HCI
      go_wp2_with (refine wpList_load_frame 9 rfl (by kernel_rfl) g f rfl HK.out.a.fr ?_)
      refine HCI.out.mono ?_
      rintro e w7 ⟨rfl, hb⟩
      have HK7 := Lib.hid (HK.out.calm hb)
      clear hb HK HCI
      have HCD := Lib.hid (din_any HV.out HK7.out.a.el HRL.out.2 HN18.out.2 HM.out p f)
      rw [HIn.out.1, HIn.out.2] at HCD
      go_wp2_with (first | refine wpList_load_dt 14 rfl (by kernel_rfl) q rfl cs HK7.out.a.dt.blk HK7.out.a.dt.v.sz ?_ | refine wpList_load_frame 9 rfl (by kernel_rfl) g f rfl HK7.out.a.fr ?_)
      refine HCD.out.mono ?_
      rintro e w8 ⟨rfl, hb⟩
      have HK8 := Lib.hid (HK7.out.calm hb)
      clear hb HK7 HCD
      have HCO := Lib.hid (out_any HK8.out.a.tb p v f HDL.out)
      rw [HOut.out.1, HOut.out.2] at HCO
      go_wp2_with (refine wpList_load_frame 9 rfl (by kernel_rfl) g f rfl HK8.out.a.fr ?_)
      refine HCO.out.mono ?_
      rintro e w10 ⟨rfl, hb⟩
      have HK10 := Lib.hid (HK8.out.calm hb)
      clear hb HK8 HCO
      have st := stores_new w10 (.int .u8 fo.d0.toNat) (.int .u8 fo.d1.toNat) (.int .u8 fo.d2.toNat) (.int .u8 fo.d3.toNat) (.int .u8 fo.d4.toNat) (.int .u8 fo.d5.toNat) (.int .u8 fo.s0.toNat) (.int .u8 fo.s1.toNat) (.int .u8 fo.s2.toNat) (.int .u8 fo.s3.toNat) (.int .u8 fo.s4.toNat) (.int .u8 fo.s5.toNat) (.bool fo.tag) (.int .u8 fo.pri.toNat) (.int .u16 fo.vid.toNat) (.int .u16 fo.ty.toNat) (.string ⟨fo.data.toArray⟩) (by kernel_rfl)
      obtain ⟨w11, hw⟩ : ∃ y, w10.alloc (.cells #[.int .u8 fo.d0.toNat, .int .u8 fo.d1.toNat, .int .u8 fo.d2.toNat, .int .u8 fo.d3.toNat, .int .u8 fo.d4.toNat, .int .u8 fo.d5.toNat, .int .u8 fo.s0.toNat, .int .u8 fo.s1.toNat, .int .u8 fo.s2.toNat, .int .u8 fo.s3.toNat, .int .u8 fo.s4.toNat, .int .u8 fo.s5.toNat, .bool fo.tag, .int .u8 fo.pri.toNat, .int .u16 fo.vid.toNat, .int .u16 fo.ty.toNat, .string ⟨fo.data.toArray⟩] 27) = y := ⟨_, rfl⟩
      obtain ⟨gx, hgx⟩ : ∃ y, w10.heap.size = y := ⟨_, rfl⟩
      have HX1 := Lib.hid (show FrA w11 gx fo by rw [← hw, ← hgx]; exact FrA.new w10 fo)
      have HBx := Lib.hid (show Below w10.heap.size w10 w11 by rw [← hw]; exact (Below.refl _ _).alloc (Nat.le_refl _) _)
      have HK11 := Lib.hid (show Pl2 W t mb N L own q cs A c g f A2 w11 from HK10.out.calm HBx.out)
      clear HK10 HBx
      rw [hw, hgx] at st
      go_upto_region 20 with fail
      clear st hw hgx
      have HCP := Lib.hid (dout_any HV.out HK11.out.a.el HRL.out.2 p v f HDL.out)
      rw [HOut.out.1, HOut.out.2] at HCP
      go_wp2_with (first | refine wpList_load_dt 14 rfl (by kernel_rfl) q rfl cs HK11.out.a.dt.blk HK11.out.a.dt.v.sz ?_ | refine wpList_load_frame 9 rfl (by kernel_rfl) g f rfl HK11.out.a.fr ?_)
      refine HCP.out.mono ?_
      rintro e w12 ⟨rfl, hb⟩
      have HK12 := Lib.hid (HK11.out.calm hb)
      have HX12 := Lib.hid (HX1.out.next hb)
      clear hb HK11 HCP HX1
      have st := stores_new w12 (.int .u8 fo.d0.toNat) (.int .u8 fo.d1.toNat) (.int .u8 fo.d2.toNat) (.int .u8 fo.d3.toNat) (.int .u8 fo.d4.toNat) (.int .u8 fo.d5.toNat) (.int .u8 fo.s0.toNat) (.int .u8 fo.s1.toNat) (.int .u8 fo.s2.toNat) (.int .u8 fo.s3.toNat) (.int .u8 fo.s4.toNat) (.int .u8 fo.s5.toNat) (.bool fo.tag) (.int .u8 fo.pri.toNat) (.int .u16 fo.vid.toNat) (.int .u16 fo.ty.toNat) (.string ⟨fo.data.toArray⟩) (by kernel_rfl)
      obtain ⟨w13, hw⟩ : ∃ y, w12.alloc (.cells #[.int .u8 fo.d0.toNat, .int .u8 fo.d1.toNat, .int .u8 fo.d2.toNat, .int .u8 fo.d3.toNat, .int .u8 fo.d4.toNat, .int .u8 fo.d5.toNat, .int .u8 fo.s0.toNat, .int .u8 fo.s1.toNat, .int .u8 fo.s2.toNat, .int .u8 fo.s3.toNat, .int .u8 fo.s4.toNat, .int .u8 fo.s5.toNat, .bool fo.tag, .int .u8 fo.pri.toNat, .int .u16 fo.vid.toNat, .int .u16 fo.ty.toNat, .string ⟨fo.data.toArray⟩] 27) = y := ⟨_, rfl⟩
      obtain ⟨gy, hgx⟩ : ∃ y, w12.heap.size = y := ⟨_, rfl⟩
      have HX2 := Lib.hid (show FrA w13 gy fo by rw [← hw, ← hgx]; exact FrA.new w12 fo)
      have HBx := Lib.hid (show Below w12.heap.size w12 w13 by rw [← hw]; exact (Below.refl _ _).alloc (Nat.le_refl _) _)
      have HK13 := Lib.hid (show Pl2 W t mb N L own q cs A c g f A2 w13 from HK12.out.calm HBx.out)
      have HX13 := Lib.hid (HX12.out.next HBx.out)
      clear HK12 HBx HX12
      rw [hw, hgx] at st
      go_upto_region 21 with fail
      clear st hw hgx
      have eQ := fun w => eqSame fo w
      go_wp2_with (first | refine wpList_load_frame 22 rfl (by kernel_rfl) gx fo rfl HX13.out ?_ | refine wpList_load_frame 24 rfl (by kernel_rfl) gy fo rfl HX2.out ?_)
      refine (wakes_any _).mono ?_
      rintro e w9 ⟨rfl, hb⟩
      have HB9 : Hid (Below W.heap.size W w9) := Lib.hid (HK13.out.a.bl.trans (hb.mono HK13.out.a.bl.size))
      clear hb
      go_wp2
      go_ret
      exact ⟨rfl, HB9.out⟩

set_option maxRecDepth 100000 in
set_option maxHeartbeats 4000000 in
theorem walk {H : Type} {enc : TypeId × Value → H} (W : World) (base : Nat) {v0 v1 v2 v3 v4 : Value} {d0 d1 d2 d3 d4 : DataW H} {p0 p1 p2 p3 p4 : List MemPlace}
    (o0 : Value.okWide Try.prog W .any base 3 v0) (h0 : DataW.Trod enc Try.prog W 0 (fun _ => true) true 3 v0 d0 p0) (o1 : Value.okWide Try.prog W .any base 22 v1) (h1 : DataW.Trod enc Try.prog W 0 (fun _ => true) true 22 v1 d1 p1) (o2 : Value.okWide Try.prog W .any base 5 v2) (h2 : DataW.Trod enc Try.prog W 0 (fun _ => true) true 5 v2 d2 p2) (o3 : Value.okWide Try.prog W .any base 23 v3) (h3 : DataW.Trod enc Try.prog W 0 (fun _ => true) true 23 v3 d3 p3) (o4 : Value.okWide Try.prog W .any base 27 v4) (h4 : DataW.Trod enc Try.prog W 0 (fun _ => true) true 27 v4 d4 p4) :
    Calls Try.prog 3 #[v0, v1, v2, v3, v4] W fun e w' => e = .returned (.bool true) ∧ Below W.heap.size W w' := by
  obtain ⟨n, rfl, hn⟩ := open_num Try.underlying3 o0 h0
  obtain ⟨A, c, l, rfl, hl, _, _, hE⟩ := open_els 5 encA (fun _ => True) Try.underlying22 (e := 59) (by kernel_rfl) (by omega)
    (fun cs fuel x hl h => ac_trod Try.underlying59 ⟨rfl, rfl, rfl, rfl, rfl⟩ ⟨rfl, rfl, rfl, rfl, rfl⟩ (hl.trans (by kernel_rfl)) h) o1 h1
  obtain ⟨p, rfl, hp⟩ := open_num Try.underlying5 o2 h2
  obtain ⟨v, rfl, hv⟩ := open_num Try.underlying23 o3 h3
  obtain ⟨f, rfl⟩ := open_frame o4
  obtain ⟨p', rfl⟩ := u8_of hp
  obtain ⟨v', rfl⟩ := u16_of hv
  exact plays_law W n A c l p' v' f hE

theorem own : ownKnob Try.prog.godebug = none := by kernel_rfl
theorem laidOut : laidOutB Try.prog = true := by kernel_rfl
set_option maxRecDepth 100000 in
theorem lifted (os : Os) (started : os.Started) (H : Type) (enc : TypeId × Value → H) :
    ReturnsInHanded {} Try.checked os 3 .any (Rows.vlanPlaysSpec.pre6 enc Try.prog Try.f3 Rows.vlanPlaysRow.domain false) (Rows.vlanPlaysSpec.post enc Try.prog Try.f3 false true false false) := by
  refine returnsInHanded_of_change (C := Try.checked) own started (by kernel_rfl) Try.func3
    (ChangeSpec.witness6 (enc := enc) (C := Try.checked) false ⟨#[], #[.int .i64 0, .slice none 0 0, .int .u8 0, .int .u16 0, .agg #[.int .u8 0, .int .u8 0, .int .u8 0, .int .u8 0, .int .u8 0, .int .u8 0, .int .u8 0, .int .u8 0, .int .u8 0, .int .u8 0, .int .u8 0, .int .u8 0, .bool false, .int .u8 0, .int .u16 0, .int .u16 0, .string ⟨#[]⟩]], []⟩ 8 (by kernel_rfl) (by kernel_rfl) (by kernel_rfl) (by kernel_rfl)) ?_
  intro W base args ds gs before hval0 hW hcnd _
  have hval : ∀ (j : Nat) t v, Try.f3.params[j]? = some t → args[j]? = some v → Value.okWide Try.prog W .any base t v := hval0
  have hW' := hW
  obtain ⟨p, q, hA0, hV, rfl, hfz, hnd⟩ := hW
  have hA : DataW.TrodAll enc Try.prog W 0 (fun _ => true) true Try.f3.params.toList args.toList ds p := hA0
  rw [Try.params3] at hA hval
  obtain ⟨v0, vs0, d0, ds0, p0, q0, hargs, rfl, rfl, h0, r0⟩ := trodAll_cons hA
  obtain ⟨v1, vs1, d1, ds1, p1, q1, rfl, rfl, rfl, h1, r1⟩ := trodAll_cons r0
  obtain ⟨v2, vs2, d2, ds2, p2, q2, rfl, rfl, rfl, h2, r2⟩ := trodAll_cons r1
  obtain ⟨v3, vs3, d3, ds3, p3, q3, rfl, rfl, rfl, h3, r3⟩ := trodAll_cons r2
  obtain ⟨v4, vs4, d4, ds4, p4, q4, rfl, rfl, rfl, h4, r4⟩ := trodAll_cons r3
  obtain ⟨rfl, rfl, rfl⟩ := trodAll_nil r4
  obtain rfl : args = #[v0, v1, v2, v3, v4] := by cases args; simp_all
  obtain ⟨rfl, rfl⟩ := trodVars_none hV
  have o0 := hval 0 3 v0 rfl rfl
  have lt0 : ∀ x ∈ p0, x.block < W.heap.size := by obtain ⟨m, hm⟩ := h0; exact DataW.trod_lt m _ _ _ hm
  have o1 := hval 1 22 v1 rfl rfl
  have lt1 : ∀ x ∈ p1, x.block < W.heap.size := by obtain ⟨m, hm⟩ := h1; exact DataW.trod_lt m _ _ _ hm
  have o2 := hval 2 5 v2 rfl rfl
  have lt2 : ∀ x ∈ p2, x.block < W.heap.size := by obtain ⟨m, hm⟩ := h2; exact DataW.trod_lt m _ _ _ hm
  have o3 := hval 3 23 v3 rfl rfl
  have lt3 : ∀ x ∈ p3, x.block < W.heap.size := by obtain ⟨m, hm⟩ := h3; exact DataW.trod_lt m _ _ _ hm
  have o4 := hval 4 27 v4 rfl rfl
  have lt4 : ∀ x ∈ p4, x.block < W.heap.size := by obtain ⟨m, hm⟩ := h4; exact DataW.trod_lt m _ _ _ hm
  clear hA0 hval0
  refine (walk W base o0 h0 o1 h1 o2 h2 o3 h3 o4 h4).mono fun e W' ⟨he, bel⟩ => ?_
  subst he
  exact ⟨_, rfl, _, _, _, [], _, [], hW', trodAll_mk1 (shut_bool Try.underlying4 _), (trodAll_cons_mk (Below.trod laidOut (by kernel_rfl) (of_decide_eq_true (by kernel_rfl)) h0 bel lt0) (trodAll_cons_mk (Below.trod laidOut (by kernel_rfl) (of_decide_eq_true (by kernel_rfl)) h1 bel lt1) (trodAll_cons_mk (Below.trod laidOut (by kernel_rfl) (of_decide_eq_true (by kernel_rfl)) h2 bel lt2) (trodAll_cons_mk (Below.trod laidOut (by kernel_rfl) (of_decide_eq_true (by kernel_rfl)) h3 bel lt3) (trodAll_cons_mk (Below.trod laidOut (by kernel_rfl) (of_decide_eq_true (by kernel_rfl)) h4 bel lt4) trodAll_mk0))))), rfl, bel.frame _, fun h => by cases h⟩

theorem over : Rows.vlanPlaysRow.holds Try.pinned (OpenSpec.ofChange Rows.vlanPlaysSpec) :=
  OpenClaim.holds_of_wide 3 Try.f3 rfl rfl rfl rfl rfl rfl rfl ⟨rfl, rfl, rfl, rfl, rfl⟩ rfl rfl rfl rfl rfl (by kernel_rfl) Try.func3 (by kernel_rfl)
    (of_decide_eq_true (by kernel_rfl)) (by unfold Func.isWrapper; first | (rw [if_pos (by decide +kernel)]; kernel_rfl) | (rw [if_neg (by decide +kernel)]; exact ⟨rfl, rfl⟩))
    (fun os started H enc _ => lifted os started H enc)

/-- THE STATEMENT -/
theorem proved : Rows.VlanPlaysSaid := over
end Go.Proofs.Yteiopobkbfancaa.vlanPlays
