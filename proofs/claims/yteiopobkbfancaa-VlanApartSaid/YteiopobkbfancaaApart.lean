/- VlanApart: in and out by its members only. -/
import Derived.Test.YteiopobkbfancaaApart13
import Derived.BigGuard
import Derived.BigQuiet
import Derived.Deep.RegionHeld3
import Derived.Deep.QuietTactic
import Derived.Deep.DeepCutAuto
import Derived.Deep.CutBlock
import Derived.StillTailTactics
import Derived.OpenShut
import Derived.ShutString
import Derived.ChangeOld
namespace Go.Proofs.Yteiopobkbfancaa.vlanApart
open Go.Shelf
open Go.Sort (grow)
open Go.ChangeShapes Go.WideShapes Go.ChangeAt Go.RowKit
open Go.ChangeMaps (open_string shut_string)
set_option linter.unusedVariables false
set_option linter.unusedSimpArgs false
set_option maxRecDepth 100000


set_option maxRecDepth 100000 in
set_option maxHeartbeats 4000000 in
theorem apart_law (W : World) (Aa : Option Addr) (ca : Nat) (l : List Ac) (p : UInt8) (f : Fr) (hE : Els 5 encA W Aa l) : Calls Try.prog 6 #[.slice Aa l.length ca, .int .u8 p.toNat, FV f] W fun e w' => e = .returned (.bool true) ∧ Below W.heap.size W w' := by
  obtain ⟨w1, hw1⟩ : ∃ w1, W.alloc (.cells #[.int .u8 f.d0.toNat, .int .u8 f.d1.toNat, .int .u8 f.d2.toNat, .int .u8 f.d3.toNat, .int .u8 f.d4.toNat, .int .u8 f.d5.toNat, .int .u8 f.s0.toNat, .int .u8 f.s1.toNat, .int .u8 f.s2.toNat, .int .u8 f.s3.toNat, .int .u8 f.s4.toNat, .int .u8 f.s5.toNat, .bool f.tag, .int .u8 f.pri.toNat, .int .u16 f.vid.toNat, .int .u16 f.ty.toNat, .string ⟨f.data.toArray⟩] 27) = w1 := ⟨_, rfl⟩
  obtain ⟨g, hg⟩ : ∃ g, W.heap.size = g := ⟨_, rfl⟩
  have HF1 := Lib.hid (show FrA w1 g f by rw [← hw1, ← hg]; exact FrA.new W f)
  have HB1 := Lib.hid (show Below W.heap.size W w1 by rw [← hw1]; exact (Below.refl W.heap.size W).alloc (Nat.le_refl _) _)
  have HEl := Lib.hid (show Els 5 encA w1 Aa l by rw [← hw1]; exact hE.next ((Below.refl _ W).alloc (Nat.le_refl _) _))
  have c16 := HF1.out.cells.c16
  obtain ⟨n, hn⟩ : ∃ n, l.length = n := ⟨_, rfl⟩
  have HN := Lib.hid hn
  rw [hn]
  clear hn hE
  go_enter Try.func6, Try.ntmps6
  go_upto_region 1 with fail
  clear hw1 hg
  by_cases hl : 100 < n
  · have hl' : (100 : Int) < (n : Int) := by omega
    clear c16
    go_wp2_with fail
    all_goals (
      refine (wakes_any _).mono ?_
      rintro e w2 ⟨rfl, hb⟩
      have HB2 : Hid (Below W.heap.size W w2) := Lib.hid (HB1.out.trans (hb.mono HB1.out.size))
      clear hb
      go_wp2
      go_ret
      exact ⟨rfl, HB2.out⟩)
  have hl' : ¬ (100 : Int) < (n : Int) := by omega
  by_cases hd : 2000 < f.data.length
  · have hdd : (2000 : Int) < ((⟨f.data.toArray⟩ : ByteArray).size : Int) := by
      rw [show (⟨f.data.toArray⟩ : ByteArray).size = f.data.length by simp [ByteArray.size]]
      omega
    obtain ⟨D, hD⟩ : ∃ D : ByteArray, (⟨f.data.toArray⟩ : ByteArray) = D := ⟨_, rfl⟩
    rw [hD] at c16 hdd
    clear hd hD
    go_wp2_with fail
    refine (wakes_any _).mono ?_
    rintro e w2 ⟨rfl, hb⟩
    have HB2 : Hid (Below W.heap.size W w2) := Lib.hid (HB1.out.trans (hb.mono HB1.out.size))
    clear hb
    go_wp2
    go_ret
    exact ⟨rfl, HB2.out⟩
  have hdd : ¬ (2000 : Int) < ((⟨f.data.toArray⟩ : ByteArray).size : Int) := by
    rw [show (⟨f.data.toArray⟩ : ByteArray).size = f.data.length by simp [ByteArray.size]]
    omega
  have HDL : Hid (f.data.length ≤ 8388000) := Lib.hid (by omega)
  obtain ⟨D, hD⟩ : ∃ D : ByteArray, (⟨f.data.toArray⟩ : ByteArray) = D := ⟨_, rfl⟩
  rw [hD] at c16 hdd
  clear hd hD
  have HAF := Lib.hid (after_any 8 (by decide) (by decide) (ca := ca) (by rw [HN.out]; omega) HEl.out)
  rw [HN.out] at HAF
  go_wp2_with fail
  refine HAF.out.mono ?_
  clear HAF hl hl' c16 hdd HEl
  intro e w2 hp
  obtain ⟨t, mb, cs, A, c, L, own, rfl, hT, hD, hEl, hM, hb⟩ := hp
  have HD := Lib.hid (And.intro hD.sz hD.one)
  have HA2 := Lib.hid (show ApS W t mb 8 L own g f w2 from ⟨hT, HF1.out.next hb, HB1.out.trans (hb.mono HB1.out.size)⟩)
  clear hT hD hEl hM hb HF1 HB1
  go_upto_region 4 with (refine wpList_store_row rfl 36 (.tmp 8) _ rfl w2.heap.size rfl cs rfl 36 _ (Blk.new w2 _ _) (by rw [HD.out.1]; exact info_rt) (by rw [HD.out.1]; rfl) HD.out.2 ?_)
  obtain ⟨w3, hw3⟩ : ∃ w3, (w2.alloc (.cells #[.int .i64 0, .slice none 0 0, .int .u16 0, .int .u16 0, .int .u16 0, .int .u16 0, .int .u16 0, .int .u16 0, .int .u16 0, .int .u16 0] 36)).setRow w2.heap.size cs = w3 := ⟨_, rfl⟩
  have HA3 := Lib.hid (show ApS W t mb 8 L own g f w3 by
    rw [← hw3]
    exact HA2.out.calm (below_row ((Below.refl _ w2).alloc (Nat.le_refl _) _) (Nat.le_refl _) _))
  rw [hw3]
  clear hw3 HA2 HD
  go_upto_region 6 with fail
  go_wp2_with (refine wpList_load_frame 5 rfl (by kernel_rfl) g f rfl HA3.out.fr ?_)
  refine (in_impl HA3.out.tb p f).mono ?_
  have hno := @vin_no 8 L own p f
  have hyes := @vin_yes 8 L own p f
  obtain ⟨V, hV⟩ : ∃ V, vinV 8 L own p f = V := ⟨_, rfl⟩
  obtain ⟨B, hB⟩ : ∃ B, vinB 8 L own p f = B := ⟨_, rfl⟩
  rw [hV, hB] at hno hyes
  rw [hV, hB]
  have HNO := Lib.hid hno
  have HYES := Lib.hid hyes
  clear hno hyes hV hB
  rintro e w4 ⟨rfl, hb⟩
  have HA4 := Lib.hid (HA3.out.calm hb)
  clear hb HA3
  go_upto_region 7 with fail
  go_cut [77] (fun v wx => v = .bool false ∧ Hid (ApS W t mb 8 L own g f wx))
  case first =>
    cases B with
    | false =>
      have hv : ((V.toNat : Int) != 0) = false := by rw [HNO.out rfl]; rfl
      clear HNO HYES
      go_wp2_with fail
      all_goals (
        go_meet
        exact ⟨rfl, HA4⟩)
    | true =>
      obtain ⟨h1, h2⟩ := HYES.out rfl
      have hmem := has8_run0 (vm L V) p
      rw [h1] at hmem
      simp only [Bool.not_true] at hmem
      rw [Nat.min_eq_left (by have := has8_lt h1; omega)] at hmem
      have hp7 : ¬ (7 : Int) < (p.toNat : Int) := by have := has8_lt h1; omega
      have H2 := Lib.hid h2
      clear h1 h2 HNO HYES
      go_wp2_with fail
      refine (members_any HA4.out.tb V).mono ?_
      rintro e w5 ⟨rfl, hb⟩
      have HA5 := Lib.hid (HA4.out.calm hb)
      have c12 := HA5.out.fr.cells.c12
      have c14 := HA5.out.fr.cells.c14
      clear hb HA4
      cases ht : f.tag
      · rw [ht] at c12
        clear ht H2
        go_wp2_with fail
        all_goals (
          go_meet
          exact ⟨rfl, HA5⟩)
      · rw [ht] at c12
        by_cases hz : f.vid = 0
        · rw [hz] at c14
          clear ht H2 hz
          go_wp2_with fail
          all_goals (
            go_meet
            exact ⟨rfl, HA5⟩)
        · have hu : ((f.vid.toNat : Int) != 0) = true := by
            have : f.vid.toNat ≠ 0 := fun e => hz (by rw [← UInt16.toNat_inj]; exact e)
            simp [bne]
            omega
          have hV := H2.out ht hz
          rw [← hV] at c14 hu
          clear ht H2 hz hV
          go_wp2_with fail
          all_goals (
            go_meet
            exact ⟨rfl, HA5⟩)
  case rest =>
    obtain ⟨rfl, HA⟩ := hcut
    clear HNO HYES HA4
    go_wp2_with fail
    refine (vlans_any HA.out.tb).mono ?_
    rintro e w5 ⟨A2, c2, rfl, hEl, _, hb⟩
    have HA5 : Hid (Ap2 W w5 t mb 8 L own g f w5) := Lib.hid ⟨HA.out.calm hb, Below.refl _ _⟩
    have HE := Lib.hid hEl
    have HRL := Lib.hid (And.intro HA.out.tb.ris HA.out.tb.l8)
    clear hEl hb HA
    obtain ⟨n2, hn2⟩ : ∃ n2, L.length = n2 := ⟨_, rfl⟩
    have HN2 := Lib.hid hn2
    rw [hn2]
    clear hn2
    go_wp2_with fail
    go_loopw [13] (fun i wr => ∃ k : Nat, k ≤ n2 ∧ i = .int .i64 k ∧ Hid (Ap2 W w5 t mb 8 L own g f wr)) (fun i _ => n2 - (intOf i).toNat)
    case atStart => exact ⟨0, Nat.zero_le _, rfl, HA5⟩
    case round =>
      clear HA5
      obtain ⟨k, hk, rfl, HK⟩ := hrel
      by_cases hlt : k < n2
      · obtain ⟨x, hx⟩ : ∃ x, L[k]? = some x := ⟨_, List.getElem?_eq_getElem (by rw [HN2.out]; exact hlt)⟩
        obtain ⟨b, off, rfl, hb, _⟩ := els_k HE.out hx
        have e0 := els_k2 (HE.out.next HK.out.b) hx
        have HX := Lib.hid hx
        have hkn : (k : Int) < n2 := by omega
        clear hx hb
        go_upto_region 13 with fail
        obtain ⟨fo, hfo⟩ : ∃ fo, voutF L p x.v f = fo := ⟨_, rfl⟩
        obtain ⟨bo, hbo⟩ : ∃ bo, voutB L p x.v f = bo := ⟨_, rfl⟩
        have HO := Lib.hid (And.intro hfo hbo)
        clear hfo hbo
        go_cut [14, 15] (fun u v wx => v = .bool bo ∧ Hid (Ap2 W w5 t mb 8 L own g f wx))
        case first =>
          refine wp_swap (c' := apart13) (by kernel_rfl) ?_
          refine apart13_wp e0 HK HDL HO hkn _ _ _ _ _ _ _ _ _ _ _ _ _ _ _ _ _ _ _ _ _ _ _ _ _ _ _ _ _ _ _ _ _ _ _ _ _ _ _ _ _ _ _ _ _ _ _ _ _ _ _ _ _ _ _ _ _ _ _ _ _ _ _ _ _ _ _ _ _ _ _ _ _ _ _ _ _ _ _ _ _ _ _ _ _ _ _ _ _ _ _ _ _ _ _ _ _ _ _ _ _ _ _ _ _ _ _ _ _ _ _ _ _ _ _ _ _ _ _ _ _ _ _ _ _ _ _ _ _ _ _ _ ?_
          intro v14 v86 v87 v88 v89 v90 v91 v92 v93 v94 v95 v96 w' HK'
          go_wp2_with fail
          go_meet
          exact ⟨rfl, HK'⟩
        case rest =>
          obtain ⟨rfl, HK2⟩ := hcut
          have HBO := Lib.hid (show voutB L p x.v f = bo from HO.out.2)
          clear HO e0
          have hb1 : (k : Int) < n2 := hkn
          have mixed : Try.prog.follows .mixedOrders = true := by kernel_rfl
          have kL := fun n os => members_grow (w := grow (wc.drewN n) os) ((HK2.out.calm (Gro.of_grow n os).below).a.tb) x.v
          have e1 := els_k2 (HE.out.next HK2.out.b) HX.out
          by_cases h0 : k = 0
          · subst h0
            rw [Nat.add_zero] at e1
            have g1 := fun n os => cell_gr e1 n os
            cases bo with
            | false =>
              clear HBO
              go_wp2_with fail
              refine wp_region_quiet_grown mixed (by kernel_rfl) ?_
              repeat (first | go_big_quiet_step ((go_at_call 11; exact Calls.grown_of (kL _ _))) | quiet_step ((go_at_call 11; exact Calls.grown_of (kL _ _))))
              refine wpQuiet_nil ?_
              intro _ hw'
              obtain ⟨⟨nq, osq⟩, hw''⟩ := hw'
              subst hw''
              have HK3 : Hid (Ap2 W w5 t mb 8 L own g f (grow (wc.drewN nq) osq)) := Lib.hid (HK2.out.calm (Gro.of_grow nq osq).below)
              generalize grow (wc.drewN nq) osq = wg at *
              go_wp2_with fail
              go_roundw
              case rel => exact ⟨0 + 1, by omega, by go_num, Lib.hid (HK3.out)⟩
              case measure => simp [intOf]; omega
            | true =>
              have hh := vout_has HBO.out
              have hmem := has8_run0 (vm L x.v) p
              rw [hh] at hmem
              simp only [Bool.not_true] at hmem
              rw [Nat.min_eq_left (by have := has8_lt hh; omega)] at hmem
              have hp7 : ¬ (7 : Int) < (p.toNat : Int) := by have := has8_lt hh; omega
              clear HBO hh
              go_wp2_with fail
              refine wp_region_quiet_grown mixed (by kernel_rfl) ?_
              repeat (first | go_big_quiet_step ((go_at_call 11; exact Calls.grown_of (kL _ _))) | quiet_step ((go_at_call 11; exact Calls.grown_of (kL _ _))))
              refine wpQuiet_nil ?_
              intro _ hw'
              obtain ⟨⟨nq, osq⟩, hw''⟩ := hw'
              subst hw''
              have HK3 : Hid (Ap2 W w5 t mb 8 L own g f (grow (wc.drewN nq) osq)) := Lib.hid (HK2.out.calm (Gro.of_grow nq osq).below)
              generalize grow (wc.drewN nq) osq = wg at *
              go_wp2_with fail
              go_roundw
              case rel => exact ⟨0 + 1, by omega, by go_num, Lib.hid (HK3.out)⟩
              case measure => simp [intOf]; omega
          · obtain ⟨j, hj⟩ : ∃ j, k = j + 1 := ⟨k - 1, by omega⟩
            have HJ := Lib.hid hj
            obtain ⟨y, hy⟩ : ∃ y, L[j]? = some y := ⟨_, List.getElem?_eq_getElem (by rw [HN2.out]; omega)⟩
            have e2 := els_k2 (HE.out.next HK2.out.b) hy
            have g1 := fun n os => cell_gr e1 n os
            have g2 := fun n os => cell_gr e2 n os
            have hyx := ris_lt HRL.out.1 hy (hj ▸ HX.out)
            have hge : ¬ ((x.v.toNat : Int) ≤ (y.v.toNat : Int)) := by omega
            have hw0 : IntKind.i64.wrap ((k : Int) - 1) = (j : Int) := by have := HRL.out.2; rw [HN2.out] at this; simp [IntKind.wrap, IntKind.signed, IntKind.bits]; omega
            have hb0 : (j : Int) < n2 := by omega
            have hk0 : 0 < k := by omega
            have hn8 : n2 ≤ 8 := by have := HRL.out.2; rw [HN2.out] at this; exact this
            have hk1 : (0 : Int) < (k : Int) := by omega
            clear hy hyx hj h0
            cases bo with
            | false =>
              clear HBO
              go_wp2_with fail
              refine wp_region_quiet_grown mixed (by kernel_rfl) ?_
              repeat (first | go_big_quiet_step ((go_at_call 11; exact Calls.grown_of (kL _ _))) | quiet_step ((go_at_call 11; exact Calls.grown_of (kL _ _))))
              refine wpQuiet_nil ?_
              intro _ hw'
              obtain ⟨⟨nq, osq⟩, hw''⟩ := hw'
              subst hw''
              have HK3 : Hid (Ap2 W w5 t mb 8 L own g f (grow (wc.drewN nq) osq)) := Lib.hid (HK2.out.calm (Gro.of_grow nq osq).below)
              generalize grow (wc.drewN nq) osq = wg at *
              go_wp2_with fail
              go_roundw
              case rel => exact ⟨k + 1, by omega, by go_num, Lib.hid (HK3.out)⟩
              case measure => simp [intOf]; omega
            | true =>
              have hh := vout_has HBO.out
              have hmem := has8_run0 (vm L x.v) p
              rw [hh] at hmem
              simp only [Bool.not_true] at hmem
              rw [Nat.min_eq_left (by have := has8_lt hh; omega)] at hmem
              have hp7 : ¬ (7 : Int) < (p.toNat : Int) := by have := has8_lt hh; omega
              clear HBO hh
              go_wp2_with fail
              refine wp_region_quiet_grown mixed (by kernel_rfl) ?_
              repeat (first | go_big_quiet_step ((go_at_call 11; exact Calls.grown_of (kL _ _))) | quiet_step ((go_at_call 11; exact Calls.grown_of (kL _ _))))
              refine wpQuiet_nil ?_
              intro _ hw'
              obtain ⟨⟨nq, osq⟩, hw''⟩ := hw'
              subst hw''
              have HK3 : Hid (Ap2 W w5 t mb 8 L own g f (grow (wc.drewN nq) osq)) := Lib.hid (HK2.out.calm (Gro.of_grow nq osq).below)
              generalize grow (wc.drewN nq) osq = wg at *
              go_wp2_with fail
              go_roundw
              case rel => exact ⟨k + 1, by omega, by go_num, Lib.hid (HK3.out)⟩
              case measure => simp [intOf]; omega
      · obtain rfl : k = n2 := by omega
        have h8 : (k : Int) ≤ 8 := by have := HRL.out.2; rw [HN2.out] at this; omega
        go_wp2_with fail
        refine (wakes_any _).mono ?_
        rintro e w6 ⟨rfl, hb⟩
        have HB9 : Hid (Below W.heap.size W w6) := Lib.hid (HK.out.a.bl.trans (hb.mono HK.out.a.bl.size))
        clear hb
        go_wp2
        go_ret
        exact ⟨rfl, HB9.out⟩

set_option maxRecDepth 100000 in
set_option maxHeartbeats 4000000 in
theorem walk {H : Type} {enc : TypeId × Value → H} (W : World) (base : Nat) {v0 v1 v2 : Value} {d0 d1 d2 : DataW H} {p0 p1 p2 : List MemPlace}
    (o0 : Value.okWide Try.prog W .any base 22 v0) (h0 : DataW.Trod enc Try.prog W 0 (fun _ => true) true 22 v0 d0 p0) (o1 : Value.okWide Try.prog W .any base 5 v1) (h1 : DataW.Trod enc Try.prog W 0 (fun _ => true) true 5 v1 d1 p1) (o2 : Value.okWide Try.prog W .any base 27 v2) (h2 : DataW.Trod enc Try.prog W 0 (fun _ => true) true 27 v2 d2 p2) :
    Calls Try.prog 6 #[v0, v1, v2] W fun e w' => e = .returned (.bool true) ∧ Below W.heap.size W w' := by
  obtain ⟨A, c, l, rfl, hl, _, _, hE⟩ := open_els 5 encA (fun _ => True) Try.underlying22 (e := 59) (by kernel_rfl) (by omega)
    (fun cs fuel x hl h => ac_trod Try.underlying59 ⟨rfl, rfl, rfl, rfl, rfl⟩ ⟨rfl, rfl, rfl, rfl, rfl⟩ (hl.trans (by kernel_rfl)) h) o0 h0
  obtain ⟨p, rfl, hp⟩ := open_num Try.underlying5 o1 h1
  obtain ⟨f, rfl⟩ := open_frame o2
  obtain ⟨q, rfl⟩ := u8_of hp
  exact apart_law W A c l q f hE

theorem own : ownKnob Try.prog.godebug = none := by kernel_rfl
theorem laidOut : laidOutB Try.prog = true := by kernel_rfl
set_option maxRecDepth 100000 in
theorem lifted (os : Os) (started : os.Started) (H : Type) (enc : TypeId × Value → H) :
    ReturnsInHanded {} Try.checked os 6 .any (Rows.vlanApartSpec.pre6 enc Try.prog Try.f6 Rows.vlanApartRow.domain false) (Rows.vlanApartSpec.post enc Try.prog Try.f6 false true false false) := by
  refine returnsInHanded_of_change (C := Try.checked) own started (by kernel_rfl) Try.func6
    (ChangeSpec.witness6 (enc := enc) (C := Try.checked) false ⟨#[], #[.slice none 0 0, .int .u8 0, .agg #[.int .u8 0, .int .u8 0, .int .u8 0, .int .u8 0, .int .u8 0, .int .u8 0, .int .u8 0, .int .u8 0, .int .u8 0, .int .u8 0, .int .u8 0, .int .u8 0, .bool false, .int .u8 0, .int .u16 0, .int .u16 0, .string ⟨#[]⟩]], []⟩ 8 (by kernel_rfl) (by kernel_rfl) (by kernel_rfl) (by kernel_rfl)) ?_
  intro W base args ds gs before hval0 hW hcnd _
  have hval : ∀ (j : Nat) t v, Try.f6.params[j]? = some t → args[j]? = some v → Value.okWide Try.prog W .any base t v := hval0
  have hW' := hW
  obtain ⟨p, q, hA0, hV, rfl, hfz, hnd⟩ := hW
  have hA : DataW.TrodAll enc Try.prog W 0 (fun _ => true) true Try.f6.params.toList args.toList ds p := hA0
  rw [Try.params6] at hA hval
  obtain ⟨v0, vs0, d0, ds0, p0, q0, hargs, rfl, rfl, h0, r0⟩ := trodAll_cons hA
  obtain ⟨v1, vs1, d1, ds1, p1, q1, rfl, rfl, rfl, h1, r1⟩ := trodAll_cons r0
  obtain ⟨v2, vs2, d2, ds2, p2, q2, rfl, rfl, rfl, h2, r2⟩ := trodAll_cons r1
  obtain ⟨rfl, rfl, rfl⟩ := trodAll_nil r2
  obtain rfl : args = #[v0, v1, v2] := by cases args; simp_all
  obtain ⟨rfl, rfl⟩ := trodVars_none hV
  have o0 := hval 0 22 v0 rfl rfl
  have lt0 : ∀ x ∈ p0, x.block < W.heap.size := by obtain ⟨m, hm⟩ := h0; exact DataW.trod_lt m _ _ _ hm
  have o1 := hval 1 5 v1 rfl rfl
  have lt1 : ∀ x ∈ p1, x.block < W.heap.size := by obtain ⟨m, hm⟩ := h1; exact DataW.trod_lt m _ _ _ hm
  have o2 := hval 2 27 v2 rfl rfl
  have lt2 : ∀ x ∈ p2, x.block < W.heap.size := by obtain ⟨m, hm⟩ := h2; exact DataW.trod_lt m _ _ _ hm
  clear hA0 hval0
  refine (walk W base o0 h0 o1 h1 o2 h2).mono fun e W' ⟨he, bel⟩ => ?_
  subst he
  exact ⟨_, rfl, _, _, _, [], _, [], hW', trodAll_mk1 (shut_bool Try.underlying4 _), (trodAll_cons_mk (Below.trod laidOut (by kernel_rfl) (of_decide_eq_true (by kernel_rfl)) h0 bel lt0) (trodAll_cons_mk (Below.trod laidOut (by kernel_rfl) (of_decide_eq_true (by kernel_rfl)) h1 bel lt1) (trodAll_cons_mk (Below.trod laidOut (by kernel_rfl) (of_decide_eq_true (by kernel_rfl)) h2 bel lt2) trodAll_mk0))), rfl, bel.frame _, fun h => by cases h⟩

theorem over : Rows.vlanApartRow.holds Try.pinned (OpenSpec.ofChange Rows.vlanApartSpec) :=
  OpenClaim.holds_of_wide 6 Try.f6 rfl rfl rfl rfl rfl rfl rfl ⟨rfl, rfl, rfl, rfl, rfl⟩ rfl rfl rfl rfl rfl (by kernel_rfl) Try.func6 (by kernel_rfl)
    (of_decide_eq_true (by kernel_rfl)) (by unfold Func.isWrapper; first | (rw [if_pos (by decide +kernel)]; kernel_rfl) | (rw [if_neg (by decide +kernel)]; exact ⟨rfl, rfl⟩))
    (fun os started H enc _ => lifted os started H enc)

/-- THE STATEMENT -/
theorem proved : Rows.VlanApartSaid := over
end Go.Proofs.Yteiopobkbfancaa.vlanApart
