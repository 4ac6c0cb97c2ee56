/- TlvBack: a row that is put is taken, whatever is behind it, and not without its end; bytes that are taken are put as themselves: for every row and text, without a condition of ours. -/
import Derived.Test.YtndmjhjicagamaaWk11
import Derived.Test.YtndmjhjicagamaaLaw11
import Derived.OpenShut
import Derived.ShutString
import Derived.ChangeOld
import Derived.Deep.DeepCutAuto
namespace Go.Proofs.Ytndmjhjicagamaa.tlvBack
open Go.ChangeShapes Go.WideShapes Go.ChangeAt Go.RowKit
open Go.ChangeMaps (open_string shut_string)
set_option linter.unusedVariables false
set_option linter.unusedSimpArgs false
set_option maxRecDepth 100000

theorem tkX_len (s : List UInt8) : (tkX s).length ≤ s.length := by
  unfold tkX
  split
  · rename_i p hp
    exact (tks_back _ s (Nat.le_refl _) p.1 p.2 hp).2.2
  · simp
theorem tk_bad {s : List UInt8} (h : tkErr s ≠ 0) : tkX s = [] ∧ (tkX s).length = 0 ∧ tkR s = [] ∧ tkErr s = 3 := by
  unfold tkErr at h
  split at h
  · exact absurd rfl h
  · rename_i hn
    obtain ⟨h1, h2, h3⟩ := tk_none3 hn
    exact ⟨h1, by rw [h1]; rfl, h2, h3⟩
theorem tk_putback {s : List UInt8} (h : tkErr s = 0) (hl : s.length ≤ 1480) : tlE (tkX s) = 0 ∧ tlP (tkX s) ++ tkR s = s := by
  cases ht : tks s with
  | none => rw [(tk_none3 ht).2.2] at h; cases h
  | some p =>
    obtain ⟨l, q⟩ := p
    obtain ⟨h1, h2, h3⟩ := tk_some3 ht
    obtain ⟨e1, e2, _⟩ := tks_back _ s (Nat.le_refl _) l q ht
    have h0 : tlE l = 0 := tlE_of (fun x hx => ⟨(e2 x hx).1, Nat.le_trans (e2 x hx).2 hl⟩)
    rw [h1, h2]
    refine ⟨h0, ?_⟩
    unfold tlP
    rw [if_pos h0]
    have := e1.symm
    simpa using this
theorem tk_putput (l : List Tl) (t : List UInt8) (h : tlE l = 0) (hl : l.length ≤ 30) (ht : t.length ≤ 1400) :
    (∀ w, Calls Try.prog 13 #[.string ⟨(tlP l ++ t).toArray⟩] w fun e w' => ∃ A c, e = .returned (.tuple #[.slice A l.length c, .string ⟨t.toArray⟩, .int .i64 0]) ∧ Els 2 tlV w' A l ∧ (A = none → c = 0) ∧ Below w.heap.size w w') ∧ (∀ w, Calls Try.prog 13 #[.string ⟨(tlsB l).toArray⟩] w fun e w' => ∃ A c, e = .returned (.tuple #[.slice A 0 c, .string ⟨#[]⟩, .int .i64 3]) ∧ Below w.heap.size w w') ∧ tlP l = tlsB l ++ [0] ∧ (tlsB l).length ≤ 44490 := by
  have hp : tlP l = tlsB l ++ [0] := by unfold tlP; rw [if_pos h]
  have hlen : (tlsB l).length ≤ 44490 := by
    have := tlsB_take_len (l := l) l.length (by rw [List.take_length]; exact h)
    rw [List.take_length] at this
    omega
  have h1 : tks (tlP l ++ t) = some (l, t) := by
    rw [hp]
    have := tks_put l h t
    simpa using this
  have h2 : tks (tlsB l) = none := tks_short l h
  refine ⟨fun w => ?_, fun w => ?_, hp, hlen⟩
  · have := tltake_any (tlP l ++ t) w (by rw [hp]; simp; omega)
    obtain ⟨e1, e2, e3⟩ := tk_some3 h1
    rw [e1, e2, e3] at this
    exact this
  · have := tltake_any (tlsB l) w (by omega)
    obtain ⟨e1, e2, e3⟩ := tk_none3 h2
    rw [e1, e2, e3] at this
    exact this.mono fun e w' ⟨A, c, he, _, _, hb⟩ => ⟨A, c, he, hb⟩
set_option maxRecDepth 20000 in
set_option maxHeartbeats 4000000 in
theorem walkL (W : World) (A : Option Addr) (c : Nat) (l : List Tl) (t : List UInt8) (hE : Els 2 tlV W A l) :
    Calls Try.prog 5 #[.slice A l.length c, .string ⟨t.toArray⟩] W fun e w' => e = .returned (.bool true) ∧ Below W.heap.size W w' := by
  have HE := Lib.hid hE
  by_cases hgr : tlG l = true
  · have HGR := Lib.hid hgr
    clear hE hgr
    go_enter Try.func5, Try.ntmps5
    go_wp2_with fail
    refine (great_any A c l _ HE.out).mono ?_
    rintro r w0 ⟨rfl, rfl⟩
    rw [HGR.out]
    go_wp2_with fail
    refine (wakes11 _).mono ?_
    rintro r w1 ⟨rfl, hb1⟩
    go_wp2
    go_ret
    exact ⟨rfl, hb1⟩
  · rw [Bool.not_eq_true] at hgr
    by_cases hs : 1400 < t.length
    · have p : (1400 : Int) < (t.length : Int) := by omega
      have HGR := Lib.hid hgr
      clear hE hgr hs
      go_enter Try.func5, Try.ntmps5
      go_wp2_with fail
      refine (great_any A c l _ HE.out).mono ?_
      rintro r w0 ⟨rfl, rfl⟩
      rw [HGR.out]
      go_wp2_with fail
      refine (wakes11 _).mono ?_
      rintro r w1 ⟨rfl, hb1⟩
      go_wp2
      go_ret
      exact ⟨rfl, hb1⟩
    · have p : ¬ (1400 : Int) < (t.length : Int) := by omega
      have hg := tlG_no hgr
      have hl30 := hg.1
      have HLM := Lib.hid (show l.length ≤ 1000000 by omega)
      have KP := Lib.hid (fun B d w h => tlput_any B d l w h HLM.out)
      have KO := Lib.hid (fun w h => of11_any A c l w h HLM.out)
      have KS := Lib.hid (fun A B c d w h h' => same_any A B c d l w h h' HLM.out)
      have KTB := Lib.hid (fun w => tltake_any t w (by omega))
      have hxl := tkX_len t
      have HML := Lib.hid (show (tkX t).length ≤ 1000000 by omega)
      have HM : Hid (tkErr t = 0 → tlE (tkX t) = 0 ∧ tlP (tkX t) ++ tkR t = t) := Lib.hid (fun h => tk_putback h (by omega))
      have HM3 : Hid (tkErr t ≠ 0 → tkX t = [] ∧ (tkX t).length = 0 ∧ tkR t = [] ∧ tkErr t = 3) := Lib.hid (fun h => tk_bad h)
      have KV : Hid (tlE l = 0 → (∀ w, Calls Try.prog 13 #[.string ⟨(tlP l ++ t).toArray⟩] w fun e w' => ∃ A c, e = .returned (.tuple #[.slice A l.length c, .string ⟨t.toArray⟩, .int .i64 0]) ∧ Els 2 tlV w' A l ∧ (A = none → c = 0) ∧ Below w.heap.size w w') ∧ (∀ w, Calls Try.prog 13 #[.string ⟨(tlsB l).toArray⟩] w fun e w' => ∃ A c, e = .returned (.tuple #[.slice A 0 c, .string ⟨#[]⟩, .int .i64 3]) ∧ Below w.heap.size w w') ∧ tlP l = tlsB l ++ [0] ∧ (tlsB l).length ≤ 44490) := Lib.hid (fun h => tk_putput l t h hl30 (by omega))
      have KT := Lib.hid (fun w h => great_any A c l w h)
      rw [hgr] at KT
      obtain ⟨V, hV⟩ : ∃ V, tlP l = V := ⟨_, rfl⟩
      obtain ⟨E, hEr⟩ : ∃ E, tlE l = E := ⟨_, rfl⟩
      obtain ⟨M, hM⟩ : ∃ M, tkX t = M := ⟨_, rfl⟩
      obtain ⟨Y, hY⟩ : ∃ Y, tkR t = Y := ⟨_, rfl⟩
      obtain ⟨G, hG⟩ : ∃ G, tkErr t = G := ⟨_, rfl⟩
      obtain ⟨U, hU⟩ : ∃ U, tlsB l = U := ⟨_, rfl⟩
      obtain ⟨n, hn⟩ : ∃ n, l.length = n := ⟨_, rfl⟩
      rw [hV, hEr, hU, hn] at KV
      rw [hV, hEr, hn] at KP
      rw [hn] at KO KS KT
      rw [hM, hY, hG] at HM HM3 KTB
      rw [hM] at HML
      obtain ⟨m, hm⟩ : ∃ m, M.length = m := ⟨_, rfl⟩
      rw [hm] at KTB HM3
      have HMN := Lib.hid hm
      have hts := hs
      have htl : t.length ≤ 1400 := by omega
      rw [hn]
      clear hE hgr hg hl30 hV hEr hM hY hG hU hn hm hxl hs hts HLM
      go_enter Try.func5, Try.ntmps5
      go_wp2_with fail
      refine (KT.out _ HE.out).mono ?_
      rintro r w0 ⟨rfl, rfl⟩
      go_wp2_with fail
      refine (KO.out _ HE.out).mono ?_
      rintro r w1 ⟨B1, d1, rfl, hE, hA, hb1⟩
      have HE1 := Lib.hid hE
      have HB1 := Lib.hid hb1
      clear hE hA hb1
      go_wp2_with fail
      refine (KP.out _ _ _ HE1.out).mono ?_
      rintro r w2 ⟨rfl, hb2⟩
      have HB2 : Hid (Below W.heap.size W w2) := Lib.hid (HB1.out.trans (hb2.mono HB1.out.size))
      clear hb2
      by_cases he0 : E = 0
      · subst he0
        obtain ⟨K1, K2, hVU, hUl⟩ := KV.out rfl
        have K1 := Lib.hid K1
        have K2 := Lib.hid K2
        obtain ⟨Z, hZ⟩ : ∃ Z, V ++ t = Z := ⟨_, rfl⟩
        rw [hZ] at K1
        have hVl : V.length = U.length + 1 := by rw [hVU]; simp
        have a1 : ∀ w : World, (Op.stringOp .add ⟨V.toArray⟩ ⟨t.toArray⟩).run Try.prog w = .ok (.string ⟨Z.toArray⟩) w := fun w => by rw [← hZ]; exact run_string_add_lists w V t (by omega) (by omega)
        have hcut : ∀ w, (Instr.slice 9 (.string ⟨V.toArray⟩) none (some (.int .i64 (U.length : Int))) none).run Try.prog w = .ok (.string ⟨U.toArray⟩) w := fun w => by
          rw [run_slice_string_h (P := Try.prog) (w := w) (s := ⟨V.toArray⟩) (t := 9) Try.underlying9 .i64 (U.length : Int) (by omega) (by show (U.length : Int) ≤ (V.length : Int); omega)]
          have e : (⟨V.toArray⟩ : ByteArray).extract 0 U.length = ⟨U.toArray⟩ := by
            rw [extract_take, hVU, List.take_left]
          simp only [Int.toNat_natCast, e]
        have hVs : (V.length : Int) - 1 = (U.length : Int) := by omega
        clear hZ hVU
        go_wp2_with fail
        refine (K1.out _).mono ?_
        rintro r w3 ⟨A3, c3, rfl, hE, hA, hb3⟩
        have HE3 := Lib.hid hE
        have HB3 : Hid (Below W.heap.size W w3) := Lib.hid (HB2.out.trans (hb3.mono HB2.out.size))
        clear hb3
        clear hE hA
        go_wp2_with fail
        refine (KO.out _ (HE.out.next HB3.out)).mono ?_
        rintro r w4 ⟨B4, d4, rfl, hE, hA, hb4⟩
        have HE4 := Lib.hid hE
        have HE34 := Lib.hid (HE3.out.next hb4)
        have HB4 : Hid (Below W.heap.size W w4) := Lib.hid (HB3.out.trans (hb4.mono HB3.out.size))
        clear hb4
        clear hE hA
        go_wp2_with fail
        refine (KS.out _ _ _ _ _ HE34.out HE4.out).mono ?_
        rintro r w5 ⟨rfl, hb5⟩
        have HB5 : Hid (Below W.heap.size W w5) := Lib.hid (HB4.out.trans (hb5.mono HB4.out.size))
        clear hb5
        go_wp2_with fail
        refine (K2.out _).mono ?_
        rintro r w6 ⟨A6, c6, rfl, hb6⟩
        have HB6 : Hid (Below W.heap.size W w6) := Lib.hid (HB5.out.trans (hb6.mono HB5.out.size))
        clear hb6
        clear K1 K2 KO KS KP KV a1 hcut hVs hVl hUl
        go_wp2_with fail
        refine (KTB.out _).mono ?_
        rintro r w7 ⟨A7, c7, rfl, hE, hA, hb7⟩
        have HE7 := Lib.hid hE
        have HB7 : Hid (Below W.heap.size W w7) := Lib.hid (HB6.out.trans (hb7.mono HB6.out.size))
        clear hb7 hE hA
        by_cases h0 : G = 0
        · subst h0
          obtain ⟨h1, h2⟩ := HM.out rfl
          have KPM := Lib.hid (fun B d w h => tlput_any B d M w h HML.out)
          obtain ⟨V2, hV2⟩ : ∃ V2, tlP M = V2 := ⟨_, rfl⟩
          rw [h1, hV2, HMN.out] at KPM
          have hV2b : V2 ++ Y = t := by rw [← hV2]; exact h2
          have hl2 : V2.length ≤ 1400 := by have h := congrArg List.length hV2b; rw [List.length_append] at h; omega
          have hlY : Y.length ≤ 1400 := by have h := congrArg List.length hV2b; rw [List.length_append] at h; omega
          have a2 : ∀ w : World, (Op.stringOp .add ⟨V2.toArray⟩ ⟨Y.toArray⟩).run Try.prog w = .ok (.string ⟨t.toArray⟩) w := fun w => by rw [← hV2b]; exact run_string_add_lists w V2 Y (by omega) (by omega)
          clear h1 h2 hV2 hV2b hl2 hlY
          go_wp2_with fail
          refine (KPM.out _ _ _ HE7.out).mono ?_
          rintro r w8 ⟨rfl, hb8⟩
          have HB8 : Hid (Below W.heap.size W w8) := Lib.hid (HB7.out.trans (hb8.mono HB7.out.size))
          clear hb8
          go_wp2_with fail
          refine (wakes11 _).mono ?_
          rintro r w9 ⟨rfl, hb9⟩
          have HB9 : Hid (Below W.heap.size W w9) := Lib.hid (HB8.out.trans (hb9.mono HB8.out.size))
          clear hb9
          go_wp2
          go_ret
          exact ⟨rfl, HB9.out⟩
        · obtain ⟨h1, h2, h3, h4⟩ := HM3.out h0
          subst h1 h2 h3 h4
          clear h0
          go_wp2_with fail
          refine (wakes11 _).mono ?_
          rintro r w8 ⟨rfl, hb8⟩
          have HB8 : Hid (Below W.heap.size W w8) := Lib.hid (HB7.out.trans (hb8.mono HB7.out.size))
          clear hb8
          go_wp2
          go_ret
          exact ⟨rfl, HB8.out⟩
      · have e1 : ((E : Int) == 0) = false := by rw [beq_eq_false_iff_ne]; omega
        clear he0 KV KO KS KP
        go_wp2_with fail
        refine (KTB.out _).mono ?_
        rintro r w3 ⟨A3, c3, rfl, hE, hA, hb3⟩
        have HE3 := Lib.hid hE
        have HB3 : Hid (Below W.heap.size W w3) := Lib.hid (HB2.out.trans (hb3.mono HB2.out.size))
        clear hb3 hE hA
        by_cases h0 : G = 0
        · subst h0
          obtain ⟨h1, h2⟩ := HM.out rfl
          have KPM := Lib.hid (fun B d w h => tlput_any B d M w h HML.out)
          obtain ⟨V2, hV2⟩ : ∃ V2, tlP M = V2 := ⟨_, rfl⟩
          rw [h1, hV2, HMN.out] at KPM
          have hV2b : V2 ++ Y = t := by rw [← hV2]; exact h2
          have hl2 : V2.length ≤ 1400 := by have h := congrArg List.length hV2b; rw [List.length_append] at h; omega
          have hlY : Y.length ≤ 1400 := by have h := congrArg List.length hV2b; rw [List.length_append] at h; omega
          have a2 : ∀ w : World, (Op.stringOp .add ⟨V2.toArray⟩ ⟨Y.toArray⟩).run Try.prog w = .ok (.string ⟨t.toArray⟩) w := fun w => by rw [← hV2b]; exact run_string_add_lists w V2 Y (by omega) (by omega)
          clear h1 h2 hV2 hV2b hl2 hlY
          go_wp2_with fail
          refine (KPM.out _ _ _ HE3.out).mono ?_
          rintro r w4 ⟨rfl, hb4⟩
          have HB4 : Hid (Below W.heap.size W w4) := Lib.hid (HB3.out.trans (hb4.mono HB3.out.size))
          clear hb4
          go_wp2_with fail
          refine (wakes11 _).mono ?_
          rintro r w5 ⟨rfl, hb5⟩
          have HB5 : Hid (Below W.heap.size W w5) := Lib.hid (HB4.out.trans (hb5.mono HB4.out.size))
          clear hb5
          go_wp2
          go_ret
          exact ⟨rfl, HB5.out⟩
        · obtain ⟨h1, h2, h3, h4⟩ := HM3.out h0
          subst h1 h2 h3 h4
          clear h0
          go_wp2_with fail
          refine (wakes11 _).mono ?_
          rintro r w4 ⟨rfl, hb4⟩
          have HB4 : Hid (Below W.heap.size W w4) := Lib.hid (HB3.out.trans (hb4.mono HB3.out.size))
          clear hb4
          go_wp2
          go_ret
          exact ⟨rfl, HB4.out⟩
set_option maxRecDepth 100000 in
set_option maxHeartbeats 4000000 in
theorem walk {H : Type} {enc : TypeId × Value → H} (W : World) (base : Nat) {v0 v1 : Value} {d0 d1 : DataW H} {p0 p1 : List MemPlace}
    (o0 : Value.okWide Try.prog W .any base 22 v0) (h0 : DataW.Trod enc Try.prog W 0 (fun _ => true) true 22 v0 d0 p0) (o1 : Value.okWide Try.prog W .any base 9 v1) (h1 : DataW.Trod enc Try.prog W 0 (fun _ => true) true 9 v1 d1 p1) :
    Calls Try.prog 5 #[v0, v1] W fun e w' => e = .returned (.bool true) ∧ Below W.heap.size W w' := by
  obtain ⟨A, c, l, rfl, hlm, hA, _, hE⟩ := open_els 2 tlV (fun _ => True) Try.underlying22 (e := 43) (by kernel_rfl) (by omega)
    (fun cs fuel x hl h => tl_trod Try.underlying43 ⟨rfl, rfl⟩ ⟨rfl, rfl⟩ hl h) o0 h0
  obtain ⟨sb1, rfl, rfl, rfl, hs1⟩ := open_string Try.underlying9 o1 h1
  obtain ⟨⟨t⟩⟩ := sb1
  exact walkL W A c l t hE

theorem own : ownKnob Try.prog.godebug = none := by kernel_rfl
theorem laidOut : laidOutB Try.prog = true := by kernel_rfl
set_option maxRecDepth 100000 in
theorem lifted (os : Os) (started : os.Started) (H : Type) (enc : TypeId × Value → H) :
    ReturnsInHanded {} Try.checked os 5 .any (Rows.tlvBackSpec.pre6 enc Try.prog Try.f5 Rows.tlvBackRow.domain false) (Rows.tlvBackSpec.post enc Try.prog Try.f5 false true false false) := by
  refine returnsInHanded_of_change (C := Try.checked) own started (by kernel_rfl) Try.func5
    (ChangeSpec.witness6 (enc := enc) (C := Try.checked) false ⟨#[], #[.slice none 0 0, .string ⟨#[]⟩], []⟩ 8 (by kernel_rfl) (by kernel_rfl) (by kernel_rfl) (by kernel_rfl)) ?_
  intro W base args ds gs before hval0 hW hcnd _
  have hval : ∀ (j : Nat) t v, Try.f5.params[j]? = some t → args[j]? = some v → Value.okWide Try.prog W .any base t v := hval0
  have hW' := hW
  obtain ⟨p, q, hA0, hV, rfl, hfz, hnd⟩ := hW
  have hA : DataW.TrodAll enc Try.prog W 0 (fun _ => true) true Try.f5.params.toList args.toList ds p := hA0
  rw [Try.params5] at hA hval
  obtain ⟨v0, vs0, d0, ds0, p0, q0, hargs, rfl, rfl, h0, r0⟩ := trodAll_cons hA
  obtain ⟨v1, vs1, d1, ds1, p1, q1, rfl, rfl, rfl, h1, r1⟩ := trodAll_cons r0
  obtain ⟨rfl, rfl, rfl⟩ := trodAll_nil r1
  obtain rfl : args = #[v0, v1] := by cases args; simp_all
  obtain ⟨rfl, rfl⟩ := trodVars_none hV
  have o0 := hval 0 22 v0 rfl rfl
  have lt0 : ∀ x ∈ p0, x.block < W.heap.size := by obtain ⟨m, hm⟩ := h0; exact DataW.trod_lt m _ _ _ hm
  have o1 := hval 1 9 v1 rfl rfl
  have lt1 : ∀ x ∈ p1, x.block < W.heap.size := by obtain ⟨m, hm⟩ := h1; exact DataW.trod_lt m _ _ _ hm
  clear hA0 hval0
  refine (walk W base o0 h0 o1 h1).mono fun e W' ⟨he, bel⟩ => ?_
  subst he
  exact ⟨_, rfl, _, _, _, [], _, [], hW', trodAll_mk1 (shut_bool Try.underlying4 _), (trodAll_cons_mk (Below.trod laidOut (by kernel_rfl) (of_decide_eq_true (by kernel_rfl)) h0 bel lt0) (trodAll_cons_mk (Below.trod laidOut (by kernel_rfl) (of_decide_eq_true (by kernel_rfl)) h1 bel lt1) trodAll_mk0)), rfl, bel.frame _, fun h => by cases h⟩

theorem over : Rows.tlvBackRow.holds Try.pinned (OpenSpec.ofChange Rows.tlvBackSpec) :=
  OpenClaim.holds_of_wide 5 Try.f5 rfl rfl rfl rfl rfl rfl rfl ⟨rfl, rfl, rfl, rfl, rfl⟩ rfl rfl rfl rfl rfl (by kernel_rfl) Try.func5 (by kernel_rfl)
    (of_decide_eq_true (by kernel_rfl)) (by unfold Func.isWrapper; first | (rw [if_pos (by decide +kernel)]; kernel_rfl) | (rw [if_neg (by decide +kernel)]; exact ⟨rfl, rfl⟩))
    (fun os started H enc _ => lifted os started H enc)

/-- THE STATEMENT -/
theorem proved : Rows.TlvBackSaid := over
end Go.Proofs.Ytndmjhjicagamaa.tlvBack
