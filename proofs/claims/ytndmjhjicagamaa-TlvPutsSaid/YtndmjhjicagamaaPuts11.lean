/- TlvPuts: a row's bytes, or why there are none, and what is found in it, are what the document says: for every row and type, without a condition of ours. -/
import Derived.Test.YtndmjhjicagamaaWk11
import Derived.Test.YtndmjhjicagamaaRp11
import Derived.Test.YtndmjhjicagamaaLaw11
import Derived.OpenShut
import Derived.ShutString
import Derived.ChangeOld
import Derived.Deep.DeepCutAuto
namespace Go.Proofs.Ytndmjhjicagamaa.tlvPuts
open Go.ChangeShapes Go.WideShapes Go.ChangeAt Go.RowKit
open Go.ChangeMaps (open_string shut_string)
set_option linter.unusedVariables false
set_option linter.unusedSimpArgs false
set_option maxRecDepth 100000

set_option maxRecDepth 20000 in
set_option maxHeartbeats 4000000 in
theorem walkL (W : World) (A : Option Addr) (c : Nat) (l : List Tl) (q : UInt8) (hE : Els 2 tlV W A l) :
    Calls Try.prog 3 #[.slice A l.length c, .int .u8 q.toNat] W fun e w' => e = .returned (.bool true) ∧ Below W.heap.size W w' := by
  have HE := Lib.hid hE
  by_cases hgr : tlG l = true
  · have HGR := Lib.hid hgr
    clear hE hgr
    go_enter Try.func3, Try.ntmps3
    go_wp2_with fail
    refine (great_any A c l _ HE.out).mono ?_
    rintro r w0 ⟨rfl, rfl⟩
    rw [HGR.out]
    go_wp2_with fail
    refine (wakes11 _).mono ?_
    rintro r w1 ⟨rfl, hb1⟩
    go_wp2
    go_ret
    exact ⟨rfl, hb1⟩
  · rw [Bool.not_eq_true] at hgr
    have hg := tlG_no hgr
    have hl30 := hg.1
    have HG := Lib.hid hg
    have HGR := Lib.hid hgr
    have HL := Lib.hid (show l.length ≤ 1000 by omega)
    have HLM := Lib.hid (show l.length ≤ 1000000 by omega)
    obtain ⟨V, hV⟩ : ∃ V, tlP l = V := ⟨_, rfl⟩
    obtain ⟨E, hEr⟩ : ∃ E, tlE l = E := ⟨_, rfl⟩
    obtain ⟨X, hX⟩ : ∃ X, tlFv l q = X := ⟨_, rfl⟩
    obtain ⟨Y, hY⟩ : ∃ Y, tlFb l q = Y := ⟨_, rfl⟩
    have KP := Lib.hid (fun B d w h => tlput_any B d l w h HLM.out)
    have KR := Lib.hid (fun w h => refput11_any A c l w h HL.out)
    have KF := Lib.hid (fun B d w h => tlfind_any B d l q w h HLM.out)
    have KG := Lib.hid (fun w h => reffind_any A c l q w h HLM.out)
    have KO := Lib.hid (fun w h => of11_any A c l w h HLM.out)
    rw [hV, hEr] at KP KR
    rw [hX, hY] at KF KG
    obtain ⟨n, hn⟩ : ∃ n, l.length = n := ⟨_, rfl⟩
    have KT := Lib.hid (fun w h => great_any A c l w h)
    rw [hgr] at KT
    rw [hn] at KP KR KF KG KO KT
    rw [hn]
    clear hE hgr hg hl30 hV hEr hX hY hn HGR HG HL HLM
    go_enter Try.func3, Try.ntmps3
    go_wp2_with fail
    refine (KT.out _ HE.out).mono ?_
    rintro r w0 ⟨rfl, rfl⟩
    go_wp2_with fail
    refine (KO.out _ HE.out).mono ?_
    rintro r w1 ⟨B, d, rfl, hF, hB, hb1⟩
    have HF1 := Lib.hid hF
    have HB1 := Lib.hid hb1
    clear hF hB hb1
    go_wp2_with fail
    refine (KP.out _ _ _ HF1.out).mono ?_
    rintro r w2 ⟨rfl, hb2⟩
    have HB2 : Hid (Below W.heap.size W w2) := Lib.hid (HB1.out.trans (hb2.mono HB1.out.size))
    clear hb2
    go_wp2_with fail
    refine (KR.out _ (HE.out.next HB2.out)).mono ?_
    rintro r w3 ⟨rfl, hb3⟩
    have HB3 : Hid (Below W.heap.size W w3) := Lib.hid (HB2.out.trans (hb3.mono HB2.out.size))
    clear hb3
    go_wp2_with fail
    refine (KO.out _ (HE.out.next HB3.out)).mono ?_
    rintro r w4 ⟨B2, d2, rfl, hF, hB, hb4⟩
    have HF4 := Lib.hid hF
    have HB4 : Hid (Below W.heap.size W w4) := Lib.hid (HB3.out.trans (hb4.mono HB3.out.size))
    clear hb4
    clear hF hB
    go_wp2_with fail
    refine (KF.out _ _ _ HF4.out).mono ?_
    rintro r w5 ⟨rfl, hb5⟩
    have HB5 : Hid (Below W.heap.size W w5) := Lib.hid (HB4.out.trans (hb5.mono HB4.out.size))
    clear hb5
    go_wp2_with fail
    refine (KG.out _ (HE.out.next HB5.out)).mono ?_
    rintro r w6 ⟨rfl, rfl⟩
    cases Y
    all_goals (
      go_wp2_with fail
      refine (wakes11 _).mono ?_
      rintro r w7 ⟨rfl, hb7⟩
      have HB7 : Hid (Below W.heap.size W w7) := Lib.hid (HB5.out.trans (hb7.mono HB5.out.size))
      clear hb7
      go_wp2
      go_ret
      exact ⟨rfl, HB7.out⟩)
set_option maxRecDepth 100000 in
set_option maxHeartbeats 4000000 in
theorem walk {H : Type} {enc : TypeId × Value → H} (W : World) (base : Nat) {v0 v1 : Value} {d0 d1 : DataW H} {p0 p1 : List MemPlace}
    (o0 : Value.okWide Try.prog W .any base 22 v0) (h0 : DataW.Trod enc Try.prog W 0 (fun _ => true) true 22 v0 d0 p0) (o1 : Value.okWide Try.prog W .any base 5 v1) (h1 : DataW.Trod enc Try.prog W 0 (fun _ => true) true 5 v1 d1 p1) :
    Calls Try.prog 3 #[v0, v1] W fun e w' => e = .returned (.bool true) ∧ Below W.heap.size W w' := by
  obtain ⟨A, c, l, rfl, hlm, hA, _, hE⟩ := open_els 2 tlV (fun _ => True) Try.underlying22 (e := 43) (by kernel_rfl) (by omega)
    (fun cs fuel x hl h => tl_trod Try.underlying43 ⟨rfl, rfl⟩ ⟨rfl, rfl⟩ hl h) o0 h0
  obtain ⟨n1, rfl, hw⟩ := open_num Try.underlying5 o1 h1
  obtain ⟨q, rfl⟩ := u8_ofL hw
  exact walkL W A c l q hE

theorem own : ownKnob Try.prog.godebug = none := by kernel_rfl
theorem laidOut : laidOutB Try.prog = true := by kernel_rfl
set_option maxRecDepth 100000 in
theorem lifted (os : Os) (started : os.Started) (H : Type) (enc : TypeId × Value → H) :
    ReturnsInHanded {} Try.checked os 3 .any (Rows.tlvPutsSpec.pre6 enc Try.prog Try.f3 Rows.tlvPutsRow.domain false) (Rows.tlvPutsSpec.post enc Try.prog Try.f3 false true false false) := by
  refine returnsInHanded_of_change (C := Try.checked) own started (by kernel_rfl) Try.func3
    (ChangeSpec.witness6 (enc := enc) (C := Try.checked) false ⟨#[], #[.slice none 0 0, .int .u8 0], []⟩ 8 (by kernel_rfl) (by kernel_rfl) (by kernel_rfl) (by kernel_rfl)) ?_
  intro W base args ds gs before hval0 hW hcnd _
  have hval : ∀ (j : Nat) t v, Try.f3.params[j]? = some t → args[j]? = some v → Value.okWide Try.prog W .any base t v := hval0
  have hW' := hW
  obtain ⟨p, q, hA0, hV, rfl, hfz, hnd⟩ := hW
  have hA : DataW.TrodAll enc Try.prog W 0 (fun _ => true) true Try.f3.params.toList args.toList ds p := hA0
  rw [Try.params3] at hA hval
  obtain ⟨v0, vs0, d0, ds0, p0, q0, hargs, rfl, rfl, h0, r0⟩ := trodAll_cons hA
  obtain ⟨v1, vs1, d1, ds1, p1, q1, rfl, rfl, rfl, h1, r1⟩ := trodAll_cons r0
  obtain ⟨rfl, rfl, rfl⟩ := trodAll_nil r1
  obtain rfl : args = #[v0, v1] := by cases args; simp_all
  obtain ⟨rfl, rfl⟩ := trodVars_none hV
  have o0 := hval 0 22 v0 rfl rfl
  have lt0 : ∀ x ∈ p0, x.block < W.heap.size := by obtain ⟨m, hm⟩ := h0; exact DataW.trod_lt m _ _ _ hm
  have o1 := hval 1 5 v1 rfl rfl
  have lt1 : ∀ x ∈ p1, x.block < W.heap.size := by obtain ⟨m, hm⟩ := h1; exact DataW.trod_lt m _ _ _ hm
  clear hA0 hval0
  refine (walk W base o0 h0 o1 h1).mono fun e W' ⟨he, bel⟩ => ?_
  subst he
  exact ⟨_, rfl, _, _, _, [], _, [], hW', trodAll_mk1 (shut_bool Try.underlying4 _), (trodAll_cons_mk (Below.trod laidOut (by kernel_rfl) (of_decide_eq_true (by kernel_rfl)) h0 bel lt0) (trodAll_cons_mk (Below.trod laidOut (by kernel_rfl) (of_decide_eq_true (by kernel_rfl)) h1 bel lt1) trodAll_mk0)), rfl, bel.frame _, fun h => by cases h⟩

theorem over : Rows.tlvPutsRow.holds Try.pinned (OpenSpec.ofChange Rows.tlvPutsSpec) :=
  OpenClaim.holds_of_wide 3 Try.f3 rfl rfl rfl rfl rfl rfl rfl ⟨rfl, rfl, rfl, rfl, rfl⟩ rfl rfl rfl rfl rfl (by kernel_rfl) Try.func3 (by kernel_rfl)
    (of_decide_eq_true (by kernel_rfl)) (by unfold Func.isWrapper; first | (rw [if_pos (by decide +kernel)]; kernel_rfl) | (rw [if_neg (by decide +kernel)]; exact ⟨rfl, rfl⟩))
    (fun os started H enc _ => lifted os started H enc)

/-- THE STATEMENT -/
theorem proved : Rows.TlvPutsSaid := over
end Go.Proofs.Ytndmjhjicagamaa.tlvPuts
