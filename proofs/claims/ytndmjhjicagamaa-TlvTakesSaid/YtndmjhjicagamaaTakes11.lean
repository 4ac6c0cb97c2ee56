/- TlvTakes: the things of any bytes, what is behind them, or why they are none, are what the document says: for every text, without a condition of ours. -/
import Derived.Test.YtndmjhjicagamaaWk11
import Derived.Test.YtndmjhjicagamaaRt11
import Derived.Test.YtndmjhjicagamaaLaw11
import Derived.OpenShut
import Derived.ShutString
import Derived.ChangeOld
import Derived.Deep.DeepCutAuto
namespace Go.Proofs.Ytndmjhjicagamaa.tlvTakes
open Go.ChangeShapes Go.WideShapes Go.ChangeAt Go.RowKit
open Go.ChangeMaps (open_string shut_string)
set_option linter.unusedVariables false
set_option linter.unusedSimpArgs false
set_option maxRecDepth 100000

theorem tkX_len (s : List UInt8) : (tkX s).length ≤ s.length := by
  unfold tkX
  split
  · rename_i p hp
    exact (tks_back _ s (Nat.le_refl _) p.1 p.2 hp).2.2
  · simp
set_option maxRecDepth 20000 in
set_option maxHeartbeats 4000000 in
theorem walkL (W : World) (s : List UInt8) :
    Calls Try.prog 4 #[.string ⟨s.toArray⟩] W fun e w' => e = .returned (.bool true) ∧ Below W.heap.size W w' := by
  by_cases hs : 2000 < s.length
  · have p : (2000 : Int) < (s.length : Int) := by omega
    clear hs
    go_enter Try.func4, Try.ntmps4
    go_wp2_with fail
    refine (wakes11 _).mono ?_
    rintro r w1 ⟨rfl, hb1⟩
    go_wp2
    go_ret
    exact ⟨rfl, hb1⟩
  · have p : ¬ (2000 : Int) < (s.length : Int) := by omega
    have hlx : (tkX s).length ≤ 1000000 := by have := tkX_len s; omega
    have KT := Lib.hid (fun w => tltake_any s w (by omega))
    have KR := Lib.hid (fun w => reftake11_any s.length s (Nat.le_refl _) (by omega) w)
    unfold RT at KR
    have KO := Lib.hid (fun A c w h => of11_any A c (tkX s) w h hlx)
    have KS := Lib.hid (fun A B c d w h h' => same_any A B c d (tkX s) w h h' hlx)
    obtain ⟨X, hX⟩ : ∃ X, tkX s = X := ⟨_, rfl⟩
    obtain ⟨Y, hY⟩ : ∃ Y, tkR s = Y := ⟨_, rfl⟩
    obtain ⟨E, hEr⟩ : ∃ E, tkErr s = E := ⟨_, rfl⟩
    rw [hX, hY, hEr] at KT KR
    rw [hX] at KO KS
    obtain ⟨n, hn⟩ : ∃ n, X.length = n := ⟨_, rfl⟩
    rw [hn] at KT KR KO KS
    clear hs hlx hX hY hEr hn
    go_enter Try.func4, Try.ntmps4
    go_wp2_with fail
    refine (KT.out _).mono ?_
    rintro r w1 ⟨A, c, rfl, hE, hA, hb1⟩
    have HE1 := Lib.hid hE
    have HB1 := Lib.hid hb1
    clear hE hA hb1
    go_wp2_with fail
    refine (KR.out _).mono ?_
    rintro r w2 ⟨B, d, rfl, hE, hA, hb2⟩
    have HE2 := Lib.hid hE
    have HE12 := Lib.hid (HE1.out.next hb2)
    have HB2 : Hid (Below W.heap.size W w2) := Lib.hid (HB1.out.trans (hb2.mono HB1.out.size))
    clear hb2
    clear hE hA
    go_wp2_with fail
    refine (KO.out _ _ _ HE2.out).mono ?_
    rintro r w3 ⟨B3, d3, rfl, hE, hA, hb3⟩
    have HE3 := Lib.hid hE
    have HE13 := Lib.hid (HE12.out.next hb3)
    have HB3 : Hid (Below W.heap.size W w3) := Lib.hid (HB2.out.trans (hb3.mono HB2.out.size))
    clear hb3
    clear hE hA
    go_wp2_with fail
    refine (KS.out _ _ _ _ _ HE13.out HE3.out).mono ?_
    rintro r w4 ⟨rfl, hb4⟩
    have HB4 : Hid (Below W.heap.size W w4) := Lib.hid (HB3.out.trans (hb4.mono HB3.out.size))
    clear hb4
    go_wp2_with fail
    refine (wakes11 _).mono ?_
    rintro r w5 ⟨rfl, hb5⟩
    have HB5 : Hid (Below W.heap.size W w5) := Lib.hid (HB4.out.trans (hb5.mono HB4.out.size))
    clear hb5
    go_wp2
    go_ret
    exact ⟨rfl, HB5.out⟩
set_option maxRecDepth 100000 in
set_option maxHeartbeats 4000000 in
theorem walk {H : Type} {enc : TypeId × Value → H} (W : World) (base : Nat) {v0 : Value} {d0 : DataW H} {p0 : List MemPlace}
    (o0 : Value.okWide Try.prog W .any base 9 v0) (h0 : DataW.Trod enc Try.prog W 0 (fun _ => true) true 9 v0 d0 p0) :
    Calls Try.prog 4 #[v0] W fun e w' => e = .returned (.bool true) ∧ Below W.heap.size W w' := by
  obtain ⟨sb0, rfl, rfl, rfl, hs0⟩ := open_string Try.underlying9 o0 h0
  obtain ⟨⟨s⟩⟩ := sb0
  exact walkL W s

theorem own : ownKnob Try.prog.godebug = none := by kernel_rfl
theorem laidOut : laidOutB Try.prog = true := by kernel_rfl
set_option maxRecDepth 100000 in
theorem lifted (os : Os) (started : os.Started) (H : Type) (enc : TypeId × Value → H) :
    ReturnsInHanded {} Try.checked os 4 .any (Rows.tlvTakesSpec.pre6 enc Try.prog Try.f4 Rows.tlvTakesRow.domain false) (Rows.tlvTakesSpec.post enc Try.prog Try.f4 false true false false) := by
  refine returnsInHanded_of_change (C := Try.checked) own started (by kernel_rfl) Try.func4
    (ChangeSpec.witness6 (enc := enc) (C := Try.checked) false ⟨#[], #[.string ⟨#[]⟩], []⟩ 8 (by kernel_rfl) (by kernel_rfl) (by kernel_rfl) (by kernel_rfl)) ?_
  intro W base args ds gs before hval0 hW hcnd _
  have hval : ∀ (j : Nat) t v, Try.f4.params[j]? = some t → args[j]? = some v → Value.okWide Try.prog W .any base t v := hval0
  have hW' := hW
  obtain ⟨p, q, hA0, hV, rfl, hfz, hnd⟩ := hW
  have hA : DataW.TrodAll enc Try.prog W 0 (fun _ => true) true Try.f4.params.toList args.toList ds p := hA0
  rw [Try.params4] at hA hval
  obtain ⟨v0, vs0, d0, ds0, p0, q0, hargs, rfl, rfl, h0, r0⟩ := trodAll_cons hA
  obtain ⟨rfl, rfl, rfl⟩ := trodAll_nil r0
  obtain rfl : args = #[v0] := by cases args; simp_all
  obtain ⟨rfl, rfl⟩ := trodVars_none hV
  have o0 := hval 0 9 v0 rfl rfl
  have lt0 : ∀ x ∈ p0, x.block < W.heap.size := by obtain ⟨m, hm⟩ := h0; exact DataW.trod_lt m _ _ _ hm
  clear hA0 hval0
  refine (walk W base o0 h0).mono fun e W' ⟨he, bel⟩ => ?_
  subst he
  exact ⟨_, rfl, _, _, _, [], _, [], hW', trodAll_mk1 (shut_bool Try.underlying4 _), (trodAll_cons_mk (Below.trod laidOut (by kernel_rfl) (of_decide_eq_true (by kernel_rfl)) h0 bel lt0) trodAll_mk0), rfl, bel.frame _, fun h => by cases h⟩

theorem over : Rows.tlvTakesRow.holds Try.pinned (OpenSpec.ofChange Rows.tlvTakesSpec) :=
  OpenClaim.holds_of_wide 4 Try.f4 rfl rfl rfl rfl rfl rfl rfl ⟨rfl, rfl, rfl, rfl, rfl⟩ rfl rfl rfl rfl rfl (by kernel_rfl) Try.func4 (by kernel_rfl)
    (of_decide_eq_true (by kernel_rfl)) (by unfold Func.isWrapper; first | (rw [if_pos (by decide +kernel)]; kernel_rfl) | (rw [if_neg (by decide +kernel)]; exact ⟨rfl, rfl⟩))
    (fun os started H enc _ => lifted os started H enc)

/-- THE STATEMENT -/
theorem proved : Rows.TlvTakesSaid := over
end Go.Proofs.Ytndmjhjicagamaa.tlvTakes
