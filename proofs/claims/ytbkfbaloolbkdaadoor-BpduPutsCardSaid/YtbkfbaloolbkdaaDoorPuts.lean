/- BpduPuts: a word's bytes, or why there are none, are what the document says: for every word, without a condition of ours (the row lists two tables of the library, which the call does not read; the card ties them to the text). -/
import Derived.Test.YtbkfbaloolbkdaaDoorWakes
import Derived.Test.YtbkfbaloolbkdaaDoorRefTk
import Derived.Test.YtbkfbaloolbkdaaDoorCards
import Derived.Test.YtbkfbaloolbkdaaDoorTie
import Derived.LaidMore
import Derived.Lay
import Derived.SevenTiedAt
import Derived.Stop.Joined
import Derived.OpenShut
import Derived.ShutString
import Derived.ChangeOld
namespace Go.Proofs.YtbkfbaloolbkdaaDoor.bpduPuts
open Go.ChangeShapes Go.WideShapes Go.ChangeAt Go.RowKit
open Go.ChangeMaps (open_string shut_string)
set_option linter.unusedVariables false
set_option linter.unusedSimpArgs false
set_option maxRecDepth 100000

set_option maxHeartbeats 4000000 in
theorem walkP (W : World) (x : Bp) (hx : x.ok) :
    Calls Tryd.prog 3 #[BV x] W fun e w' => e = .returned (.bool true) ∧ Below W.heap.size W w' := by
  have HX0 : Hid (BpA 27 (W.alloc (.cells #[.int .u64 x.v.r, .int .u32 x.v.c, .int .u64 x.v.b, .int .u8 x.v.p, .int .u8 x.h, .int .u64 x.ver, .int .u8 x.role, .bool x.pr, .bool x.ag, .bool x.tp, .int .u64 x.ec] 27)) W.heap.size x) := Lib.hid (BpA.new _ _ _)
  have HB0 : Hid (Below W.heap.size W (W.alloc (.cells #[.int .u64 x.v.r, .int .u32 x.v.c, .int .u64 x.v.b, .int .u8 x.v.p, .int .u8 x.h, .int .u64 x.ver, .int .u8 x.role, .bool x.pr, .bool x.ag, .bool x.tp, .int .u64 x.ec] 27))) := Lib.hid ((Below.refl _ _).alloc (Nat.le_refl _) _)
  have KP := Lib.hid (fun w => bput_impl w x hx)
  have KM := Lib.hid (fun w => refmay5_any w x (u8wf hx.role).1)
  have KB := Lib.hid (fun w => refbytes5_any w x hx)
  obtain ⟨q, hq⟩ : ∃ q, bmay x = q := ⟨_, rfl⟩
  obtain ⟨V, hV⟩ : ∃ V, bbytes x = V := ⟨_, rfl⟩
  have hv : bputV x = (if q then V else []) ∧ bputE x = (if q then 0 else 2) := by unfold bputV bputE; rw [hq, hV]; exact ⟨rfl, rfl⟩
  rw [hv.1, hv.2] at KP
  rw [hq] at KM
  rw [hV] at KB
  clear hq hV hv
  cases q
  all_goals (
    simp only [Bool.false_eq_true, if_false, if_true] at KP
    go_enter Tryd.func3, Tryd.ntmps3
    go_wp2_with (refine load_rb 1 rfl (by kernel_rfl) W.heap.size x rfl HX0.out ?_)
    refine (of5_any _ x).mono ?_
    rintro r w1 ⟨rfl, hb1⟩
    have HX1 := Lib.hid (HX0.out.next hb1)
    have HB1 : Hid (Below W.heap.size W w1) := Lib.hid (HB0.out.trans (hb1.mono HB0.out.size))
    clear hb1
    go_wp2_with fail
    refine (KP.out _).mono ?_
    rintro r w2 ⟨rfl, hb2⟩
    have HX2 := Lib.hid (HX1.out.next hb2)
    have HB2 : Hid (Below W.heap.size W w2) := Lib.hid (HB1.out.trans (hb2.mono HB1.out.size))
    clear hb2
    go_wp2_with (refine load_rb 1 rfl (by kernel_rfl) W.heap.size x rfl HX2.out ?_)
    refine (KM.out _).mono ?_
    rintro r w3 ⟨rfl, hb3⟩
    have HX3 := Lib.hid (HX2.out.next hb3)
    have HB3 : Hid (Below W.heap.size W w3) := Lib.hid (HB2.out.trans (hb3.mono HB2.out.size))
    clear hb3)
  · go_wp2_with fail
    refine (wakes5 _).mono ?_
    rintro r w4 ⟨rfl, hb4⟩
    have HB4 : Hid (Below W.heap.size W w4) := Lib.hid (HB3.out.trans (hb4.mono HB3.out.size))
    clear hb4
    go_wp2
    go_ret
    exact ⟨rfl, HB4.out⟩
  · go_wp2_with (refine load_rb 1 rfl (by kernel_rfl) W.heap.size x rfl HX3.out ?_)
    refine (KB.out _).mono ?_
    rintro r w4 ⟨rfl, hb4⟩
    have HB4 : Hid (Below W.heap.size W w4) := Lib.hid (HB3.out.trans (hb4.mono HB3.out.size))
    clear hb4
    go_wp2_with fail
    refine (wakes5 _).mono ?_
    rintro r w5 ⟨rfl, hb5⟩
    have HB5 : Hid (Below W.heap.size W w5) := Lib.hid (HB4.out.trans (hb5.mono HB4.out.size))
    clear hb5
    go_wp2
    go_ret
    exact ⟨rfl, HB5.out⟩
set_option maxRecDepth 100000 in
set_option maxHeartbeats 4000000 in
theorem walk {H : Type} {enc : TypeId × Value → H} (W : World) (base : Nat) {v0 : Value} {d0 : DataW H} {p0 : List MemPlace}
    (o0 : Value.okWide Tryd.prog W .any base 27 v0) (h0 : DataW.Trod enc Tryd.prog W 0 (fun _ => true) true 27 v0 d0 p0) :
    Calls Tryd.prog 3 #[v0] W fun e w' => e = .returned (.bool true) ∧ Below W.heap.size W w' := by
  obtain ⟨x, hx, rfl⟩ := open_rb o0 h0
  exact walkP W x hx

theorem own : ownKnob Tryd.prog.godebug = none := by kernel_rfl
theorem laidOut : laidOutB Tryd.prog = true := by kernel_rfl
set_option maxRecDepth 100000 in
theorem lifted (os : Os) (started : os.Started) (H : Type) (enc : TypeId × Value → H) :
    ReturnsInHanded {} Tryd.checked os 3 .any (fun w args => (Rows.bpduPutsSpec.pre enc Tryd.prog Tryd.f3 Rows.bpduPutsRow.domain false w args ∧ laidMetH Tryd.prog Rows.bpduPutsRow.laid w) ∧ sizedMet enc Tryd.prog Tryd.f3 (OpenSpec.ofChange Rows.bpduPutsSpec) false w args) (Rows.bpduPutsSpec.post enc Tryd.prog Tryd.f3 false true false false) := by
  refine returnsInHanded_of_change_and (C := Tryd.checked) (X := (fun w _ => laidMetH Tryd.prog Rows.bpduPutsRow.laid w)) (fun _ _ _ hh h => h.of_heap hh) own started (by kernel_rfl) Tryd.func3
    (ChangeSpec.witness_shaped (enc := enc) (C := Tryd.checked) (os := os) (X := (fun w _ => laidMetH Tryd.prog Rows.bpduPutsRow.laid w)) false (World.laidAll Tryd.prog os Rows.bpduPutsRow.laid) #[.agg #[.int .u64 0, .int .u32 0, .int .u64 0, .int .u8 0, .int .u8 0, .int .u64 0, .int .u8 0, .bool false, .bool false, .bool false, .int .u64 0]] 8 (World.laidAll_os _ _ _)
      (World.shaped_of_ZipB (by kernel_rfl) (by kernel_rfl)) (by kernel_rfl) (by kernel_rfl) (by kernel_rfl)
      (by rw [MakeChecks.laidMetH_plain _ _ _ (by kernel_rfl)]; exact laidMet_laidAll _ (by kernel_rfl) (by kernel_rfl))) ?_
  intro W base args ds gs before hval0 hW hcnd _ _ _
  have hval : ∀ (j : Nat) t v, Tryd.f3.params[j]? = some t → args[j]? = some v → Value.okWide Tryd.prog W .any base t v := hval0
  have hW' := hW
  obtain ⟨p, q, hA0, hV, rfl, hfz, hnd⟩ := hW
  have hA : DataW.TrodAll enc Tryd.prog W 0 (fun _ => true) true Tryd.f3.params.toList args.toList ds p := hA0
  rw [Tryd.params3] at hA hval
  obtain ⟨v0, vs0, d0, ds0, p0, q0, hargs, rfl, rfl, h0, r0⟩ := trodAll_cons hA
  obtain ⟨rfl, rfl, rfl⟩ := trodAll_nil r0
  obtain rfl : args = #[v0] := by cases args; simp_all
  obtain ⟨rfl, rfl⟩ := trodVars_none hV
  have o0 := hval 0 27 v0 rfl rfl
  have lt0 : ∀ x ∈ p0, x.block < W.heap.size := by obtain ⟨m, hm⟩ := h0; exact DataW.trod_lt m _ _ _ hm
  clear hA0 hval0
  refine (walk W base o0 h0).mono fun e W' ⟨he, bel⟩ => ?_
  subst he
  exact ⟨_, rfl, _, _, _, [], _, [], hW', trodAll_mk1 (shut_bool Tryd.underlying4 _), (trodAll_cons_mk (Below.trod laidOut (by kernel_rfl) (of_decide_eq_true (by kernel_rfl)) h0 bel lt0) trodAll_mk0), rfl, bel.frame _, fun h => by cases h⟩

theorem over : Rows.bpduPutsRow.holds Tryd.pinned (OpenSpec.ofChange Rows.bpduPutsSpec) :=
  OpenClaim.holds_of_wide 3 Tryd.f3 rfl rfl rfl rfl rfl rfl rfl ⟨rfl, rfl, rfl, rfl, rfl⟩ rfl rfl rfl rfl rfl (by kernel_rfl) Tryd.func3 (by kernel_rfl)
    (of_decide_eq_true (by kernel_rfl)) (by unfold Func.isWrapper; first | (rw [if_pos (by decide +kernel)]; kernel_rfl) | (rw [if_neg (by decide +kernel)]; exact ⟨rfl, rfl⟩))
    (fun os started H enc _ => lifted os started H enc)

/-- THE STATEMENT: the row, tied to the program's text -/
theorem proved : Rows.BpduPutsCardSaid :=
  Claim7.holds_tied_plain_at .later [] Rows.bpduPutsCard.laidKinds true Rows.bpduPutsCard.stood.harness false over (fun _ h => by cases h) (by kernel_rfl) (fun _ h => by cases h) bpduPuts_row_tie rfl ⟨rfl, rfl⟩ (by kernel_rfl) rfl
    (fun f fn hf hfn => by
      obtain rfl : f = 3 := Option.some.inj ((show Tryd.prog.funcNamed "viaduct/viaductlaw05.BpduPuts" = some 3 by kernel_rfl).symm.trans hf) |>.symm
      obtain rfl : fn = Tryd.f3 := (Option.some.inj (Tryd.func3.symm.trans hfn)).symm
      exact ⟨by kernel_rfl, fun j t ht => by
        rw [Tryd.params3] at ht
        have hm : t ∈ [27] := by simpa using Array.mem_of_getElem? ht
        have hall : ([27].all fun u => !Tryd.prog.wantsStandIn u) = true := by kernel_rfl
        exact (show Tryd.prog.wantsStandIn t = false by simpa using List.all_eq_true.1 hall t hm)⟩)
    (by kernel_rfl)
end Go.Proofs.YtbkfbaloolbkdaaDoor.bpduPuts
