/- BpduTakes: the word of any bytes, or why they are none's, is what the document says: for every text, without a condition of ours (the row lists two tables of the library, which the call does not read; the card ties them to the text). -/
import Derived.Test.YtbkfbaloolbkdaaDoorWakes
import Derived.Test.YtbkfbaloolbkdaaDoorRefTk
import Derived.Test.YtbkfbaloolbkdaaDoorCards
import Derived.Test.YtbkfbaloolbkdaaDoorTie
import Derived.LaidMore
import Derived.Lay
import Derived.SevenTiedAt
import Derived.Stop.Joined
import Derived.OpenShut
import Derived.ShutString
import Derived.ChangeOld
import Derived.Deep.RegionHeld3
import Derived.Deep.DeepCutAuto
namespace Go.Proofs.YtbkfbaloolbkdaaDoor.bpduTakes
open Go.ChangeShapes Go.WideShapes Go.ChangeAt Go.RowKit
open Go.ChangeMaps (open_string shut_string)
set_option linter.unusedVariables false
set_option linter.unusedSimpArgs false
set_option maxRecDepth 100000

set_option maxHeartbeats 4000000 in
theorem walkT (W : World) (s : List UInt8) :
    Calls Tryd.prog 4 #[.string ⟨s.toArray⟩] W fun e w' => e = .returned (.bool true) ∧ Below W.heap.size W w' := by
  by_cases hlen : 2000 < s.length
  · have h3 : decide ((2000 : Int) < (s.length : Int)) = true := by simp; omega
    go_enter Tryd.func4, Tryd.ntmps4
    go_wp2_with fail
    refine (wakes5 _).mono ?_
    rintro r w1 ⟨rfl, hb1⟩
    go_wp2
    go_ret
    exact ⟨rfl, hb1⟩
  have h3 : decide ((2000 : Int) < (s.length : Int)) = false := by simp; omega
  have KT := Lib.hid (fun w => btake_impl w s (by omega))
  have KR := Lib.hid (fun w => reftake5 w s (by omega))
  obtain ⟨y, hy⟩ : ∃ y, btakeF s = y := ⟨_, rfl⟩
  obtain ⟨E, hE⟩ : ∃ E, btakeE s = E := ⟨_, rfl⟩
  rw [hy, hE] at KT KR
  clear hy hE hlen
  go_enter Tryd.func4, Tryd.ntmps4
  go_wp2_with fail
  refine (KT.out _).mono ?_
  rintro r w1 ⟨rfl, hb1⟩
  have HB1 := Lib.hid hb1
  clear hb1
  go_wp2_with fail
  refine (KR.out _).mono ?_
  rintro r w2 ⟨rfl, hb2⟩
  have HX2 : Hid (BpA 33 w2 w1.heap.size y) := Lib.hid ((BpA.new 33 w1 y).next hb2)
  have HB2 : Hid (Below W.heap.size W w2) := Lib.hid ((HB1.out.alloc HB1.out.size _).trans (hb2.mono (Nat.le_trans HB1.out.size (by simp))))
  have hlt : w1.heap.size < w2.heap.size := HX2.out.lt
  have HLT := Lib.hid hlt
  obtain ⟨g3, hg3⟩ : ∃ g, w1.heap.size = g := ⟨_, rfl⟩
  obtain ⟨g5, hg5⟩ : ∃ g, w2.heap.size = g := ⟨_, rfl⟩
  rw [hg3] at HX2
  have HX3 : Hid (BpA 33 (w2.alloc (.cells #[.int .u64 y.v.r, .int .u32 y.v.c, .int .u64 y.v.b, .int .u8 y.v.p, .int .u8 y.h, .int .u64 y.ver, .int .u8 y.role, .bool y.pr, .bool y.ag, .bool y.tp, .int .u64 y.ec] 27)) g3 y) := Lib.hid (HX2.out.alloc _)
  have HY3 : Hid (BpA 27 (w2.alloc (.cells #[.int .u64 y.v.r, .int .u32 y.v.c, .int .u64 y.v.b, .int .u8 y.v.p, .int .u8 y.h, .int .u64 y.ver, .int .u8 y.role, .bool y.pr, .bool y.ag, .bool y.tp, .int .u64 y.ec] 27)) g5 y) := Lib.hid (by rw [← hg5]; exact BpA.new _ _ _)
  have HB3 : Hid (Below W.heap.size W (w2.alloc (.cells #[.int .u64 y.v.r, .int .u32 y.v.c, .int .u64 y.v.b, .int .u8 y.v.p, .int .u8 y.h, .int .u64 y.ver, .int .u8 y.role, .bool y.pr, .bool y.ag, .bool y.tp, .int .u64 y.ec] 27))) := Lib.hid (HB2.out.alloc HB2.out.size _)
  clear hb2 hlt HX2 HB2 HB1
  go_upto_region 5 with (fail)
  clear HLT
  generalize w2.alloc (.cells #[.int .u64 y.v.r, .int .u32 y.v.c, .int .u64 y.v.b, .int .u8 y.v.p, .int .u8 y.h, .int .u64 y.ver, .int .u8 y.role, .bool y.pr, .bool y.ag, .bool y.tp, .int .u64 y.ec] 27) = w3 at *
  have HBd : Hid (Below W.heap.size W w3.drew) := Lib.hid HB3.out.drew
  obtain ⟨a0, a1, a2, a3, a4, a5, a6, a7, a8, a9, a10⟩ := HX3.out.cells
  obtain ⟨b0, b1, b2, b3, b4, b5, b6, b7, b8, b9, b10⟩ := HY3.out.cells
  have eF : ∀ W : World, (Op.equalIn 10000 33 (BV y) (BV y)).run Tryd.prog W = .ok true W := fun W => by rw [run_eqB]; simp
  go_region_held3 (fun w_ => w_.cell? ⟨g3, 0, none⟩ = some (.int .u64 y.v.r) ∧ w_.cell? ⟨g3, 1, none⟩ = some (.int .u32 y.v.c) ∧ w_.cell? ⟨g3, 2, none⟩ = some (.int .u64 y.v.b) ∧ w_.cell? ⟨g3, 3, none⟩ = some (.int .u8 y.v.p) ∧ w_.cell? ⟨g3, 4, none⟩ = some (.int .u8 y.h) ∧ w_.cell? ⟨g3, 5, none⟩ = some (.int .u64 y.ver) ∧ w_.cell? ⟨g3, 6, none⟩ = some (.int .u8 y.role) ∧ w_.cell? ⟨g3, 7, none⟩ = some (.bool y.pr) ∧ w_.cell? ⟨g3, 8, none⟩ = some (.bool y.ag) ∧ w_.cell? ⟨g3, 9, none⟩ = some (.bool y.tp) ∧ w_.cell? ⟨g3, 10, none⟩ = some (.int .u64 y.ec) ∧ w_.cell? ⟨g5, 0, none⟩ = some (.int .u64 y.v.r) ∧ w_.cell? ⟨g5, 1, none⟩ = some (.int .u32 y.v.c) ∧ w_.cell? ⟨g5, 2, none⟩ = some (.int .u64 y.v.b) ∧ w_.cell? ⟨g5, 3, none⟩ = some (.int .u8 y.v.p) ∧ w_.cell? ⟨g5, 4, none⟩ = some (.int .u8 y.h) ∧ w_.cell? ⟨g5, 5, none⟩ = some (.int .u64 y.ver) ∧ w_.cell? ⟨g5, 6, none⟩ = some (.int .u8 y.role) ∧ w_.cell? ⟨g5, 7, none⟩ = some (.bool y.pr) ∧ w_.cell? ⟨g5, 8, none⟩ = some (.bool y.ag) ∧ w_.cell? ⟨g5, 9, none⟩ = some (.bool y.tp) ∧ w_.cell? ⟨g5, 10, none⟩ = some (.int .u64 y.ec) ∧ Hid (Below W.heap.size W w_)) (go_keep)
    (first
      | (go_at_call 8; refine (of5_any _ y).mono ?_; rintro r w_ ⟨rfl, hb_⟩; have k0_0 := keepc (p := ⟨g3, 0, none⟩) (v := .int .u64 y.v.r) (by assumption) hb_; have k0_1 := keepc (p := ⟨g3, 1, none⟩) (v := .int .u32 y.v.c) (by assumption) hb_; have k0_2 := keepc (p := ⟨g3, 2, none⟩) (v := .int .u64 y.v.b) (by assumption) hb_; have k0_3 := keepc (p := ⟨g3, 3, none⟩) (v := .int .u8 y.v.p) (by assumption) hb_; have k0_4 := keepc (p := ⟨g3, 4, none⟩) (v := .int .u8 y.h) (by assumption) hb_; have k0_5 := keepc (p := ⟨g3, 5, none⟩) (v := .int .u64 y.ver) (by assumption) hb_; have k0_6 := keepc (p := ⟨g3, 6, none⟩) (v := .int .u8 y.role) (by assumption) hb_; have k0_7 := keepc (p := ⟨g3, 7, none⟩) (v := .bool y.pr) (by assumption) hb_; have k0_8 := keepc (p := ⟨g3, 8, none⟩) (v := .bool y.ag) (by assumption) hb_; have k0_9 := keepc (p := ⟨g3, 9, none⟩) (v := .bool y.tp) (by assumption) hb_; have k0_10 := keepc (p := ⟨g3, 10, none⟩) (v := .int .u64 y.ec) (by assumption) hb_; have k1_0 := keepc (p := ⟨g5, 0, none⟩) (v := .int .u64 y.v.r) (by assumption) hb_; have k1_1 := keepc (p := ⟨g5, 1, none⟩) (v := .int .u32 y.v.c) (by assumption) hb_; have k1_2 := keepc (p := ⟨g5, 2, none⟩) (v := .int .u64 y.v.b) (by assumption) hb_; have k1_3 := keepc (p := ⟨g5, 3, none⟩) (v := .int .u8 y.v.p) (by assumption) hb_; have k1_4 := keepc (p := ⟨g5, 4, none⟩) (v := .int .u8 y.h) (by assumption) hb_; have k1_5 := keepc (p := ⟨g5, 5, none⟩) (v := .int .u64 y.ver) (by assumption) hb_; have k1_6 := keepc (p := ⟨g5, 6, none⟩) (v := .int .u8 y.role) (by assumption) hb_; have k1_7 := keepc (p := ⟨g5, 7, none⟩) (v := .bool y.pr) (by assumption) hb_; have k1_8 := keepc (p := ⟨g5, 8, none⟩) (v := .bool y.ag) (by assumption) hb_; have k1_9 := keepc (p := ⟨g5, 9, none⟩) (v := .bool y.tp) (by assumption) hb_; have k1_10 := keepc (p := ⟨g5, 10, none⟩) (v := .int .u64 y.ec) (by assumption) hb_; have kB := keepb (by assumption) hb_; clear hb_)
      | (go_at_call 10; refine (wakes5 _).mono ?_; rintro r w_ ⟨rfl, hb_⟩; have k0_0 := keepc (p := ⟨g3, 0, none⟩) (v := .int .u64 y.v.r) (by assumption) hb_; have k0_1 := keepc (p := ⟨g3, 1, none⟩) (v := .int .u32 y.v.c) (by assumption) hb_; have k0_2 := keepc (p := ⟨g3, 2, none⟩) (v := .int .u64 y.v.b) (by assumption) hb_; have k0_3 := keepc (p := ⟨g3, 3, none⟩) (v := .int .u8 y.v.p) (by assumption) hb_; have k0_4 := keepc (p := ⟨g3, 4, none⟩) (v := .int .u8 y.h) (by assumption) hb_; have k0_5 := keepc (p := ⟨g3, 5, none⟩) (v := .int .u64 y.ver) (by assumption) hb_; have k0_6 := keepc (p := ⟨g3, 6, none⟩) (v := .int .u8 y.role) (by assumption) hb_; have k0_7 := keepc (p := ⟨g3, 7, none⟩) (v := .bool y.pr) (by assumption) hb_; have k0_8 := keepc (p := ⟨g3, 8, none⟩) (v := .bool y.ag) (by assumption) hb_; have k0_9 := keepc (p := ⟨g3, 9, none⟩) (v := .bool y.tp) (by assumption) hb_; have k0_10 := keepc (p := ⟨g3, 10, none⟩) (v := .int .u64 y.ec) (by assumption) hb_; have k1_0 := keepc (p := ⟨g5, 0, none⟩) (v := .int .u64 y.v.r) (by assumption) hb_; have k1_1 := keepc (p := ⟨g5, 1, none⟩) (v := .int .u32 y.v.c) (by assumption) hb_; have k1_2 := keepc (p := ⟨g5, 2, none⟩) (v := .int .u64 y.v.b) (by assumption) hb_; have k1_3 := keepc (p := ⟨g5, 3, none⟩) (v := .int .u8 y.v.p) (by assumption) hb_; have k1_4 := keepc (p := ⟨g5, 4, none⟩) (v := .int .u8 y.h) (by assumption) hb_; have k1_5 := keepc (p := ⟨g5, 5, none⟩) (v := .int .u64 y.ver) (by assumption) hb_; have k1_6 := keepc (p := ⟨g5, 6, none⟩) (v := .int .u8 y.role) (by assumption) hb_; have k1_7 := keepc (p := ⟨g5, 7, none⟩) (v := .bool y.pr) (by assumption) hb_; have k1_8 := keepc (p := ⟨g5, 8, none⟩) (v := .bool y.ag) (by assumption) hb_; have k1_9 := keepc (p := ⟨g5, 9, none⟩) (v := .bool y.tp) (by assumption) hb_; have k1_10 := keepc (p := ⟨g5, 10, none⟩) (v := .int .u64 y.ec) (by assumption) hb_; have kB := keepb (by assumption) hb_; clear hb_))
  all_goals (
    go_wp2
    go_ret
    exact ⟨rfl, Hid.out (by assumption)⟩)
set_option maxRecDepth 100000 in
set_option maxHeartbeats 4000000 in
theorem walk {H : Type} {enc : TypeId × Value → H} (W : World) (base : Nat) {v0 : Value} {d0 : DataW H} {p0 : List MemPlace}
    (o0 : Value.okWide Tryd.prog W .any base 9 v0) (h0 : DataW.Trod enc Tryd.prog W 0 (fun _ => true) true 9 v0 d0 p0) :
    Calls Tryd.prog 4 #[v0] W fun e w' => e = .returned (.bool true) ∧ Below W.heap.size W w' := by
  obtain ⟨sb, rfl, rfl, rfl, hs⟩ := open_string Tryd.underlying9 o0 h0
  obtain ⟨⟨s⟩⟩ := sb
  exact walkT W s

theorem own : ownKnob Tryd.prog.godebug = none := by kernel_rfl
theorem laidOut : laidOutB Tryd.prog = true := by kernel_rfl
set_option maxRecDepth 100000 in
theorem lifted (os : Os) (started : os.Started) (H : Type) (enc : TypeId × Value → H) :
    ReturnsInHanded {} Tryd.checked os 4 .any (fun w args => (Rows.bpduTakesSpec.pre enc Tryd.prog Tryd.f4 Rows.bpduTakesRow.domain false w args ∧ laidMetH Tryd.prog Rows.bpduTakesRow.laid w) ∧ sizedMet enc Tryd.prog Tryd.f4 (OpenSpec.ofChange Rows.bpduTakesSpec) false w args) (Rows.bpduTakesSpec.post enc Tryd.prog Tryd.f4 false true false false) := by
  refine returnsInHanded_of_change_and (C := Tryd.checked) (X := (fun w _ => laidMetH Tryd.prog Rows.bpduTakesRow.laid w)) (fun _ _ _ hh h => h.of_heap hh) own started (by kernel_rfl) Tryd.func4
    (ChangeSpec.witness_shaped (enc := enc) (C := Tryd.checked) (os := os) (X := (fun w _ => laidMetH Tryd.prog Rows.bpduTakesRow.laid w)) false (World.laidAll Tryd.prog os Rows.bpduTakesRow.laid) #[.string ⟨#[]⟩] 8 (World.laidAll_os _ _ _)
      (World.shaped_of_ZipB (by kernel_rfl) (by kernel_rfl)) (by kernel_rfl) (by kernel_rfl) (by kernel_rfl)
      (by rw [MakeChecks.laidMetH_plain _ _ _ (by kernel_rfl)]; exact laidMet_laidAll _ (by kernel_rfl) (by kernel_rfl))) ?_
  intro W base args ds gs before hval0 hW hcnd _ _ _
  have hval : ∀ (j : Nat) t v, Tryd.f4.params[j]? = some t → args[j]? = some v → Value.okWide Tryd.prog W .any base t v := hval0
  have hW' := hW
  obtain ⟨p, q, hA0, hV, rfl, hfz, hnd⟩ := hW
  have hA : DataW.TrodAll enc Tryd.prog W 0 (fun _ => true) true Tryd.f4.params.toList args.toList ds p := hA0
  rw [Tryd.params4] at hA hval
  obtain ⟨v0, vs0, d0, ds0, p0, q0, hargs, rfl, rfl, h0, r0⟩ := trodAll_cons hA
  obtain ⟨rfl, rfl, rfl⟩ := trodAll_nil r0
  obtain rfl : args = #[v0] := by cases args; simp_all
  obtain ⟨rfl, rfl⟩ := trodVars_none hV
  have o0 := hval 0 9 v0 rfl rfl
  have lt0 : ∀ x ∈ p0, x.block < W.heap.size := by obtain ⟨m, hm⟩ := h0; exact DataW.trod_lt m _ _ _ hm
  clear hA0 hval0
  refine (walk W base o0 h0).mono fun e W' ⟨he, bel⟩ => ?_
  subst he
  exact ⟨_, rfl, _, _, _, [], _, [], hW', trodAll_mk1 (shut_bool Tryd.underlying4 _), (trodAll_cons_mk (Below.trod laidOut (by kernel_rfl) (of_decide_eq_true (by kernel_rfl)) h0 bel lt0) trodAll_mk0), rfl, bel.frame _, fun h => by cases h⟩

theorem over : Rows.bpduTakesRow.holds Tryd.pinned (OpenSpec.ofChange Rows.bpduTakesSpec) :=
  OpenClaim.holds_of_wide 4 Tryd.f4 rfl rfl rfl rfl rfl rfl rfl ⟨rfl, rfl, rfl, rfl, rfl⟩ rfl rfl rfl rfl rfl (by kernel_rfl) Tryd.func4 (by kernel_rfl)
    (of_decide_eq_true (by kernel_rfl)) (by unfold Func.isWrapper; first | (rw [if_pos (by decide +kernel)]; kernel_rfl) | (rw [if_neg (by decide +kernel)]; exact ⟨rfl, rfl⟩))
    (fun os started H enc _ => lifted os started H enc)

/-- THE STATEMENT: the row, tied to the program's text -/
theorem proved : Rows.BpduTakesCardSaid :=
  Claim7.holds_tied_plain_at .later [] Rows.bpduTakesCard.laidKinds true Rows.bpduTakesCard.stood.harness false over (fun _ h => by cases h) (by kernel_rfl) (fun _ h => by cases h) bpduTakes_row_tie rfl ⟨rfl, rfl⟩ (by kernel_rfl) rfl
    (fun f fn hf hfn => by
      obtain rfl : f = 4 := Option.some.inj ((show Tryd.prog.funcNamed "viaduct/viaductlaw05.BpduTakes" = some 4 by kernel_rfl).symm.trans hf) |>.symm
      obtain rfl : fn = Tryd.f4 := (Option.some.inj (Tryd.func4.symm.trans hfn)).symm
      exact ⟨by kernel_rfl, fun j t ht => by
        rw [Tryd.params4] at ht
        have hm : t ∈ [9] := by simpa using Array.mem_of_getElem? ht
        have hall : ([9].all fun u => !Tryd.prog.wantsStandIn u) = true := by kernel_rfl
        exact (show Tryd.prog.wantsStandIn t = false by simpa using List.all_eq_true.1 hall t hm)⟩)
    (by kernel_rfl)
end Go.Proofs.YtbkfbaloolbkdaaDoor.bpduTakes
