/- TreeNil: no machine does nothing: for any port and any word, without a condition. -/
import Derived.Test.YtlpmilaofcakbaaWk
import Derived.OpenShut
import Derived.ShutString
import Derived.ChangeOld
namespace Go.Proofs.Ytlpmilaofcakbaa.treeNil
open Go.ChangeShapes Go.WideShapes Go.ChangeAt Go.RowKit
open Go.ChangeMaps (open_string shut_string)
open Go.Shelf
open Go.Sort (grow)
set_option linter.unusedVariables false
set_option linter.unusedSimpArgs false
set_option maxRecDepth 100000


set_option maxHeartbeats 4000000 in
theorem nil_law (W : World) (i : Nat) (b : Bp) : Calls Try.prog 4 #[.int .u8 (i : Nat), BV b] W fun e w' => e = .returned (.bool true) ∧ Below W.heap.size W w' := by
  obtain ⟨w1, hw1⟩ : ∃ w1, W.alloc (.cells #[.int .u64 b.v.r, .int .u32 b.v.c, .int .u64 b.v.b, .int .u8 b.v.p, .int .u8 b.h, .int .u64 b.ver, .int .u8 b.role, .bool b.pr, .bool b.ag, .bool b.tp, .int .u64 b.ec] 37) = w1 := ⟨_, rfl⟩
  obtain ⟨g, hg⟩ : ∃ g, W.heap.size = g := ⟨_, rfl⟩
  have HX := Lib.hid (show BpA 37 w1 g b by rw [← hw1, ← hg]; exact BpA.new 37 W b)
  have HB := Lib.hid (show Gro W w1 by rw [← hw1]; exact (Gro.refl W).alloc _)
  have HW := Lib.hid (And.intro hw1 hg)
  clear hw1 hg
  go_enter Try.func4, Try.ntmps4
  go_upto_region 1 with fail
  rw [HW.out.1, HW.out.2]
  clear HW
  go_wp2_with fail
  refine root_nil.mono ?_
  rintro e w' ⟨rfl, rfl⟩
  go_wp2_with fail
  have mixed : Try.prog.follows .mixedOrders = true := by kernel_rfl
  have g0 := fun n os => cell_grT HX.out.cells.c0 n os
  have g1 := fun n os => cell_grT HX.out.cells.c1 n os
  have g2 := fun n os => cell_grT HX.out.cells.c2 n os
  have g3 := fun n os => cell_grT HX.out.cells.c3 n os
  have g4 := fun n os => cell_grT HX.out.cells.c4 n os
  have g5 := fun n os => cell_grT HX.out.cells.c5 n os
  have g6 := fun n os => cell_grT HX.out.cells.c6 n os
  have g7 := fun n os => cell_grT HX.out.cells.c7 n os
  have g8 := fun n os => cell_grT HX.out.cells.c8 n os
  have g9 := fun n os => cell_grT HX.out.cells.c9 n os
  have g10 := fun n os => cell_grT HX.out.cells.c10 n os
  have kU : ∀ n os, Calls Try.prog 11 #[.pointer none, .int .u8 (i : Nat)] (grow (w1.drewN n) os) fun e w' => e = .returned (.slice none 0 0) ∧ ∃ q os', w' = grow ((grow (w1.drewN n) os).drewN q) os' := fun n os => (up_nil (w := grow (w1.drewN n) os)).mono fun _ _ h => ⟨h.1, h.2.out⟩
  have kD : ∀ n os, Calls Try.prog 13 #[.pointer none, .int .u8 (i : Nat)] (grow (w1.drewN n) os) fun e w' => e = .returned (.slice none 0 0) ∧ ∃ q os', w' = grow ((grow (w1.drewN n) os).drewN q) os' := fun n os => (down_nil (w := grow (w1.drewN n) os)).mono fun _ _ h => ⟨h.1, h.2.out⟩
  have kT : ∀ n os, Calls Try.prog 14 #[.pointer none] (grow (w1.drewN n) os) fun e w' => e = .returned (.slice none 0 0) ∧ ∃ q os', w' = grow ((grow (w1.drewN n) os).drewN q) os' := fun n os => (tick_nil (w := grow (w1.drewN n) os)).mono fun _ _ h => ⟨h.1, h.2.out⟩
  have kO : ∀ n os, Calls Try.prog 19 #[BV b] (grow (w1.drewN n) os) fun e w' => e = .returned (BV b) ∧ ∃ q os', w' = grow ((grow (w1.drewN n) os).drewN q) os' := fun n os => (lof_any (grow (w1.drewN n) os) b).mono fun _ _ h => ⟨h.1, h.2.out⟩
  have kH : ∀ n os, Calls Try.prog 18 #[.pointer none, .int .u8 (i : Nat), BV b] (grow (w1.drewN n) os) fun e w' => e = .returned (.slice none 0 0) ∧ ∃ q os', w' = grow ((grow (w1.drewN n) os).drewN q) os' := fun n os => (hear_nil (w := grow (w1.drewN n) os)).mono fun _ _ h => ⟨h.1, h.2.out⟩
  refine wp_region_quiet_grown mixed (by kernel_rfl) ?_
  repeat (first | go_big_quiet_step ((first | (go_at_call 11; exact Calls.grown_of (kU _ _)) | (go_at_call 13; exact Calls.grown_of (kD _ _)) | (go_at_call 14; exact Calls.grown_of (kT _ _)) | (go_at_call 19; exact Calls.grown_of (kO _ _)) | (go_at_call 18; exact Calls.grown_of (kH _ _)))) | quiet_step ((first | (go_at_call 11; exact Calls.grown_of (kU _ _)) | (go_at_call 13; exact Calls.grown_of (kD _ _)) | (go_at_call 14; exact Calls.grown_of (kT _ _)) | (go_at_call 19; exact Calls.grown_of (kO _ _)) | (go_at_call 18; exact Calls.grown_of (kH _ _)))))
  refine wpQuiet_nil ?_
  intro _ hw'
  obtain ⟨⟨nq, osq⟩, hw''⟩ := hw'
  subst hw''
  have HG := Lib.hid (HB.out.trans (Gro.of_grow (w := w1) nq osq))
  clear g0 g1 g2 g3 g4 g5 g6 g7 g8 g9 g10 kU kD kT kO kH HX HB
  generalize grow (w1.drewN nq) osq = w2 at *
  go_wp2_with fail
  refine role_nil.mono ?_
  rintro e w' ⟨rfl, rfl⟩
  go_wp2_with fail
  refine forwards_nil.mono ?_
  rintro e w' ⟨rfl, rfl⟩
  go_wp2_with fail
  refine flush_nil.mono ?_
  rintro e w' ⟨rfl, rfl⟩
  go_wp2_with fail
  refine (wakes9_any _).mono ?_
  rintro e w10 ⟨rfl, hb⟩
  have HE := Lib.hid (HG.out.below.trans (hb.mono HG.out.size))
  clear hb HG
  go_wp2
  go_ret
  exact ⟨rfl, HE.out⟩

set_option maxRecDepth 100000 in
set_option maxHeartbeats 4000000 in
theorem walk {H : Type} {enc : TypeId × Value → H} (W : World) (base : Nat) {v0 v1 : Value} {d0 d1 : DataW H} {p0 p1 : List MemPlace}
    (o0 : Value.okWide Try.prog W .any base 5 v0) (h0 : DataW.Trod enc Try.prog W 0 (fun _ => true) true 5 v0 d0 p0) (o1 : Value.okWide Try.prog W .any base 37 v1) (h1 : DataW.Trod enc Try.prog W 0 (fun _ => true) true 37 v1 d1 p1) :
    Calls Try.prog 4 #[v0, v1] W fun e w' => e = .returned (.bool true) ∧ Below W.heap.size W w' := by
  obtain ⟨a, rfl, ha⟩ := open_num Try.underlying5 o0 h0
  obtain ⟨b, _, rfl⟩ := open_rb o1 h1
  obtain ⟨i, rfl⟩ : ∃ i : Nat, a = i := ⟨a.toNat, by
    have : 0 ≤ a := by
      simp [Lit.wf, IntKind.has, IntKind.min, IntKind.max, IntKind.signed, IntKind.bits] at ha
      omega
    omega⟩
  exact nil_law W i b

theorem own : ownKnob Try.prog.godebug = none := by kernel_rfl
theorem laidOut : laidOutB Try.prog = true := by kernel_rfl
set_option maxRecDepth 100000 in
theorem lifted (os : Os) (started : os.Started) (H : Type) (enc : TypeId × Value → H) :
    ReturnsInHanded {} Try.checked os 4 .any (Rows.treeNilSpec.pre6 enc Try.prog Try.f4 Rows.treeNilRow.domain false) (Rows.treeNilSpec.post enc Try.prog Try.f4 false true false false) := by
  refine returnsInHanded_of_change (C := Try.checked) own started (by kernel_rfl) Try.func4
    (ChangeSpec.witness6 (enc := enc) (C := Try.checked) false ⟨#[], #[.int .u8 0, .agg #[.int .u64 0, .int .u32 0, .int .u64 0, .int .u8 0, .int .u8 0, .int .u64 0, .int .u8 0, .bool false, .bool false, .bool false, .int .u64 0]], []⟩ 8 (by kernel_rfl) (by kernel_rfl) (by kernel_rfl) (by kernel_rfl)) ?_
  intro W base args ds gs before hval0 hW hcnd _
  have hval : ∀ (j : Nat) t v, Try.f4.params[j]? = some t → args[j]? = some v → Value.okWide Try.prog W .any base t v := hval0
  have hW' := hW
  obtain ⟨p, q, hA0, hV, rfl, hfz, hnd⟩ := hW
  have hA : DataW.TrodAll enc Try.prog W 0 (fun _ => true) true Try.f4.params.toList args.toList ds p := hA0
  rw [Try.params4] at hA hval
  obtain ⟨v0, vs0, d0, ds0, p0, q0, hargs, rfl, rfl, h0, r0⟩ := trodAll_cons hA
  obtain ⟨v1, vs1, d1, ds1, p1, q1, rfl, rfl, rfl, h1, r1⟩ := trodAll_cons r0
  obtain ⟨rfl, rfl, rfl⟩ := trodAll_nil r1
  obtain rfl : args = #[v0, v1] := by cases args; simp_all
  obtain ⟨rfl, rfl⟩ := trodVars_none hV
  have o0 := hval 0 5 v0 rfl rfl
  have lt0 : ∀ x ∈ p0, x.block < W.heap.size := by obtain ⟨m, hm⟩ := h0; exact DataW.trod_lt m _ _ _ hm
  have o1 := hval 1 37 v1 rfl rfl
  have lt1 : ∀ x ∈ p1, x.block < W.heap.size := by obtain ⟨m, hm⟩ := h1; exact DataW.trod_lt m _ _ _ hm
  clear hA0 hval0
  refine (walk W base o0 h0 o1 h1).mono fun e W' ⟨he, bel⟩ => ?_
  subst he
  exact ⟨_, rfl, _, _, _, [], _, [], hW', trodAll_mk1 (shut_bool Try.underlying4 _), (trodAll_cons_mk (Below.trod laidOut (by kernel_rfl) (of_decide_eq_true (by kernel_rfl)) h0 bel lt0) (trodAll_cons_mk (Below.trod laidOut (by kernel_rfl) (of_decide_eq_true (by kernel_rfl)) h1 bel lt1) trodAll_mk0)), rfl, bel.frame _, fun h => by cases h⟩

theorem over : Rows.treeNilRow.holds Try.pinned (OpenSpec.ofChange Rows.treeNilSpec) :=
  OpenClaim.holds_of_wide 4 Try.f4 rfl rfl rfl rfl rfl rfl rfl ⟨rfl, rfl, rfl, rfl, rfl⟩ rfl rfl rfl rfl rfl (by kernel_rfl) Try.func4 (by kernel_rfl)
    (of_decide_eq_true (by kernel_rfl)) (by unfold Func.isWrapper; first | (rw [if_pos (by decide +kernel)]; kernel_rfl) | (rw [if_neg (by decide +kernel)]; exact ⟨rfl, rfl⟩))
    (fun os started H enc _ => lifted os started H enc)

/-- THE STATEMENT -/
theorem proved : Rows.TreeNilSaid := over
end Go.Proofs.Ytlpmilaofcakbaa.treeNil
