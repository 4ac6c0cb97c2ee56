/- WirePuts: the bytes of a number behind others are what the document says, of each width: for every slice of bytes and every number, without a condition. -/
import Derived.Test.YtjcgnclhickfgaaWakes
import Derived.Test.YtjcgnclhickfgaaRefNum
import Derived.Test.YtjcgnclhickfgaaOpen
import Derived.OpenShut
import Derived.ShutString
import Derived.ChangeOld
import Derived.Deep.RegionLaw
import Derived.Deep.DeepCutAuto
namespace Go.Proofs.Ytjcgnclhickfgaa.wirePuts
open Go.ChangeShapes Go.WideShapes Go.ChangeAt Go.RowKit
open Go.ChangeMaps (open_string shut_string)
set_option linter.unusedVariables false
set_option linter.unusedSimpArgs false

set_option maxHeartbeats 4000000 in
theorem walk {H : Type} {enc : TypeId × Value → H} (W : World) (base : Nat) {v0 v1 : Value} {d0 d1 : DataW H} {p0 p1 : List MemPlace}
    (o0 : Value.okWide Try.prog W .any base 22 v0) (h0 : DataW.Trod enc Try.prog W 0 (fun _ => true) true 22 v0 d0 p0) (o1 : Value.okWide Try.prog W .any base 23 v1) (h1 : DataW.Trod enc Try.prog W 0 (fun _ => true) true 23 v1 d1 p1) :
    Calls Try.prog 3 #[v0, v1] W fun e w' => e = .returned (.bool true) ∧ Below W.heap.size W w' := by
  obtain ⟨A, c, l, rfl, hz, hy, hm⟩ := open_bytes o0 h0
  obtain ⟨x, rfl, rfl, rfl, wx⟩ := open_int Try.underlying23 o1 h1
  have hx : 0 ≤ x ∧ x ≤ 18446744073709551615 := by
    simp [Lit.wf, IntKind.min, IntKind.max, IntKind.signed, IntKind.bits] at wx
    omega
  obtain ⟨hx0, hx1⟩ := hx
  clear o0 o1 wx h0 h1
  obtain ⟨w, rfl⟩ : ∃ w, w = W := ⟨_, rfl⟩
  by_cases hlen : 1000 < l.length
  · go_enter Try.func3, Try.ntmps3
    go_wp2_with fail
    refine wakes_any.mono ?_
    rintro e w' ⟨rfl, hb⟩
    go_wp2
    go_ret
    exact ⟨rfl, hb⟩
  have hll : ([] : List UInt8).length + l.length ≤ 140737488355328 := by simp; omega
  have HL := Lib.hid hll
  clear hll
  have HZ := Lib.hid hz
  have hst : Str w (.slice A l.length c) l := ⟨A, c, rfl, hz, hy⟩
  have hcv : (convert 22 9 (.slice A l.length c)).run Try.prog w = .ok (.string ⟨l.toArray⟩) w := hst.conv
  have HY := Lib.hid hy
  have HS := Lib.hid hst
  clear hz hst hy
  have hbw : Below w.heap.size w w := Below.refl _ _
  have HBW := Lib.hid hbw
  clear hbw
  go_enter Try.func3, Try.ntmps3
  go_upto_region 4 with fail
  go_cut [6] (fun s wx => s = .bool true ∧ Below w.heap.size w wx)
  case first =>
    have hadd : ∀ (W : World), (Op.stringOp .add ⟨l.toArray⟩ ⟨(dig 1 (x % 256).toNat).toArray⟩).run Try.prog W = .ok (.string ⟨(l ++ dig 1 (x % 256).toNat).toArray⟩) W := fun W => run_string_add_lists W l _ (by omega) (by rw [dig_len]; omega)
    have e1 : IntKind.u8.wrap x = x % 256 := by simp [IntKind.wrap, IntKind.signed, IntKind.bits]
    have e2 : x.tmod 256 = x % 256 := IntWalk.rem_in x 256 hx0
    have e3 : 0 ≤ x % 256 ∧ x % 256 ≤ 255 := by omega
    obtain ⟨e3, e4⟩ := e3
    go_region_law (first
      | (refine step_append_bytes rfl (.const (.slice none 0 0)) (.tmp 16) rfl w.heap.size (.slice none 0 0) [] rfl (OwnB.nil_ _ _) A l.length c l (by simp [Act.eval, Act.put]) rfl HZ.out (HY.out.below HBW.out).drew HL.out HBW.out.size ?_; intro v1 w1 hown1 hg1; obtain ⟨A1, c1, rfl, hz1, hy1⟩ := hown1.str)
      | (go_simp; go_at_call 9; refine (put8_any A1 c1 l (x % 256) hy1 hz1 (by omega) (by omega) (by omega)).mono ?_; rintro e w2 ⟨v2, rfl, ho2, hb2⟩; have hc2 := ho2.str.conv; have hd2 := ho2.str.convs)
      | (go_simp; go_at_call 10; refine (numstr_any 1 (x % 256) _ (by omega) (by omega) (by omega)).mono ?_; rintro e w3 ⟨rfl, hb3⟩))
    all_goals
      go_wp2_with fail
      go_meet
      have b1 := HBW.out.drew.grown hg1 HBW.out.size (by simp [Value.ownBlock])
      have b2 := b1.trans (hb2.mono b1.size)
      exact ⟨rfl, b2.trans (hb3.mono b2.size)⟩
  obtain ⟨rfl, hbc⟩ := hcut
  clear HBW
  have HBW := Lib.hid hbc
  clear hbc
  generalize wc = w4 at *
  go_upto_region 5 with fail
  go_cut [7] (fun s wx => s = .bool true ∧ Below w.heap.size w wx)
  case first =>
    have hadd : ∀ (W : World), (Op.stringOp .add ⟨l.toArray⟩ ⟨(dig 2 (x % 65536).toNat).toArray⟩).run Try.prog W = .ok (.string ⟨(l ++ dig 2 (x % 65536).toNat).toArray⟩) W := fun W => run_string_add_lists W l _ (by omega) (by rw [dig_len]; omega)
    have e1 : IntKind.u16.wrap x = x % 65536 := by simp [IntKind.wrap, IntKind.signed, IntKind.bits]
    have e2 : x.tmod 65536 = x % 65536 := IntWalk.rem_in x 65536 hx0
    have e3 : 0 ≤ x % 65536 ∧ x % 65536 ≤ 65535 := by omega
    obtain ⟨e3, e4⟩ := e3
    go_region_law (first
      | (refine step_append_bytes rfl (.const (.slice none 0 0)) (.tmp 28) rfl w.heap.size (.slice none 0 0) [] rfl (OwnB.nil_ _ _) A l.length c l (by simp [Act.eval, Act.put]) rfl HZ.out (HY.out.below HBW.out).drew HL.out HBW.out.size ?_; intro v1 w1 hown1 hg1; obtain ⟨A1, c1, rfl, hz1, hy1⟩ := hown1.str)
      | (go_simp; go_at_call 11; refine (put16_any A1 c1 l (x % 65536) hy1 hz1 (by omega) (by omega) (by omega)).mono ?_; rintro e w2 ⟨v2, rfl, ho2, hb2⟩; have hc2 := ho2.str.conv; have hd2 := ho2.str.convs)
      | (go_simp; go_at_call 10; refine (numstr_any 2 (x % 65536) _ (by omega) (by omega) (by omega)).mono ?_; rintro e w3 ⟨rfl, hb3⟩))
    all_goals
      go_wp2_with fail
      go_meet
      have b1 := HBW.out.drew.grown hg1 HBW.out.size (by simp [Value.ownBlock])
      have b2 := b1.trans (hb2.mono b1.size)
      exact ⟨rfl, b2.trans (hb3.mono b2.size)⟩
  obtain ⟨rfl, hbc⟩ := hcut
  clear HBW
  have HBW := Lib.hid hbc
  clear hbc
  generalize wc = w5 at *
  go_upto_region 6 with fail
  go_cut [8] (fun s wx => s = .bool true ∧ Below w.heap.size w wx)
  case first =>
    have hadd : ∀ (W : World), (Op.stringOp .add ⟨l.toArray⟩ ⟨(dig 4 (x % 4294967296).toNat).toArray⟩).run Try.prog W = .ok (.string ⟨(l ++ dig 4 (x % 4294967296).toNat).toArray⟩) W := fun W => run_string_add_lists W l _ (by omega) (by rw [dig_len]; omega)
    have e1 : IntKind.u32.wrap x = x % 4294967296 := by simp [IntKind.wrap, IntKind.signed, IntKind.bits]
    have e2 : x.tmod 4294967296 = x % 4294967296 := IntWalk.rem_in x 4294967296 hx0
    have e3 : 0 ≤ x % 4294967296 ∧ x % 4294967296 ≤ 4294967295 := by omega
    obtain ⟨e3, e4⟩ := e3
    go_region_law (first
      | (refine step_append_bytes rfl (.const (.slice none 0 0)) (.tmp 40) rfl w.heap.size (.slice none 0 0) [] rfl (OwnB.nil_ _ _) A l.length c l (by simp [Act.eval, Act.put]) rfl HZ.out (HY.out.below HBW.out).drew HL.out HBW.out.size ?_; intro v1 w1 hown1 hg1; obtain ⟨A1, c1, rfl, hz1, hy1⟩ := hown1.str)
      | (go_simp; go_at_call 12; refine (put32_any A1 c1 l (x % 4294967296) hy1 hz1 (by omega) (by omega) (by omega)).mono ?_; rintro e w2 ⟨v2, rfl, ho2, hb2⟩; have hc2 := ho2.str.conv; have hd2 := ho2.str.convs)
      | (go_simp; go_at_call 10; refine (numstr_any 4 (x % 4294967296) _ (by omega) (by omega) (by omega)).mono ?_; rintro e w3 ⟨rfl, hb3⟩))
    all_goals
      go_wp2_with fail
      go_meet
      have b1 := HBW.out.drew.grown hg1 HBW.out.size (by simp [Value.ownBlock])
      have b2 := b1.trans (hb2.mono b1.size)
      exact ⟨rfl, b2.trans (hb3.mono b2.size)⟩
  obtain ⟨rfl, hbc⟩ := hcut
  clear HBW
  have HBW := Lib.hid hbc
  clear hbc
  generalize wc = w6 at *
  go_upto_region 7 with fail
  go_cut [9] (fun s wx => s = .bool true ∧ Below w.heap.size w wx)
  case first =>
    have hadd : ∀ (W : World), (Op.stringOp .add ⟨l.toArray⟩ ⟨(dig 8 x.toNat).toArray⟩).run Try.prog W = .ok (.string ⟨(l ++ dig 8 x.toNat).toArray⟩) W := fun W => run_string_add_lists W l _ (by omega) (by rw [dig_len]; omega)
    go_region_law (first
      | (refine step_append_bytes rfl (.const (.slice none 0 0)) (.tmp 52) rfl w.heap.size (.slice none 0 0) [] rfl (OwnB.nil_ _ _) A l.length c l (by simp [Act.eval, Act.put]) rfl HZ.out (HY.out.below HBW.out).drew HL.out HBW.out.size ?_; intro v1 w1 hown1 hg1; obtain ⟨A1, c1, rfl, hz1, hy1⟩ := hown1.str)
      | (go_simp; go_at_call 13; refine (put64_any A1 c1 l x hy1 hz1 (by omega) (by omega) (by omega)).mono ?_; rintro e w2 ⟨v2, rfl, ho2, hb2⟩; have hc2 := ho2.str.conv; have hd2 := ho2.str.convs)
      | (go_simp; go_at_call 10; refine (numstr_any 8 x _ (by omega) (by omega) (by omega)).mono ?_; rintro e w3 ⟨rfl, hb3⟩))
    all_goals
      go_wp2_with fail
      go_meet
      have b1 := HBW.out.drew.grown hg1 HBW.out.size (by simp [Value.ownBlock])
      have b2 := b1.trans (hb2.mono b1.size)
      exact ⟨rfl, b2.trans (hb3.mono b2.size)⟩
  obtain ⟨rfl, hbc⟩ := hcut
  clear HBW
  have HBW := Lib.hid hbc
  clear hbc
  generalize wc = w7 at *
  go_wp2_with fail
  refine wakes_any.mono ?_
  rintro e w' ⟨rfl, hb⟩
  go_wp2
  go_ret
  exact ⟨rfl, HBW.out.trans (hb.mono HBW.out.size)⟩

theorem own : ownKnob Try.prog.godebug = none := by kernel_rfl
theorem laidOut : laidOutB Try.prog = true := by kernel_rfl
set_option maxRecDepth 100000 in
theorem lifted (os : Os) (started : os.Started) (H : Type) (enc : TypeId × Value → H) :
    ReturnsInHanded {} Try.checked os 3 .any (Rows.wirePutsSpec.pre6 enc Try.prog Try.f3 Rows.wirePutsRow.domain false) (Rows.wirePutsSpec.post enc Try.prog Try.f3 false true false false) := by
  refine returnsInHanded_of_change (C := Try.checked) own started (by kernel_rfl) Try.func3
    (ChangeSpec.witness6 (enc := enc) (C := Try.checked) false ⟨#[], #[.slice none 0 0, .int .u64 0], []⟩ 8 (by kernel_rfl) (by kernel_rfl) (by kernel_rfl) (by kernel_rfl)) ?_
  intro W base args ds gs before hval0 hW hcnd _
  have hval : ∀ (j : Nat) t v, Try.f3.params[j]? = some t → args[j]? = some v → Value.okWide Try.prog W .any base t v := hval0
  have hW' := hW
  obtain ⟨p, q, hA0, hV, rfl, hfz, hnd⟩ := hW
  have hA : DataW.TrodAll enc Try.prog W 0 (fun _ => true) true Try.f3.params.toList args.toList ds p := hA0
  rw [Try.params3] at hA hval
  obtain ⟨v0, vs0, d0, ds0, p0, q0, hargs, rfl, rfl, h0, r0⟩ := trodAll_cons hA
  obtain ⟨v1, vs1, d1, ds1, p1, q1, rfl, rfl, rfl, h1, r1⟩ := trodAll_cons r0
  obtain ⟨rfl, rfl, rfl⟩ := trodAll_nil r1
  obtain rfl : args = #[v0, v1] := by cases args; simp_all
  obtain ⟨rfl, rfl⟩ := trodVars_none hV
  have o0 := hval 0 22 v0 rfl rfl
  have lt0 : ∀ x ∈ p0, x.block < W.heap.size := by obtain ⟨m, hm⟩ := h0; exact DataW.trod_lt m _ _ _ hm
  have o1 := hval 1 23 v1 rfl rfl
  have lt1 : ∀ x ∈ p1, x.block < W.heap.size := by obtain ⟨m, hm⟩ := h1; exact DataW.trod_lt m _ _ _ hm
  clear hA0 hval0
  refine (walk W base o0 h0 o1 h1).mono fun e W' ⟨he, bel⟩ => ?_
  subst he
  exact ⟨_, rfl, _, _, _, [], _, [], hW', trodAll_mk1 (shut_bool Try.underlying4 _), (trodAll_cons_mk (Below.trod laidOut (by kernel_rfl) (of_decide_eq_true (by kernel_rfl)) h0 bel lt0) (trodAll_cons_mk (Below.trod laidOut (by kernel_rfl) (of_decide_eq_true (by kernel_rfl)) h1 bel lt1) trodAll_mk0)), rfl, bel.frame _, fun h => by cases h⟩

theorem over : Rows.wirePutsRow.holds Try.pinned (OpenSpec.ofChange Rows.wirePutsSpec) :=
  OpenClaim.holds_of_wide 3 Try.f3 rfl rfl rfl rfl rfl rfl rfl ⟨rfl, rfl, rfl, rfl, rfl⟩ rfl rfl rfl rfl rfl (by kernel_rfl) Try.func3 (by kernel_rfl)
    (of_decide_eq_true (by kernel_rfl)) (by unfold Func.isWrapper; first | (rw [if_pos (by decide +kernel)]; kernel_rfl) | (rw [if_neg (by decide +kernel)]; exact ⟨rfl, rfl⟩))
    (fun os started H enc _ => lifted os started H enc)

/-- THE STATEMENT -/
theorem proved : Rows.WirePutsSaid := over
end Go.Proofs.Ytjcgnclhickfgaa.wirePuts
