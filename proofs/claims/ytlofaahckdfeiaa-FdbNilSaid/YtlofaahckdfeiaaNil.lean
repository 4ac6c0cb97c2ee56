/- FdbNil: no database leads nowhere. -/
import Derived.Test.YtlofaahckdfeiaaWakes
import Derived.Test.YtlofaahckdfeiaaArg
import Derived.OpenShut
import Derived.ShutString
import Derived.ChangeOld
namespace Go.Proofs.Ytlofaahckdfeiaa.fdbNil
open Go.ChangeShapes Go.WideShapes Go.ChangeAt Go.RowKit
open Go.ChangeMaps (open_string shut_string)
set_option linter.unusedVariables false
set_option linter.unusedSimpArgs false
set_option maxRecDepth 100000


theorem list_nil (w : World) : Calls Try.prog 21 #[.pointer none] w fun e w' => e = .returned (.slice none 0 0) ∧ Gro w w' := by
  go_enter Try.func21, Try.ntmps21
  go_wp2
  go_ret
  exact ⟨rfl, Gro.refl w⟩
theorem statics_nil (w : World) : Calls Try.prog 22 #[.pointer none] w fun e w' => e = .returned (.int .i64 0) ∧ Gro w w' := by
  go_enter Try.func22, Try.ntmps22
  go_wp2
  go_ret
  exact ⟨rfl, Gro.refl w⟩
structure NlS (W : World) (g : Nat) (m : Mc) (w : World) : Prop where
  mc : Blk w g 25 #[.int .u8 m.a.toNat, .int .u8 m.b.toNat, .int .u8 m.c.toNat, .int .u8 m.d.toNat, .int .u8 m.e.toNat, .int .u8 m.f.toNat]
  bl : Below W.heap.size W w
theorem NlS.gro {W w w' : World} {g : Nat} {m : Mc} (h : NlS W g m w) (d : Gro w w') : NlS W g m w' := ⟨d.blk h.mc, h.bl.trans (d.below.mono h.bl.size)⟩
set_option maxHeartbeats 4000000 in
theorem nil_law (W : World) (v : UInt16) (m : Mc) (s : UInt8) : Calls Try.prog 4 #[.int .u16 v.toNat, mV m, .int .u8 s.toNat] W fun e w' => e = .returned (.bool true) ∧ Below W.heap.size W w' := by
  obtain ⟨w1, hw1⟩ : ∃ w1, W.alloc (.cells #[.int .u8 m.a.toNat, .int .u8 m.b.toNat, .int .u8 m.c.toNat, .int .u8 m.d.toNat, .int .u8 m.e.toNat, .int .u8 m.f.toNat] 25) = w1 := ⟨_, rfl⟩
  obtain ⟨g, hg⟩ : ∃ g, W.heap.size = g := ⟨_, rfl⟩
  have HS := Lib.hid (show NlS W g m w1 from ⟨by rw [← hw1, ← hg]; exact Blk.new W _ _, by rw [← hw1]; exact (Below.refl W.heap.size W).alloc (Nat.le_refl _) _⟩)
  go_enter Try.func4, Try.ntmps4
  go_upto_region 1 with fail
  clear hw1 hg
  obtain ⟨m0, m1, m2, m3, m4, m5⟩ := mcells HS.out.mc
  go_wp2_with fail
  refine (learn_nil _ v m s).mono ?_
  rintro e w2 ⟨rfl, hd⟩
  have HS' := Lib.hid (HS.out.gro hd)
  clear hd HS m0 m1 m2 m3 m4 m5
  have HS := HS'
  clear HS'
  obtain ⟨m0, m1, m2, m3, m4, m5⟩ := mcells HS.out.mc
  go_wp2_with fail
  refine (tick_nil _).mono ?_
  rintro e w3 ⟨rfl, hd⟩
  have HS' := Lib.hid (HS.out.gro hd)
  clear hd HS m0 m1 m2 m3 m4 m5
  have HS := HS'
  clear HS'
  obtain ⟨m0, m1, m2, m3, m4, m5⟩ := mcells HS.out.mc
  go_wp2_with fail
  refine (look_nil _ v m).mono ?_
  rintro e w4 ⟨rfl, hd⟩
  have HS' := Lib.hid (HS.out.gro hd)
  clear hd HS m0 m1 m2 m3 m4 m5
  have HS := HS'
  clear HS'
  obtain ⟨m0, m1, m2, m3, m4, m5⟩ := mcells HS.out.mc
  go_wp2_with fail
  refine (flush_nil _ s).mono ?_
  rintro e w5 ⟨rfl, hd⟩
  have HS' := Lib.hid (HS.out.gro hd)
  clear hd HS m0 m1 m2 m3 m4 m5
  have HS := HS'
  clear HS'
  obtain ⟨m0, m1, m2, m3, m4, m5⟩ := mcells HS.out.mc
  go_wp2_with fail
  refine (set_nil _ v m s).mono ?_
  rintro e w6 ⟨rfl, hd⟩
  have HS' := Lib.hid (HS.out.gro hd)
  clear hd HS m0 m1 m2 m3 m4 m5
  have HS := HS'
  clear HS'
  obtain ⟨m0, m1, m2, m3, m4, m5⟩ := mcells HS.out.mc
  go_wp2_with fail
  refine (drop_nil _ v m).mono ?_
  rintro e w7 ⟨rfl, hd⟩
  have HS' := Lib.hid (HS.out.gro hd)
  clear hd HS m0 m1 m2 m3 m4 m5
  have HS := HS'
  clear HS'
  obtain ⟨m0, m1, m2, m3, m4, m5⟩ := mcells HS.out.mc
  go_wp2_with fail
  refine (list_nil _).mono ?_
  rintro e w8 ⟨rfl, hd⟩
  have HS' := Lib.hid (HS.out.gro hd)
  clear hd HS m0 m1 m2 m3 m4 m5
  have HS := HS'
  clear HS'
  obtain ⟨m0, m1, m2, m3, m4, m5⟩ := mcells HS.out.mc
  go_wp2_with fail
  refine (statics_nil _).mono ?_
  rintro e w9 ⟨rfl, hd⟩
  have HS' := Lib.hid (HS.out.gro hd)
  clear hd HS m0 m1 m2 m3 m4 m5
  have HS := HS'
  clear HS'
  go_wp2_with fail
  refine (wakes_any _).mono ?_
  rintro e w10 ⟨rfl, hb⟩
  have HB := Lib.hid (HS.out.bl.trans (hb.mono HS.out.bl.size))
  clear hb HS
  go_wp2
  go_ret
  exact ⟨rfl, HB.out⟩

set_option maxRecDepth 100000 in
set_option maxHeartbeats 4000000 in
theorem walk {H : Type} {enc : TypeId × Value → H} (W : World) (base : Nat) {v0 v1 v2 : Value} {d0 d1 d2 : DataW H} {p0 p1 p2 : List MemPlace}
    (o0 : Value.okWide Try.prog W .any base 23 v0) (h0 : DataW.Trod enc Try.prog W 0 (fun _ => true) true 23 v0 d0 p0) (o1 : Value.okWide Try.prog W .any base 25 v1) (h1 : DataW.Trod enc Try.prog W 0 (fun _ => true) true 25 v1 d1 p1) (o2 : Value.okWide Try.prog W .any base 5 v2) (h2 : DataW.Trod enc Try.prog W 0 (fun _ => true) true 5 v2 d2 p2) :
    Calls Try.prog 4 #[v0, v1, v2] W fun e w' => e = .returned (.bool true) ∧ Below W.heap.size W w' := by
  obtain ⟨a, rfl, ha⟩ := open_num Try.underlying23 o0 h0
  obtain ⟨m, rfl⟩ := open_mc o1 h1
  obtain ⟨b, rfl, hb⟩ := open_num Try.underlying5 o2 h2
  obtain ⟨v, rfl⟩ := u16_of ha
  obtain ⟨s, rfl⟩ := u8_of hb
  exact nil_law W v m s

theorem own : ownKnob Try.prog.godebug = none := by kernel_rfl
theorem laidOut : laidOutB Try.prog = true := by kernel_rfl
set_option maxRecDepth 100000 in
theorem lifted (os : Os) (started : os.Started) (H : Type) (enc : TypeId × Value → H) :
    ReturnsInHanded {} Try.checked os 4 .any (Rows.fdbNilSpec.pre6 enc Try.prog Try.f4 Rows.fdbNilRow.domain false) (Rows.fdbNilSpec.post enc Try.prog Try.f4 false true false false) := by
  refine returnsInHanded_of_change (C := Try.checked) own started (by kernel_rfl) Try.func4
    (ChangeSpec.witness6 (enc := enc) (C := Try.checked) false ⟨#[], #[.int .u16 0, .agg #[.int .u8 0, .int .u8 0, .int .u8 0, .int .u8 0, .int .u8 0, .int .u8 0], .int .u8 0], []⟩ 8 (by kernel_rfl) (by kernel_rfl) (by kernel_rfl) (by kernel_rfl)) ?_
  intro W base args ds gs before hval0 hW hcnd _
  have hval : ∀ (j : Nat) t v, Try.f4.params[j]? = some t → args[j]? = some v → Value.okWide Try.prog W .any base t v := hval0
  have hW' := hW
  obtain ⟨p, q, hA0, hV, rfl, hfz, hnd⟩ := hW
  have hA : DataW.TrodAll enc Try.prog W 0 (fun _ => true) true Try.f4.params.toList args.toList ds p := hA0
  rw [Try.params4] at hA hval
  obtain ⟨v0, vs0, d0, ds0, p0, q0, hargs, rfl, rfl, h0, r0⟩ := trodAll_cons hA
  obtain ⟨v1, vs1, d1, ds1, p1, q1, rfl, rfl, rfl, h1, r1⟩ := trodAll_cons r0
  obtain ⟨v2, vs2, d2, ds2, p2, q2, rfl, rfl, rfl, h2, r2⟩ := trodAll_cons r1
  obtain ⟨rfl, rfl, rfl⟩ := trodAll_nil r2
  obtain rfl : args = #[v0, v1, v2] := by cases args; simp_all
  obtain ⟨rfl, rfl⟩ := trodVars_none hV
  have o0 := hval 0 23 v0 rfl rfl
  have lt0 : ∀ x ∈ p0, x.block < W.heap.size := by obtain ⟨m, hm⟩ := h0; exact DataW.trod_lt m _ _ _ hm
  have o1 := hval 1 25 v1 rfl rfl
  have lt1 : ∀ x ∈ p1, x.block < W.heap.size := by obtain ⟨m, hm⟩ := h1; exact DataW.trod_lt m _ _ _ hm
  have o2 := hval 2 5 v2 rfl rfl
  have lt2 : ∀ x ∈ p2, x.block < W.heap.size := by obtain ⟨m, hm⟩ := h2; exact DataW.trod_lt m _ _ _ hm
  clear hA0 hval0
  refine (walk W base o0 h0 o1 h1 o2 h2).mono fun e W' ⟨he, bel⟩ => ?_
  subst he
  exact ⟨_, rfl, _, _, _, [], _, [], hW', trodAll_mk1 (shut_bool Try.underlying4 _), (trodAll_cons_mk (Below.trod laidOut (by kernel_rfl) (of_decide_eq_true (by kernel_rfl)) h0 bel lt0) (trodAll_cons_mk (Below.trod laidOut (by kernel_rfl) (of_decide_eq_true (by kernel_rfl)) h1 bel lt1) (trodAll_cons_mk (Below.trod laidOut (by kernel_rfl) (of_decide_eq_true (by kernel_rfl)) h2 bel lt2) trodAll_mk0))), rfl, bel.frame _, fun h => by cases h⟩

theorem over : Rows.fdbNilRow.holds Try.pinned (OpenSpec.ofChange Rows.fdbNilSpec) :=
  OpenClaim.holds_of_wide 4 Try.f4 rfl rfl rfl rfl rfl rfl rfl ⟨rfl, rfl, rfl, rfl, rfl⟩ rfl rfl rfl rfl rfl (by kernel_rfl) Try.func4 (by kernel_rfl)
    (of_decide_eq_true (by kernel_rfl)) (by unfold Func.isWrapper; first | (rw [if_pos (by decide +kernel)]; kernel_rfl) | (rw [if_neg (by decide +kernel)]; exact ⟨rfl, rfl⟩))
    (fun os started H enc _ => lifted os started H enc)

/-- THE STATEMENT -/
theorem proved : Rows.FdbNilSaid := over
end Go.Proofs.Ytlofaahckdfeiaa.fdbNil
