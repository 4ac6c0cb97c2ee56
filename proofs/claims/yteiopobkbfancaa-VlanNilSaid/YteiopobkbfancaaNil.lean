/- VlanNil: no table has no VLANs. -/
import Derived.Test.YteiopobkbfancaaWakes
import Derived.Test.YteiopobkbfancaaVSort
import Derived.OpenShut
import Derived.ShutString
import Derived.ChangeOld
namespace Go.Proofs.Yteiopobkbfancaa.vlanNil
open Go.ChangeShapes Go.WideShapes Go.ChangeAt Go.RowKit
open Go.ChangeMaps (open_string shut_string)
set_option linter.unusedVariables false
set_option linter.unusedSimpArgs false
set_option maxRecDepth 100000


theorem u8_of {n : Int} (h : (Lit.int .u8 n).wf = true) : ∃ u : UInt8, n = (u.toNat : Int) := by
  have hb : 0 ≤ n ∧ n ≤ 255 := by
    simp [Lit.wf, IntKind.has, IntKind.min, IntKind.max, IntKind.signed, IntKind.bits] at h
    omega
  refine ⟨UInt8.ofNat n.toNat, ?_⟩
  have : n.toNat % 256 = n.toNat := by omega
  simp [this]
  omega
theorem u16_of {n : Int} (h : (Lit.int .u16 n).wf = true) : ∃ u : UInt16, n = (u.toNat : Int) := by
  have hb : 0 ≤ n ∧ n ≤ 65535 := by
    simp [Lit.wf, IntKind.has, IntKind.min, IntKind.max, IntKind.signed, IntKind.bits] at h
    omega
  refine ⟨UInt16.ofNat n.toNat, ?_⟩
  have : n.toNat % 65536 = n.toNat := by omega
  simp [this]
  omega
theorem out_nil_z {z : Fr} (hz : z = Fr.zero) {w : World} (p : UInt8) (v : UInt16) (f : Fr) :
    Calls Try.prog 15 #[.pointer none, .int .u8 p.toNat, .int .u16 v.toNat, FV f] w fun e w' => e = .returned (.tuple #[FV z, .bool false]) ∧ Below w.heap.size w w' := by
  subst hz
  exact out_nil p v f
theorem set_nil11 {w : World} (v : UInt16) :
    Calls Try.prog 17 #[.pointer none, .int .u16 v.toNat, .int .u8 1, .int .u8 1] w fun e w' => e = .returned (.int .i64 1) ∧ Below w.heap.size w w' := set_nil v 1 1
set_option maxRecDepth 100000 in
set_option maxHeartbeats 4000000 in
theorem nil_law (W : World) (p : UInt8) (v : UInt16) (f : Fr) : Calls Try.prog 4 #[.int .u8 p.toNat, .int .u16 v.toNat, FV f] W fun e w' => e = .returned (.bool true) ∧ Below W.heap.size W w' := by
  obtain ⟨z, hz⟩ : ∃ z, z = Fr.zero := ⟨_, rfl⟩
  have HZ := Lib.hid hz
  clear hz
  obtain ⟨w1, hw1⟩ : ∃ w1, W.alloc (.cells #[.int .u8 f.d0.toNat, .int .u8 f.d1.toNat, .int .u8 f.d2.toNat, .int .u8 f.d3.toNat, .int .u8 f.d4.toNat, .int .u8 f.d5.toNat, .int .u8 f.s0.toNat, .int .u8 f.s1.toNat, .int .u8 f.s2.toNat, .int .u8 f.s3.toNat, .int .u8 f.s4.toNat, .int .u8 f.s5.toNat, .bool f.tag, .int .u8 f.pri.toNat, .int .u16 f.vid.toNat, .int .u16 f.ty.toNat, .string ⟨f.data.toArray⟩] 27) = w1 := ⟨_, rfl⟩
  obtain ⟨g, hg⟩ : ∃ g, W.heap.size = g := ⟨_, rfl⟩
  have HF1 := Lib.hid (show FrA w1 g f by rw [← hw1, ← hg]; exact FrA.new W f)
  have HB1 := Lib.hid (show Below W.heap.size W w1 by rw [← hw1]; exact (Below.refl W.heap.size W).alloc (Nat.le_refl _) _)
  go_enter Try.func4, Try.ntmps4
  go_upto_region 1 with fail
  clear hw1 hg
  go_wp2_with (refine wpList_load_frame 5 rfl (by kernel_rfl) g f rfl HF1.out ?_)
  refine (in_nil p f).mono ?_
  rintro e w2 ⟨rfl, hb⟩
  have HF2 := Lib.hid (HF1.out.next hb)
  have HB2 : Hid (Below W.heap.size W w2) := Lib.hid (HB1.out.trans (hb.mono HB1.out.size))
  clear hb HF1 HB1
  go_wp2_with (refine wpList_load_frame 5 rfl (by kernel_rfl) g f rfl HF2.out ?_)
  refine (out_nil_z HZ.out p v f).mono ?_
  rintro e w3 ⟨rfl, hb⟩
  have HB3 : Hid (Below W.heap.size W w3) := Lib.hid (HB2.out.trans (hb.mono HB2.out.size))
  clear hb HF2 HB2
  have st := stores_new w3 (.int .u8 z.d0.toNat) (.int .u8 z.d1.toNat) (.int .u8 z.d2.toNat) (.int .u8 z.d3.toNat) (.int .u8 z.d4.toNat) (.int .u8 z.d5.toNat) (.int .u8 z.s0.toNat) (.int .u8 z.s1.toNat) (.int .u8 z.s2.toNat) (.int .u8 z.s3.toNat) (.int .u8 z.s4.toNat) (.int .u8 z.s5.toNat) (.bool z.tag) (.int .u8 z.pri.toNat) (.int .u16 z.vid.toNat) (.int .u16 z.ty.toNat) (.string ⟨z.data.toArray⟩) (by kernel_rfl)
  obtain ⟨w4, hw⟩ : ∃ x, w3.alloc (.cells #[.int .u8 z.d0.toNat, .int .u8 z.d1.toNat, .int .u8 z.d2.toNat, .int .u8 z.d3.toNat, .int .u8 z.d4.toNat, .int .u8 z.d5.toNat, .int .u8 z.s0.toNat, .int .u8 z.s1.toNat, .int .u8 z.s2.toNat, .int .u8 z.s3.toNat, .int .u8 z.s4.toNat, .int .u8 z.s5.toNat, .bool z.tag, .int .u8 z.pri.toNat, .int .u16 z.vid.toNat, .int .u16 z.ty.toNat, .string ⟨z.data.toArray⟩] 27) = x := ⟨_, rfl⟩
  obtain ⟨g4, hg⟩ : ∃ x, w3.heap.size = x := ⟨_, rfl⟩
  rw [hw, hg] at st
  have HB4 := Lib.hid (show Below W.heap.size W w4 by rw [← hw]; exact HB3.out.alloc HB3.out.size _)
  clear HB3
  go_upto_region 4 with fail
  clear st hw hg
  go_wp2_with fail
  refine (set_nil11 v).mono ?_
  rintro e w5 ⟨rfl, hb⟩
  have HB5 : Hid (Below W.heap.size W w5) := Lib.hid (HB4.out.trans (hb.mono HB4.out.size))
  clear hb HB4
  go_wp2_with fail
  refine (drop_nil v).mono ?_
  rintro e w6 ⟨rfl, hw_⟩
  have HB6 := Lib.hid (show Below W.heap.size W w6 by rw [← hw_]; exact HB5.out)
  clear HB5 hw_
  go_wp2_with fail
  refine (setOwn_nil p v).mono ?_
  rintro e w7 ⟨rfl, hw_⟩
  have HB7 := Lib.hid (show Below W.heap.size W w7 by rw [← hw_]; exact HB6.out)
  clear HB6 hw_
  go_wp2_with fail
  refine (members_nil v).mono ?_
  rintro e w8 ⟨rfl, hb⟩
  have HB8 : Hid (Below W.heap.size W w8) := Lib.hid (HB7.out.trans (hb.mono HB7.out.size))
  clear hb HB7
  go_wp2_with fail
  refine (vlans_nil).mono ?_
  rintro e w9 ⟨rfl, hw_⟩
  have HB9 := Lib.hid (show Below W.heap.size W w9 by rw [← hw_]; exact HB8.out)
  clear HB8 hw_
  go_wp2_with fail
  refine (wakes_any _).mono ?_
  rintro e w10 ⟨rfl, hb⟩
  have HB10 : Hid (Below W.heap.size W w10) := Lib.hid (HB9.out.trans (hb.mono HB9.out.size))
  clear hb HB9
  go_wp2
  go_ret
  exact ⟨rfl, HB10.out⟩

set_option maxRecDepth 100000 in
set_option maxHeartbeats 4000000 in
theorem walk {H : Type} {enc : TypeId × Value → H} (W : World) (base : Nat) {v0 v1 v2 : Value} {d0 d1 d2 : DataW H} {p0 p1 p2 : List MemPlace}
    (o0 : Value.okWide Try.prog W .any base 5 v0) (h0 : DataW.Trod enc Try.prog W 0 (fun _ => true) true 5 v0 d0 p0) (o1 : Value.okWide Try.prog W .any base 23 v1) (h1 : DataW.Trod enc Try.prog W 0 (fun _ => true) true 23 v1 d1 p1) (o2 : Value.okWide Try.prog W .any base 27 v2) (h2 : DataW.Trod enc Try.prog W 0 (fun _ => true) true 27 v2 d2 p2) :
    Calls Try.prog 4 #[v0, v1, v2] W fun e w' => e = .returned (.bool true) ∧ Below W.heap.size W w' := by
  obtain ⟨a, rfl, ha⟩ := open_num Try.underlying5 o0 h0
  obtain ⟨b, rfl, hb⟩ := open_num Try.underlying23 o1 h1
  obtain ⟨f, rfl⟩ := open_frame o2
  obtain ⟨p, rfl⟩ := u8_of ha
  obtain ⟨v, rfl⟩ := u16_of hb
  exact nil_law W p v f

theorem own : ownKnob Try.prog.godebug = none := by kernel_rfl
theorem laidOut : laidOutB Try.prog = true := by kernel_rfl
set_option maxRecDepth 100000 in
theorem lifted (os : Os) (started : os.Started) (H : Type) (enc : TypeId × Value → H) :
    ReturnsInHanded {} Try.checked os 4 .any (Rows.vlanNilSpec.pre6 enc Try.prog Try.f4 Rows.vlanNilRow.domain false) (Rows.vlanNilSpec.post enc Try.prog Try.f4 false true false false) := by
  refine returnsInHanded_of_change (C := Try.checked) own started (by kernel_rfl) Try.func4
    (ChangeSpec.witness6 (enc := enc) (C := Try.checked) false ⟨#[], #[.int .u8 0, .int .u16 0, .agg #[.int .u8 0, .int .u8 0, .int .u8 0, .int .u8 0, .int .u8 0, .int .u8 0, .int .u8 0, .int .u8 0, .int .u8 0, .int .u8 0, .int .u8 0, .int .u8 0, .bool false, .int .u8 0, .int .u16 0, .int .u16 0, .string ⟨#[]⟩]], []⟩ 8 (by kernel_rfl) (by kernel_rfl) (by kernel_rfl) (by kernel_rfl)) ?_
  intro W base args ds gs before hval0 hW hcnd _
  have hval : ∀ (j : Nat) t v, Try.f4.params[j]? = some t → args[j]? = some v → Value.okWide Try.prog W .any base t v := hval0
  have hW' := hW
  obtain ⟨p, q, hA0, hV, rfl, hfz, hnd⟩ := hW
  have hA : DataW.TrodAll enc Try.prog W 0 (fun _ => true) true Try.f4.params.toList args.toList ds p := hA0
  rw [Try.params4] at hA hval
  obtain ⟨v0, vs0, d0, ds0, p0, q0, hargs, rfl, rfl, h0, r0⟩ := trodAll_cons hA
  obtain ⟨v1, vs1, d1, ds1, p1, q1, rfl, rfl, rfl, h1, r1⟩ := trodAll_cons r0
  obtain ⟨v2, vs2, d2, ds2, p2, q2, rfl, rfl, rfl, h2, r2⟩ := trodAll_cons r1
  obtain ⟨rfl, rfl, rfl⟩ := trodAll_nil r2
  obtain rfl : args = #[v0, v1, v2] := by cases args; simp_all
  obtain ⟨rfl, rfl⟩ := trodVars_none hV
  have o0 := hval 0 5 v0 rfl rfl
  have lt0 : ∀ x ∈ p0, x.block < W.heap.size := by obtain ⟨m, hm⟩ := h0; exact DataW.trod_lt m _ _ _ hm
  have o1 := hval 1 23 v1 rfl rfl
  have lt1 : ∀ x ∈ p1, x.block < W.heap.size := by obtain ⟨m, hm⟩ := h1; exact DataW.trod_lt m _ _ _ hm
  have o2 := hval 2 27 v2 rfl rfl
  have lt2 : ∀ x ∈ p2, x.block < W.heap.size := by obtain ⟨m, hm⟩ := h2; exact DataW.trod_lt m _ _ _ hm
  clear hA0 hval0
  refine (walk W base o0 h0 o1 h1 o2 h2).mono fun e W' ⟨he, bel⟩ => ?_
  subst he
  exact ⟨_, rfl, _, _, _, [], _, [], hW', trodAll_mk1 (shut_bool Try.underlying4 _), (trodAll_cons_mk (Below.trod laidOut (by kernel_rfl) (of_decide_eq_true (by kernel_rfl)) h0 bel lt0) (trodAll_cons_mk (Below.trod laidOut (by kernel_rfl) (of_decide_eq_true (by kernel_rfl)) h1 bel lt1) (trodAll_cons_mk (Below.trod laidOut (by kernel_rfl) (of_decide_eq_true (by kernel_rfl)) h2 bel lt2) trodAll_mk0))), rfl, bel.frame _, fun h => by cases h⟩

theorem over : Rows.vlanNilRow.holds Try.pinned (OpenSpec.ofChange Rows.vlanNilSpec) :=
  OpenClaim.holds_of_wide 4 Try.f4 rfl rfl rfl rfl rfl rfl rfl ⟨rfl, rfl, rfl, rfl, rfl⟩ rfl rfl rfl rfl rfl (by kernel_rfl) Try.func4 (by kernel_rfl)
    (of_decide_eq_true (by kernel_rfl)) (by unfold Func.isWrapper; first | (rw [if_pos (by decide +kernel)]; kernel_rfl) | (rw [if_neg (by decide +kernel)]; exact ⟨rfl, rfl⟩))
    (fun os started H enc _ => lifted os started H enc)

/-- THE STATEMENT -/
theorem proved : Rows.VlanNilSaid := over
end Go.Proofs.Yteiopobkbfancaa.vlanNil
