/- MacLevels: the groups of levels are unlike each other, groups, not reserved, and of their levels: for every two levels, without a condition. -/
import Derived.Test.YtabdhokcgedomaaWakes
import Derived.OpenShut
import Derived.ShutString
import Derived.ChangeOld
namespace Go.Proofs.Ytabdhokcgedomaa.macLevels
open Go.ChangeShapes Go.WideShapes Go.ChangeAt Go.RowKit
open Go.ChangeMaps (open_string shut_string)
set_option linter.unusedVariables false
set_option linter.unusedSimpArgs false

theorem gby_same {a b : Nat} (ha : a < 8) (hb : b < 8) : ([1, 128, 194, 0, 0, gby 48 a] == [1, 128, 194, 0, 0, gby 48 b]) = ((a : Int) == (b : Int)) := by
  have : ∀ a b : Fin 8, ([1, 128, 194, 0, 0, gby 48 a.val] == [1, 128, 194, 0, 0, gby 48 b.val]) = ((a.val : Int) == (b.val : Int)) := by decide +kernel
  exact this ⟨a, ha⟩ ⟨b, hb⟩
theorem gby_apart {a b : Nat} (ha : a < 8) (hb : b < 8) : ([1, 128, 194, 0, 0, gby 48 a] == [1, 128, 194, 0, 0, gby 56 b]) = false := by
  have : ∀ a b : Fin 8, ([1, 128, 194, 0, 0, gby 48 a.val] == [1, 128, 194, 0, 0, gby 56 b.val]) = false := by decide +kernel
  exact this ⟨a, ha⟩ ⟨b, hb⟩
theorem lvl_check {a : Nat} (ha : a < 8) : lvl [1, 128, 194, 0, 0, gby 48 a] = some a := by
  have : ∀ a : Fin 8, lvl [1, 128, 194, 0, 0, gby 48 a.val] = some a.val := by decide +kernel
  exact this ⟨a, ha⟩
theorem lvl_trace {a : Nat} (ha : a < 8) : lvl [1, 128, 194, 0, 0, gby 56 a] = some a := by
  have : ∀ a : Fin 8, lvl [1, 128, 194, 0, 0, gby 56 a.val] = some a.val := by decide +kernel
  exact this ⟨a, ha⟩
theorem rsv_check {a : Nat} (ha : a < 8) : rsv 1 128 194 0 0 (gby 48 a) = false := by
  have : ∀ a : Fin 8, rsv 1 128 194 0 0 (gby 48 a.val) = false := by decide +kernel
  exact this ⟨a, ha⟩
theorem rsv_trace {a : Nat} (ha : a < 8) : rsv 1 128 194 0 0 (gby 56 a) = false := by
  have : ∀ a : Fin 8, rsv 1 128 194 0 0 (gby 56 a.val) = false := by decide +kernel
  exact this ⟨a, ha⟩
set_option maxRecDepth 100000 in
set_option maxHeartbeats 4000000 in
theorem walk {H : Type} {enc : TypeId × Value → H} (W : World) (base : Nat) {v0 v1 : Value} {d0 d1 : DataW H} {p0 p1 : List MemPlace}
    (o0 : Value.okWide Try.prog W .any base 5 v0) (h0 : DataW.Trod enc Try.prog W 0 (fun _ => true) true 5 v0 d0 p0) (o1 : Value.okWide Try.prog W .any base 5 v1) (h1 : DataW.Trod enc Try.prog W 0 (fun _ => true) true 5 v1 d1 p1) :
    Calls Try.prog 7 #[v0, v1] W fun e w' => e = .returned (.bool true) ∧ Below W.heap.size W w' := by
  obtain ⟨n0, rfl, rfl, rfl, wn0⟩ := open_int Try.underlying5 o0 h0
  obtain ⟨n1, rfl, rfl, rfl, wn1⟩ := open_int Try.underlying5 o1 h1
  simp [Lit.wf, IntKind.min, IntKind.max, IntKind.signed, IntKind.bits] at wn0 wn1
  obtain ⟨k0, rfl⟩ := Int.eq_ofNat_of_zero_le wn0.1
  obtain ⟨k1, rfl⟩ := Int.eq_ofNat_of_zero_le wn1.1
  clear o0 o1 h0 h1
  have ea : (k0 : Int) % 8 = ((k0 % 8 : Nat) : Int) := by omega
  have eb : (k1 : Int) % 8 = ((k1 % 8 : Nat) : Int) := by omega
  have ha : k0 % 8 < 8 := by omega
  have hb : k1 % 8 < 8 := by omega
  have wa : (k0 : Int) ≤ 255 := wn0.2
  have wb : (k1 : Int) ≤ 255 := wn1.2
  clear wn0 wn1
  generalize k0 % 8 = a at *
  generalize k1 % 8 = b at *
  have EA := Lib.hid ea
  have EB := Lib.hid eb
  have e1 : ∀ w, (Op.equalIn 10000 23 (.agg #[.int .u8 1, .int .u8 128, .int .u8 194, .int .u8 0, .int .u8 0, .int .u8 (gby 48 a).toNat]) (.agg #[.int .u8 1, .int .u8 128, .int .u8 194, .int .u8 0, .int .u8 0, .int .u8 (gby 48 b).toNat])).run Try.prog w = .ok ((a : Int) == (b : Int)) w := fun w => by
    have := run_eq6 1 128 194 0 0 (gby 48 a) 1 128 194 0 0 (gby 48 b) w
    rw [gby_same ha hb] at this
    exact this
  have e2 : ∀ w, (Op.equalIn 10000 23 (.agg #[.int .u8 1, .int .u8 128, .int .u8 194, .int .u8 0, .int .u8 0, .int .u8 (gby 48 a).toNat]) (.agg #[.int .u8 1, .int .u8 128, .int .u8 194, .int .u8 0, .int .u8 0, .int .u8 (gby 56 b).toNat])).run Try.prog w = .ok false w := fun w => by
    have := run_eq6 1 128 194 0 0 (gby 48 a) 1 128 194 0 0 (gby 56 b) w
    rw [gby_apart ha hb] at this
    exact this
  have la : Hid (lvlV [1, 128, 194, 0, 0, gby 48 a] = .tuple #[.int .u8 a, .bool true]) := Lib.hid (by unfold lvlV; rw [lvl_check ha])
  have lb : Hid (lvlV [1, 128, 194, 0, 0, gby 56 b] = .tuple #[.int .u8 b, .bool true]) := Lib.hid (by unfold lvlV; rw [lvl_trace hb])
  have ra : Hid (rsv 1 128 194 0 0 (gby 48 a) = false) := Lib.hid (rsv_check ha)
  have rb : Hid (rsv 1 128 194 0 0 (gby 56 b) = false) := Lib.hid (rsv_trace hb)
  have ro : Hid (rsv 1 128 194 0 0 0 = true) := Lib.hid (by decide +kernel)
  have hg : Hid (((1 : UInt8).toNat % 2 == 1) = true) := Lib.hid (by decide)
  clear ea eb
  go_enter Try.func7, Try.ntmps7
  go_wp2_with fail
  rw [EA.out]
  refine (check_in _ a ha).mono ?_
  rintro r w1 ⟨rfl, hb1⟩
  have HB1 := Lib.hid hb1
  clear hb1
  go_wp2_with fail
  rw [EB.out]
  refine (check_in _ b hb).mono ?_
  rintro r w2 ⟨rfl, hb2⟩
  have HB2 : Hid (Below W.heap.size W w2) := Lib.hid ((HB1.out.alloc HB1.out.size _).trans (hb2.mono (by have := HB1.out.size; simp; omega)))
  have X2 : Hid (Arr w2 w1.heap.size 1 128 194 0 0 (gby 48 a)) := Lib.hid ((Arr.new w1 _ _ _ _ _ _).next hb2)
  clear hb2 HB1
  go_wp2_with fail
  refine (trace_in _ b hb).mono ?_
  rintro r w3 ⟨rfl, hb3⟩
  have HB3 : Hid (Below W.heap.size W w3) := Lib.hid ((HB2.out.alloc HB2.out.size _).trans (hb3.mono (by have := HB2.out.size; simp; omega)))
  have X3 : Hid (Arr w3 w1.heap.size 1 128 194 0 0 (gby 48 a)) := Lib.hid ((X2.out.alloc _).next hb3)
  have Y3 : Hid (Arr w3 w2.heap.size 1 128 194 0 0 (gby 48 b)) := Lib.hid ((Arr.new w2 _ _ _ _ _ _).next hb3)
  clear hb3 HB2 X2
  have X_ := X3.out
  have hl := X_.lt
  obtain ⟨c0, c1, c2, c3, c4, c5⟩ := X_.cells
  clear X_
  go_wp2_with fail
  refine (level_any _ 1 128 194 0 0 (gby 48 a)).mono ?_
  rw [la.out]
  rintro r w4 ⟨rfl, hb4⟩
  have HB4 : Hid (Below W.heap.size W w4) := Lib.hid ((HB3.out.alloc HB3.out.size _).trans (hb4.mono (by have := HB3.out.size; simp; omega)))
  have X4 : Hid (Arr w4 w1.heap.size 1 128 194 0 0 (gby 48 a)) := Lib.hid ((X3.out.alloc _).next hb4)
  have Y4 : Hid (Arr w4 w2.heap.size 1 128 194 0 0 (gby 48 b)) := Lib.hid ((Y3.out.alloc _).next hb4)
  have Z4 : Hid (Arr w4 w3.heap.size 1 128 194 0 0 (gby 56 b)) := Lib.hid ((Arr.new w3 _ _ _ _ _ _).next hb4)
  clear hb4 HB3 X3 Y3
  clear c0 c1 c2 c3 c4 c5 hl
  have X_ := Z4.out
  have hl := X_.lt
  obtain ⟨c0, c1, c2, c3, c4, c5⟩ := X_.cells
  clear X_
  go_wp2_with fail
  refine (level_any _ 1 128 194 0 0 (gby 56 b)).mono ?_
  rw [lb.out]
  rintro r w5 ⟨rfl, hb5⟩
  have HB5 : Hid (Below W.heap.size W w5) := Lib.hid (HB4.out.trans (hb5.mono HB4.out.size))
  have X5 : Hid (Arr w5 w1.heap.size 1 128 194 0 0 (gby 48 a)) := Lib.hid (X4.out.next hb5)
  have Y5 : Hid (Arr w5 w2.heap.size 1 128 194 0 0 (gby 48 b)) := Lib.hid (Y4.out.next hb5)
  have Z5 : Hid (Arr w5 w3.heap.size 1 128 194 0 0 (gby 56 b)) := Lib.hid (Z4.out.next hb5)
  clear hb5 HB4 X4 Y4 Z4
  clear c0 c1 c2 c3 c4 c5 hl
  have XX := X5.out
  have YY := Y5.out
  have ZZ := Z5.out
  obtain ⟨c0, c1, c2, c3, c4, c5⟩ := XX.cells
  obtain ⟨d0, d1, d2, d3, d4, d5⟩ := YY.cells
  obtain ⟨z0, z1, z2, z3, z4, z5⟩ := ZZ.cells
  clear XX YY ZZ
  go_wp2_with fail
  refine (isgroup_any _ 1 128 194 0 0 (gby 48 a)).mono ?_
  rw [hg.out]
  rintro r w6 ⟨rfl, hb6⟩
  have HB6 : Hid (Below W.heap.size W w6) := Lib.hid (HB5.out.trans (hb6.mono HB5.out.size))
  have X6 : Hid (Arr w6 w1.heap.size 1 128 194 0 0 (gby 48 a)) := Lib.hid (X5.out.next hb6)
  have Y6 : Hid (Arr w6 w2.heap.size 1 128 194 0 0 (gby 48 b)) := Lib.hid (Y5.out.next hb6)
  have Z6 : Hid (Arr w6 w3.heap.size 1 128 194 0 0 (gby 56 b)) := Lib.hid (Z5.out.next hb6)
  clear hb6 HB5 X5 Y5 Z5
  clear c0 c1 c2 c3 c4 c5 d0 d1 d2 d3 d4 d5 
  have X_ := Z6.out
  have hl := X_.lt
  obtain ⟨c0, c1, c2, c3, c4, c5⟩ := X_.cells
  clear X_
  go_wp2_with fail
  refine (isgroup_any _ 1 128 194 0 0 (gby 56 b)).mono ?_
  rw [hg.out]
  rintro r w7 ⟨rfl, hb7⟩
  have HB7 : Hid (Below W.heap.size W w7) := Lib.hid (HB6.out.trans (hb7.mono HB6.out.size))
  have X7 : Hid (Arr w7 w1.heap.size 1 128 194 0 0 (gby 48 a)) := Lib.hid (X6.out.next hb7)
  have Z7 : Hid (Arr w7 w3.heap.size 1 128 194 0 0 (gby 56 b)) := Lib.hid (Z6.out.next hb7)
  clear hb7 HB6 X6 Z6
  clear c0 c1 c2 c3 c4 c5 hl
  have X_ := X7.out
  have hl := X_.lt
  obtain ⟨c0, c1, c2, c3, c4, c5⟩ := X_.cells
  clear X_
  go_wp2_with fail
  refine (reserved_any _ 1 128 194 0 0 (gby 48 a)).mono ?_
  rw [ra.out]
  rintro r w8 ⟨rfl, hb8⟩
  have HB8 : Hid (Below W.heap.size W w8) := Lib.hid (HB7.out.trans (hb8.mono HB7.out.size))
  have Z8 : Hid (Arr w8 w3.heap.size 1 128 194 0 0 (gby 56 b)) := Lib.hid (Z7.out.next hb8)
  clear hb8 HB7 Z7
  clear c0 c1 c2 c3 c4 c5 hl
  have X_ := Z8.out
  have hl := X_.lt
  obtain ⟨c0, c1, c2, c3, c4, c5⟩ := X_.cells
  clear X_
  go_wp2_with fail
  refine (reserved_any _ 1 128 194 0 0 (gby 56 b)).mono ?_
  rw [rb.out]
  rintro r w9 ⟨rfl, hb9⟩
  have HB9 : Hid (Below W.heap.size W w9) := Lib.hid (HB8.out.trans (hb9.mono HB8.out.size))
  clear hb9 HB8
  clear c0 c1 c2 c3 c4 c5 hl
  go_wp2_with fail
  refine (own_any _).mono ?_
  rintro r w10 ⟨rfl, hb10⟩
  have HB10 : Hid (Below W.heap.size W w10) := Lib.hid (HB9.out.trans (hb10.mono HB9.out.size))
  clear hb10 HB9
  go_wp2_with fail
  refine (reserved_any _ 1 128 194 0 0 0).mono ?_
  rw [ro.out]
  rintro r w11 ⟨rfl, hb11⟩
  have HB11 : Hid (Below W.heap.size W w11) := Lib.hid (HB10.out.trans (hb11.mono HB10.out.size))
  clear hb11 HB10
  go_wp2_with fail
  refine (wakes_any _).mono ?_
  rintro r w12 ⟨rfl, hb12⟩
  have HB12 : Hid (Below W.heap.size W w12) := Lib.hid (HB11.out.trans (hb12.mono HB11.out.size))
  clear hb12 HB11
  go_wp2
  go_ret
  exact ⟨rfl, HB12.out⟩

theorem own : ownKnob Try.prog.godebug = none := by kernel_rfl
theorem laidOut : laidOutB Try.prog = true := by kernel_rfl
set_option maxRecDepth 100000 in
theorem lifted (os : Os) (started : os.Started) (H : Type) (enc : TypeId × Value → H) :
    ReturnsInHanded {} Try.checked os 7 .any (Rows.macLevelsSpec.pre6 enc Try.prog Try.f7 Rows.macLevelsRow.domain false) (Rows.macLevelsSpec.post enc Try.prog Try.f7 false true false false) := by
  refine returnsInHanded_of_change (C := Try.checked) own started (by kernel_rfl) Try.func7
    (ChangeSpec.witness6 (enc := enc) (C := Try.checked) false ⟨#[], #[.int .u8 0, .int .u8 0], []⟩ 8 (by kernel_rfl) (by kernel_rfl) (by kernel_rfl) (by kernel_rfl)) ?_
  intro W base args ds gs before hval0 hW hcnd _
  have hval : ∀ (j : Nat) t v, Try.f7.params[j]? = some t → args[j]? = some v → Value.okWide Try.prog W .any base t v := hval0
  have hW' := hW
  obtain ⟨p, q, hA0, hV, rfl, hfz, hnd⟩ := hW
  have hA : DataW.TrodAll enc Try.prog W 0 (fun _ => true) true Try.f7.params.toList args.toList ds p := hA0
  rw [Try.params7] at hA hval
  obtain ⟨v0, vs0, d0, ds0, p0, q0, hargs, rfl, rfl, h0, r0⟩ := trodAll_cons hA
  obtain ⟨v1, vs1, d1, ds1, p1, q1, rfl, rfl, rfl, h1, r1⟩ := trodAll_cons r0
  obtain ⟨rfl, rfl, rfl⟩ := trodAll_nil r1
  obtain rfl : args = #[v0, v1] := by cases args; simp_all
  obtain ⟨rfl, rfl⟩ := trodVars_none hV
  have o0 := hval 0 5 v0 rfl rfl
  have lt0 : ∀ x ∈ p0, x.block < W.heap.size := by obtain ⟨m, hm⟩ := h0; exact DataW.trod_lt m _ _ _ hm
  have o1 := hval 1 5 v1 rfl rfl
  have lt1 : ∀ x ∈ p1, x.block < W.heap.size := by obtain ⟨m, hm⟩ := h1; exact DataW.trod_lt m _ _ _ hm
  clear hA0 hval0
  refine (walk W base o0 h0 o1 h1).mono fun e W' ⟨he, bel⟩ => ?_
  subst he
  exact ⟨_, rfl, _, _, _, [], _, [], hW', trodAll_mk1 (shut_bool Try.underlying4 _), (trodAll_cons_mk (Below.trod laidOut (by kernel_rfl) (of_decide_eq_true (by kernel_rfl)) h0 bel lt0) (trodAll_cons_mk (Below.trod laidOut (by kernel_rfl) (of_decide_eq_true (by kernel_rfl)) h1 bel lt1) trodAll_mk0)), rfl, bel.frame _, fun h => by cases h⟩

theorem over : Rows.macLevelsRow.holds Try.pinned (OpenSpec.ofChange Rows.macLevelsSpec) :=
  OpenClaim.holds_of_wide 7 Try.f7 rfl rfl rfl rfl rfl rfl rfl ⟨rfl, rfl, rfl, rfl, rfl⟩ rfl rfl rfl rfl rfl (by kernel_rfl) Try.func7 (by kernel_rfl)
    (of_decide_eq_true (by kernel_rfl)) (by unfold Func.isWrapper; first | (rw [if_pos (by decide +kernel)]; kernel_rfl) | (rw [if_neg (by decide +kernel)]; exact ⟨rfl, rfl⟩))
    (fun os started H enc _ => lifted os started H enc)

/-- THE STATEMENT -/
theorem proved : Rows.MacLevelsSaid := over
end Go.Proofs.Ytabdhokcgedomaa.macLevels
