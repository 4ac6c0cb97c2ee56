/- MacParses: the address of any text, or that it is none's, is what the document says: for every text, without a condition. -/
import Derived.Test.YtabdhokcgedomaaWakes
import Derived.Test.YtabdhokcgedomaaRefParse
import Derived.OpenShut
import Derived.ShutString
import Derived.ChangeOld
namespace Go.Proofs.Ytabdhokcgedomaa.macParses
open Go.ChangeShapes Go.WideShapes Go.ChangeAt Go.RowKit
open Go.ChangeMaps (open_string shut_string)
set_option linter.unusedVariables false
set_option linter.unusedSimpArgs false

set_option maxRecDepth 100000 in
set_option maxHeartbeats 4000000 in
theorem walk {H : Type} {enc : TypeId × Value → H} (W : World) (base : Nat) {v0 : Value} {d0 : DataW H} {p0 : List MemPlace}
    (o0 : Value.okWide Try.prog W .any base 9 v0) (h0 : DataW.Trod enc Try.prog W 0 (fun _ => true) true 9 v0 d0 p0) :
    Calls Try.prog 5 #[v0] W fun e w' => e = .returned (.bool true) ∧ Below W.heap.size W w' := by
  obtain ⟨sb, rfl, rfl, rfl, hs⟩ := open_string Try.underlying9 o0 h0
  clear o0 h0
  obtain ⟨s, rfl⟩ : ∃ l : List UInt8, sb = ⟨l.toArray⟩ := ⟨sb.data.toList, by simp⟩
  by_cases hlen : 100 < s.length
  · have h3 : decide ((100 : Int) < (s.length : Int)) = true := by simp; omega
    go_enter Try.func5, Try.ntmps5
    go_wp2_with fail
    refine (wakes_any _).mono ?_
    rintro r w1 ⟨rfl, hb1⟩
    go_wp2
    go_ret
    exact ⟨rfl, hb1⟩
  have h3 : decide ((100 : Int) < (s.length : Int)) = false := by simp; omega
  cases hq : (pt s == s)
  · have hv : prsV s = .tuple #[MZ, .bool false] := by unfold prsV; rw [hq]; rfl
    have HV := Lib.hid hv
    clear hv hq
    have eM : ∀ w, (Op.equalIn 10000 23 (.agg #[.int .u8 0, .int .u8 0, .int .u8 0, .int .u8 0, .int .u8 0, .int .u8 0]) (.agg #[.int .u8 0, .int .u8 0, .int .u8 0, .int .u8 0, .int .u8 0, .int .u8 0])).run Try.prog w = .ok true w := fun w => by have := run_eq6 0 0 0 0 0 0 0 0 0 0 0 0 w; rw [beq_self_eq_true] at this; exact this
    go_enter Try.func5, Try.ntmps5
    go_wp2_with fail
    refine (parse_any _ s).mono ?_
    rw [HV.out]
    rintro r w1 ⟨rfl, hb1⟩
    have HB1 := Lib.hid hb1
    clear hb1
    go_wp2_with fail
    refine (refparse_any _ s).mono ?_
    rw [HV.out]
    rintro r w2 ⟨rfl, hb2⟩
    have HB2 : Hid (Below W.heap.size W w2) := Lib.hid ((HB1.out.alloc HB1.out.size _).trans (hb2.mono (by have := HB1.out.size; simp; omega)))
    have A2 : Arr w2 w1.heap.size 0 0 0 0 0 0 := (Arr.zero w1).next hb2
    have hl := A2.lt
    obtain ⟨c0, c1, c2, c3, c4, c5⟩ := A2.cells
    clear hb2 HB1 A2
    go_wp2_with fail
    refine (wakes_any _).mono ?_
    rintro r w3 ⟨rfl, hb3⟩
    have HB3 : Hid (Below W.heap.size W w3) := Lib.hid ((HB2.out.alloc HB2.out.size _).trans (hb3.mono (by have := HB2.out.size; simp; omega)))
    clear hb3 HB2
    go_wp2
    go_ret
    exact ⟨rfl, HB3.out⟩
  · have hv : prsV s = .tuple #[MA (pm s 0) (pm s 1) (pm s 2) (pm s 3) (pm s 4) (pm s 5), .bool true] := by unfold prsV; rw [hq]; rfl
    have HV := Lib.hid hv
    clear hv hq
    have eM : ∀ w, (Op.equalIn 10000 23 (.agg #[.int .u8 (pm s 0).toNat, .int .u8 (pm s 1).toNat, .int .u8 (pm s 2).toNat, .int .u8 (pm s 3).toNat, .int .u8 (pm s 4).toNat, .int .u8 (pm s 5).toNat]) (.agg #[.int .u8 (pm s 0).toNat, .int .u8 (pm s 1).toNat, .int .u8 (pm s 2).toNat, .int .u8 (pm s 3).toNat, .int .u8 (pm s 4).toNat, .int .u8 (pm s 5).toNat])).run Try.prog w = .ok true w := fun w => by have := run_eq6 (pm s 0) (pm s 1) (pm s 2) (pm s 3) (pm s 4) (pm s 5) (pm s 0) (pm s 1) (pm s 2) (pm s 3) (pm s 4) (pm s 5) w; rw [beq_self_eq_true] at this; exact this
    go_enter Try.func5, Try.ntmps5
    go_wp2_with fail
    refine (parse_any _ s).mono ?_
    rw [HV.out]
    rintro r w1 ⟨rfl, hb1⟩
    have HB1 := Lib.hid hb1
    clear hb1
    go_wp2_with fail
    refine (refparse_any _ s).mono ?_
    rw [HV.out]
    rintro r w2 ⟨rfl, hb2⟩
    have HB2 : Hid (Below W.heap.size W w2) := Lib.hid ((HB1.out.alloc HB1.out.size _).trans (hb2.mono (by have := HB1.out.size; simp; omega)))
    have A2 : Arr w2 w1.heap.size (pm s 0) (pm s 1) (pm s 2) (pm s 3) (pm s 4) (pm s 5) := (Arr.new w1 _ _ _ _ _ _).next hb2
    have hl := A2.lt
    obtain ⟨c0, c1, c2, c3, c4, c5⟩ := A2.cells
    clear hb2 HB1 A2
    go_wp2_with fail
    refine (wakes_any _).mono ?_
    rintro r w3 ⟨rfl, hb3⟩
    have HB3 : Hid (Below W.heap.size W w3) := Lib.hid ((HB2.out.alloc HB2.out.size _).trans (hb3.mono (by have := HB2.out.size; simp; omega)))
    clear hb3 HB2
    go_wp2
    go_ret
    exact ⟨rfl, HB3.out⟩

theorem own : ownKnob Try.prog.godebug = none := by kernel_rfl
theorem laidOut : laidOutB Try.prog = true := by kernel_rfl
set_option maxRecDepth 100000 in
theorem lifted (os : Os) (started : os.Started) (H : Type) (enc : TypeId × Value → H) :
    ReturnsInHanded {} Try.checked os 5 .any (Rows.macParsesSpec.pre6 enc Try.prog Try.f5 Rows.macParsesRow.domain false) (Rows.macParsesSpec.post enc Try.prog Try.f5 false true false false) := by
  refine returnsInHanded_of_change (C := Try.checked) own started (by kernel_rfl) Try.func5
    (ChangeSpec.witness6 (enc := enc) (C := Try.checked) false ⟨#[], #[.string ⟨#[]⟩], []⟩ 8 (by kernel_rfl) (by kernel_rfl) (by kernel_rfl) (by kernel_rfl)) ?_
  intro W base args ds gs before hval0 hW hcnd _
  have hval : ∀ (j : Nat) t v, Try.f5.params[j]? = some t → args[j]? = some v → Value.okWide Try.prog W .any base t v := hval0
  have hW' := hW
  obtain ⟨p, q, hA0, hV, rfl, hfz, hnd⟩ := hW
  have hA : DataW.TrodAll enc Try.prog W 0 (fun _ => true) true Try.f5.params.toList args.toList ds p := hA0
  rw [Try.params5] at hA hval
  obtain ⟨v0, vs0, d0, ds0, p0, q0, hargs, rfl, rfl, h0, r0⟩ := trodAll_cons hA
  obtain ⟨rfl, rfl, rfl⟩ := trodAll_nil r0
  obtain rfl : args = #[v0] := by cases args; simp_all
  obtain ⟨rfl, rfl⟩ := trodVars_none hV
  have o0 := hval 0 9 v0 rfl rfl
  have lt0 : ∀ x ∈ p0, x.block < W.heap.size := by obtain ⟨m, hm⟩ := h0; exact DataW.trod_lt m _ _ _ hm
  clear hA0 hval0
  refine (walk W base o0 h0).mono fun e W' ⟨he, bel⟩ => ?_
  subst he
  exact ⟨_, rfl, _, _, _, [], _, [], hW', trodAll_mk1 (shut_bool Try.underlying4 _), (trodAll_cons_mk (Below.trod laidOut (by kernel_rfl) (of_decide_eq_true (by kernel_rfl)) h0 bel lt0) trodAll_mk0), rfl, bel.frame _, fun h => by cases h⟩

theorem over : Rows.macParsesRow.holds Try.pinned (OpenSpec.ofChange Rows.macParsesSpec) :=
  OpenClaim.holds_of_wide 5 Try.f5 rfl rfl rfl rfl rfl rfl rfl ⟨rfl, rfl, rfl, rfl, rfl⟩ rfl rfl rfl rfl rfl (by kernel_rfl) Try.func5 (by kernel_rfl)
    (of_decide_eq_true (by kernel_rfl)) (by unfold Func.isWrapper; first | (rw [if_pos (by decide +kernel)]; kernel_rfl) | (rw [if_neg (by decide +kernel)]; exact ⟨rfl, rfl⟩))
    (fun os started H enc _ => lifted os started H enc)

/-- THE STATEMENT -/
theorem proved : Rows.MacParsesSaid := over
end Go.Proofs.Ytabdhokcgedomaa.macParses
