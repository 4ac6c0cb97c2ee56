/- The vectors that are known (the law's wakes). -/
import Derived.Test.YtbcdkpjfenedmaaRef
import Derived.Test.YtbcdkpjfenedmaaMin
namespace Go.Proofs.Ytbcdkpjfenedmaa
open Go.RowKit
set_option linter.unusedVariables false
set_option linter.unusedSimpArgs false

theorem wk_far1 (w : World) : Calls Try.prog 9 #[.agg #[.int .u64 1, .int .u32 5, .int .u64 2, .int .u8 3], .int .u32 4] w fun e w' => e = .returned (.tuple #[.agg #[.int .u64 1, .int .u32 9, .int .u64 2, .int .u8 3], .bool true]) ∧ Below w.heap.size w w' := by
  have h := far_any w ⟨1, 5, 2, 3⟩ 4 (by simp) (by simp) (by omega) (by omega)
  have hb : farB ⟨1, 5, 2, 3⟩ 4 = true := by simp [farB]
  have hv : farV ⟨1, 5, 2, 3⟩ 4 = ⟨1, 9, 2, 3⟩ := by simp [farV, hb]
  rw [hb, hv] at h
  exact h
theorem wk_far2 (w : World) : Calls Try.prog 9 #[.agg #[.int .u64 1, .int .u32 9, .int .u64 2, .int .u8 3], .int .u32 16777216] w fun e w' => e = .returned (.tuple #[.agg #[.int .u64 0, .int .u32 0, .int .u64 0, .int .u8 0], .bool false]) ∧ Below w.heap.size w w' := by
  have h := far_any w ⟨1, 9, 2, 3⟩ 16777216 (by simp) (by simp) (by omega) (by omega)
  have hb : farB ⟨1, 9, 2, 3⟩ 16777216 = false := by simp [farB]
  have hv : farV ⟨1, 9, 2, 3⟩ 16777216 = ⟨0, 0, 0, 0⟩ := by simp [farV, hb, Ve.zero]
  rw [hb, hv] at h
  exact h
theorem wk_least (W : World) (g c : Nat) (hb : Blk W g 41 #[.int .u64 1, .int .u32 9, .int .u64 2, .int .u8 3, .int .u8 2, .int .u64 1, .int .u32 9, .int .u64 2, .int .u8 3, .int .u8 1]) : Calls Try.prog 13 #[.slice (some ⟨g, 0, none⟩) 2 c] W fun e w' => e = .returned (.tuple #[.agg #[.int .u64 1, .int .u32 9, .int .u64 2, .int .u8 3, .int .u8 1], .bool true]) ∧ Below W.heap.size W w' := by
  have h := least_some W (some ⟨g, 0, none⟩) c [⟨⟨1, 9, 2, 3⟩, 2⟩, ⟨⟨1, 9, 2, 3⟩, 1⟩] (by simp) (by simp) (fun _ => ⟨g, 0, rfl, hb.lt, fun i hi j v hv => by
    simp only [List.length_cons, List.length_nil] at hi
    rw [show 0 + i * 5 + j = i * 5 + j by omega, hb.cell]
    match i, hi with
    | 0, _ =>
      have hj : j < 5 := (List.getElem?_eq_some_iff.1 hv).1
      match j, hj with
      | 0, _ => exact hv
      | 1, _ => exact hv
      | 2, _ => exact hv
      | 3, _ => exact hv
      | 4, _ => exact hv
    | 1, _ =>
      have hj : j < 5 := (List.getElem?_eq_some_iff.1 hv).1
      match j, hj with
      | 0, _ => exact hv
      | 1, _ => exact hv
      | 2, _ => exact hv
      | 3, _ => exact hv
      | 4, _ => exact hv⟩)
  have hm : minP [⟨⟨1, 9, 2, 3⟩, 2⟩, ⟨⟨1, 9, 2, 3⟩, 1⟩] = ⟨⟨1, 9, 2, 3⟩, 1⟩ := by decide
  rw [hm] at h
  exact h
theorem wk_cmp (w : World) : Calls Try.prog 11 #[.agg #[.int .u64 1, .int .u32 9, .int .u64 9, .int .u8 9], .agg #[.int .u64 2, .int .u32 0, .int .u64 0, .int .u8 0]] w fun e w' => e = .returned (.int .i64 (-1)) ∧ Below w.heap.size w w' := by
  have h := compare_any w ⟨1, 9, 9, 9⟩ ⟨2, 0, 0, 0⟩
  have hv : cmpV ⟨1, 9, 9, 9⟩ ⟨2, 0, 0, 0⟩ = -1 := by decide
  rw [hv] at h
  exact h.mono fun _ _ ⟨he, hg⟩ => ⟨he, hg.below⟩
set_option maxRecDepth 100000 in
set_option maxHeartbeats 2000000 in
theorem wakes_any (w : World) : Calls Try.prog 12 #[] w fun e w' => e = .returned (.bool true) ∧ Below w.heap.size w w' := by
  have heq : ∀ w, (Op.equalIn 10000 27 (.agg #[.int .u64 1, .int .u32 9, .int .u64 2, .int .u8 3]) (.agg #[.int .u64 1, .int .u32 9, .int .u64 2, .int .u8 3])).run Try.prog w = .ok true w := fun w => by
    have := run_eqV ⟨1, 9, 2, 3⟩ ⟨1, 9, 2, 3⟩ w
    simpa using this
  go_enter Try.func12, Try.ntmps12
  go_wp2_with fail
  refine (wk_far1 _).mono ?_
  rintro e w1 ⟨rfl, hb1⟩
  have HB1 := Lib.hid hb1
  clear hb1
  go_wp2_with fail
  refine (wk_far2 _).mono ?_
  rintro e w2 ⟨rfl, hb2⟩
  have HV2 : Hid (VA w2 w1.heap.size ⟨1, 9, 2, 3⟩) := Lib.hid ((VA.new w1 ⟨1, 9, 2, 3⟩).next hb2)
  have HB2 : Hid (Below w.heap.size w w2) := Lib.hid ((HB1.out.alloc HB1.out.size _).trans (hb2.mono (by have := HB1.out.size; simp; omega)))
  clear hb2
  have hl2 := HV2.out.lt
  obtain ⟨v0, v1, v2, v3⟩ := (HV2.out.alloc (.cells #[.int .u64 0, .int .u32 0, .int .u64 0, .int .u8 0] 27)).cells
  go_wp2_with fail
  refine (wk_least _ _ _ (by have := Blk.new (w2.alloc (.cells #[.int .u64 0, .int .u32 0, .int .u64 0, .int .u8 0] 27)) 41 #[.int .u64 1, .int .u32 9, .int .u64 2, .int .u8 3, .int .u8 2, .int .u64 1, .int .u32 9, .int .u64 2, .int .u8 3, .int .u8 1]; simpa using this)).mono ?_
  rintro e w3 ⟨rfl, hb3⟩
  have HV3 : Hid (VA w3 w1.heap.size ⟨1, 9, 2, 3⟩) := by
    refine Lib.hid (VA.below ?_ hb3 ?_)
    · exact (HV2.out.alloc _).alloc _
    · simp; omega
  have HB : Hid (Below w.heap.size w w3) := by
    have hz := HB2.out.size
    refine Lib.hid (Below.trans ?_ (Below.mono hb3 ?_))
    · exact (HB2.out.alloc hz _).alloc (by simp; omega) _
    · simp; omega
  have hs3 := hb3.size
  simp only [World.size_alloc] at hs3
  clear hb3 v0 v1 v2 v3 HB2 HB1
  go_wp2_with fail
  refine (wk_cmp _).mono ?_
  rintro e w4 ⟨rfl, hb4⟩
  have hl3 := HV3.out.lt
  have HP4 : Hid (PA w4 w3.heap.size ⟨⟨1, 9, 2, 3⟩, 1⟩) := Lib.hid ((PA.new w3 ⟨⟨1, 9, 2, 3⟩, 1⟩).next hb4)
  have HV4 : Hid (VA w4 w1.heap.size ⟨1, 9, 2, 3⟩) := Lib.hid ((HV3.out.alloc _).next hb4)
  have HB4 : Hid (Below w.heap.size w w4) := Lib.hid ((HB.out.alloc HB.out.size _).trans (hb4.mono (by have := HB.out.size; simp; omega)))
  clear hb4 HB
  obtain ⟨v0, v1, v2, v3⟩ := HV4.out.cells
  obtain ⟨p0, p1, p2, p3, p4⟩ := HP4.out.cells
  go_wp2
  go_ret
  exact ⟨rfl, HB4.out⟩
end Go.Proofs.Ytbcdkpjfenedmaa
