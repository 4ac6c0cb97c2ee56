/- vector.Far; comparePaths. -/
import Derived.Test.YtlpmilaofcakbaaVecW
namespace Go.Proofs.Ytlpmilaofcakbaa
open Go.RowKit
set_option linter.unusedVariables false
set_option linter.unusedSimpArgs false
set_option maxRecDepth 100000

/-- may a vector be from so much farther away? -/
def farB (x : Ve) (n : Int) : Bool := !(n == 0) && decide (x.c + n ≤ 16777216)
def Ve.zero : Ve := ⟨0, 0, 0, 0⟩
/-- the vector from so much farther away -/
def farV (x : Ve) (n : Int) : Ve := if farB x n then { x with c := x.c + n } else Ve.zero

theorem far_no0 (w : World) (x : Ve) (h0 : 0 ≤ x.c) (h1 : x.c ≤ 4294967295) :
    Calls Try.prog 67 #[VV x, .int .u32 0] w fun e w' => e = .returned (.tuple #[.agg #[.int .u64 0, .int .u32 0, .int .u64 0, .int .u8 0], .bool false]) ∧ Below w.heap.size w w' := by
  go_enter Try.func67, Try.ntmps67
  go_wp2
  exact bodyPost_ret (v := .tuple #[.agg #[.int .u64 0, .int .u32 0, .int .u64 0, .int .u8 0], .bool false]) (by simp [results, Try.results67, go_sem]) rfl ⟨rfl, (by repeat (first | exact Below.refl _ _ | (refine Below.drew ?_) | (refine Below.alloc ?_ (by simp; try omega) _) | (refine Below.setCell ?_ (by simp; try omega) _)))⟩
theorem far_no1 (w : World) (x : Ve) (n : Int) (h0 : 0 ≤ x.c) (h1 : x.c ≤ 4294967295) (h2 : 0 < n) (h3 : n ≤ 4294967295) (hf : 16777216 < x.c + n) :
    Calls Try.prog 67 #[VV x, .int .u32 n] w fun e w' => e = .returned (.tuple #[.agg #[.int .u64 0, .int .u32 0, .int .u64 0, .int .u8 0], .bool false]) ∧ Below w.heap.size w w' := by
  have d0 : (n == 0) = false := by simp; omega
  have d1 : decide ((16777216 : Int) < x.c + n) = true := by simpa using hf
  go_enter Try.func67, Try.ntmps67
  go_wp2
  exact bodyPost_ret (v := .tuple #[.agg #[.int .u64 0, .int .u32 0, .int .u64 0, .int .u8 0], .bool false]) (by simp [results, Try.results67, go_sem]) rfl ⟨rfl, (by repeat (first | exact Below.refl _ _ | (refine Below.drew ?_) | (refine Below.alloc ?_ (by simp; try omega) _) | (refine Below.setCell ?_ (by simp; try omega) _)))⟩
theorem far_yes (w : World) (x : Ve) (n : Int) (h0 : 0 ≤ x.c) (h1 : x.c ≤ 4294967295) (h2 : 0 < n) (h3 : n ≤ 4294967295) (hf : x.c + n ≤ 16777216) :
    Calls Try.prog 67 #[VV x, .int .u32 n] w fun e w' => e = .returned (.tuple #[VV { x with c := x.c + n }, .bool true]) ∧ Below w.heap.size w w' := by
  have d0 : (n == 0) = false := by simp; omega
  have d1 : decide ((16777216 : Int) < x.c + n) = false := by simpa using hf
  go_enter Try.func67, Try.ntmps67
  go_wp2
  exact bodyPost_ret (v := .tuple #[VV { x with c := x.c + n }, .bool true]) (by simp [results, Try.results67, go_sem]) rfl ⟨rfl, (by repeat (first | exact Below.refl _ _ | (refine Below.drew ?_) | (refine Below.alloc ?_ (by simp; try omega) _) | (refine Below.setCell ?_ (by simp; try omega) _)))⟩
theorem far_any (w : World) (x : Ve) (n : Int) (h0 : 0 ≤ x.c) (h1 : x.c ≤ 4294967295) (h2 : 0 ≤ n) (h3 : n ≤ 4294967295) :
    Calls Try.prog 67 #[VV x, .int .u32 n] w fun e w' => e = .returned (.tuple #[VV (farV x n), .bool (farB x n)]) ∧ Below w.heap.size w w' := by
  by_cases hn : n = 0
  · subst hn
    exact far_no0 w x h0 h1
  · by_cases hf : x.c + n ≤ 16777216
    · have hb : farB x n = true := by simp [farB, hn, hf]
      have hv : farV x n = { x with c := x.c + n } := by simp [farV, hb]
      rw [hb, hv]
      exact far_yes w x n h0 h1 (by omega) h3 hf
    · have hb : farB x n = false := by simp [farB, hf]
      have hv : farV x n = Ve.zero := by simp [farV, hb]
      rw [hb, hv]
      exact far_no1 w x n h0 h1 (by omega) h3 (by omega)
end Go.Proofs.Ytlpmilaofcakbaa
