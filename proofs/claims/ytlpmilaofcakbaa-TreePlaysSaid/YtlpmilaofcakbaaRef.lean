/- The document's Less and Far; vectors as the laws have them. -/
import Derived.Test.YtlpmilaofcakbaaFar
namespace Go.Proofs.Ytlpmilaofcakbaa
open Go.RowKit
set_option linter.unusedVariables false
set_option linter.unusedSimpArgs false
set_option maxRecDepth 100000


theorem refless_0 (w : World) (x y : Ve)  (ne : x.r ≠ y.r) : Calls Try.prog 62 #[VV x, VV y] w fun e w' => e = .returned (.bool (lessV x y)) ∧ Gro w w' := by
  have b0 : (x.r != y.r) = true := by simpa using ne
  have E : Hid (decide (x.r < y.r) = lessV x y) := Lib.hid (by simp [lessV, ne])
  clear  ne
  go_enter Try.func62, Try.ntmps62
  go_wp2
  go_ret
  exact ⟨congrArg (fun b => Ending.returned (.bool b)) E.out, (by repeat (first | exact Gro.refl _ | (refine Gro.drew ?_) | (refine Gro.alloc ?_ _)))⟩
theorem refless_1 (w : World) (x y : Ve) (e0 : x.r = y.r) (ne : x.c ≠ y.c) : Calls Try.prog 62 #[VV x, VV y] w fun e w' => e = .returned (.bool (lessV x y)) ∧ Gro w w' := by
  have b0 : (x.r != y.r) = false := by simp [e0]
  have b1 : (x.c != y.c) = true := by simpa using ne
  have E : Hid (decide (x.c < y.c) = lessV x y) := Lib.hid (by simp [lessV, e0, ne])
  clear e0 ne
  go_enter Try.func62, Try.ntmps62
  go_wp2
  go_ret
  exact ⟨congrArg (fun b => Ending.returned (.bool b)) E.out, (by repeat (first | exact Gro.refl _ | (refine Gro.drew ?_) | (refine Gro.alloc ?_ _)))⟩
theorem refless_2 (w : World) (x y : Ve) (e0 : x.r = y.r) (e1 : x.c = y.c) (ne : x.b ≠ y.b) : Calls Try.prog 62 #[VV x, VV y] w fun e w' => e = .returned (.bool (lessV x y)) ∧ Gro w w' := by
  have b0 : (x.r != y.r) = false := by simp [e0]
  have b1 : (x.c != y.c) = false := by simp [e1]
  have b2 : (x.b != y.b) = true := by simpa using ne
  have E : Hid (decide (x.b < y.b) = lessV x y) := Lib.hid (by simp [lessV, e0, e1, ne])
  clear e0 e1 ne
  go_enter Try.func62, Try.ntmps62
  go_wp2
  go_ret
  exact ⟨congrArg (fun b => Ending.returned (.bool b)) E.out, (by repeat (first | exact Gro.refl _ | (refine Gro.drew ?_) | (refine Gro.alloc ?_ _)))⟩
theorem refless_3 (w : World) (x y : Ve) (e0 : x.r = y.r) (e1 : x.c = y.c) (e2 : x.b = y.b)  : Calls Try.prog 62 #[VV x, VV y] w fun e w' => e = .returned (.bool (lessV x y)) ∧ Gro w w' := by
  have b0 : (x.r != y.r) = false := by simp [e0]
  have b1 : (x.c != y.c) = false := by simp [e1]
  have b2 : (x.b != y.b) = false := by simp [e2]
  have E : Hid (decide (x.p < y.p) = lessV x y) := Lib.hid (by simp [lessV, e0, e1, e2])
  clear e0 e1 e2 
  go_enter Try.func62, Try.ntmps62
  go_wp2
  go_ret
  exact ⟨congrArg (fun b => Ending.returned (.bool b)) E.out, (by repeat (first | exact Gro.refl _ | (refine Gro.drew ?_) | (refine Gro.alloc ?_ _)))⟩
theorem refless_gro (w : World) (x y : Ve) : Calls Try.prog 62 #[VV x, VV y] w fun e w' => e = .returned (.bool (lessV x y)) ∧ Gro w w' := by
  by_cases h0 : x.r = y.r
  · by_cases h1 : x.c = y.c
    · by_cases h2 : x.b = y.b
      · exact refless_3 w x y h0 h1 h2
      · exact refless_2 w x y h0 h1 h2
    · exact refless_1 w x y h0 h1
  · exact refless_0 w x y h0
theorem refless_any (w : World) (x y : Ve) : Calls Try.prog 62 #[VV x, VV y] w fun e w' => e = .returned (.bool (lessV x y)) ∧ Below w.heap.size w w' :=
  (refless_gro w x y).mono fun _ _ ⟨he, hg⟩ => ⟨he, hg.below⟩


theorem reffar_no0 (w : World) (x : Ve) (h0 : 0 ≤ x.c) (h1 : x.c ≤ 4294967295) :
    Calls Try.prog 58 #[VV x, .int .u32 0] w fun e w' => e = .returned (.tuple #[.agg #[.int .u64 0, .int .u32 0, .int .u64 0, .int .u8 0], .bool false]) ∧ Below w.heap.size w w' := by
  go_enter Try.func58, Try.ntmps58
  go_wp2
  exact bodyPost_ret (v := .tuple #[.agg #[.int .u64 0, .int .u32 0, .int .u64 0, .int .u8 0], .bool false]) (by simp [results, Try.results58, go_sem]) rfl ⟨rfl, (by repeat (first | exact Below.refl _ _ | (refine Below.drew ?_) | (refine Below.alloc ?_ (by simp; try omega) _) | (refine Below.setCell ?_ (by simp; try omega) _)))⟩
theorem reffar_no1 (w : World) (x : Ve) (n : Int) (h0 : 0 ≤ x.c) (h1 : x.c ≤ 4294967295) (h2 : 0 < n) (h3 : n ≤ 4294967295) (hf : 16777216 < x.c) :
    Calls Try.prog 58 #[VV x, .int .u32 n] w fun e w' => e = .returned (.tuple #[.agg #[.int .u64 0, .int .u32 0, .int .u64 0, .int .u8 0], .bool false]) ∧ Below w.heap.size w w' := by
  have d0 : (n == 0) = false := by simp; omega
  have d1 : decide ((16777216 : Int) < x.c) = true := by simpa using hf
  go_enter Try.func58, Try.ntmps58
  go_wp2
  exact bodyPost_ret (v := .tuple #[.agg #[.int .u64 0, .int .u32 0, .int .u64 0, .int .u8 0], .bool false]) (by simp [results, Try.results58, go_sem]) rfl ⟨rfl, (by repeat (first | exact Below.refl _ _ | (refine Below.drew ?_) | (refine Below.alloc ?_ (by simp; try omega) _) | (refine Below.setCell ?_ (by simp; try omega) _)))⟩
theorem reffar_no2 (w : World) (x : Ve) (n : Int) (h0 : 0 ≤ x.c) (h1 : x.c ≤ 16777216) (h2 : 0 < n) (h3 : n ≤ 4294967295) (hf : 16777216 < x.c + n) :
    Calls Try.prog 58 #[VV x, .int .u32 n] w fun e w' => e = .returned (.tuple #[.agg #[.int .u64 0, .int .u32 0, .int .u64 0, .int .u8 0], .bool false]) ∧ Below w.heap.size w w' := by
  have d0 : (n == 0) = false := by simp; omega
  have d1 : decide ((16777216 : Int) < x.c) = false := by simpa using h1
  have d2 : decide (16777216 - x.c < n) = true := by simp; omega
  go_enter Try.func58, Try.ntmps58
  go_wp2
  exact bodyPost_ret (v := .tuple #[.agg #[.int .u64 0, .int .u32 0, .int .u64 0, .int .u8 0], .bool false]) (by simp [results, Try.results58, go_sem]) rfl ⟨rfl, (by repeat (first | exact Below.refl _ _ | (refine Below.drew ?_) | (refine Below.alloc ?_ (by simp; try omega) _) | (refine Below.setCell ?_ (by simp; try omega) _)))⟩
theorem reffar_yes (w : World) (x : Ve) (n : Int) (h0 : 0 ≤ x.c) (h1 : x.c ≤ 16777216) (h2 : 0 < n) (h3 : n ≤ 4294967295) (hf : x.c + n ≤ 16777216) :
    Calls Try.prog 58 #[VV x, .int .u32 n] w fun e w' => e = .returned (.tuple #[VV { x with c := x.c + n }, .bool true]) ∧ Below w.heap.size w w' := by
  have d0 : (n == 0) = false := by simp; omega
  have d1 : decide ((16777216 : Int) < x.c) = false := by simpa using h1
  have d2 : decide (16777216 - x.c < n) = false := by simp; omega
  go_enter Try.func58, Try.ntmps58
  go_wp2
  exact bodyPost_ret (v := .tuple #[VV { x with c := x.c + n }, .bool true]) (by simp [results, Try.results58, go_sem]) rfl ⟨rfl, (by repeat (first | exact Below.refl _ _ | (refine Below.drew ?_) | (refine Below.alloc ?_ (by simp; try omega) _) | (refine Below.setCell ?_ (by simp; try omega) _)))⟩
theorem reffar_any (w : World) (x : Ve) (n : Int) (h0 : 0 ≤ x.c) (h1 : x.c ≤ 4294967295) (h2 : 0 ≤ n) (h3 : n ≤ 4294967295) :
    Calls Try.prog 58 #[VV x, .int .u32 n] w fun e w' => e = .returned (.tuple #[VV (farV x n), .bool (farB x n)]) ∧ Below w.heap.size w w' := by
  by_cases hn : n = 0
  · subst hn
    exact reffar_no0 w x h0 h1
  · by_cases hf : x.c + n ≤ 16777216
    · have hb : farB x n = true := by simp [farB, hn, hf]
      have hv : farV x n = { x with c := x.c + n } := by simp [farV, hb]
      rw [hb, hv]
      exact reffar_yes w x n h0 (by omega) (by omega) h3 hf
    · have hb : farB x n = false := by simp [farB, hf]
      have hv : farV x n = Ve.zero := by simp [farV, hb]
      rw [hb, hv]
      by_cases hc : x.c ≤ 16777216
      · exact reffar_no2 w x n h0 hc (by omega) h3 (by omega)
      · exact reffar_no1 w x n h0 h1 (by omega) h3 (by omega)
end Go.Proofs.Ytlpmilaofcakbaa
