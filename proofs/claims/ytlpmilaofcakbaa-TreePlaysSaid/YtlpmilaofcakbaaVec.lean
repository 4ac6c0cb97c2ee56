/- vector: vectors and paths as values; the order, plain; cmp.Compare, cmp.Or, Compare. -/
import Derived.Test.YtlpmilaofcakbaaGro
import Derived.Test.YtlpmilaofcakbaaRow
import Derived.Laws.StructEq
import Derived.Deep.RegionHeld3
import Derived.BigQuiet
namespace Go.Proofs.Ytlpmilaofcakbaa
open Go.RowKit
set_option linter.unusedVariables false
set_option linter.unusedSimpArgs false
set_option maxRecDepth 100000

/-- a vector -/
structure Ve where
  r : Int
  c : Int
  b : Int
  p : Int
  deriving DecidableEq, Inhabited
/-- a path -/
structure Pa where
  v : Ve
  i : Int
  deriving DecidableEq, Inhabited
abbrev VV (v : Ve) : Value := .agg #[.int .u64 v.r, .int .u32 v.c, .int .u64 v.b, .int .u8 v.p]
abbrev PV (x : Pa) : Value := .agg #[.int .u64 x.v.r, .int .u32 x.v.c, .int .u64 x.v.b, .int .u8 x.v.p, .int .u8 x.i]
def encV (v : Ve) : List Value := [.int .u64 v.r, .int .u32 v.c, .int .u64 v.b, .int .u8 v.p]
def encP (x : Pa) : List Value := [.int .u64 x.v.r, .int .u32 x.v.c, .int .u64 x.v.b, .int .u8 x.v.p, .int .u8 x.i]

/-- how two numbers stand -/
def cmpI (a b : Int) : Int := if a < b then -1 else if b < a then 1 else 0
/-- the first that is not nought -/
def orI : List Int → Int
  | [] => 0
  | x :: l => if x = 0 then orI l else x
/-- how two vectors stand -/
def cmpV (x y : Ve) : Int := orI [cmpI x.r y.r, cmpI x.c y.c, cmpI x.b y.b, cmpI x.p y.p]
/-- how two paths stand -/
def cmpP (x y : Pa) : Int := if x.v = y.v then cmpI x.i y.i else cmpV x.v y.v
/-- is a vector less? -/
def lessV (x y : Ve) : Bool := if x.r ≠ y.r then decide (x.r < y.r) else if x.c ≠ y.c then decide (x.c < y.c) else if x.b ≠ y.b then decide (x.b < y.b) else decide (x.p < y.p)

theorem cmpI_self (a : Int) : cmpI a a = 0 := by simp [cmpI]
theorem cmpI_zero {a b : Int} : cmpI a b = 0 ↔ a = b := by unfold cmpI; split <;> (try split) <;> omega
theorem cmpI_neg (a b : Int) : cmpI b a = -cmpI a b := by unfold cmpI; repeat' split
                                                          all_goals omega
theorem cmpI_lt {a b : Int} : cmpI a b < 0 ↔ a < b := by unfold cmpI; split <;> (try split) <;> omega
theorem cmpI_one (a b : Int) : -1 ≤ cmpI a b ∧ cmpI a b ≤ 1 := by unfold cmpI; split <;> (try split) <;> omega
theorem cmpV_less (x y : Ve) : cmpV x y = if lessV x y then -1 else if lessV y x then 1 else 0 := by
  obtain ⟨x1, x2, x3, x4⟩ := x
  obtain ⟨y1, y2, y3, y4⟩ := y
  simp only [cmpV, orI, lessV, cmpI_zero]
  by_cases h1 : x1 = y1
  · by_cases h2 : x2 = y2
    · by_cases h3 : x3 = y3
      · subst h1 h2 h3
        by_cases h4 : x4 = y4
        · simp [h4]
        · simp [cmpI, h4]
      · have h3' : ¬ y3 = x3 := fun e => h3 e.symm
        subst h1 h2
        simp [h3, h3', cmpI]
    · have h2' : ¬ y2 = x2 := fun e => h2 e.symm
      subst h1
      simp [h2, h2', cmpI]
  · have h1' : ¬ y1 = x1 := fun e => h1 e.symm
    simp [h1, h1', cmpI]
theorem cmpV_zero {x y : Ve} : cmpV x y = 0 ↔ x = y := by
  obtain ⟨x1, x2, x3, x4⟩ := x
  obtain ⟨y1, y2, y3, y4⟩ := y
  simp only [cmpV, orI, Ve.mk.injEq]
  constructor
  · intro h
    split at h
    · rename_i h1
      split at h
      · rename_i h2
        split at h
        · rename_i h3
          split at h
          · rename_i h4
            exact ⟨cmpI_zero.1 h1, cmpI_zero.1 h2, cmpI_zero.1 h3, cmpI_zero.1 h4⟩
          · contradiction
        · contradiction
      · contradiction
    · contradiction
  · rintro ⟨rfl, rfl, rfl, rfl⟩
    simp [cmpI_self]
theorem orI_neg (l m : List Int) (hl : l.length = m.length) (h : ∀ i (hi : i < l.length), m[i] = -l[i]) : orI m = -orI l := by
  induction l generalizing m with
  | nil => cases m with
    | nil => rfl
    | cons => simp at hl
  | cons x l ih =>
    cases m with
    | nil => simp at hl
    | cons y m =>
      have h0 : y = -x := h 0 (by simp)
      have hr := ih m (by simpa using hl) (fun i hi => h (i + 1) (by simpa using hi))
      subst h0
      simp only [orI, hr]
      split <;> split <;> omega
theorem cmpV_neg (x y : Ve) : cmpV y x = -cmpV x y := by
  refine orI_neg _ _ rfl (fun i hi => ?_)
  simp only [List.length_cons, List.length_nil] at hi
  match i, hi with
  | 0, _ => exact cmpI_neg _ _
  | 1, _ => exact cmpI_neg _ _
  | 2, _ => exact cmpI_neg _ _
  | 3, _ => exact cmpI_neg _ _
theorem lessV_irrefl (x : Ve) : lessV x x = false := by simp [lessV]
theorem lessV_iff (x y : Ve) : lessV x y = true ↔ x.r < y.r ∨ x.r = y.r ∧ (x.c < y.c ∨ x.c = y.c ∧ (x.b < y.b ∨ x.b = y.b ∧ x.p < y.p)) := by
  unfold lessV
  split
  · simp; omega
  · split
    · simp; omega
    · split
      · simp; omega
      · simp; omega
theorem lessV_trans {x y z : Ve} (h1 : lessV x y = true) (h2 : lessV y z = true) : lessV x z = true := by
  rw [lessV_iff] at *; omega
theorem lessV_tri {x y : Ve} (h1 : lessV x y = false) (h2 : lessV y x = false) : x = y := by
  have a : ¬ lessV x y = true := by simp [h1]
  have b : ¬ lessV y x = true := by simp [h2]
  rw [lessV_iff] at a b
  obtain ⟨x1, x2, x3, x4⟩ := x
  obtain ⟨y1, y2, y3, y4⟩ := y
  simp only [Ve.mk.injEq] at *
  omega
theorem cmpV_lt {x y : Ve} : cmpV x y < 0 ↔ lessV x y = true := by
  rw [cmpV_less]; split <;> (try split) <;> simp_all
theorem cmpV_gt {x y : Ve} : 0 < cmpV x y ↔ lessV y x = true := by
  rw [cmpV_less]
  split
  · rename_i h
    simp
    by_cases h' : lessV y x = true
    · exact absurd (lessV_trans h h') (by simp [lessV_irrefl])
    · simpa using h'
  · split <;> simp_all
theorem cmpV_one (x y : Ve) : -1 ≤ cmpV x y ∧ cmpV x y ≤ 1 := by rw [cmpV_less]; split <;> (try split) <;> omega
theorem cmpV_self (x : Ve) : cmpV x x = 0 := cmpV_zero.2 rfl

/-- two vectors are held against each other -/
theorem run_eqVd (d : Nat) (x y : Ve) (w : World) : (Op.equalIn (d + 2) 52 (VV x) (VV y)).run Try.prog w = .ok (decide (x = y)) w := by
  have u8 := Try.underlying5
  have u32 := Try.underlying33
  have u64 := Try.underlying22
  have h0 := run_equalIn_int (P := Try.prog) w d 22 .u64 .u64 x.r y.r u64
  have h1 := run_equalIn_int (P := Try.prog) w d 33 .u32 .u32 x.c y.c u32
  have h2 := run_equalIn_int (P := Try.prog) w d 22 .u64 .u64 x.b y.b u64
  have h3 := run_equalIn_int (P := Try.prog) w d 5 .u8 .u8 x.p y.p u8
  have hall : decide (x = y) = ((x.r == y.r) && ((x.c == y.c) && ((x.b == y.b) && ((x.p == y.p) && true)))) := by
    obtain ⟨x1, x2, x3, x4⟩ := x
    obtain ⟨y1, y2, y3, y4⟩ := y
    rw [Bool.eq_iff_iff]
    simp
  rw [run_equalIn_struct w (d + 1) 52 _ _ (by rw [Program.fieldsOf, Try.underlying52]) (by kernel_rfl)]
  simp only [Program.fieldsOf, Try.underlying52]
  rw [hall]
  refine eqs_step (by decide) (by kernel_rfl) (by kernel_rfl) h0 ?_
  refine eqs_step (by decide) (by kernel_rfl) (by kernel_rfl) h1 ?_
  refine eqs_step (by decide) (by kernel_rfl) (by kernel_rfl) h2 ?_
  refine eqs_step (by decide) (by kernel_rfl) (by kernel_rfl) h3 ?_
  exact eqs_nil
theorem run_eqV (x y : Ve) (w : World) : (Op.equalIn 10000 52 (VV x) (VV y)).run Try.prog w = .ok (decide (x = y)) w := run_eqVd 9998 x y w
theorem run_equalIn_vec (x y : Ve) (w : World) : (Op.equalIn 9999 52 (VV x) (VV y)).run Try.prog w = .ok (decide (x = y)) w := run_eqVd 9997 x y w
/-- two paths are held against each other -/
theorem run_eqP (x y : Pa) (w : World) : (Op.equalIn 10000 124 (PV x) (PV y)).run Try.prog w = .ok (decide (x = y)) w := by
  have u8 := Try.underlying5
  have h0 := run_equalIn_vec x.v y.v w
  have h1 := run_equalIn_int (P := Try.prog) w 9998 5 .u8 .u8 x.i y.i u8
  have hall : decide (x = y) = (decide (x.v = y.v) && ((x.i == y.i) && true)) := by
    obtain ⟨x1, x2⟩ := x
    obtain ⟨y1, y2⟩ := y
    rw [Bool.eq_iff_iff]
    simp
  rw [run_equalIn_struct w 9999 124 _ _ (by rw [Program.fieldsOf, Try.underlying124]) (by kernel_rfl)]
  simp only [Program.fieldsOf, Try.underlying124]
  rw [hall]
  refine eqs_step (by decide) (by kernel_rfl) (by kernel_rfl) h0 ?_
  refine eqs_step (by decide) (by kernel_rfl) (by kernel_rfl) h1 ?_
  exact eqs_nil

end Go.Proofs.Ytlpmilaofcakbaa
