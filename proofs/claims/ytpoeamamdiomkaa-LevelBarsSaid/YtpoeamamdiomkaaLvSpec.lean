/- Layer 17: what becomes of a message, as numbers. -/
import Derived.Test.YtpoeamamdiomkaaBase
namespace Go.Proofs.Ytpoeamamdiomkaa
open Go.RowKit
set_option linter.unusedVariables false
set_option linter.unusedSimpArgs false
set_option maxRecDepth 100000

/-- is a level in a set; is one from a level on -/
def bt (s : UInt8) (j : Nat) : Bool := s.toNat / 2 ^ j % 2 == 1
def hi (s : UInt8) (l : Nat) : Bool := !(s.toNat / 2 ^ l == 0)
/-- the fate of a message that comes to the points of f, and then to those of o -/
def fa (f o : UInt8) (m : Int) (l : Nat) : Nat := if 7 < l then 0 else if bt f l then 2 else if hi f l then 0 else if hi o l then 0 else if m = (l : Int) then 3 else 1
theorem fa_le (f o : UInt8) (m : Int) (l : Nat) : fa f o m l ≤ 3 := by
  unfold fa
  split
  · omega
  · split
    · omega
    · split
      · omega
      · split
        · omega
        · split <;> omega
theorem hi_all : ∀ s : Fin 256, ∀ l : Fin 8, (!(s.val / 2 ^ l.val == 0)) = (List.range 8).any (fun j => decide (l.val ≤ j) && (s.val / 2 ^ j % 2 == 1)) := by decide +kernel
theorem hi_is (s : UInt8) (l : Nat) (h : l < 8) : hi s l = true ↔ ∃ j, l ≤ j ∧ j < 8 ∧ bt s j = true := by
  have := hi_all ⟨s.toNat, s.toNat_lt⟩ ⟨l, h⟩
  simp only at this
  unfold hi bt
  rw [this, List.any_eq_true]
  constructor
  · rintro ⟨j, hj, hh⟩
    simp only [Bool.and_eq_true, decide_eq_true_eq] at hh
    exact ⟨j, hh.1, List.mem_range.1 hj, hh.2⟩
  · rintro ⟨j, h1, h2, h3⟩
    exact ⟨j, List.mem_range.2 h2, by simp only [Bool.and_eq_true, decide_eq_true_eq]; exact ⟨h1, h3⟩⟩
theorem hi_no (s : UInt8) (l : Nat) (h : l < 8) (hh : ∀ j, j < 8 → bt s j = true → j < l) : hi s l = false := by
  rw [← Bool.not_eq_true]
  intro e
  obtain ⟨j, h1, h2, h3⟩ := (hi_is s l h).1 e
  have := hh j h2 h3
  omega
theorem bt_hi (s : UInt8) (l j : Nat) (hj : j < 8) (hl : l ≤ j) (h : bt s j = true) : hi s l = true := (hi_is s l (by omega)).2 ⟨j, hl, hj, h⟩
theorem hi_or : ∀ d u : Fin 256, ∀ l : Fin 8, (((d.val ||| u.val) / 2 ^ l.val == 0) = true) ↔ ((d.val / 2 ^ l.val == 0) = true ∧ (u.val / 2 ^ l.val == 0) = true) := by
  intro d u l
  simp only [beq_iff_eq]
  rw [← Nat.shiftRight_eq_div_pow, ← Nat.shiftRight_eq_div_pow, ← Nat.shiftRight_eq_div_pow, Nat.shiftRight_or_distrib]
  constructor
  · intro h
    exact ⟨Nat.eq_zero_of_le_zero (h ▸ Nat.left_le_or), Nat.eq_zero_of_le_zero (h ▸ Nat.right_le_or)⟩
  · rintro ⟨h1, h2⟩
    rw [h1, h2]
    rfl
theorem or_hi (d u : UInt8) (l : Nat) (h : l < 8) : ((d.toNat ||| u.toNat) / 2 ^ l == 0) = (!(hi d l) && !(hi u l)) := by
  have := hi_or ⟨d.toNat, d.toNat_lt⟩ ⟨u.toNat, u.toNat_lt⟩ ⟨l, h⟩
  simp only at this
  unfold hi
  rw [Bool.eq_iff_iff, this]
  simp
/-- does a point stand there -/
def sd (s at_ : UInt8) : Bool := decide (at_.toNat < 8) && bt s at_.toNat
theorem fa_far {f o : UInt8} {m : Int} {l : Nat} (h : 7 < l) : fa f o m l = 0 := by unfold fa; rw [if_pos h]
/-- above all points -/
theorem fa_free {f o : UInt8} {m : Int} {l : Nat} (h : l < 8) (hf : hi f l = false) (ho : hi o l = false) : fa f o m l = if m = (l : Int) then 3 else 1 := by
  have hb : bt f l = false := by
    rw [← Bool.not_eq_true]
    intro e
    have := bt_hi f l l h (Nat.le_refl _) e
    rw [hf] at this
    cases this
  unfold fa
  rw [if_neg (by omega), hb, hf, ho]
  simp
/-- at a level that is not above all -/
theorem fa_bar {f o : UInt8} {m : Int} {l : Nat} (h : l < 8) (hh : hi f l = true ∨ hi o l = true) : fa f o m l = if bt f l then 2 else 0 := by
  unfold fa
  rw [if_neg (by omega)]
  cases hb : bt f l
  · simp only [Bool.false_eq_true, if_false]
    cases hf : hi f l
    · rcases hh with hh | hh
      · rw [hf] at hh; cases hh
      · rw [hh]; simp
    · simp
  · simp
theorem sd_free {s l : UInt8} (h : hi s l.toNat = false) : sd s l = false := by
  unfold sd
  by_cases hl : l.toNat < 8
  · rw [← Bool.not_eq_true]
    intro e
    simp only [Bool.and_eq_true, decide_eq_true_eq] at e
    have := bt_hi s l.toNat l.toNat hl (Nat.le_refl _) e.2
    rw [h] at this
    cases this
  · simp [hl]
theorem sd_above {s l f : UInt8} (h : hi s l.toNat = false) (hl : l.toNat ≤ f.toNat) : sd s f = false := by
  unfold sd
  by_cases hf : f.toNat < 8
  · rw [← Bool.not_eq_true]
    intro e
    simp only [Bool.and_eq_true, decide_eq_true_eq] at e
    have := bt_hi s l.toNat f.toNat hf hl e.2
    rw [h] at this
    cases this
  · simp [hf]
theorem sd_bt {s l : UInt8} (h : l.toNat < 8) : sd s l = bt s l.toNat := by unfold sd; simp [h]
theorem sd_far {s l : UInt8} (h : ¬ l.toNat < 8) : sd s l = false := by unfold sd; simp [h]
end Go.Proofs.Ytpoeamamdiomkaa
