/- Numbers and their bytes (plain): there and back. -/
import Derived.Test.YtpoeamamdiomkaaNext
import Derived.Test.YtpoeamamdiomkaaBytes
import Derived.Laws.BitsAllLaws
namespace Go.Proofs.Ytpoeamamdiomkaa
open Go.RowKit
set_option linter.unusedVariables false
set_option linter.unusedSimpArgs false
set_option maxRecDepth 100000

theorem num64 (m : List UInt8) (h : m.length ≤ 8) : IntKind.u64.wrap (num m : Int) = num m := by
  have h1 := num_lt m
  have h2 : num m < 256 ^ 8 := Nat.lt_of_lt_of_le h1 (Nat.pow_le_pow_right (by omega) h)
  exact IntWalk.u64_in _ (by omega)
theorem wrap16_ (x : Int) : IntKind.u16.wrap x = x % 65536 := by simp [IntKind.wrap, IntKind.signed, IntKind.bits]
theorem dig_mod (k n : Nat) : dig k (n % 256 ^ k) = dig k n := by
  induction k generalizing n with
  | zero => rfl
  | succ k ih =>
    simp only [dig]
    have h1 : n % 256 ^ (k + 1) / 256 = (n / 256) % 256 ^ k := by rw [Nat.pow_succ, Nat.mul_comm, Nat.mod_mul_right_div_self]
    have h2 : n % 256 ^ (k + 1) % 256 = n % 256 := Nat.mod_mod_of_dvd _ ⟨256 ^ k, by rw [Nat.pow_succ, Nat.mul_comm]⟩
    rw [h1, h2, ih]
theorem num_dig (k n : Nat) : num (dig k n) = n % 256 ^ k := by
  induction k generalizing n with
  | zero => simp [dig, num_nil, Nat.mod_one]
  | succ k ih =>
    simp only [dig]
    rw [num_snoc, ih]
    have : (UInt8.ofNat (n % 256)).toNat = n % 256 := by simp
    rw [this, Nat.pow_succ, Nat.mul_comm (256 ^ k) 256, Nat.mod_mul]
    omega
theorem dig_num (l : List UInt8) : dig l.length (num l) = l := by
  have h : ∀ (r : List UInt8), dig r.length (num r.reverse) = r.reverse := by
    intro r
    induction r with
    | nil => rfl
    | cons b r ih =>
      simp only [List.length_cons, List.reverse_cons, num_snoc, dig]
      have hb := b.toNat_lt
      rw [show (num r.reverse * 256 + b.toNat) / 256 = num r.reverse by omega, show (num r.reverse * 256 + b.toNat) % 256 = b.toNat by omega, ih]
      simp
  have := h l.reverse
  simpa using this

theorem dig_add (j k n : Nat) : dig (j + k) n = dig j (n / 256 ^ k) ++ dig k n := by
  induction k generalizing n with
  | zero => simp [dig]
  | succ k ih =>
    show dig (j + k + 1) n = _
    simp only [dig]
    rw [ih (n / 256), Nat.div_div_eq_div_mul, show 256 * 256 ^ k = 256 ^ (k + 1) by rw [Nat.pow_succ, Nat.mul_comm]]
    simp
theorem list6 {l : List UInt8} (h : l.length = 6) : ∃ a b c d e f, l = [a, b, c, d, e, f] := by
  match l, h with
  | [a, b, c, d, e, f], _ => exact ⟨a, b, c, d, e, f, rfl⟩
end Go.Proofs.Ytpoeamamdiomkaa
