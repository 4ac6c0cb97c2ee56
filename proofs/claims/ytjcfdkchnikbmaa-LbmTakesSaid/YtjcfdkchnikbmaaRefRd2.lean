/- The document's reader: a number that is there. -/
import Derived.Test.YtjcfdkchnikbmaaRefRd
namespace Go.Proofs.Ytjcfdkchnikbmaa
open Go.RowKit
set_option linter.unusedVariables false
set_option linter.unusedSimpArgs false
set_option maxRecDepth 100000

theorem rt_ok {l : List UInt8} (n : Nat) (h0 : 0 < n) (h : n ≤ l.length) : rtV (n : Int) l 0 = l.take n ∧ rtL (n : Int) l 0 = l.drop n ∧ rtE (n : Int) l 0 = 0 := by
  have h1 : ¬ ((0 : Int) ≠ 0 ∨ (n : Int) ≤ 0) := by omega
  have h2 : ¬ ((l.length : Int) < (n : Int)) := by omega
  unfold rtV rtL rtE
  rw [if_neg h1, if_neg h2, if_neg h1, if_neg h2, if_neg h1, if_neg h2]
  simp
theorem refnum_ok (l : List UInt8) (n : Nat) (h0 : 0 < n) (h8 : n ≤ 8) (h : n ≤ l.length) (w : World) :
    Calls Try.prog 23 #[RV l 0, .int .i64 (n : Int)] w fun e w' => e = .returned (.tuple #[.int .u64 (num (l.take n)), RV (l.drop n) 0]) ∧ Below w.heap.size w w' := by
  obtain ⟨e1, e2, e3⟩ := rt_ok n h0 h
  have := refnum_any (w := w) (l := l) 0 (n : Int) (by omega) (by omega)
  rw [e1, e2, e3] at this
  exact this
end Go.Proofs.Ytjcfdkchnikbmaa
