/- Slices of bytes and texts. -/
import Derived.Test.YtieopgmmjpmflaaBytes
import Derived.Laws.IdiomStrings
import Derived.Lib.BufferRead
namespace Go.Proofs.Ytieopgmmjpmflaa
open Go.RowKit
set_option linter.unusedVariables false
set_option linter.unusedSimpArgs false
set_option maxRecDepth 100000

/-- the value v is a slice that reads as the bytes l -/
def Str (w : World) (v : Value) (l : List UInt8) : Prop := ∃ A c, v = .slice A l.length c ∧ (A = none → c = 0) ∧ Byt w A l
theorem OwnB.str {w : World} {base : Nat} {v : Value} {l : List UInt8} (h : OwnB w base v l) : Str w v l := by
  rcases h.2 with ⟨rfl, hn⟩ | ⟨g, cap, cur, rfl, _, _, _⟩
  · exact ⟨none, 0, by rw [hn], fun _ => rfl, fun h0 => absurd h0 (by omega)⟩
  · exact ⟨_, cap, rfl, (by simp), fun _ => ⟨_, rfl, fun j u hu => World.ownsRow.cells h (g := g) rfl j u hu⟩⟩
theorem Str.conv {w : World} {v : Value} {l : List UInt8} (h : Str w v l) : (convert 58 9 v).run Try.prog w = .ok (.string ⟨l.toArray⟩) w := by
  obtain ⟨A, c, rfl, hz, hb⟩ := h
  rcases Nat.eq_zero_or_pos l.length with h0 | h0
  · have hl : l = [] := List.eq_nil_of_length_eq_zero h0
    subst hl
    cases A with
    | none => exact Lib.run_convert_nil_bytes w _ _ _ c Try.underlying58 Try.underlying5 Try.underlying9
    | some ad => exact run_convert_bytes_back w _ _ _ ad c [] Try.underlying58 Try.underlying5 Try.underlying9 (fun j hj => absurd hj (by simp))
  · obtain ⟨ad, rfl, hc⟩ := hb h0
    exact run_convert_bytes_back w _ _ _ ad c l Try.underlying58 Try.underlying5 Try.underlying9 (fun j hj => hc j _ (by simp [bvals, bval, hj]))
theorem Str.below {w w' : World} {v : Value} {l : List UInt8} (h : Str w v l) (hb : Below w.heap.size w w') : Str w' v l := by
  obtain ⟨A, c, rfl, hz, hy⟩ := h
  exact ⟨A, c, rfl, hz, hy.below hb⟩

end Go.Proofs.Ytieopgmmjpmflaa
