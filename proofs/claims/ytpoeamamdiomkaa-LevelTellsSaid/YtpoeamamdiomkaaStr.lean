/- Slices of bytes and texts. -/
import Derived.Test.YtpoeamamdiomkaaBytes
import Derived.Laws.IdiomStrings
import Derived.Lib.BufferRead
namespace Go.Proofs.Ytpoeamamdiomkaa
open Go.RowKit
set_option linter.unusedVariables false
set_option linter.unusedSimpArgs false
set_option maxRecDepth 100000

/-- the value v is a slice that reads as the bytes l -/
def Str (w : World) (v : Value) (l : List UInt8) : Prop := ∃ A c, v = .slice A l.length c ∧ (A = none → c = 0) ∧ Byt w A l
theorem OwnB.str {w : World} {base : Nat} {v : Value} {l : List UInt8} (h : OwnB w base v l) : Str w v l := by
  rcases h.2 with ⟨rfl, hn⟩ | ⟨g, cap, cur, rfl, _, _, _⟩
  · exact ⟨none, 0, by rw [hn], fun _ => rfl, fun h0 => absurd h0 (by omega)⟩
  · exact ⟨_, cap, rfl, (by simp), fun _ => ⟨_, rfl, fun j u hu => World.ownsRow.cells h (g := g) rfl j u hu⟩⟩
theorem Str.below {w w' : World} {v : Value} {l : List UInt8} (h : Str w v l) (hb : Below w.heap.size w w') : Str w' v l := by
  obtain ⟨A, c, rfl, hz, hy⟩ := h
  exact ⟨A, c, rfl, hz, hy.below hb⟩

end Go.Proofs.Ytpoeamamdiomkaa
