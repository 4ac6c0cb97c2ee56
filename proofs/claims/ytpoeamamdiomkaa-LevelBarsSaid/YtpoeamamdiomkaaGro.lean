/- A world that has grown out of another one: draws, and new blocks. -/
import Derived.Test.YtpoeamamdiomkaaBase
import Derived.Sort.Grow
namespace Go.Proofs.Ytpoeamamdiomkaa
open Go.RowKit
set_option linter.unusedVariables false
set_option linter.unusedSimpArgs false
set_option maxRecDepth 100000

/-- nothing that was there has changed; draws and new blocks alone came to it -/
structure Gro (w w' : World) : Prop where
  below : Below w.heap.size w w'
  drawn : w.drawn ≤ w'.drawn
section
variable {w w' w'' : World}
theorem Gro.refl (w : World) : Gro w w := ⟨Below.refl _ _, Nat.le_refl _⟩
theorem Gro.size (h : Gro w w') : w.heap.size ≤ w'.heap.size := h.below.size
theorem Gro.trans (h : Gro w w') (h' : Gro w' w'') : Gro w w'' := ⟨h.below.trans (h'.below.mono h.size), Nat.le_trans h.drawn h'.drawn⟩
theorem Gro.drew (h : Gro w w') : Gro w w'.drew := ⟨h.below.drew, Nat.le_trans h.drawn (Nat.le_succ _)⟩
theorem Gro.drewN (h : Gro w w') (n : Nat) : Gro w (w'.drewN n) := ⟨⟨h.below.os, h.below.tape, h.below.output, h.below.size, h.below.block⟩, Nat.le_trans h.drawn (Nat.le_add_right _ _)⟩
theorem Gro.alloc (h : Gro w w') (o : Obj) : Gro w (w'.alloc o) := ⟨h.below.alloc h.size o, h.drawn⟩
theorem Gro.setCell (h : Gro w w') {p : Addr} (hp : w.heap.size ≤ p.block) (u : Value) : Gro w (w'.setCell p u) := ⟨h.below.setCell hp u, h.drawn⟩
theorem Gro.block (h : Gro w w') {k : Nat} (hk : k < w.heap.size) : w'.heap[k]? = w.heap[k]? := h.below.block k hk
theorem Gro.cell (h : Gro w w') {p : Addr} (hp : p.block < w.heap.size) : w'.cell? p = w.cell? p := h.below.cell hp
theorem Gro.blk (h : Gro w w') {g : Nat} {t : TypeId} {cs : Array Value} (hb : Blk w g t cs) : Blk w' g t cs := hb.below h.below hb.lt
/-- said as the shelf's sort says it -/
theorem Gro.out (h : Gro w w') : ∃ q os, w' = Sort.grow (w.drewN q) os := by
  refine ⟨w'.drawn - w.drawn, w'.heap.extract w.heap.size w'.heap.size, ?_⟩
  obtain ⟨⟨h1, h2, h3, h4, h5⟩, h6⟩ := h
  obtain ⟨heap, tape, drawn, os, output⟩ := w
  obtain ⟨heap', tape', drawn', os', output'⟩ := w'
  simp only [Sort.grow, World.drewN] at *
  subst h1 h2 h3
  have hd : drawn' = drawn + (drawn' - drawn) := by omega
  have hh : heap' = heap ++ heap'.extract heap.size heap'.size := by
    apply Array.ext_getElem?
    intro k
    rcases Nat.lt_or_ge k heap.size with hk | hk
    · rw [Array.getElem?_append_left hk, h5 k hk]
    · rw [Array.getElem?_append_right hk, Array.getElem?_extract]
      rcases Nat.lt_or_ge k heap'.size with hk' | hk'
      · rw [if_pos (by omega), show heap.size + (k - heap.size) = k by omega]
      · rw [if_neg (by omega), Array.getElem?_eq_none hk']
  rw [← hh, ← hd]
theorem Gro.of_grow (q : Nat) (os : Array Obj) : Gro w (Sort.grow (w.drewN q) os) := by
  refine ⟨⟨rfl, rfl, rfl, ?_, fun k hk => ?_⟩, ?_⟩
  · simp [Sort.grow, World.drewN]
  · simp only [Sort.grow, World.drewN]; rw [Array.getElem?_append_left hk]
  · simp [Sort.grow, World.drewN]
end
end Go.Proofs.Ytpoeamamdiomkaa
