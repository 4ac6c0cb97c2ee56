/- Channels in one goroutine: words. -/
import Derived.Test.YtpoeamamdiomkaaBase
import Derived.Conc.LoneCalls
import Derived.Conc.LoneSelectN
import Derived.Conc.LoneSelect
namespace Go.Proofs.Ytpoeamamdiomkaa
open Go.RowKit Go.Conc
set_option linter.unusedVariables false
set_option linter.unusedSimpArgs false
set_option maxRecDepth 100000

/-- block c is an open channel with room for cap, that holds just these -/
def Chn (w : World) (c cap : Nat) (L : List Value) : Prop := ∃ s r, w.heap[c]? = some (.chan cap L.toArray false s r false)

theorem Chn.lt {w : World} {c cap : Nat} {L : List Value} (h : Chn w c cap L) : c < w.heap.size := by
  obtain ⟨s, r, h⟩ := h
  rcases Nat.lt_or_ge c w.heap.size with hlt | hge
  · exact hlt
  · rw [Array.getElem?_eq_none hge] at h; cases h
theorem Chn.chg {S : Nat → Prop} {w w' : World} {c cap : Nat} {L : List Value} (h : Chn w c cap L) (hc : Chg S w w') (hn : ¬ S c) : Chn w' c cap L := by
  have hl := h.lt
  obtain ⟨s, r, h⟩ := h
  exact ⟨s, r, (hc.block c hl hn).trans h⟩
theorem Chn.drew {w : World} {c cap : Nat} {L : List Value} (h : Chn w c cap L) : Chn w.drew c cap L := h
theorem Chn.new (w : World) (cap : Nat) : Chn (w.alloc (.chan cap #[] false 0 0 false)) w.heap.size cap [] := ⟨0, 0, heap_alloc_new w _⟩
theorem Chg.setChan {S : Nat → Prop} {w w' : World} (h : Chg S w w') {c : Nat} (hp : w.heap.size ≤ c ∨ S c) (cap : Nat) (buf : Array Value) (cl : Bool) (s r : Nat) (tm : Bool) : Chg S w (w'.setChan c cap buf cl s r tm) :=
  ⟨h.os, h.tape, h.output, Nat.le_trans h.size (by simp [World.setChan]), fun k hk hn => by
    have hne : c ≠ k := by rintro rfl; exact hp.elim (fun hp => by omega) (fun hp => hn hp)
    simp only [World.setChan]
    rw [Array.getElem?_setIfInBounds_ne hne]
    exact h.block k hk hn⟩
theorem Blk.setChan {w : World} {g : Nat} {t : TypeId} {cs : Array Value} (h : Blk w g t cs) {c : Nat} (hp : c ≠ g) (cap : Nat) (buf : Array Value) (cl : Bool) (s r : Nat) (tm : Bool) : Blk (w.setChan c cap buf cl s r tm) g t cs := by
  unfold Blk at h ⊢
  simp only [World.setChan]
  rw [Array.getElem?_setIfInBounds_ne hp]
  exact h
theorem Chn.set {w : World} {c : Nat} (h : c < w.heap.size) (cap : Nat) (L : List Value) (s r : Nat) : Chn (w.setChan c cap L.toArray false s r false) c cap L := ⟨s, r, heap_setChan w c cap _ false s r false h⟩


/-- a thing at block p of type t that holds just the channel c -/
structure Que (w : World) (p c : Nat) (t : TypeId) (cap : Nat) (L : List Value) : Prop where
  blk : Blk w p t #[.chan (some c)]
  ch : Chn w c cap L
theorem Que.ne {w : World} {p c cap : Nat} {t : TypeId} {L : List Value} (h : Que w p c t cap L) : c ≠ p := by
  rintro rfl
  obtain ⟨s, r, hc⟩ := h.ch
  have hb : w.heap[c]? = some _ := h.blk
  rw [hc] at hb
  cases hb
theorem Que.set {w : World} {p c cap : Nat} {t : TypeId} {L : List Value} (h : Que w p c t cap L) (L' : List Value) (s r : Nat) : Que (w.setChan c cap L'.toArray false s r false) p c t cap L' :=
  ⟨h.blk.setChan h.ne _ _ _ _ _ _, Chn.set h.ch.lt _ _ _ _⟩
theorem Que.chg {S : Nat → Prop} {w w' : World} {p c cap : Nat} {t : TypeId} {L : List Value} (h : Que w p c t cap L) (hc : Chg S w w') (hp : ¬ S p) (hn : ¬ S c) : Que w' p c t cap L :=
  ⟨h.blk.chg hc hp, h.ch.chg hc hn⟩
theorem Que.drew {w : World} {p c cap : Nat} {t : TypeId} {L : List Value} (h : Que w p c t cap L) : Que w.drew p c t cap L := ⟨h.blk, h.ch⟩
end Go.Proofs.Ytpoeamamdiomkaa
