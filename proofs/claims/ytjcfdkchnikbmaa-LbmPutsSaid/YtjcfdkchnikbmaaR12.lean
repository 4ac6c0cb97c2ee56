/- Layer 12: the document's Put, Take. -/
import Derived.Test.YtjcfdkchnikbmaaCfTk
import Derived.Test.YtjcfdkchnikbmaaRp11
import Derived.Test.YtjcfdkchnikbmaaRt11
import Derived.StillTailTactics
namespace Go.Proofs.Ytjcfdkchnikbmaa
open Go.RowKit
set_option linter.unusedVariables false
set_option linter.unusedSimpArgs false
set_option maxRecDepth 100000

theorem tkX_k (s : List UInt8) : ∀ x ∈ tkX s, x.k ≠ 0 := by
  unfold tkX
  split
  · rename_i p hp
    exact fun x hx => ((tks_back _ s (Nat.le_refl _) p.1 p.2 hp).2.1 x hx).1
  · intro x hx; cases hx
/-- a list in memory is still there when a zero message's block is stored into -/
theorem els_row0 {w : World} {A : Option Addr} {l : List Tl} {g : Nat} {t : TypeId} {cs' : Array Value} (h : Els 2 tlV w A l) (hg : Blk w g t #[.int .u8 0, .int .u8 0, .int .u8 0, .string ⟨#[]⟩, .slice none 0 0]) (hk : ∀ x ∈ l, x.k ≠ 0) : Els 2 tlV (w.setRow g cs') A l := by
  intro h0
  obtain ⟨b, off, e, hlt, hc⟩ := h h0
  have hb : b ≠ g := by
    rintro rfl
    have h1 := hc 0 h0 0 _ rfl
    rw [hg.cell] at h1
    have hk0 := hk l[0] (List.getElem_mem h0)
    match off, h1 with
    | 0, h1 => simp at h1; exact hk0 (UInt8.toNat_inj.1 (by rw [← Int.ofNat_inj]; exact h1.symm))
    | 1, h1 => simp at h1; exact hk0 (UInt8.toNat_inj.1 (by rw [← Int.ofNat_inj]; exact h1.symm))
    | 2, h1 => simp at h1; exact hk0 (UInt8.toNat_inj.1 (by rw [← Int.ofNat_inj]; exact h1.symm))
    | 3, h1 => simp at h1
    | 4, h1 => simp at h1
    | k + 5, h1 => simp at h1
  refine ⟨b, off, e, by simpa using hlt, fun i hi j v hv => ?_⟩
  rw [World.cell?_of_block (w := w) (a := ⟨b, off + i * 2 + j, none⟩) (setRow_other w g b cs' hb)]
  exact hc i hi j v hv
end Go.Proofs.Ytjcfdkchnikbmaa
