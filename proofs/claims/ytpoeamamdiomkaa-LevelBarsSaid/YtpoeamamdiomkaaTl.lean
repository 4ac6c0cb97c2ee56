/- Layer 11: things in memory, and as arguments. -/
import Derived.Test.YtpoeamamdiomkaaTlSpec
import Derived.Test.YtpoeamamdiomkaaApL
import Derived.Test.YtpoeamamdiomkaaRow
import Derived.Test.YtpoeamamdiomkaaGro
import Derived.Test.YtpoeamamdiomkaaStr
import Derived.Laws.IdiomCopy
import Derived.OpenShut
import Derived.ShutString
import Derived.ChangeOld
import Derived.Lib.AppendStr
namespace Go.Proofs.Ytpoeamamdiomkaa
open Go.ChangeShapes Go.WideShapes Go.ChangeAt Go.RowKit
set_option linter.unusedVariables false
set_option linter.unusedSimpArgs false
set_option maxRecDepth 100000

section
variable {w w' : World} {A : Option Addr} {L : List Tl}
theorem tl_at {x : Tl} {k : Nat} (h : Els 2 tlV w A L) (hx : L[k]? = some x) : ∃ b off, A = some ⟨b, off, none⟩ ∧ b < w.heap.size ∧ w.cell? ⟨b, off + k * 2, none⟩ = some (.int .u8 x.k.toNat) ∧ w.cell? ⟨b, off + k * 2 + 1, none⟩ = some (.string ⟨x.v.toArray⟩) := by
  obtain ⟨hk, rfl⟩ := List.getElem?_eq_some_iff.1 hx
  obtain ⟨b, off, e, hlt, hc⟩ := h (by omega)
  exact ⟨b, off, e, hlt, hc k hk 0 _ rfl, hc k hk 1 _ rfl⟩
theorem els_nilL (w : World) (A : Option Addr) : Els 2 tlV w A [] := fun h => absurd h (by simp)
/-- one thing, in a block of its own -/
theorem els_oneL (w : World) (t : TypeId) (x : Tl) (cs : Array Value) (h : cs = (tlV x).toArray) : Els 2 tlV (w.alloc (.cells cs t)) (some ⟨w.heap.size, 0, none⟩) [x] := by
  subst h
  intro _
  refine ⟨_, 0, rfl, by simp, fun i hi j v hv => ?_⟩
  obtain rfl : i = 0 := by simpa using hi
  have := (Blk.new w t (tlV x).toArray).cell j
  rw [show 0 + 0 * 2 + j = j by omega, this]
  simpa using hv
end
theorem tl_eqI (x y : UInt8) : ((x.toNat : Int) == (y.toNat : Int)) = (x == y) := by
  rw [Bool.eq_iff_iff]
  simp only [beq_iff_eq]
  exact ⟨fun e => UInt8.toNat_inj.1 (by omega), fun e => by rw [e]⟩
section
variable {H : Type} {enc : TypeId × Value → H} {w : World} {base : Nat} {spare : Nat → Bool} {held : Bool}
theorem u8_ofL {n : Int} (h : (Lit.int .u8 n).wf = true) : ∃ u : UInt8, n = (u.toNat : Int) := by
  have hb : 0 ≤ n ∧ n ≤ 255 := by
    simp [Lit.wf, IntKind.has, IntKind.min, IntKind.max, IntKind.signed, IntKind.bits] at h
    omega
  refine ⟨UInt8.ofNat n.toNat, ?_⟩
  have : n.toNat % 256 = n.toNat := by omega
  simp [this]
  omega
theorem tl_trod {t : TypeId} {f0 f1 : Field} (hs : Try.prog.underlying t = some (.struct #[f0, f1])) (ht : f0.type = 5 ∧ f1.type = 9) (ho : f0.offset = 0 ∧ f1.offset = 1)
    {fuel : Nat} {cs : List Value} {x : DataW H × List MemPlace} (hl : cs.length = 2) (h : DataW.trod enc Try.prog w base spare held fuel t cs = some x) : ∃ v : Tl, True ∧ cs = tlV v := by
  obtain ⟨t0, t1⟩ := ht
  obtain ⟨o0, o1⟩ := ho
  obtain ⟨n0, e0, w0⟩ := trod_fldInt hs h 0 f0 rfl (k := .u8) (by rw [t0]; exact Try.underlying5) (by rw [t0]; kernel_rfl)
  obtain ⟨fm, y, e1⟩ := trod_fld hs h 1 f1 rfl
  rw [o0] at e0
  rw [o1, t1, show Try.prog.cellsOf 9 = 1 by kernel_rfl] at e1
  obtain ⟨v0, rfl⟩ := u8_ofL w0
  obtain ⟨s, es, _, _⟩ := DataW.trod_string Try.underlying9 e1
  match cs, hl with
  | [c0, c1], _ =>
    simp at e0 es
    subst e0 es
    obtain ⟨⟨l⟩⟩ := s
    exact ⟨⟨v0, l⟩, trivial, rfl⟩
end
theorem OwnB.lowL {w : World} {base base' : Nat} {v : Value} {l : List UInt8} (h : OwnB w base v l) (hb : base' ≤ base) : OwnB w base' v l := by
  refine ⟨h.1, ?_⟩
  rcases h.2 with hn | ⟨g, cap, cur, hv, hbg, rest⟩
  · exact .inl hn
  · exact .inr ⟨g, cap, cur, hv, Nat.le_trans hb hbg, rest⟩
theorem own_neL {w : World} {base : Nat} {e t : TypeId} {size n g : Nat} {v : Value} {xs : List Value} {cs : Array Value} (h : w.ownsRow base e size v n xs) (hb : Blk w g t cs) (ht : t ≠ e) : some g ≠ v.ownBlock := by
  rcases h.2 with ⟨rfl, _⟩ | ⟨g', cap, cur, rfl, _, hg, _⟩
  · intro h; cases h
  · intro h
    simp only [Value.ownBlock, Option.some.injEq] at h
    subst h
    unfold Blk at hb
    rw [hb] at hg
    simp only [Option.some.injEq, Obj.cells.injEq] at hg
    exact ht hg.2.1
theorem blk_grownL {w w' : World} {g : Nat} {t : TypeId} {cs : Array Value} {row : Option Nat} (hk : Blk w g t cs) (hg : w.grownBy w' row) (hn : some g ≠ row) : Blk w' g t cs := (hg.block g hk.lt hn).trans hk
end Go.Proofs.Ytpoeamamdiomkaa
