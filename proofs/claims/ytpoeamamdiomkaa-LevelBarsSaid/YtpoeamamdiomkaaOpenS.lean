/- Arguments opened: structs, and slices of structs, to their cells. -/
import Derived.Test.YtpoeamamdiomkaaBase
import Derived.OpenShut
import Derived.ShutString
import Derived.ChangeOld
import Derived.Deep.Slices
import Derived.Deep.Fields
import Derived.ChangeSame
namespace Go.Proofs.Ytpoeamamdiomkaa
open Go.ChangeShapes Go.WideShapes Go.ChangeAt Go.RowKit
set_option linter.unusedVariables false
set_option linter.unusedSimpArgs false
set_option maxRecDepth 100000

section
variable {H : Type} {enc : TypeId × Value → H} {P : Program} {w : World} {base : Nat} {spare : Nat → Bool} {held : Bool}
/-- field i of a struct, read -/
theorem trod_fld {t : TypeId} {fs : Array Field} {fuel : Nat} {cs : List Value} {x : DataW H × List MemPlace} (ht : P.underlying t = some (.struct fs)) (h : DataW.trod enc P w base spare held fuel t cs = some x) (i : Nat) (f : Field) (hf : fs[i]? = some f) :
    ∃ n y, DataW.trod enc P w base spare held n f.type ((cs.drop f.offset).take (P.cellsOf f.type)) = some y := by
  obtain ⟨xs, n, _, rfl, hl, hlen, hg⟩ := DataW.trod_struct ht h
  have hi : i < fs.size := (Array.getElem?_eq_some_iff.1 hf).1
  exact ⟨n, xs[i]'(by omega), (hg i f hf).trans (List.getElem?_eq_getElem (by omega))⟩
/-- field i of a struct is a number -/
theorem trod_fldInt {t : TypeId} {fs : Array Field} {fuel : Nat} {cs : List Value} {x : DataW H × List MemPlace} (ht : P.underlying t = some (.struct fs)) (h : DataW.trod enc P w base spare held fuel t cs = some x) (i : Nat) (f : Field) (hf : fs[i]? = some f)
    {k : IntKind} (hk : P.underlying f.type = some (.int k)) (h1 : P.cellsOf f.type = 1) : ∃ n, cs[f.offset]? = some (.int k n) ∧ (Lit.int k n).wf = true := by
  obtain ⟨m, y, hy⟩ := trod_fld ht h i f hf
  rw [h1] at hy
  obtain ⟨n, e, _, hw⟩ := DataW.trod_int hk hy
  refine ⟨n, ?_, hw⟩
  have : ((cs.drop f.offset).take 1)[0]? = some (.int k n) := by rw [e]; rfl
  simpa [List.getElem?_take] using this
/-- field i of a struct is a truth -/
theorem trod_fldBool {t : TypeId} {fs : Array Field} {fuel : Nat} {cs : List Value} {x : DataW H × List MemPlace} (ht : P.underlying t = some (.struct fs)) (h : DataW.trod enc P w base spare held fuel t cs = some x) (i : Nat) (f : Field) (hf : fs[i]? = some f)
    (hk : P.underlying f.type = some .bool) (h1 : P.cellsOf f.type = 1) : ∃ b, cs[f.offset]? = some (.bool b) := by
  obtain ⟨m, y, hy⟩ := trod_fld ht h i f hf
  rw [h1] at hy
  obtain ⟨b, e, _⟩ := DataW.trod_bool hk hy
  refine ⟨b, ?_⟩
  have : ((cs.drop f.offset).take 1)[0]? = some (.bool b) := by rw [e]; rfl
  simpa [List.getElem?_take] using this
/-- a struct as an argument: its cells, read -/
theorem open_struct {r : Reach} {b0 : Nat} {t : TypeId} {fs : Array Field} {v : Value} {d : DataW H} {p : List MemPlace} (ht : P.underlying t = some (.struct fs)) (o : Value.okWide P w r b0 t v) (h : DataW.Trod enc P w base spare held t v d p) :
    ∃ (l : List Value) (fuel : Nat) (x : DataW H × List MemPlace), v = .agg ⟨l⟩ ∧ l.length = P.cellsOf t ∧ DataW.trod enc P w base spare held fuel t l = some x := by
  obtain ⟨cs, rfl, hsz⟩ := okWide_struct ht o
  obtain ⟨l⟩ := cs
  obtain ⟨fuel, hf⟩ := h
  exact ⟨l, fuel, _, rfl, hsz, by simpa [Value.cells] using hf⟩
/-- an argument that is a number -/
theorem open_num {r : Reach} {b0 : Nat} {t : TypeId} {v : Value} {d : DataW H} {p : List MemPlace} {k : IntKind} (ht : P.underlying t = some (.int k)) (o : Value.okWide P w r b0 t v) (h : DataW.Trod enc P w base spare held t v d p) :
    ∃ n, v = .int k n ∧ (Lit.int k n).wf = true := by
  obtain ⟨n, rfl⟩ := okWide_int ht o
  obtain ⟨fuel, hf⟩ := h
  obtain ⟨m, e, _, hw⟩ := DataW.trod_int ht hf
  simp [Value.cells] at e
  subst e
  exact ⟨n, rfl, hw⟩
end

/-- a slice argument, element by element: the cells of each, and that they read as the element's type -/
theorem open_cells {H : Type} {enc : TypeId × Value → H} {P : Program} {W : World} {base : Nat} {v : Value} {d : DataW H} {p : List MemPlace} {t e : TypeId}
    (ht : P.underlying t = some (.slice e)) (hsz : 0 < P.cellsOf e) (o : Value.okWide P W .any base t v)
    (h : DataW.Trod enc P W 0 (fun _ => true) true t v d p) : ∃ A n c, v = .slice A n c ∧ n ≤ maxLen ∧ (A = none → n = 0 ∧ c = 0) ∧ (0 < n → ∃ b off, A = some ⟨b, off, none⟩ ∧ b < W.heap.size ∧ ∀ i, i < n → ∃ (cs : List Value) (fuel : Nat) (x : DataW H × List MemPlace),
      cs.length = P.cellsOf e ∧ (∀ j u, cs[j]? = some u → W.cell? ⟨b, off + i * P.cellsOf e + j, none⟩ = some u) ∧ DataW.trod enc P W 0 (fun _ => true) true fuel e cs = some x) := by
  obtain ⟨a0, len0, cap0, rfl⟩ := okWide_slice ht o
  obtain ⟨fuel, hf⟩ := h
  rcases Go.Deep.open_slice ht hf with ⟨hcs, _⟩ | ⟨a, l, c, m, n, D, Pl, hcs, _, hl, hm, hmm, _, hel⟩
  · simp [Value.cells] at hcs
    obtain ⟨rfl, rfl, rfl⟩ := hcs
    exact ⟨none, 0, 0, rfl, by simp, fun _ => ⟨rfl, rfl⟩, fun h => absurd h (by omega)⟩
  · simp [Value.cells] at hcs
    obtain ⟨rfl, rfl, rfl⟩ := hcs
    simp at hmm
    subst hmm
    refine ⟨some a, _, _, rfl, by omega, by simp, fun h0 => ?_⟩
    have key : ∀ i, i < len0 → ∃ (cs : List Value) (x : DataW H × List MemPlace), cs.length = P.cellsOf e ∧ (∀ j, j < P.cellsOf e → W.cell? (a.add (i * P.cellsOf e + j)) = cs[j]?) ∧ DataW.trod enc P W 0 (fun _ => true) true n e cs = some x := by
      intro i hi
      obtain ⟨cs, hc, htr⟩ := hel i (by omega)
      obtain ⟨_, hlen, hat⟩ := World.cells?_some hc
      refine ⟨cs, _, hlen, fun j hj => ?_, htr⟩
      rw [← hat j hj, Go.Deep.add_add]
    obtain ⟨cs, x, hlen, hat, _⟩ := key 0 h0
    have h00 := hat 0 hsz
    simp only [Nat.zero_mul, Nat.zero_add] at h00
    have hsome : cs[0]? = some (cs[0]'(by omega)) := List.getElem?_eq_getElem (by omega)
    have hsp := World.cell?_spot (h00.trans hsome)
    obtain ⟨b, off, spot⟩ := a
    simp only [Addr.add, ↓reduceIte] at hsp
    subst hsp
    refine ⟨b, off, rfl, World.block_lt_of_cell? W _ (by simpa [Addr.add] using h00.trans hsome), fun i hi => ?_⟩
    obtain ⟨cs, x, hlen, hat, htr⟩ := key i hi
    refine ⟨cs, n, x, hlen, fun j u hu => ?_, htr⟩
    have hj : j < P.cellsOf e := by rw [← hlen]; exact (List.getElem?_eq_some_iff.1 hu).1
    rw [← hu, ← hat j hj, Nat.add_assoc]
    simp only [Addr.add]
    split <;> simp_all
/-- out of one thing for each place, a list -/
theorem list_at {α : Type} (n : Nat) (Q : Nat → α → Prop) (h : ∀ i, i < n → ∃ x, Q i x) : ∃ l : List α, l.length = n ∧ ∀ i (hi : i < l.length), Q i l[i] := by
  induction n with
  | zero => exact ⟨[], rfl, fun i hi => absurd hi (by simp)⟩
  | succ n ih =>
    obtain ⟨l, hl, hp⟩ := ih (fun i hi => h i (by omega))
    obtain ⟨x, hx⟩ := h n (by omega)
    refine ⟨l ++ [x], by simp [hl], fun i hi => ?_⟩
    by_cases hin : i < l.length
    · rw [List.getElem_append_left hin]; exact hp i hin
    · have : i = n := by simp at hi; omega
      subst this
      simp [← hl]
      rw [hl]; exact hx
/-- the slice at A reads as the list l, k cells each -/
def Els {α : Type} (k : Nat) (enc : α → List Value) (w : World) (A : Option Addr) (l : List α) : Prop :=
  0 < l.length → ∃ b off, A = some ⟨b, off, none⟩ ∧ b < w.heap.size ∧ ∀ i (h : i < l.length) j v, (enc l[i])[j]? = some v → w.cell? ⟨b, off + i * k + j, none⟩ = some v
theorem Els.next {α : Type} {k : Nat} {enc : α → List Value} {w w' : World} {A : Option Addr} {l : List α} (h : Els k enc w A l) (hb : Below w.heap.size w w') : Els k enc w' A l := by
  intro h0
  obtain ⟨b, off, e, hlt, hc⟩ := h h0
  exact ⟨b, off, e, Nat.lt_of_lt_of_le hlt hb.size, fun i hi j v hv => (hb.cell (p := ⟨b, off + i * k + j, none⟩) hlt).trans (hc i hi j v hv)⟩
/-- a slice argument as a list, what each element is being known of its reading -/
theorem open_els {H : Type} {enc : TypeId × Value → H} {P : Program} {W : World} {base : Nat} {v : Value} {d : DataW H} {p : List MemPlace} {t e : TypeId} {α : Type} (k : Nat) (en : α → List Value) (Q : α → Prop)
    (ht : P.underlying t = some (.slice e)) (hk : P.cellsOf e = k) (hsz : 0 < k)
    (hone : ∀ (cs : List Value) (fuel : Nat) (x : DataW H × List MemPlace), cs.length = P.cellsOf e → DataW.trod enc P W 0 (fun _ => true) true fuel e cs = some x → ∃ a, Q a ∧ cs = en a)
    (o : Value.okWide P W .any base t v) (h : DataW.Trod enc P W 0 (fun _ => true) true t v d p) :
    ∃ (A : Option Addr) (c : Nat) (l : List α), v = .slice A l.length c ∧ l.length ≤ maxLen ∧ (A = none → l = [] ∧ c = 0) ∧ (∀ a ∈ l, Q a) ∧ Els k en W A l := by
  obtain ⟨A, n, c, rfl, hn, hz, hel⟩ := open_cells ht (by omega) o h
  rcases Nat.eq_zero_or_pos n with h0 | h0
  · subst h0
    exact ⟨A, c, [], rfl, by simp, fun e => ⟨rfl, (hz e).2⟩, by simp, fun h => absurd h (by simp)⟩
  · obtain ⟨b, off, rfl, hb, hel⟩ := hel h0
    rw [hk] at hel
    obtain ⟨l, hl, hp⟩ := list_at (α := α) n (fun i a => Q a ∧ ∀ j u, (en a)[j]? = some u → W.cell? ⟨b, off + i * k + j, none⟩ = some u) (by
      intro i hi
      obtain ⟨cs, fuel, x, hlen, hat, htr⟩ := hel i hi
      obtain ⟨a, hq, rfl⟩ := hone cs fuel x (by rw [hk]; exact hlen) htr
      exact ⟨a, hq, hat⟩)
    subst hl
    refine ⟨_, c, l, rfl, hn, by simp, fun a ha => ?_, fun _ => ⟨b, off, rfl, hb, fun i hi j u hu => (hp i hi).2 j u hu⟩⟩
    obtain ⟨i, hi, rfl⟩ := List.mem_iff_getElem.1 ha
    exact (hp i hi).1
end Go.Proofs.Ytpoeamamdiomkaa
