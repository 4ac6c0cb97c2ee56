/- Layer 6: numbers and acts as values. -/
import Derived.Test.YtofgdemkddbjeaaWakes
namespace Go.Proofs.Ytofgdemkddbjeaa
open Go.RowKit Go.ChangeShapes Go.WideShapes Go.ChangeAt
set_option linter.unusedVariables false
set_option linter.unusedSimpArgs false
set_option maxRecDepth 100000

/-- an act: what to do, with which number -/
structure Do where
  d : Int
  n : Int
def encD (x : Do) : List Value := [.int .u8 x.d, .int .i64 x.n]
structure Do.ok (x : Do) : Prop where
  d : (Lit.int .u8 x.d).wf = true
  n : (Lit.int .i64 x.n).wf = true
theorem encD_pos (x : Do) : 0 < (encD x).length := Nat.zero_lt_succ _
theorem one_pos (v : Value) : 0 < (one v).length := Nat.zero_lt_one
theorem els_drew {α : Type} {k : Nat} {enc : α → List Value} {w : World} {A : Option Addr} {l : List α} (h : Els k enc w A l) : Els k enc w.drew A l := h
section
variable {H : Type} {enc : TypeId × Value → H} {w : World} {base : Nat} {spare : Nat → Bool} {held : Bool}
theorem do_trod {t : TypeId} {f0 f1 : Field} (hs : Try.prog.underlying t = some (.struct #[f0, f1])) (ht : f0.type = 5 ∧ f1.type = 3) (ho : f0.offset = 0 ∧ f1.offset = 1)
    {fuel : Nat} {cs : List Value} {x : DataW H × List MemPlace} (hl : cs.length = 2) (h : DataW.trod enc Try.prog w base spare held fuel t cs = some x) : ∃ v : Do, v.ok ∧ cs = encD v := by
  obtain ⟨t0, t1⟩ := ht
  obtain ⟨o0, o1⟩ := ho
  obtain ⟨n0, e0, w0⟩ := trod_fldInt hs h 0 f0 rfl (k := .u8) (by rw [t0]; exact Try.underlying5) (by rw [t0]; kernel_rfl)
  obtain ⟨n1, e1, w1⟩ := trod_fldInt hs h 1 f1 rfl (k := .i64) (by rw [t1]; exact Try.underlying3) (by rw [t1]; kernel_rfl)
  rw [o0] at e0
  rw [o1] at e1
  match cs, hl with
  | [c0, c1], _ =>
    simp only [List.getElem?_cons_zero, List.getElem?_cons_succ, Option.some.injEq] at e0 e1
    subst e0 e1
    exact ⟨⟨n0, n1⟩, ⟨w0, w1⟩, rfl⟩
end
/-- what act k of the row holds in memory -/
theorem els_do {w : World} {A : Option Addr} {l : List Do} (h : Els 2 encD w A l) {k : Nat} {x : Do} (hx : l[k]? = some x) :
    ∃ b off, A = some ⟨b, off, none⟩ ∧ b < w.heap.size ∧ w.cell? ⟨b, off + k * 2, none⟩ = some (.int .u8 x.d) ∧ w.cell? ⟨b, off + k * 2 + 1, none⟩ = some (.int .i64 x.n) := by
  obtain ⟨hk, rfl⟩ := List.getElem?_eq_some_iff.1 hx
  obtain ⟨b, off, e, hlt, hc⟩ := h (by omega)
  exact ⟨b, off, e, hlt, hc k hk 0 _ rfl, hc k hk 1 _ rfl⟩

/-- numbers, as values -/
def vi (l : List Int) : List Value := l.map (Value.int .i64)
theorem vi_len (l : List Int) : (vi l).length = l.length := by simp [vi]
theorem vi_ok (l : List Int) : ∀ u ∈ vi l, isI u := by
  intro u hu
  simp only [vi, List.mem_map] at hu
  obtain ⟨s, _, rfl⟩ := hu
  exact ⟨s, rfl⟩
theorem vi_put (l : List Int) (n : Int) : vi (l ++ [n]) = vi l ++ [.int .i64 n] := by simp [vi]
theorem vi_drop {l : List Int} {k : Nat} {s : Int} (h : l[k]? = some s) : vi (l.drop k) = .int .i64 s :: vi (l.drop (k + 1)) := by
  obtain ⟨hk, rfl⟩ := List.getElem?_eq_some_iff.1 h
  rw [List.drop_eq_getElem_cons hk]
  rfl
theorem vi_get {l : List Int} {k : Nat} {s : Int} (h : l[k]? = some s) : (vi l)[k]? = some (.int .i64 s) := by simp [vi, h]
end Go.Proofs.Ytofgdemkddbjeaa
