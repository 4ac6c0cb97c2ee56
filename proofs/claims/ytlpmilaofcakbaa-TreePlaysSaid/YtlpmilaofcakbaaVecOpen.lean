/- Vectors and paths as arguments. -/
import Derived.Test.YtlpmilaofcakbaaOpenS
import Derived.Test.YtlpmilaofcakbaaVec
namespace Go.Proofs.Ytlpmilaofcakbaa
open Go.ChangeShapes Go.WideShapes Go.ChangeAt Go.RowKit
set_option linter.unusedVariables false
set_option linter.unusedSimpArgs false
set_option maxRecDepth 100000

/-- the numbers of a vector are numbers of their kinds -/
structure Ve.ok (v : Ve) : Prop where
  r : (Lit.int .u64 v.r).wf = true
  c : (Lit.int .u32 v.c).wf = true
  b : (Lit.int .u64 v.b).wf = true
  p : (Lit.int .u8 v.p).wf = true
structure Pa.ok (x : Pa) : Prop where
  v : x.v.ok
  i : (Lit.int .u8 x.i).wf = true
theorem wf_u32 {n : Int} (h : (Lit.int .u32 n).wf = true) : 0 ≤ n ∧ n ≤ 4294967295 := by
  simp [Lit.wf, IntKind.min, IntKind.max, IntKind.signed, IntKind.bits] at h
  omega
theorem wf_u8 {n : Int} (h : (Lit.int .u8 n).wf = true) : 0 ≤ n ∧ n ≤ 255 := by
  simp [Lit.wf, IntKind.min, IntKind.max, IntKind.signed, IntKind.bits] at h
  omega

section
variable {H : Type} {enc : TypeId × Value → H} {w : World} {base : Nat} {spare : Nat → Bool} {held : Bool}
theorem ve_trod {t : TypeId} {f0 f1 f2 f3 : Field} (hs : Try.prog.underlying t = some (.struct #[f0, f1, f2, f3])) (ht : f0.type = 22 ∧ f1.type = 33 ∧ f2.type = 22 ∧ f3.type = 5) (ho : f0.offset = 0 ∧ f1.offset = 1 ∧ f2.offset = 2 ∧ f3.offset = 3)
    {fuel : Nat} {cs : List Value} {x : DataW H × List MemPlace} (hl : cs.length = 4) (h : DataW.trod enc Try.prog w base spare held fuel t cs = some x) : ∃ v : Ve, v.ok ∧ cs = encV v := by
  obtain ⟨t0, t1, t2, t3⟩ := ht
  obtain ⟨o0, o1, o2, o3⟩ := ho
  obtain ⟨n0, e0, w0⟩ := trod_fldInt hs h 0 f0 rfl (k := .u64) (by rw [t0]; exact Try.underlying22) (by rw [t0]; kernel_rfl)
  obtain ⟨n1, e1, w1⟩ := trod_fldInt hs h 1 f1 rfl (k := .u32) (by rw [t1]; exact Try.underlying33) (by rw [t1]; kernel_rfl)
  obtain ⟨n2, e2, w2⟩ := trod_fldInt hs h 2 f2 rfl (k := .u64) (by rw [t2]; exact Try.underlying22) (by rw [t2]; kernel_rfl)
  obtain ⟨n3, e3, w3⟩ := trod_fldInt hs h 3 f3 rfl (k := .u8) (by rw [t3]; exact Try.underlying5) (by rw [t3]; kernel_rfl)
  rw [o0] at e0
  rw [o1] at e1
  rw [o2] at e2
  rw [o3] at e3
  match cs, hl with
  | [c0, c1, c2, c3], _ =>
    simp at e0 e1 e2 e3
    subst e0 e1 e2 e3
    exact ⟨⟨n0, n1, n2, n3⟩, ⟨w0, w1, w2, w3⟩, rfl⟩
theorem pa_trod {t u : TypeId} {f0 f1 f2 f3 g0 g1 : Field} (hs : Try.prog.underlying t = some (.struct #[g0, g1])) (hg : g0.type = u ∧ g1.type = 5) (hgo : g0.offset = 0 ∧ g1.offset = 4) (hu4 : Try.prog.cellsOf u = 4)
    (hu : Try.prog.underlying u = some (.struct #[f0, f1, f2, f3])) (ht : f0.type = 22 ∧ f1.type = 33 ∧ f2.type = 22 ∧ f3.type = 5) (ho : f0.offset = 0 ∧ f1.offset = 1 ∧ f2.offset = 2 ∧ f3.offset = 3)
    {fuel : Nat} {cs : List Value} {x : DataW H × List MemPlace} (hl : cs.length = 5) (h : DataW.trod enc Try.prog w base spare held fuel t cs = some x) : ∃ v : Pa, v.ok ∧ cs = encP v := by
  obtain ⟨rfl, g1t⟩ := hg
  obtain ⟨o0, o1⟩ := hgo
  obtain ⟨n, y, hy⟩ := trod_fld hs h 0 g0 rfl
  obtain ⟨n1, e1, w1⟩ := trod_fldInt hs h 1 g1 rfl (k := .u8) (by rw [g1t]; exact Try.underlying5) (by rw [g1t]; kernel_rfl)
  rw [o0, hu4] at hy
  rw [o1] at e1
  match cs, hl with
  | [c0, c1, c2, c3, c4], _ =>
    obtain ⟨v, hv, e⟩ := ve_trod hu ht ho (by simp) hy
    simp at e1
    simp [encV] at e
    obtain ⟨rfl, rfl, rfl, rfl⟩ := e
    subst e1
    exact ⟨⟨v, n1⟩, ⟨hv, w1⟩, rfl⟩
end
theorem Ve.ok.cost {v : Ve} (h : v.ok) : 0 ≤ v.c ∧ v.c ≤ 4294967295 := wf_u32 h.c
end Go.Proofs.Ytlpmilaofcakbaa
