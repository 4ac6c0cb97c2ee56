/- A run of cells stored into, and loaded out of, a block known whole. -/
import Derived.Test.YtlpmilaofcakbaaRow
import Derived.Test.YtlpmilaofcakbaaGro
import Derived.Laws.IdiomCopy
import Derived.Lib.SliceRun
namespace Go.Proofs.Ytlpmilaofcakbaa
open Go.RowKit
set_option linter.unusedVariables false
set_option linter.unusedSimpArgs false
set_option maxRecDepth 100000

section
variable {P : Program} {w w' : World} {g : Nat} {t : TypeId}
/-- a run of cells put into a block known whole -/
theorem blk_setCellsT : ∀ (vs p m q : List Value) (w : World), Blk w g t (p ++ m ++ q).toArray → m.length = vs.length → Blk (w.setCells g p.length vs) g t (p ++ vs ++ q).toArray
  | [], p, m, q, w, h, hl => by
    obtain rfl : m = [] := List.length_eq_zero_iff.1 hl
    exact h
  | v :: r, p, m, q, w, h, hl => by
    cases m with
    | nil => simp at hl
    | cons m0 m' =>
      have h1 := Blk.put h p.length v
      have e : (p ++ m0 :: m' ++ q).toArray.setIfInBounds p.length v = ((p ++ [v]) ++ m' ++ q).toArray := by
        rw [List.setIfInBounds_toArray]
        congr 1
        simp
      rw [e] at h1
      have := blk_setCellsT r (p ++ [v]) m' q _ h1 (by simpa using hl)
      simpa [World.setCells] using this
theorem chg_setCellsT {S : Nat → Prop} {w0 : World} : ∀ (vs : List Value) (o : Nat) (w : World), Chg S w0 w → (w0.heap.size ≤ g ∨ S g) → Chg S w0 (w.setCells g o vs)
  | [], _, _, h, _ => h
  | v :: r, o, w, h, hg => chg_setCellsT r (o + 1) _ (h.setCell (p := ⟨g, o, none⟩) hg v) hg
theorem run_storesT (p m q vs : List Value) (h : Blk w g t (p ++ m ++ q).toArray) (hl : m.length = vs.length) (h1 : ∀ v ∈ vs, v.oneCell' = true) :
    (storeCells ⟨g, p.length, none⟩ vs 0).run P w = .ok () (w.setCells g p.length vs) := by
  have := run_storeCells_cells (P := P) g p.length vs 0 w (fun j hj => by
    rw [Blk.cell h, Nat.add_zero]
    have : p.length + j < (p ++ m ++ q).length := by simp; omega
    rw [List.getElem?_toArray, List.getElem?_eq_getElem this]
    rfl) (fun j _ => Blk.frozen h _) h1
  simpa using this
/-- a load of a whole struct out of a row, as a step of a list -/
theorem wpList_load_atT {ops : Array Oper} {rest : List Oper} {o : Oper} {a : Act} {Q : Exit → Act → World → Prop} (ty : TypeId) (x : Nat) (ho : o.op = .load ty (.tmp x)) (hw : Region.wanted o (yielded ops a.tmps) = true) (b i : Nat) (cs : List Value)
    (hx : a.eval (.tmp x) = .pointer (some ⟨b, i, none⟩)) (h : ∀ j u, cs[j]? = some u → w.cell? ⟨b, i + j, none⟩ = some u)
    (ha : ∀ w, (isAgg ty).run P w = .ok true w) (hs : ∀ w, (Go.sizeOf ty).run P w = .ok cs.length w) (hK : wpList P ops Q rest (a.put o.dst (.agg cs.toArray)) w) : wpList P ops Q (o :: rest) a w :=
  wpList_step fun K hK' => by
    rw [if_pos hw]
    have hl := run_loadCells_list (P := P) (w := w) ⟨b, i, none⟩ cs (fun j u hu => by
      have hadd : (⟨b, i, none⟩ : Addr).add j = ⟨b, i + j, none⟩ := by unfold Addr.add; split <;> simp_all
      rw [hadd]; exact h j u hu)
    unfold Oper.wp execOp
    simp only [ho, hx, Instr.loadAt, Instr.sureAddr, loadVar, Sem.run_bind, Sem.run_pure, Result.andThen_ok, ha, hs, hl, if_true]
    exact hK' _ _ hK
/-- a store of a whole struct into a row, as a step of a list -/
theorem wpList_store_atT {ops : Array Oper} {rest : List Oper} {o : Oper} {a : Act} {Q : Exit → Act → World → Prop} (hgd : o.guard = none) (ty : TypeId) (x y : Operand) (ho : o.op = .store ty x y) (p m q vs : List Value)
    (hx : a.eval x = .pointer (some ⟨g, p.length, none⟩)) (hy : a.eval y = .agg vs.toArray) (h : Blk w g t (p ++ m ++ q).toArray) (hl : m.length = vs.length) (h1 : ∀ v ∈ vs, v.oneCell' = true)
    (hs : ∀ w, (Go.sizeOf ty).run P w = .ok vs.length w) (hK : wpList P ops Q rest (a.put o.dst (.tuple #[])) (w.setCells g p.length vs)) : wpList P ops Q (o :: rest) a w :=
  wpList_plain hgd fun _ hK' => by
    have hr := run_storesT (P := P) p m q vs h hl h1
    unfold Oper.wp execOp
    simp only [ho, hx, hy, Instr.storeAt, Instr.sureAddr, storeVar, Sem.run_bind, Sem.run_pure, Result.andThen_ok, hs, Value.cells, List.size_toArray, ne_eq, not_true_eq_false, if_false, hr]
    exact hK' _ _ hK
/-- a store whose run is known, as a step of a list -/
theorem wpList_store_run {ops : Array Oper} {rest : List Oper} {o : Oper} {a : Act} {Q : Exit → Act → World → Prop} (hgd : o.guard = none) (ty : TypeId) (x y : Operand) (ho : o.op = .store ty x y) (i : Nat) (vs : List Value)
    (hx : a.eval x = .pointer (some ⟨g, i, none⟩)) (hy : a.eval y = .agg vs.toArray) (hs : ∀ w, (Go.sizeOf ty).run P w = .ok vs.length w) (hr : (storeCells ⟨g, i, none⟩ vs 0).run P w = .ok () w')
    (hK : wpList P ops Q rest (a.put o.dst (.tuple #[])) w') : wpList P ops Q (o :: rest) a w :=
  wpList_plain hgd fun _ hK' => by
    unfold Oper.wp execOp
    simp only [ho, hx, hy, Instr.storeAt, Instr.sureAddr, storeVar, Sem.run_bind, Sem.run_pure, Result.andThen_ok, hs, Value.cells, List.size_toArray, ne_eq, not_true_eq_false, if_false, hr]
    exact hK' _ _ hK
/-- clear of n structs of k cells each -/
theorem run_clear_at (e ty : TypeId) (z : List Value) (ht : P.underlying t = some (.slice e)) (hv : ∀ w, (zeroValue e).run P w = .ok (.agg z.toArray) w) (h1 : ∀ v ∈ z, v.oneCell' = true) (te : TypeId) (n c : Nat) (p m q : List Value) (hb : Blk w g te (p ++ m ++ q).toArray) (hn : 0 < n) (hm : m.length = n * z.length) :
    ∃ zs : List Value, zs.length = m.length ∧ (Builtin.clear_ #[t] ty #[.slice (some ⟨g, p.length, none⟩) n c]).run P w = .ok (.tuple #[]) (w.setCells g p.length zs) := by
  have hsz : (Builtin.zeroCells z.toArray n).toList.length = m.length := by rw [hm]; simp [size_zeroCells]
  have hone : ∀ v ∈ (Builtin.zeroCells z.toArray n).toList, v.oneCell' = true := by
    intro v hv'
    rw [Builtin.zeroCells, Array.toList_map, List.mem_map] at hv'
    obtain ⟨i, hi, rfl⟩ := hv'
    have hi' : i < n * z.length := by simpa using hi
    have hz : 0 < z.length := by
      rcases Nat.eq_zero_or_pos z.length with e | e
      · rw [e] at hi'; simp at hi'
      · exact e
    have hlt : i % z.length < z.length := Nat.mod_lt _ hz
    refine h1 _ ?_
    have e : z.toArray[i % z.toArray.size]! = z[i % z.length] := by
      simp [getElem!_pos, hlt]
    rw [e]
    exact List.getElem_mem hlt
  have hr := run_storesT (P := P) p m q _ hb hsz.symm hone
  obtain ⟨k, rfl⟩ : ∃ k, n = k + 1 := ⟨n - 1, by omega⟩
  refine ⟨_, hsz, ?_⟩
  simp [Builtin.clear_, run_underlying ht, hv, Value.cells, hr, Result.andThen]
end
end Go.Proofs.Ytlpmilaofcakbaa
