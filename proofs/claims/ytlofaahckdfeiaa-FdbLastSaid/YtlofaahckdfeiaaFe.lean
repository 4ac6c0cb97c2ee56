/- Layer 8: places, entries and acts as values; rows of whole structs in memory. -/
import Derived.Test.YtlofaahckdfeiaaRow
import Derived.Test.YtlofaahckdfeiaaGro
import Derived.Test.YtlofaahckdfeiaaOwnEls
import Derived.Laws.IdiomCopy
import Derived.Lib.SliceRun
import Derived.Stop.BytesEq
namespace Go.Proofs.Ytlofaahckdfeiaa
open Go.RowKit
set_option linter.unusedVariables false
set_option linter.unusedSimpArgs false
set_option maxRecDepth 100000

/-- an address -/
structure Mc where
  a : UInt8
  b : UInt8
  c : UInt8
  d : UInt8
  e : UInt8
  f : UInt8
  deriving DecidableEq, Inhabited
/-- a VLAN and an address -/
structure Pl where
  v : UInt16
  m : Mc
  deriving DecidableEq, Inhabited
/-- a learnt one -/
structure En where
  k : Pl
  p : UInt8
  a : Nat
  deriving DecidableEq, Inhabited
def mcB (m : Mc) : List UInt8 := [m.a, m.b, m.c, m.d, m.e, m.f]
def plV (k : Pl) : List Value := [.int .u16 k.v.toNat, .int .u8 k.m.a.toNat, .int .u8 k.m.b.toNat, .int .u8 k.m.c.toNat, .int .u8 k.m.d.toNat, .int .u8 k.m.e.toNat, .int .u8 k.m.f.toNat]
def enV (e : En) : List Value := [.int .u16 e.k.v.toNat, .int .u8 e.k.m.a.toNat, .int .u8 e.k.m.b.toNat, .int .u8 e.k.m.c.toNat, .int .u8 e.k.m.d.toNat, .int .u8 e.k.m.e.toNat, .int .u8 e.k.m.f.toNat, .int .u8 e.p.toNat, .int .i64 (e.a : Nat)]
theorem enV_len (e : En) : (enV e).length = 9 := rfl
theorem mcB_inj {m n : Mc} (h : mcB m = mcB n) : m = n := by
  cases m; cases n
  simp only [mcB, List.cons.injEq, and_true] at h
  obtain ⟨rfl, rfl, rfl, rfl, rfl, rfl⟩ := h
  rfl
theorem mcB_eq (m n : Mc) : (mcB m == mcB n) = decide (m = n) := by
  rw [Bool.eq_iff_iff]
  simp only [beq_iff_eq, decide_eq_true_eq]
  exact ⟨mcB_inj, fun e => by rw [e]⟩
theorem pl_eq (k l : Pl) : decide (k = l) = (decide (k.v = l.v) && decide (k.m = l.m)) := by
  cases k; cases l
  rw [Bool.eq_iff_iff]
  simp
theorem u16_eqI (x y : UInt16) : ((x.toNat : Int) == (y.toNat : Int)) = decide (x = y) := by
  rw [Bool.eq_iff_iff]
  simp only [beq_iff_eq, decide_eq_true_eq]
  exact ⟨fun e => UInt16.toNat_inj.1 (by omega), fun e => by rw [e]⟩
theorem u8_eqI (x y : UInt8) : ((x.toNat : Int) == (y.toNat : Int)) = decide (x = y) := by
  rw [Bool.eq_iff_iff]
  simp only [beq_iff_eq, decide_eq_true_eq]
  exact ⟨fun e => UInt8.toNat_inj.1 (by omega), fun e => by rw [e]⟩
/-- two addresses held against each other -/
theorem run_eqM (m n : Mc) (w : World) : (Op.equalIn 10000 25 (.agg #[.int .u8 m.a.toNat, .int .u8 m.b.toNat, .int .u8 m.c.toNat, .int .u8 m.d.toNat, .int .u8 m.e.toNat, .int .u8 m.f.toNat]) (.agg #[.int .u8 n.a.toNat, .int .u8 n.b.toNat, .int .u8 n.c.toNat, .int .u8 n.d.toNat, .int .u8 n.e.toNat, .int .u8 n.f.toNat])).run Try.prog w = .ok (decide (m = n)) w := by
  have := run_equalIn_bytes w 9998 25 5 6 Try.underlying25 Try.underlying5 (fun w => by have := Try.sizeOf5; exact this w) (mcB m) (mcB n) rfl rfl
  rw [mcB_eq] at this
  exact this
theorem run_eqM9 (m n : Mc) (w : World) : (Op.equalIn 9999 25 (.agg #[.int .u8 m.a.toNat, .int .u8 m.b.toNat, .int .u8 m.c.toNat, .int .u8 m.d.toNat, .int .u8 m.e.toNat, .int .u8 m.f.toNat]) (.agg #[.int .u8 n.a.toNat, .int .u8 n.b.toNat, .int .u8 n.c.toNat, .int .u8 n.d.toNat, .int .u8 n.e.toNat, .int .u8 n.f.toNat])).run Try.prog w = .ok (decide (m = n)) w := by
  have := run_equalIn_bytes w 9997 25 5 6 Try.underlying25 Try.underlying5 (fun w => by have := Try.sizeOf5; exact this w) (mcB m) (mcB n) rfl rfl
  rw [mcB_eq] at this
  exact this

section
variable {P : Program} {w w' : World} {g : Nat} {t : TypeId}
/-- a run of cells put into a block known whole -/
theorem blk_setCells : ∀ (vs p m q : List Value) (w : World), Blk w g t (p ++ m ++ q).toArray → m.length = vs.length → Blk (w.setCells g p.length vs) g t (p ++ vs ++ q).toArray
  | [], p, m, q, w, h, hl => by
    obtain rfl : m = [] := List.length_eq_zero_iff.1 hl
    exact h
  | v :: r, p, m, q, w, h, hl => by
    cases m with
    | nil => simp at hl
    | cons m0 m' =>
      have h1 := Blk.put h p.length v
      have e : (p ++ m0 :: m' ++ q).toArray.setIfInBounds p.length v = ((p ++ [v]) ++ m' ++ q).toArray := by
        rw [List.setIfInBounds_toArray]
        congr 1
        simp
      rw [e] at h1
      have := blk_setCells r (p ++ [v]) m' q _ h1 (by simpa using hl)
      simpa [World.setCells] using this
theorem chg_setCells {S : Nat → Prop} {w0 : World} : ∀ (vs : List Value) (o : Nat) (w : World), Chg S w0 w → (w0.heap.size ≤ g ∨ S g) → Chg S w0 (w.setCells g o vs)
  | [], _, _, h, _ => h
  | v :: r, o, w, h, hg => chg_setCells r (o + 1) _ (h.setCell (p := ⟨g, o, none⟩) hg v) hg
theorem run_stores (p m q vs : List Value) (h : Blk w g t (p ++ m ++ q).toArray) (hl : m.length = vs.length) (h1 : ∀ v ∈ vs, v.oneCell' = true) :
    (storeCells ⟨g, p.length, none⟩ vs 0).run P w = .ok () (w.setCells g p.length vs) := by
  have := run_storeCells_cells (P := P) g p.length vs 0 w (fun j hj => by
    rw [Blk.cell h, Nat.add_zero]
    have : p.length + j < (p ++ m ++ q).length := by simp; omega
    rw [List.getElem?_toArray, List.getElem?_eq_getElem this]
    rfl) (fun j _ => Blk.frozen h _) h1
  simpa using this
/-- a load of a whole struct out of a row, as a step of a list -/
theorem wpList_load_at {ops : Array Oper} {rest : List Oper} {o : Oper} {a : Act} {Q : Exit → Act → World → Prop} (ty : TypeId) (x : Nat) (ho : o.op = .load ty (.tmp x)) (hw : Region.wanted o (yielded ops a.tmps) = true) (b i : Nat) (cs : List Value)
    (hx : a.eval (.tmp x) = .pointer (some ⟨b, i, none⟩)) (h : ∀ j u, cs[j]? = some u → w.cell? ⟨b, i + j, none⟩ = some u)
    (ha : ∀ w, (isAgg ty).run P w = .ok true w) (hs : ∀ w, (Go.sizeOf ty).run P w = .ok cs.length w) (hK : wpList P ops Q rest (a.put o.dst (.agg cs.toArray)) w) : wpList P ops Q (o :: rest) a w :=
  wpList_step fun K hK' => by
    rw [if_pos hw]
    have hl := run_loadCells_list (P := P) (w := w) ⟨b, i, none⟩ cs (fun j u hu => by
      have hadd : (⟨b, i, none⟩ : Addr).add j = ⟨b, i + j, none⟩ := by unfold Addr.add; split <;> simp_all
      rw [hadd]; exact h j u hu)
    unfold Oper.wp execOp
    simp only [ho, hx, Instr.loadAt, Instr.sureAddr, loadVar, Sem.run_bind, Sem.run_pure, Result.andThen_ok, ha, hs, hl, if_true]
    exact hK' _ _ hK
/-- a store of a whole struct into a row, as a step of a list -/
theorem wpList_store_at {ops : Array Oper} {rest : List Oper} {o : Oper} {a : Act} {Q : Exit → Act → World → Prop} (hgd : o.guard = none) (ty : TypeId) (x y : Operand) (ho : o.op = .store ty x y) (p m q vs : List Value)
    (hx : a.eval x = .pointer (some ⟨g, p.length, none⟩)) (hy : a.eval y = .agg vs.toArray) (h : Blk w g t (p ++ m ++ q).toArray) (hl : m.length = vs.length) (h1 : ∀ v ∈ vs, v.oneCell' = true)
    (hs : ∀ w, (Go.sizeOf ty).run P w = .ok vs.length w) (hK : wpList P ops Q rest (a.put o.dst (.tuple #[])) (w.setCells g p.length vs)) : wpList P ops Q (o :: rest) a w :=
  wpList_plain hgd fun _ hK' => by
    have hr := run_stores (P := P) p m q vs h hl h1
    unfold Oper.wp execOp
    simp only [ho, hx, hy, Instr.storeAt, Instr.sureAddr, storeVar, Sem.run_bind, Sem.run_pure, Result.andThen_ok, hs, Value.cells, List.size_toArray, ne_eq, not_true_eq_false, if_false, hr]
    exact hK' _ _ hK
/-- a store whose run is known, as a step of a list -/
theorem wpList_store_run {ops : Array Oper} {rest : List Oper} {o : Oper} {a : Act} {Q : Exit → Act → World → Prop} (hgd : o.guard = none) (ty : TypeId) (x y : Operand) (ho : o.op = .store ty x y) (i : Nat) (vs : List Value)
    (hx : a.eval x = .pointer (some ⟨g, i, none⟩)) (hy : a.eval y = .agg vs.toArray) (hs : ∀ w, (Go.sizeOf ty).run P w = .ok vs.length w) (hr : (storeCells ⟨g, i, none⟩ vs 0).run P w = .ok () w')
    (hK : wpList P ops Q rest (a.put o.dst (.tuple #[])) w') : wpList P ops Q (o :: rest) a w :=
  wpList_plain hgd fun _ hK' => by
    unfold Oper.wp execOp
    simp only [ho, hx, hy, Instr.storeAt, Instr.sureAddr, storeVar, Sem.run_bind, Sem.run_pure, Result.andThen_ok, hs, Value.cells, List.size_toArray, ne_eq, not_true_eq_false, if_false, hr]
    exact hK' _ _ hK
/-- clear of n structs of k cells each -/
theorem run_clear_at (e ty : TypeId) (z : List Value) (ht : P.underlying t = some (.slice e)) (hv : ∀ w, (zeroValue e).run P w = .ok (.agg z.toArray) w) (h1 : ∀ v ∈ z, v.oneCell' = true) (te : TypeId) (n c : Nat) (p m q : List Value) (hb : Blk w g te (p ++ m ++ q).toArray) (hn : 0 < n) (hm : m.length = n * z.length) :
    ∃ zs : List Value, zs.length = m.length ∧ (Builtin.clear_ #[t] ty #[.slice (some ⟨g, p.length, none⟩) n c]).run P w = .ok (.tuple #[]) (w.setCells g p.length zs) := by
  have hsz : (Builtin.zeroCells z.toArray n).toList.length = m.length := by rw [hm]; simp [size_zeroCells]
  have hone : ∀ v ∈ (Builtin.zeroCells z.toArray n).toList, v.oneCell' = true := by
    intro v hv'
    rw [Builtin.zeroCells, Array.toList_map, List.mem_map] at hv'
    obtain ⟨i, hi, rfl⟩ := hv'
    have hi' : i < n * z.length := by simpa using hi
    have hz : 0 < z.length := by
      rcases Nat.eq_zero_or_pos z.length with e | e
      · rw [e] at hi'; simp at hi'
      · exact e
    have hlt : i % z.length < z.length := Nat.mod_lt _ hz
    refine h1 _ ?_
    have e : z.toArray[i % z.toArray.size]! = z[i % z.length] := by
      simp [getElem!_pos, hlt]
    rw [e]
    exact List.getElem_mem hlt
  have hr := run_stores (P := P) p m q _ hb hsz.symm hone
  obtain ⟨k, rfl⟩ : ∃ k, n = k + 1 := ⟨n - 1, by omega⟩
  refine ⟨_, hsz, ?_⟩
  simp [Builtin.clear_, run_underlying ht, hv, Value.cells, hr, Result.andThen]
end
end Go.Proofs.Ytlofaahckdfeiaa
