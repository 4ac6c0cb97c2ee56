/- bpdu.Bpdu: a word as a value, as a block, as an argument; two words held against each other. -/
import Derived.Test.YtlpmilaofcakbaaVec
import Derived.Test.YtlpmilaofcakbaaVecOpen
namespace Go.Proofs.Ytlpmilaofcakbaa
open Go.ChangeShapes Go.WideShapes Go.ChangeAt Go.RowKit
set_option linter.unusedVariables false
set_option maxRecDepth 100000
set_option linter.unusedSimpArgs false

/-- a word -/
structure Bp where
  v : Ve
  h : Int
  ver : Int
  role : Int
  pr : Bool
  ag : Bool
  tp : Bool
  ec : Int
  deriving DecidableEq, Inhabited
def Bp.zero : Bp := ⟨⟨0, 0, 0, 0⟩, 0, 0, 0, false, false, false, 0⟩
/-- its numbers are numbers of their kinds -/
structure Bp.ok (x : Bp) : Prop where
  v : x.v.ok
  h : (Lit.int .u8 x.h).wf = true
  ver : (Lit.int .u64 x.ver).wf = true
  role : (Lit.int .u8 x.role).wf = true
  ec : (Lit.int .u64 x.ec).wf = true
/-- a word as a value -/
abbrev BV (x : Bp) : Value := .agg #[.int .u64 x.v.r, .int .u32 x.v.c, .int .u64 x.v.b, .int .u8 x.v.p, .int .u8 x.h, .int .u64 x.ver, .int .u8 x.role, .bool x.pr, .bool x.ag, .bool x.tp, .int .u64 x.ec]
def encBp (x : Bp) : List Value := [.int .u64 x.v.r, .int .u32 x.v.c, .int .u64 x.v.b, .int .u8 x.v.p, .int .u8 x.h, .int .u64 x.ver, .int .u8 x.role, .bool x.pr, .bool x.ag, .bool x.tp, .int .u64 x.ec]
/-- a block of type t that holds a word -/
def BpA (t : TypeId) (w : World) (g : Nat) (x : Bp) : Prop := Blk w g t #[.int .u64 x.v.r, .int .u32 x.v.c, .int .u64 x.v.b, .int .u8 x.v.p, .int .u8 x.h, .int .u64 x.ver, .int .u8 x.role, .bool x.pr, .bool x.ag, .bool x.tp, .int .u64 x.ec]
section
variable {t : TypeId} {w w' : World} {g : Nat} {x : Bp}
theorem BpA.alloc (h : BpA t w g x) (o : Obj) : BpA t (w.alloc o) g x := Blk.alloc h o
theorem BpA.next (h : BpA t w g x) (hb : Below w.heap.size w w') : BpA t w' g x := Blk.below h hb (Blk.lt h)
theorem BpA.below {B : Nat} (h : BpA t w g x) (hb : Below B w w') (hg : g < B) : BpA t w' g x := Blk.below h hb hg
theorem BpA.drew (h : BpA t w g x) : BpA t w.drew g x := h
theorem BpA.drewN (h : BpA t w g x) (n : Nat) : BpA t (w.drewN n) g x := h
theorem BpA.lt (h : BpA t w g x) : g < w.heap.size := Blk.lt h
theorem BpA.new (t : TypeId) (w : World) (x : Bp) : BpA t (w.alloc (.cells #[.int .u64 x.v.r, .int .u32 x.v.c, .int .u64 x.v.b, .int .u8 x.v.p, .int .u8 x.h, .int .u64 x.ver, .int .u8 x.role, .bool x.pr, .bool x.ag, .bool x.tp, .int .u64 x.ec] t)) w.heap.size x := Blk.new w _ _
theorem BpA.zero (t : TypeId) (w : World) : BpA t (w.alloc (.cells #[.int .u64 0, .int .u32 0, .int .u64 0, .int .u8 0, .int .u8 0, .int .u64 0, .int .u8 0, .bool false, .bool false, .bool false, .int .u64 0] t)) w.heap.size Bp.zero := Blk.new w _ _
theorem BpA.frozen (h : BpA t w g x) (i : Nat) : w.frozen? ⟨g, i, none⟩ = false := Blk.frozen h i
theorem BpA.row (h : BpA t w g x) (y : Bp) : BpA t (w.setRow g #[.int .u64 y.v.r, .int .u32 y.v.c, .int .u64 y.v.b, .int .u8 y.v.p, .int .u8 y.h, .int .u64 y.ver, .int .u8 y.role, .bool y.pr, .bool y.ag, .bool y.tp, .int .u64 y.ec]) g y := Blk.row h _
theorem BpA.rowZ (h : BpA t w g x) : BpA t (w.setRow g #[.int .u64 0, .int .u32 0, .int .u64 0, .int .u8 0, .int .u8 0, .int .u64 0, .int .u8 0, .bool false, .bool false, .bool false, .int .u64 0]) g Bp.zero := Blk.row h _
/-- the cells of a word at g -/
structure BpC (w : World) (g : Nat) (x : Bp) : Prop where
  c0 : w.cell? ⟨g, 0, none⟩ = some (.int .u64 x.v.r)
  c1 : w.cell? ⟨g, 1, none⟩ = some (.int .u32 x.v.c)
  c2 : w.cell? ⟨g, 2, none⟩ = some (.int .u64 x.v.b)
  c3 : w.cell? ⟨g, 3, none⟩ = some (.int .u8 x.v.p)
  c4 : w.cell? ⟨g, 4, none⟩ = some (.int .u8 x.h)
  c5 : w.cell? ⟨g, 5, none⟩ = some (.int .u64 x.ver)
  c6 : w.cell? ⟨g, 6, none⟩ = some (.int .u8 x.role)
  c7 : w.cell? ⟨g, 7, none⟩ = some (.bool x.pr)
  c8 : w.cell? ⟨g, 8, none⟩ = some (.bool x.ag)
  c9 : w.cell? ⟨g, 9, none⟩ = some (.bool x.tp)
  c10 : w.cell? ⟨g, 10, none⟩ = some (.int .u64 x.ec)
theorem BpA.cells (h : BpA t w g x) : BpC w g x := ⟨Blk.cell h 0, Blk.cell h 1, Blk.cell h 2, Blk.cell h 3, Blk.cell h 4, Blk.cell h 5, Blk.cell h 6, Blk.cell h 7, Blk.cell h 8, Blk.cell h 9, Blk.cell h 10⟩
theorem BpC.next (h : BpC w g x) (hb : Below w.heap.size w w') : BpC w' g x := by
  have hg := World.block_lt_of_cell? w _ h.c0
  have hk : ∀ i, w'.cell? ⟨g, i, none⟩ = w.cell? ⟨g, i, none⟩ := fun i => hb.cell (p := ⟨g, i, none⟩) hg
  exact ⟨(hk 0).trans h.c0, (hk 1).trans h.c1, (hk 2).trans h.c2, (hk 3).trans h.c3, (hk 4).trans h.c4, (hk 5).trans h.c5, (hk 6).trans h.c6, (hk 7).trans h.c7, (hk 8).trans h.c8, (hk 9).trans h.c9, (hk 10).trans h.c10⟩
theorem BpA.setHops (h : BpA t w g x) (b : Int) : BpA t (w.setCell ⟨g, 4, none⟩ (.int .u8 b)) g { x with h := b } := by simpa [BpA] using Blk.put h 4 (.int .u8 b)
theorem BpA.setVer (h : BpA t w g x) (b : Int) : BpA t (w.setCell ⟨g, 5, none⟩ (.int .u64 b)) g { x with ver := b } := by simpa [BpA] using Blk.put h 5 (.int .u64 b)
theorem BpA.setRole (h : BpA t w g x) (b : Int) : BpA t (w.setCell ⟨g, 6, none⟩ (.int .u8 b)) g { x with role := b } := by simpa [BpA] using Blk.put h 6 (.int .u8 b)
theorem BpA.setPr (h : BpA t w g x) (b : Bool) : BpA t (w.setCell ⟨g, 7, none⟩ (.bool b)) g { x with pr := b } := by simpa [BpA] using Blk.put h 7 (.bool b)
theorem BpA.setAg (h : BpA t w g x) (b : Bool) : BpA t (w.setCell ⟨g, 8, none⟩ (.bool b)) g { x with ag := b } := by simpa [BpA] using Blk.put h 8 (.bool b)
theorem BpA.setTp (h : BpA t w g x) (b : Bool) : BpA t (w.setCell ⟨g, 9, none⟩ (.bool b)) g { x with tp := b } := by simpa [BpA] using Blk.put h 9 (.bool b)
theorem BpA.setEc (h : BpA t w g x) (b : Int) : BpA t (w.setCell ⟨g, 10, none⟩ (.int .u64 b)) g { x with ec := b } := by simpa [BpA] using Blk.put h 10 (.int .u64 b)
theorem BpA.setV (h : BpA t w g x) (y : Ve) : BpA t ((((w.setCell ⟨g, 0, none⟩ (.int .u64 y.r)).setCell ⟨g, 1, none⟩ (.int .u32 y.c)).setCell ⟨g, 2, none⟩ (.int .u64 y.b)).setCell ⟨g, 3, none⟩ (.int .u8 y.p)) g { x with v := y } := by
  simpa [BpA] using Blk.put (Blk.put (Blk.put (Blk.put h 0 (.int .u64 y.r)) 1 (.int .u32 y.c)) 2 (.int .u64 y.b)) 3 (.int .u8 y.p)
end
/-- the load of a whole word, as a step of a list (guarded too) -/
theorem load_bp {ops : Array Oper} {rest : List Oper} {o : Oper} {a : Act} {w : World} {Q : Exit → Act → World → Prop} (x : Nat) (ho : o.op = .load 54 (.tmp x)) (hw : Region.wanted o (yielded ops a.tmps) = true) (g : Nat) (f : Bp)
    (hx : a.eval (.tmp x) = .pointer (some ⟨g, 0, none⟩)) (h : BpA 54 w g f) (hK : wpList Try.prog ops Q rest (a.put o.dst (BV f)) w) : wpList Try.prog ops Q (o :: rest) a w :=
  wpList_step fun K hK' => by
    rw [if_pos hw]
    exact wp_load_row 54 (.tmp x) ho g hx _ _ (0, 0) _ h Try.underlying54 rfl (by kernel_rfl) (hK' _ _ hK)
/-- the store of a whole word -/
theorem store_bp {ops : Array Oper} {rest : List Oper} {o : Oper} {a : Act} {w : World} {Q : Exit → Act → World → Prop} (hgd : o.guard = none) (x y : Nat) (ho : o.op = .store 54 (.tmp x) (.tmp y)) (g : Nat) (f z : Bp)
    (hp : a.eval (.tmp x) = .pointer (some ⟨g, 0, none⟩)) (hv : a.eval (.tmp y) = BV f) (hg : BpA 54 w g z)
    (h : wpList Try.prog ops Q rest (a.put o.dst (.tuple #[])) (w.setRow g #[.int .u64 f.v.r, .int .u32 f.v.c, .int .u64 f.v.b, .int .u8 f.v.p, .int .u8 f.h, .int .u64 f.ver, .int .u8 f.role, .bool f.pr, .bool f.ag, .bool f.tp, .int .u64 f.ec])) : wpList Try.prog ops Q (o :: rest) a w :=
  wpList_store_row hgd 54 (.tmp x) (.tmp y) ho g hp _ hv 54 _ hg (by kernel_rfl) rfl (by kernel_rfl) h
theorem still_bp {ops : Array Oper} {w : World} {Q : Act → Prop} {a : Act} {o : Oper} {rest : List Oper} (x : Nat) (ho : o.op = .load 54 (.tmp x)) (hw : Region.wanted o (yielded ops a.tmps) = true) (g : Nat) (f : Bp)
    (hx : a.eval (.tmp x) = .pointer (some ⟨g, 0, none⟩)) (hg : BpA 54 w g f) (hK : wpStill Try.prog ops w Q rest (a.put o.dst (BV f))) : wpStill Try.prog ops w Q (o :: rest) a :=
  still_row 54 x ho hw g hx 54 _ _ hg Try.underlying54 rfl (by kernel_rfl) hK
theorem bp_trod {H : Type} {enc : TypeId × Value → H} {w : World} {base : Nat} {spare : Nat → Bool} {held : Bool} {fuel : Nat} {cs : List Value} {x : DataW H × List MemPlace} (hl : cs.length = 11) (h : DataW.trod enc Try.prog w base spare held fuel 54 cs = some x) : ∃ v : Bp, v.ok ∧ cs = encBp v := by
  have hs := Try.underlying54
  obtain ⟨n, y, hy⟩ := trod_fld hs h 0 _ rfl
  obtain ⟨n4, e4, w4⟩ := trod_fldInt hs h 1 _ rfl (k := .u8) Try.underlying5 (by kernel_rfl)
  obtain ⟨n5, e5, w5⟩ := trod_fldInt hs h 2 _ rfl (k := .u64) Try.underlying22 (by kernel_rfl)
  obtain ⟨n6, e6, w6⟩ := trod_fldInt hs h 3 _ rfl (k := .u8) Try.underlying5 (by kernel_rfl)
  obtain ⟨b7, e7⟩ := trod_fldBool hs h 4 _ rfl Try.underlying4 (by kernel_rfl)
  obtain ⟨b8, e8⟩ := trod_fldBool hs h 5 _ rfl Try.underlying4 (by kernel_rfl)
  obtain ⟨b9, e9⟩ := trod_fldBool hs h 6 _ rfl Try.underlying4 (by kernel_rfl)
  obtain ⟨n10, e10, w10⟩ := trod_fldInt hs h 7 _ rfl (k := .u64) Try.underlying22 (by kernel_rfl)
  match cs, hl with
  | [c0, c1, c2, c3, c4, c5, c6, c7, c8, c9, c10], _ =>
    have hy' : DataW.trod enc Try.prog w base spare held n 52 [c0, c1, c2, c3] = some y := hy
    obtain ⟨v, hv, e⟩ := ve_trod Try.underlying52 ⟨rfl, rfl, rfl, rfl⟩ ⟨rfl, rfl, rfl, rfl⟩ (by simp) hy'
    simp [encV] at e
    obtain ⟨rfl, rfl, rfl, rfl⟩ := e
    simp at e4 e5 e6 e7 e8 e9 e10
    subst e4 e5 e6 e7 e8 e9 e10
    exact ⟨⟨v, n4, n5, n6, b7, b8, b9, n10⟩, ⟨hv, w4, w5, w6, w10⟩, rfl⟩
/-- a word as an argument -/
theorem open_bp {H : Type} {enc : TypeId × Value → H} {W : World} {base : Nat} {v : Value} {d : DataW H} {p : List MemPlace} (o : Value.okWide Try.prog W .any base 54 v)
    (h : DataW.Trod enc Try.prog W 0 (fun _ => true) true 54 v d p) : ∃ x : Bp, x.ok ∧ v = BV x := by
  obtain ⟨l, fuel, y, rfl, hl, ht⟩ := open_struct Try.underlying54 o h
  obtain ⟨x, hx, rfl⟩ := bp_trod (by rw [hl]; kernel_rfl) ht
  exact ⟨x, hx, rfl⟩
/-- the load of a whole word, as a step of a list (guarded too) -/
theorem load_rb {ops : Array Oper} {rest : List Oper} {o : Oper} {a : Act} {w : World} {Q : Exit → Act → World → Prop} (x : Nat) (ho : o.op = .load 37 (.tmp x)) (hw : Region.wanted o (yielded ops a.tmps) = true) (g : Nat) (f : Bp)
    (hx : a.eval (.tmp x) = .pointer (some ⟨g, 0, none⟩)) (h : BpA 37 w g f) (hK : wpList Try.prog ops Q rest (a.put o.dst (BV f)) w) : wpList Try.prog ops Q (o :: rest) a w :=
  wpList_step fun K hK' => by
    rw [if_pos hw]
    exact wp_load_row 37 (.tmp x) ho g hx _ _ (0, 0) _ h Try.underlying37 rfl (by kernel_rfl) (hK' _ _ hK)
/-- the store of a whole word -/
theorem store_rb {ops : Array Oper} {rest : List Oper} {o : Oper} {a : Act} {w : World} {Q : Exit → Act → World → Prop} (hgd : o.guard = none) (x y : Nat) (ho : o.op = .store 37 (.tmp x) (.tmp y)) (g : Nat) (f z : Bp)
    (hp : a.eval (.tmp x) = .pointer (some ⟨g, 0, none⟩)) (hv : a.eval (.tmp y) = BV f) (hg : BpA 37 w g z)
    (h : wpList Try.prog ops Q rest (a.put o.dst (.tuple #[])) (w.setRow g #[.int .u64 f.v.r, .int .u32 f.v.c, .int .u64 f.v.b, .int .u8 f.v.p, .int .u8 f.h, .int .u64 f.ver, .int .u8 f.role, .bool f.pr, .bool f.ag, .bool f.tp, .int .u64 f.ec])) : wpList Try.prog ops Q (o :: rest) a w :=
  wpList_store_row hgd 37 (.tmp x) (.tmp y) ho g hp _ hv 37 _ hg (by kernel_rfl) rfl (by kernel_rfl) h
theorem still_rb {ops : Array Oper} {w : World} {Q : Act → Prop} {a : Act} {o : Oper} {rest : List Oper} (x : Nat) (ho : o.op = .load 37 (.tmp x)) (hw : Region.wanted o (yielded ops a.tmps) = true) (g : Nat) (f : Bp)
    (hx : a.eval (.tmp x) = .pointer (some ⟨g, 0, none⟩)) (hg : BpA 37 w g f) (hK : wpStill Try.prog ops w Q rest (a.put o.dst (BV f))) : wpStill Try.prog ops w Q (o :: rest) a :=
  still_row 37 x ho hw g hx 37 _ _ hg Try.underlying37 rfl (by kernel_rfl) hK
theorem rb_trod {H : Type} {enc : TypeId × Value → H} {w : World} {base : Nat} {spare : Nat → Bool} {held : Bool} {fuel : Nat} {cs : List Value} {x : DataW H × List MemPlace} (hl : cs.length = 11) (h : DataW.trod enc Try.prog w base spare held fuel 37 cs = some x) : ∃ v : Bp, v.ok ∧ cs = encBp v := by
  have hs := Try.underlying37
  obtain ⟨n, y, hy⟩ := trod_fld hs h 0 _ rfl
  obtain ⟨n4, e4, w4⟩ := trod_fldInt hs h 1 _ rfl (k := .u8) Try.underlying5 (by kernel_rfl)
  obtain ⟨n5, e5, w5⟩ := trod_fldInt hs h 2 _ rfl (k := .u64) Try.underlying22 (by kernel_rfl)
  obtain ⟨n6, e6, w6⟩ := trod_fldInt hs h 3 _ rfl (k := .u8) Try.underlying5 (by kernel_rfl)
  obtain ⟨b7, e7⟩ := trod_fldBool hs h 4 _ rfl Try.underlying4 (by kernel_rfl)
  obtain ⟨b8, e8⟩ := trod_fldBool hs h 5 _ rfl Try.underlying4 (by kernel_rfl)
  obtain ⟨b9, e9⟩ := trod_fldBool hs h 6 _ rfl Try.underlying4 (by kernel_rfl)
  obtain ⟨n10, e10, w10⟩ := trod_fldInt hs h 7 _ rfl (k := .u64) Try.underlying22 (by kernel_rfl)
  match cs, hl with
  | [c0, c1, c2, c3, c4, c5, c6, c7, c8, c9, c10], _ =>
    have hy' : DataW.trod enc Try.prog w base spare held n 35 [c0, c1, c2, c3] = some y := hy
    obtain ⟨v, hv, e⟩ := ve_trod Try.underlying35 ⟨rfl, rfl, rfl, rfl⟩ ⟨rfl, rfl, rfl, rfl⟩ (by simp) hy'
    simp [encV] at e
    obtain ⟨rfl, rfl, rfl, rfl⟩ := e
    simp at e4 e5 e6 e7 e8 e9 e10
    subst e4 e5 e6 e7 e8 e9 e10
    exact ⟨⟨v, n4, n5, n6, b7, b8, b9, n10⟩, ⟨hv, w4, w5, w6, w10⟩, rfl⟩
/-- a word as an argument -/
theorem open_rb {H : Type} {enc : TypeId × Value → H} {W : World} {base : Nat} {v : Value} {d : DataW H} {p : List MemPlace} (o : Value.okWide Try.prog W .any base 37 v)
    (h : DataW.Trod enc Try.prog W 0 (fun _ => true) true 37 v d p) : ∃ x : Bp, x.ok ∧ v = BV x := by
  obtain ⟨l, fuel, y, rfl, hl, ht⟩ := open_struct Try.underlying37 o h
  obtain ⟨x, hx, rfl⟩ := rb_trod (by rw [hl]; kernel_rfl) ht
  exact ⟨x, hx, rfl⟩
/-- two words are held against each other -/
theorem run_eqBd (d : Nat) (x y : Bp) (w : World) : (Op.equalIn (d + 3) 54 (BV x) (BV y)).run Try.prog w = .ok (decide (x = y)) w := by
  have u8 := Try.underlying5
  have u64 := Try.underlying22
  have ub := Try.underlying4
  have h0 := run_eqVd d x.v y.v w
  have h1 := run_equalIn_int (P := Try.prog) w (d + 1) 5 .u8 .u8 x.h y.h u8
  have h2 := run_equalIn_int (P := Try.prog) w (d + 1) 22 .u64 .u64 x.ver y.ver u64
  have h3 := run_equalIn_int (P := Try.prog) w (d + 1) 5 .u8 .u8 x.role y.role u8
  have h4 := run_equalIn_bool' (P := Try.prog) w (d + 1) 4 x.pr y.pr ub
  have h5 := run_equalIn_bool' (P := Try.prog) w (d + 1) 4 x.ag y.ag ub
  have h6 := run_equalIn_bool' (P := Try.prog) w (d + 1) 4 x.tp y.tp ub
  have h7 := run_equalIn_int (P := Try.prog) w (d + 1) 22 .u64 .u64 x.ec y.ec u64
  have hall : decide (x = y) = (decide (x.v = y.v) && ((x.h == y.h) && ((x.ver == y.ver) && ((x.role == y.role) && ((x.pr == y.pr) && ((x.ag == y.ag) && ((x.tp == y.tp) && ((x.ec == y.ec) && true)))))))) := by
    obtain ⟨x0, x1, x2, x3, x4, x5, x6, x7⟩ := x
    obtain ⟨y0, y1, y2, y3, y4, y5, y6, y7⟩ := y
    rw [Bool.eq_iff_iff]
    simp only [decide_eq_true_eq, Bp.mk.injEq, Bool.and_eq_true, beq_iff_eq, and_true]
  rw [run_equalIn_struct w (d + 2) 54 _ _ (by rw [Program.fieldsOf, Try.underlying54]) (by kernel_rfl)]
  simp only [Program.fieldsOf, Try.underlying54]
  rw [hall]
  refine eqs_step (by decide) (by kernel_rfl) (by kernel_rfl) h0 ?_
  refine eqs_step (by decide) (by kernel_rfl) (by kernel_rfl) h1 ?_
  refine eqs_step (by decide) (by kernel_rfl) (by kernel_rfl) h2 ?_
  refine eqs_step (by decide) (by kernel_rfl) (by kernel_rfl) h3 ?_
  refine eqs_step (by decide) (by kernel_rfl) (by kernel_rfl) h4 ?_
  refine eqs_step (by decide) (by kernel_rfl) (by kernel_rfl) h5 ?_
  refine eqs_step (by decide) (by kernel_rfl) (by kernel_rfl) h6 ?_
  refine eqs_step (by decide) (by kernel_rfl) (by kernel_rfl) h7 ?_
  exact eqs_nil
theorem run_eqB (x y : Bp) (w : World) : (Op.equalIn 10000 54 (BV x) (BV y)).run Try.prog w = .ok (decide (x = y)) w := run_eqBd 9997 x y w
end Go.Proofs.Ytlpmilaofcakbaa
