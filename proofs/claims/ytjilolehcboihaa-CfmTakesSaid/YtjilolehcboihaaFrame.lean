/- api.Frame: a frame as a value, as a block, as an argument; two frames held against each other. -/
import Derived.Test.YtjilolehcboihaaDig
import Derived.Test.YtjilolehcboihaaOpen
import Derived.Stop.BytesEq
import Derived.Laws.Rows
import Derived.Deep.WholeRow
namespace Go.Proofs.Ytjilolehcboihaa
open Go.ChangeShapes Go.WideShapes Go.ChangeAt Go.RowKit
set_option linter.unusedVariables false
set_option linter.unusedSimpArgs false
set_option maxRecDepth 100000

/-- a frame -/
structure Fr where
  (d0 d1 d2 d3 d4 d5 s0 s1 s2 s3 s4 s5 : UInt8)
  tag : Bool
  pri : UInt8
  vid : UInt16
  ty : UInt16
  data : List UInt8
def Fr.dst (f : Fr) : List UInt8 := [f.d0, f.d1, f.d2, f.d3, f.d4, f.d5]
def Fr.src (f : Fr) : List UInt8 := [f.s0, f.s1, f.s2, f.s3, f.s4, f.s5]
def Fr.zero : Fr := ⟨0, 0, 0, 0, 0, 0, 0, 0, 0, 0, 0, 0, false, 0, 0, 0, []⟩
/-- a frame as a value -/
abbrev FV (f : Fr) : Value := .agg #[.int .u8 f.d0.toNat, .int .u8 f.d1.toNat, .int .u8 f.d2.toNat, .int .u8 f.d3.toNat, .int .u8 f.d4.toNat, .int .u8 f.d5.toNat, .int .u8 f.s0.toNat, .int .u8 f.s1.toNat, .int .u8 f.s2.toNat, .int .u8 f.s3.toNat, .int .u8 f.s4.toNat, .int .u8 f.s5.toNat, .bool f.tag, .int .u8 f.pri.toNat, .int .u16 f.vid.toNat, .int .u16 f.ty.toNat, .string ⟨f.data.toArray⟩]
/-- a block that holds a frame -/
def FrA (w : World) (g : Nat) (f : Fr) : Prop := Blk w g 46 #[.int .u8 f.d0.toNat, .int .u8 f.d1.toNat, .int .u8 f.d2.toNat, .int .u8 f.d3.toNat, .int .u8 f.d4.toNat, .int .u8 f.d5.toNat, .int .u8 f.s0.toNat, .int .u8 f.s1.toNat, .int .u8 f.s2.toNat, .int .u8 f.s3.toNat, .int .u8 f.s4.toNat, .int .u8 f.s5.toNat, .bool f.tag, .int .u8 f.pri.toNat, .int .u16 f.vid.toNat, .int .u16 f.ty.toNat, .string ⟨f.data.toArray⟩]
theorem FrA.alloc {w : World} {g : Nat} {f : Fr} (h : FrA w g f) (o : Obj) : FrA (w.alloc o) g f := Blk.alloc h o
theorem FrA.next {w w' : World} {g : Nat} {f : Fr} (h : FrA w g f) (hb : Below w.heap.size w w') : FrA w' g f := Blk.below h hb (Blk.lt h)
theorem FrA.below {w w' : World} {g B : Nat} {f : Fr} (h : FrA w g f) (hb : Below B w w') (hg : g < B) : FrA w' g f := Blk.below h hb hg
theorem FrA.drew {w : World} {g : Nat} {f : Fr} (h : FrA w g f) : FrA w.drew g f := h
theorem FrA.drewN {w : World} {g : Nat} {f : Fr} (h : FrA w g f) (n : Nat) : FrA (w.drewN n) g f := h
theorem FrA.lt {w : World} {g : Nat} {f : Fr} (h : FrA w g f) : g < w.heap.size := Blk.lt h
theorem FrA.new (w : World) (f : Fr) : FrA (w.alloc (.cells #[.int .u8 f.d0.toNat, .int .u8 f.d1.toNat, .int .u8 f.d2.toNat, .int .u8 f.d3.toNat, .int .u8 f.d4.toNat, .int .u8 f.d5.toNat, .int .u8 f.s0.toNat, .int .u8 f.s1.toNat, .int .u8 f.s2.toNat, .int .u8 f.s3.toNat, .int .u8 f.s4.toNat, .int .u8 f.s5.toNat, .bool f.tag, .int .u8 f.pri.toNat, .int .u16 f.vid.toNat, .int .u16 f.ty.toNat, .string ⟨f.data.toArray⟩] 46)) w.heap.size f := Blk.new w _ _
theorem FrA.load {w : World} {g : Nat} {f : Fr} (h : FrA w g f) : (Instr.loadAt 46 (.pointer (some ⟨g, 0, none⟩))).run Try.prog w = .ok (FV f) w := by
  simp only [Instr.loadAt, Instr.sureAddr, Sem.run_bind, Sem.run_pure, Result.andThen_ok]
  exact run_loadVar_row w g _ 46 _ (0, 0) _ h Try.underlying46 rfl (by kernel_rfl)
/-- the load of a whole frame, as a step of a list (guarded too) -/
theorem wpList_load_frame {ops : Array Oper} {rest : List Oper} {o : Oper} {a : Act} {w : World} {Q : Exit → Act → World → Prop} (x : Nat) (ho : o.op = .load 46 (.tmp x)) (hw : Region.wanted o (yielded ops a.tmps) = true) (g : Nat) (f : Fr)
    (hx : a.eval (.tmp x) = .pointer (some ⟨g, 0, none⟩)) (h : FrA w g f) (hK : wpList Try.prog ops Q rest (a.put o.dst (FV f)) w) : wpList Try.prog ops Q (o :: rest) a w :=
  wpList_step fun K hK' => by
    rw [if_pos hw]
    exact wp_load_row 46 (.tmp x) ho g hx _ _ (0, 0) _ h Try.underlying46 rfl (by kernel_rfl) (hK' _ _ hK)
/-- as the walk's simp leaves the load of a whole frame -/
theorem FrA.loads {w : World} {g : Nat} {f : Fr} (h : FrA w g f) : (loadCellsFrom ⟨g, 0, none⟩ 0 17 #[]).run Try.prog w = .ok #[.int .u8 f.d0.toNat, .int .u8 f.d1.toNat, .int .u8 f.d2.toNat, .int .u8 f.d3.toNat, .int .u8 f.d4.toNat, .int .u8 f.d5.toNat, .int .u8 f.s0.toNat, .int .u8 f.s1.toNat, .int .u8 f.s2.toNat, .int .u8 f.s3.toNat, .int .u8 f.s4.toNat, .int .u8 f.s5.toNat, .bool f.tag, .int .u8 f.pri.toNat, .int .u16 f.vid.toNat, .int .u16 f.ty.toNat, .string ⟨f.data.toArray⟩] w := by
  have := run_loadCells_list (P := Try.prog) w ⟨g, 0, none⟩ [.int .u8 f.d0.toNat, .int .u8 f.d1.toNat, .int .u8 f.d2.toNat, .int .u8 f.d3.toNat, .int .u8 f.d4.toNat, .int .u8 f.d5.toNat, .int .u8 f.s0.toNat, .int .u8 f.s1.toNat, .int .u8 f.s2.toNat, .int .u8 f.s3.toNat, .int .u8 f.s4.toNat, .int .u8 f.s5.toNat, .bool f.tag, .int .u8 f.pri.toNat, .int .u16 f.vid.toNat, .int .u16 f.ty.toNat, .string ⟨f.data.toArray⟩] (fun j v hv => by
    have hadd : (⟨g, 0, none⟩ : Addr).add j = ⟨g, j, none⟩ := by unfold Addr.add; split <;> simp_all
    rw [hadd, cell_of_row w g j _ _ (0, 0) h]
    simpa using hv)
  simpa [loadCells] using this
def FZ : Array Value := #[.int .u8 0, .int .u8 0, .int .u8 0, .int .u8 0, .int .u8 0, .int .u8 0, .int .u8 0, .int .u8 0, .int .u8 0, .int .u8 0, .int .u8 0, .int .u8 0, .bool false, .int .u8 0, .int .u16 0, .int .u16 0, .string ⟨#[]⟩]
/-- as the walk's simp leaves the store of a whole frame into the block that was made last -/
theorem stores_new (w : World) (v0 v1 v2 v3 v4 v5 v6 v7 v8 v9 v10 v11 v12 v13 v14 v15 v16 : Value) (h1 : (#[v0, v1, v2, v3, v4, v5, v6, v7, v8, v9, v10, v11, v12, v13, v14, v15, v16] : Array Value).all (·.oneCell') = true) :
    (storeCells ⟨w.heap.size, 0, none⟩ [v0, v1, v2, v3, v4, v5, v6, v7, v8, v9, v10, v11, v12, v13, v14, v15, v16] 0).run Try.prog (w.alloc (.cells #[.int .u8 0, .int .u8 0, .int .u8 0, .int .u8 0, .int .u8 0, .int .u8 0, .int .u8 0, .int .u8 0, .int .u8 0, .int .u8 0, .int .u8 0, .int .u8 0, .bool false, .int .u8 0, .int .u16 0, .int .u16 0, .string ⟨#[]⟩] 46)) = .ok () (w.alloc (.cells #[v0, v1, v2, v3, v4, v5, v6, v7, v8, v9, v10, v11, v12, v13, v14, v15, v16] 46)) :=
  run_storeCells_new w 46 _ #[v0, v1, v2, v3, v4, v5, v6, v7, v8, v9, v10, v11, v12, v13, v14, v15, v16] (by kernel_rfl) rfl h1
theorem FrA.setTag {w : World} {g : Nat} {f : Fr} (h : FrA w g f) (b : Bool) : FrA (w.setCell ⟨g, 12, none⟩ (.bool b)) g { f with tag := b } := by simpa [FrA] using Blk.put h 12 (.bool b)
theorem FrA.setPri {w : World} {g : Nat} {f : Fr} (h : FrA w g f) (b : UInt8) : FrA (w.setCell ⟨g, 13, none⟩ (.int .u8 b.toNat)) g { f with pri := b } := by simpa [FrA] using Blk.put h 13 (.int .u8 b.toNat)
theorem FrA.setVid {w : World} {g : Nat} {f : Fr} (h : FrA w g f) (b : UInt16) : FrA (w.setCell ⟨g, 14, none⟩ (.int .u16 b.toNat)) g { f with vid := b } := by simpa [FrA] using Blk.put h 14 (.int .u16 b.toNat)
theorem FrA.setTy {w : World} {g : Nat} {f : Fr} (h : FrA w g f) (b : UInt16) : FrA (w.setCell ⟨g, 15, none⟩ (.int .u16 b.toNat)) g { f with ty := b } := by simpa [FrA] using Blk.put h 15 (.int .u16 b.toNat)
theorem FrA.setData {w : World} {g : Nat} {f : Fr} (h : FrA w g f) (l : List UInt8) : FrA (w.setCell ⟨g, 16, none⟩ (.string ⟨l.toArray⟩)) g { f with data := l } := by simpa [FrA] using Blk.put h 16 (.string ⟨l.toArray⟩)
theorem FrA.frozen {w : World} {g : Nat} {f : Fr} (h : FrA w g f) (i : Nat) : w.frozen? ⟨g, i, none⟩ = false := Blk.frozen h i
/-- the cells of a frame at g -/
structure FrC (w : World) (g : Nat) (f : Fr) : Prop where
  c0 : w.cell? ⟨g, 0, none⟩ = some (Value.int .u8 f.d0.toNat)
  c1 : w.cell? ⟨g, 1, none⟩ = some (Value.int .u8 f.d1.toNat)
  c2 : w.cell? ⟨g, 2, none⟩ = some (Value.int .u8 f.d2.toNat)
  c3 : w.cell? ⟨g, 3, none⟩ = some (Value.int .u8 f.d3.toNat)
  c4 : w.cell? ⟨g, 4, none⟩ = some (Value.int .u8 f.d4.toNat)
  c5 : w.cell? ⟨g, 5, none⟩ = some (Value.int .u8 f.d5.toNat)
  c6 : w.cell? ⟨g, 6, none⟩ = some (Value.int .u8 f.s0.toNat)
  c7 : w.cell? ⟨g, 7, none⟩ = some (Value.int .u8 f.s1.toNat)
  c8 : w.cell? ⟨g, 8, none⟩ = some (Value.int .u8 f.s2.toNat)
  c9 : w.cell? ⟨g, 9, none⟩ = some (Value.int .u8 f.s3.toNat)
  c10 : w.cell? ⟨g, 10, none⟩ = some (Value.int .u8 f.s4.toNat)
  c11 : w.cell? ⟨g, 11, none⟩ = some (Value.int .u8 f.s5.toNat)
  c12 : w.cell? ⟨g, 12, none⟩ = some (Value.bool f.tag)
  c13 : w.cell? ⟨g, 13, none⟩ = some (Value.int .u8 f.pri.toNat)
  c14 : w.cell? ⟨g, 14, none⟩ = some (Value.int .u16 f.vid.toNat)
  c15 : w.cell? ⟨g, 15, none⟩ = some (Value.int .u16 f.ty.toNat)
  c16 : w.cell? ⟨g, 16, none⟩ = some (Value.string ⟨f.data.toArray⟩)
theorem FrA.cells {w : World} {g : Nat} {f : Fr} (h : FrA w g f) : FrC w g f := ⟨Blk.cell h 0, Blk.cell h 1, Blk.cell h 2, Blk.cell h 3, Blk.cell h 4, Blk.cell h 5, Blk.cell h 6, Blk.cell h 7, Blk.cell h 8, Blk.cell h 9, Blk.cell h 10, Blk.cell h 11, Blk.cell h 12, Blk.cell h 13, Blk.cell h 14, Blk.cell h 15, Blk.cell h 16⟩
theorem FrC.next {w w' : World} {g : Nat} {f : Fr} (h : FrC w g f) (hb : Below w.heap.size w w') : FrC w' g f := by
  have hg := World.block_lt_of_cell? w _ h.c0
  have hk : ∀ i, w'.cell? ⟨g, i, none⟩ = w.cell? ⟨g, i, none⟩ := fun i => hb.cell (p := ⟨g, i, none⟩) hg
  exact ⟨(hk 0).trans h.c0, (hk 1).trans h.c1, (hk 2).trans h.c2, (hk 3).trans h.c3, (hk 4).trans h.c4, (hk 5).trans h.c5, (hk 6).trans h.c6, (hk 7).trans h.c7, (hk 8).trans h.c8, (hk 9).trans h.c9, (hk 10).trans h.c10, (hk 11).trans h.c11, (hk 12).trans h.c12, (hk 13).trans h.c13, (hk 14).trans h.c14, (hk 15).trans h.c15, (hk 16).trans h.c16⟩

/-- are two frames the same? -/
def Fr.same (f g : Fr) : Bool := (f.dst == g.dst) && ((f.src == g.src) && ((f.tag == g.tag) && ((f.pri == g.pri) && ((f.vid == g.vid) && ((f.ty == g.ty) && (f.data == g.data))))))
theorem Fr.same_iff (f g : Fr) : f.same g = true ↔ f = g := by
  constructor
  · intro h
    obtain ⟨a0, a1, a2, a3, a4, a5, a6, a7, a8, a9, a10, a11, a12, a13, a14, a15, a16⟩ := f
    obtain ⟨b0, b1, b2, b3, b4, b5, b6, b7, b8, b9, b10, b11, b12, b13, b14, b15, b16⟩ := g
    simp only [Fr.same, Fr.dst, Fr.src, Bool.and_eq_true, beq_iff_eq, List.cons.injEq, and_true] at h
    obtain ⟨⟨h0, h1, h2, h3, h4, h5⟩, ⟨h6, h7, h8, h9, h10, h11⟩, h12, h13, h14, h15, h16⟩ := h
    subst h0 h1 h2 h3 h4 h5 h6 h7 h8 h9 h10 h11 h12 h13 h14 h15 h16
    rfl
  · rintro rfl
    simp [Fr.same]
theorem Fr.same_self (f : Fr) : f.same f = true := (Fr.same_iff f f).2 rfl
theorem u8_beq (a b : UInt8) : (((a.toNat : Nat) : Int) == ((b.toNat : Nat) : Int)) = (a == b) := by
  rw [Bool.eq_iff_iff]
  simp only [beq_iff_eq]
  exact ⟨fun e => UInt8.toNat_inj.1 (by omega), fun e => by rw [e]⟩
theorem u16_beq (a b : UInt16) : (((a.toNat : Nat) : Int) == ((b.toNat : Nat) : Int)) = (a == b) := by
  rw [Bool.eq_iff_iff]
  simp only [beq_iff_eq]
  exact ⟨fun e => UInt16.toNat_inj.1 (by omega), fun e => by rw [e]⟩
theorem str_beq (a b : List UInt8) : ((⟨a.toArray⟩ : ByteArray).toList == (⟨b.toArray⟩ : ByteArray).toList) = (a == b) := by
  rw [ByteArray.toList_eq, ByteArray.toList_eq]
theorem eqf_step {P : Program} {d : Nat} {xs ys : Array Value} {f : Field} {fs : List Field} {w : World} {a b : Value} {r s : Bool} (hn : f.name ≠ "_") (ha : (part f.type xs f.offset).run P w = .ok a w) (hb : (part f.type ys f.offset).run P w = .ok b w)
    (hr : (Op.equalIn d f.type a b).run P w = .ok r w) (hs : (Op.eqFields d xs ys fs).run P w = .ok s w) : (Op.eqFields d xs ys (f :: fs)).run P w = .ok (r && s) w := by
  simp only [Op.eqFields, hn, ne_eq, not_false_eq_true, if_true, Sem.run_bind, ha, hb, hr, Result.andThen_ok]
  cases r
  · simp
  · simp only [Bool.not_true, Bool.false_eq_true, if_false, Bool.true_and]
    exact hs
theorem eqf_nil {P : Program} {d : Nat} {xs ys : Array Value} {w : World} : (Op.eqFields d xs ys []).run P w = .ok true w := by simp [Op.eqFields]
set_option maxHeartbeats 1000000 in
theorem run_eqF (f g : Fr) (w : World) : (Op.equalIn 10000 46 (FV f) (FV g)).run Try.prog w = .ok (f.same g) w := by
  have hd := run_equalIn_bytes (P := Try.prog) w 9997 44 5 6 Try.underlying44 Try.underlying5 (fun w => by have := Try.sizeOf5; exact this w) f.dst g.dst rfl rfl
  have hs := run_equalIn_bytes (P := Try.prog) w 9997 44 5 6 Try.underlying44 Try.underlying5 (fun w => by have := Try.sizeOf5; exact this w) f.src g.src rfl rfl
  have h5 := run_equalIn_int (P := Try.prog) w 9998 5 .u8 .u8 (f.pri.toNat : Int) (g.pri.toNat : Int) Try.underlying5
  have h6 := run_equalIn_int (P := Try.prog) w 9998 35 .u16 .u16 (f.vid.toNat : Int) (g.vid.toNat : Int) Try.underlying35
  have h7 := run_equalIn_int (P := Try.prog) w 9998 35 .u16 .u16 (f.ty.toNat : Int) (g.ty.toNat : Int) Try.underlying35
  have h8 := run_equalIn_string (P := Try.prog) w 9998 9 ⟨f.data.toArray⟩ ⟨g.data.toArray⟩ Try.underlying9
  rw [u8_beq] at h5
  rw [u16_beq] at h6 h7
  rw [str_beq] at h8
  rw [run_equalIn_struct w 9999 46 _ _ (by rw [Program.fieldsOf, Try.underlying46]) (by kernel_rfl)]
  simp only [Program.fieldsOf, Try.underlying46]
  have hall : f.same g = ((f.dst == g.dst) && ((f.src == g.src) && ((f.tag == g.tag) && ((f.pri == g.pri) && ((f.vid == g.vid) && ((f.ty == g.ty) && ((f.data == g.data) && true))))))) := by simp [Fr.same]
  rw [hall]
  refine eqf_step (by decide) (by kernel_rfl) (by kernel_rfl) hd ?_
  refine eqf_step (by decide) (by kernel_rfl) (by kernel_rfl) hs ?_
  refine eqf_step (by decide) (by kernel_rfl) (by kernel_rfl) (run_equalIn_bool' w 9998 4 f.tag g.tag Try.underlying4) ?_
  refine eqf_step (by decide) (by kernel_rfl) (by kernel_rfl) h5 ?_
  refine eqf_step (by decide) (by kernel_rfl) (by kernel_rfl) h6 ?_
  refine eqf_step (by decide) (by kernel_rfl) (by kernel_rfl) h7 ?_
  refine eqf_step (by decide) (by kernel_rfl) (by kernel_rfl) h8 ?_
  exact eqf_nil

/-- a row's cell i is of its type -/
theorem okRow_at {P : Program} {w : World} {r : Reach} {base : Nat} {t : TypeId} {l : List Value} {ts : List TypeId} (hts : P.cellTypes P.depth t = some ts) (h : Row.okWide P w r base t ⟨l⟩) (i : Nat) (v : Value) (u : TypeId) (hv : l[i]? = some v) (hu : ts[i]? = some u) : Cell.okWide P w r base u v := by
  obtain ⟨ts', h1, _, h2⟩ := h
  rw [hts] at h1
  cases h1
  obtain ⟨u', h3, h4⟩ := h2 i v (by simpa using hv)
  have hlt : i < ts.length := (List.getElem?_eq_some_iff.1 hu).1
  rw [Nat.mod_eq_of_lt hlt, hu] at h3
  cases h3
  exact h4
theorem cell_u8 {P : Program} {w : World} {r : Reach} {base : Nat} {t : TypeId} {v : Value} (ht : P.underlying t = some (.int .u8)) (h : Cell.okWide P w r base t v) : ∃ u : UInt8, v = .int .u8 u.toNat := by
  simp only [Cell.okWide, ht] at h
  cases v with
  | int k n =>
    simp only [Cell.ok, ht] at h
    obtain ⟨rfl, hn⟩ := h
    have hb : 0 ≤ n ∧ n ≤ 255 := by
      simp [IntKind.has, IntKind.min, IntKind.max, IntKind.signed, IntKind.bits] at hn
      omega
    refine ⟨UInt8.ofNat n.toNat, congrArg _ ?_⟩
    have : n.toNat % 256 = n.toNat := by omega
    simp [this]
    omega
  | _ => simp [Cell.ok, ht] at h
theorem cell_u16 {P : Program} {w : World} {r : Reach} {base : Nat} {t : TypeId} {v : Value} (ht : P.underlying t = some (.int .u16)) (h : Cell.okWide P w r base t v) : ∃ u : UInt16, v = .int .u16 u.toNat := by
  simp only [Cell.okWide, ht] at h
  cases v with
  | int k n =>
    simp only [Cell.ok, ht] at h
    obtain ⟨rfl, hn⟩ := h
    have hb : 0 ≤ n ∧ n ≤ 65535 := by
      simp [IntKind.has, IntKind.min, IntKind.max, IntKind.signed, IntKind.bits] at hn
      omega
    refine ⟨UInt16.ofNat n.toNat, congrArg _ ?_⟩
    have : n.toNat % 65536 = n.toNat := by omega
    simp [this]
    omega
  | _ => simp [Cell.ok, ht] at h
theorem cell_bool {P : Program} {w : World} {r : Reach} {base : Nat} {t : TypeId} {v : Value} (ht : P.underlying t = some .bool) (h : Cell.okWide P w r base t v) : ∃ b, v = .bool b := by
  simp only [Cell.okWide, ht] at h
  cases v <;> simp_all [Cell.ok]
theorem cell_str {P : Program} {w : World} {r : Reach} {base : Nat} {t : TypeId} {v : Value} (ht : P.underlying t = some .string) (h : Cell.okWide P w r base t v) : ∃ l : List UInt8, v = .string ⟨l.toArray⟩ := by
  simp only [Cell.okWide, ht] at h
  cases v <;> simp_all [Cell.ok]
  rename_i s
  exact ⟨s.data.toList, by simp⟩
theorem vlist17 {l : List Value} (h : l.length = 17) : ∃ v0 v1 v2 v3 v4 v5 v6 v7 v8 v9 v10 v11 v12 v13 v14 v15 v16, l = [v0, v1, v2, v3, v4, v5, v6, v7, v8, v9, v10, v11, v12, v13, v14, v15, v16] := by
  match l, h with
  | [v0, v1, v2, v3, v4, v5, v6, v7, v8, v9, v10, v11, v12, v13, v14, v15, v16], _ => exact ⟨v0, v1, v2, v3, v4, v5, v6, v7, v8, v9, v10, v11, v12, v13, v14, v15, v16, rfl⟩
/-- a frame as an argument -/
theorem open_frame {W : World} {base : Nat} {v : Value} (o : Value.okWide Try.prog W .any base 46 v) : ∃ f : Fr, v = FV f := by
  obtain ⟨cs, rfl, hsz, hrow⟩ : ∃ cs, v = .agg cs ∧ cs.size = Try.prog.cellsOf 46 ∧ Row.okWide Try.prog W .any base 46 cs := by
    simpa [Value.okWide, Try.underlying46] using o
  have hs17 : cs.size = 17 := hsz.trans (by kernel_rfl)
  obtain ⟨l⟩ := cs
  obtain ⟨v0, v1, v2, v3, v4, v5, v6, v7, v8, v9, v10, v11, v12, v13, v14, v15, v16, rfl⟩ := vlist17 hs17
  have hts : Try.prog.cellTypes Try.prog.depth 46 = some [5, 5, 5, 5, 5, 5, 5, 5, 5, 5, 5, 5, 4, 5, 35, 35, 9] := by kernel_rfl
  obtain ⟨x0, rfl⟩ := cell_u8 Try.underlying5 (okRow_at hts hrow 0 _ _ rfl rfl)
  obtain ⟨x1, rfl⟩ := cell_u8 Try.underlying5 (okRow_at hts hrow 1 _ _ rfl rfl)
  obtain ⟨x2, rfl⟩ := cell_u8 Try.underlying5 (okRow_at hts hrow 2 _ _ rfl rfl)
  obtain ⟨x3, rfl⟩ := cell_u8 Try.underlying5 (okRow_at hts hrow 3 _ _ rfl rfl)
  obtain ⟨x4, rfl⟩ := cell_u8 Try.underlying5 (okRow_at hts hrow 4 _ _ rfl rfl)
  obtain ⟨x5, rfl⟩ := cell_u8 Try.underlying5 (okRow_at hts hrow 5 _ _ rfl rfl)
  obtain ⟨x6, rfl⟩ := cell_u8 Try.underlying5 (okRow_at hts hrow 6 _ _ rfl rfl)
  obtain ⟨x7, rfl⟩ := cell_u8 Try.underlying5 (okRow_at hts hrow 7 _ _ rfl rfl)
  obtain ⟨x8, rfl⟩ := cell_u8 Try.underlying5 (okRow_at hts hrow 8 _ _ rfl rfl)
  obtain ⟨x9, rfl⟩ := cell_u8 Try.underlying5 (okRow_at hts hrow 9 _ _ rfl rfl)
  obtain ⟨x10, rfl⟩ := cell_u8 Try.underlying5 (okRow_at hts hrow 10 _ _ rfl rfl)
  obtain ⟨x11, rfl⟩ := cell_u8 Try.underlying5 (okRow_at hts hrow 11 _ _ rfl rfl)
  obtain ⟨x12, rfl⟩ := cell_bool Try.underlying4 (okRow_at hts hrow 12 _ _ rfl rfl)
  obtain ⟨x13, rfl⟩ := cell_u8 Try.underlying5 (okRow_at hts hrow 13 _ _ rfl rfl)
  obtain ⟨x14, rfl⟩ := cell_u16 Try.underlying35 (okRow_at hts hrow 14 _ _ rfl rfl)
  obtain ⟨x15, rfl⟩ := cell_u16 Try.underlying35 (okRow_at hts hrow 15 _ _ rfl rfl)
  obtain ⟨x16, rfl⟩ := cell_str Try.underlying9 (okRow_at hts hrow 16 _ _ rfl rfl)
  exact ⟨⟨x0, x1, x2, x3, x4, x5, x6, x7, x8, x9, x10, x11, x12, x13, x14, x15, x16⟩, rfl⟩
end Go.Proofs.Ytjilolehcboihaa
