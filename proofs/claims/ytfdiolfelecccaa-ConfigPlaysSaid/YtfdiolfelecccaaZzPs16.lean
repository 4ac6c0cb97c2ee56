/- Layer 16, the program: its small functions. -/
import Derived.Test.YtfdiolfelecccaaZzPt16
import Derived.StillTailTactics
import Derived.Shelf.Abstract
import Derived.Lib.SliceRun
namespace Go.Proofs.Ytfdiolfelecccaa
open Go.RowKit
set_option linter.unusedVariables false
set_option linter.unusedSimpArgs false
set_option maxRecDepth 100000

/-- where an end point stands, and its way -/
structure Sa where
  p : UInt8
  v : UInt16
  l : UInt8
  u : Bool
  deriving DecidableEq
def Tb.st (T : Tb) (x : Mp) : Sa := ⟨x.p, (T.of x).v, (T.of x).l, x.u⟩
theorem u8_eqP (x y : UInt8) : ((x.toNat : Int) == (y.toNat : Int)) = (x == y) := by
  by_cases h : x = y
  · rw [h]; simp
  · rw [u8_ne h]; simp [h]
theorem u16_eqP (x y : UInt16) : ((x.toNat : Int) == (y.toNat : Int)) = (x == y) := by
  by_cases h : x = y
  · rw [h]; simp
  · rw [u16_ne h]; simp [h]
theorem run_eqSp10000 (x y : Sp) (w : World) : (Op.equalIn 10000 88 (.agg #[.int .u8 x.p.toNat, .int .u16 x.v.toNat]) (.agg #[.int .u8 y.p.toNat, .int .u16 y.v.toNat])).run Try.prog w = .ok (decide (x = y)) w := by
  have h0 := run_equalIn_int (P := Try.prog) w 9998 5 .u8 .u8 (x.p.toNat : Int) (y.p.toNat : Int) Try.underlying5
  rw [u8_eqP] at h0
  have h1 := run_equalIn_int (P := Try.prog) w 9998 23 .u16 .u16 (x.v.toNat : Int) (y.v.toNat : Int) Try.underlying23
  rw [u16_eqP] at h1
  rw [run_equalIn_struct w 9999 88 _ _ (by rw [Program.fieldsOf, Try.underlying88]) (by kernel_rfl)]
  simp only [Program.fieldsOf, Try.underlying88]
  have e : decide (x = y) = ((x.p == y.p) && ((x.v == y.v) && true)) := by
    obtain ⟨a, b⟩ := x
    obtain ⟨a', b'⟩ := y
    rw [Bool.eq_iff_iff]
    simp
  rw [e]
  refine eqs_step (by decide) (by kernel_rfl) (by kernel_rfl) h0 ?_
  refine eqs_step (by decide) (by kernel_rfl) (by kernel_rfl) h1 ?_
  exact eqs_nil
theorem run_eqSp9999 (x y : Sp) (w : World) : (Op.equalIn 9999 88 (.agg #[.int .u8 x.p.toNat, .int .u16 x.v.toNat]) (.agg #[.int .u8 y.p.toNat, .int .u16 y.v.toNat])).run Try.prog w = .ok (decide (x = y)) w := by
  have h0 := run_equalIn_int (P := Try.prog) w 9997 5 .u8 .u8 (x.p.toNat : Int) (y.p.toNat : Int) Try.underlying5
  rw [u8_eqP] at h0
  have h1 := run_equalIn_int (P := Try.prog) w 9997 23 .u16 .u16 (x.v.toNat : Int) (y.v.toNat : Int) Try.underlying23
  rw [u16_eqP] at h1
  rw [run_equalIn_struct w 9998 88 _ _ (by rw [Program.fieldsOf, Try.underlying88]) (by kernel_rfl)]
  simp only [Program.fieldsOf, Try.underlying88]
  have e : decide (x = y) = ((x.p == y.p) && ((x.v == y.v) && true)) := by
    obtain ⟨a, b⟩ := x
    obtain ⟨a', b'⟩ := y
    rw [Bool.eq_iff_iff]
    simp
  rw [e]
  refine eqs_step (by decide) (by kernel_rfl) (by kernel_rfl) h0 ?_
  refine eqs_step (by decide) (by kernel_rfl) (by kernel_rfl) h1 ?_
  exact eqs_nil
theorem run_eqSa (x y : Sa) (w : World) : (Op.equalIn 10000 90 (.agg #[.int .u8 x.p.toNat, .int .u16 x.v.toNat, .int .u8 x.l.toNat, .bool x.u]) (.agg #[.int .u8 y.p.toNat, .int .u16 y.v.toNat, .int .u8 y.l.toNat, .bool y.u])).run Try.prog w = .ok (decide (x = y)) w := by
  have h0 := run_eqSp9999 ⟨x.p, x.v⟩ ⟨y.p, y.v⟩ w
  have h1 := run_equalIn_int (P := Try.prog) w 9998 5 .u8 .u8 (x.l.toNat : Int) (y.l.toNat : Int) Try.underlying5
  rw [u8_eqP] at h1
  have h2 := run_equalIn_bool' (P := Try.prog) w 9998 4 x.u y.u Try.underlying4
  rw [run_equalIn_struct w 9999 90 _ _ (by rw [Program.fieldsOf, Try.underlying90]) (by kernel_rfl)]
  simp only [Program.fieldsOf, Try.underlying90]
  have e : decide (x = y) = (decide (Sp.mk x.p x.v = Sp.mk y.p y.v) && ((x.l == y.l) && ((x.u == y.u) && true))) := by
    obtain ⟨a, b, c, d⟩ := x
    obtain ⟨a', b', c', d'⟩ := y
    rw [Bool.eq_iff_iff]
    simp [and_assoc]
  rw [e]
  refine eqs_step (by decide) (by kernel_rfl) (by kernel_rfl) h0 ?_
  refine eqs_step (by decide) (by kernel_rfl) (by kernel_rfl) h1 ?_
  refine eqs_step (by decide) (by kernel_rfl) (by kernel_rfl) h2 ?_
  exact eqs_nil
theorem cell_adP {w : World} {a : Addr} {v : Value} (h : w.drew.cell? a = some v) (o : Obj) : (w.alloc o).drew.cell? a = some v := Lib.cell?_alloc_some o (show w.cell? a = some v from h)
theorem gro_row {w w' : World} (h : Gro w w') {g : Nat} (hg : w.heap.size ≤ g) (cs : Array Value) : Gro w (w'.setRow g cs) := ⟨below_row h.below hg cs, h.drawn⟩
section
variable {w : World} {b : Nat} {T : Tb} {X : PX}
set_option maxHeartbeats 1000000 in
theorem isPort_any (h : Pt w b T X) (p : UInt8) : Calls Try.prog 43 #[.pointer (some ⟨b, 0, none⟩), .int .u8 p.toNat] w fun e w' => e = .returned (.bool (decide (p.toNat < T.n))) ∧ Gro w w' := by
  have c0 := h.c0
  have hw : IntKind.i64.wrap (p.toNat : Int) = (p.toNat : Int) := by have := p.toNat_lt; simp [IntKind.wrap, IntKind.signed, IntKind.bits]; omega
  clear h
  go_enter Try.func43, Try.ntmps43
  go_wp2
  go_ret
  refine ⟨ret_ (congrArg Value.bool ?_), Gro.refl _⟩
  rw [Bool.eq_iff_iff]; first | done | simp
def okV16 (v : UInt16) : Bool := decide (0 < v.toNat) && decide (v.toNat < 4095)
set_option maxHeartbeats 1000000 in
theorem isVlan_any (v : UInt16) (w : World) : Calls Try.prog 44 #[.int .u16 v.toNat] w fun e w' => e = .returned (.bool (okV16 v)) ∧ Gro w w' := by
  go_enter Try.func44, Try.ntmps44
  go_wp2
  all_goals go_ret
  all_goals refine ⟨ret_ (congrArg Value.bool ?_), Gro.refl _⟩
  all_goals (simp only [okV16])
  all_goals (rw [Bool.eq_iff_iff]; simp; omega)
set_option maxHeartbeats 1000000 in
theorem isPlace_any (h : Pt w b T X) (i : Int) : Calls Try.prog 32 #[.pointer (some ⟨b, 0, none⟩), .int .i64 i] w fun e w' => e = .returned (.bool (decide (0 ≤ i) && decide (i < T.A.length))) ∧ Gro w w' := by
  have c1 := h.c1
  obtain ⟨n, hn⟩ : ∃ n, T.A.length = n := ⟨_, rfl⟩
  rw [hn] at c1 ⊢
  clear h hn
  by_cases h0 : 0 ≤ i
  · have e0 : decide (0 ≤ i) = true := by simp [h0]
    rw [e0]
    go_enter Try.func32, Try.ntmps32
    go_wp2
    go_ret
    exact ⟨rfl, Gro.refl _⟩
  · have e0 : decide (0 ≤ i) = false := by simp [h0]
    rw [e0]
    go_enter Try.func32, Try.ntmps32
    go_wp2
    go_ret
    exact ⟨rfl, Gro.refl _⟩
set_option maxHeartbeats 4000000 in
theorem standOf_any (h : Pt w b T X) (m : Mp) (h0 : 0 ≤ m.a) (h1 : m.a < T.A.length) : Calls Try.prog 35 #[.pointer (some ⟨b, 0, none⟩), .agg #[.int .i64 m.a, .int .u16 m.m.toNat, .int .u8 m.p.toNat, .bool m.u]] w fun e w' => e = .returned (.agg #[.int .u8 (T.st m).p.toNat, .int .u16 (T.st m).v.toNat, .int .u8 (T.st m).l.toNat, .bool (T.st m).u]) ∧ Gro w w' := by
  obtain ⟨y, hy, hya, hyl⟩ := h.at (j := m.a.toNat) (by omega)
  have hyo : y.a = T.of m := hya
  obtain ⟨bA, off, hA, hltA, a0, a1, a2, a3, a4, a5⟩ := as_at h.elsA hy
  have c1 := h.c1
  obtain ⟨n, hn⟩ : ∃ n, T.A.length = n := ⟨_, rfl⟩
  rw [hA, hn] at c1
  rw [hn] at h1
  have p1 : ¬ m.a < 0 := by omega
  have p2 : decide ((n : Int) ≤ m.a) = false := by simp; omega
  unfold Tb.st
  rw [← hyo]
  have hb := h.blk.lt
  clear h hy hya hyo hyl hn
  obtain ⟨W, hW⟩ : ∃ W, (w.alloc (.cells #[.int .i64 m.a, .int .u16 m.m.toNat, .int .u8 m.p.toNat, .bool m.u] 59)).alloc (.cells #[.int .u8 0, .int .u16 0, .int .u8 0, .bool false] 90) = W := ⟨_, rfl⟩
  have HG : Hid (Gro w W) := Lib.hid (by rw [← hW]; exact ((Gro.refl w).alloc _).alloc _)
  have HM : Hid (Blk W w.heap.size 59 #[.int .i64 m.a, .int .u16 m.m.toNat, .int .u8 m.p.toNat, .bool m.u]) := Lib.hid (by rw [← hW]; exact (Blk.new _ _ _).alloc _)
  have HS : Hid (Blk W (w.heap.size + 1) 90 #[.int .u8 0, .int .u16 0, .int .u8 0, .bool false]) := Lib.hid (by
    have := Blk.new (w.alloc (.cells #[.int .i64 m.a, .int .u16 m.m.toNat, .int .u8 m.p.toNat, .bool m.u] 59)) 90 #[.int .u8 0, .int .u16 0, .int .u8 0, .bool false]
    rw [← hW]; simpa using this)
  obtain ⟨g, hg⟩ : ∃ g, w.heap.size = g := ⟨_, rfl⟩
  have HGE := Lib.hid (Nat.le_of_eq hg)
  rw [hg] at HM HS
  have d0 := HM.out.cell 0
  have d2 := HM.out.cell 2
  have d3 := HM.out.cell 3
  simp only [List.getElem?_toArray, List.getElem?_cons_succ, List.getElem?_cons_zero] at  d0 d2 d3
  have lB : b < W.heap.size := Nat.lt_of_lt_of_le hb HG.out.size
  have lA : bA < W.heap.size := Nat.lt_of_lt_of_le hltA HG.out.size
  have lM := HM.out.lt
  have e1 : W.drew.cell? ⟨b, 1, none⟩ = some (.slice (some ⟨bA, off, none⟩) n X.ca) := (HG.out.cell (p := ⟨b, 1, none⟩) hb).trans c1
  have e2 : W.drew.cell? ⟨g, 0, none⟩ = some (.int .i64 m.a) := d0
  have e3 : W.drew.cell? ⟨bA, off + m.a.toNat * 6, none⟩ = some (.int .u8 y.a.l.toNat) := (HG.out.cell (p := ⟨bA, off + m.a.toNat * 6, none⟩) hltA).trans a0
  have e4 : W.drew.cell? ⟨bA, off + m.a.toNat * 6 + 1, none⟩ = some (.string ⟨y.a.d.toArray⟩) := (HG.out.cell (p := ⟨bA, off + m.a.toNat * 6 + 1, none⟩) hltA).trans a1
  have e5 : W.drew.cell? ⟨bA, off + m.a.toNat * 6 + 2, none⟩ = some (.string ⟨y.a.n.toArray⟩) := (HG.out.cell (p := ⟨bA, off + m.a.toNat * 6 + 2, none⟩) hltA).trans a2
  have e6 : W.drew.cell? ⟨bA, off + m.a.toNat * 6 + 3, none⟩ = some (.int .u16 y.a.v.toNat) := (HG.out.cell (p := ⟨bA, off + m.a.toNat * 6 + 3, none⟩) hltA).trans a3
  have e7 : W.drew.cell? ⟨bA, off + m.a.toNat * 6 + 4, none⟩ = some (.int .u8 y.a.i.toNat) := (HG.out.cell (p := ⟨bA, off + m.a.toNat * 6 + 4, none⟩) hltA).trans a4
  have e8 : W.drew.cell? ⟨bA, off + m.a.toNat * 6 + 5, none⟩ = some (.slice y.b y.a.m.length y.c) := (HG.out.cell (p := ⟨bA, off + m.a.toNat * 6 + 5, none⟩) hltA).trans a5
  clear c1 a0 a1 a2 a3 a4 a5 hb hltA hA d0 d2 d3
  have z1 := fun o => cell_adP e1 o
  have z2 := fun o => cell_adP e2 o
  have z3 := fun o => cell_adP e3 o
  have z4 := fun o => cell_adP e4 o
  have z5 := fun o => cell_adP e5 o
  have z6 := fun o => cell_adP e6 o
  have z7 := fun o => cell_adP e7 o
  have z8 := fun o => cell_adP e8 o
  go_enter Try.func35, Try.ntmps35
  go_wp2_with fail
  try rw [hW]
  clear hW hg
  go_region_held3 (fun w_ => w_.cell? ⟨b, 1, none⟩ = some (.slice (some ⟨bA, off, none⟩) n X.ca) ∧ w_.cell? ⟨g, 0, none⟩ = some (.int .i64 m.a) ∧ w_.cell? ⟨bA, off + m.a.toNat * 6, none⟩ = some (.int .u8 y.a.l.toNat) ∧ w_.cell? ⟨bA, off + m.a.toNat * 6 + 1, none⟩ = some (.string ⟨y.a.d.toArray⟩) ∧ w_.cell? ⟨bA, off + m.a.toNat * 6 + 2, none⟩ = some (.string ⟨y.a.n.toArray⟩) ∧ w_.cell? ⟨bA, off + m.a.toNat * 6 + 3, none⟩ = some (.int .u16 y.a.v.toNat) ∧ w_.cell? ⟨bA, off + m.a.toNat * 6 + 4, none⟩ = some (.int .u8 y.a.i.toNat) ∧ w_.cell? ⟨bA, off + m.a.toNat * 6 + 5, none⟩ = some (.slice y.b y.a.m.length y.c)) (first | exact ⟨z1 _, z2 _, z3 _, z4 _, z5 _, z6 _, z7 _, z8 _⟩ | go_keep) (fail "no")
  clear e1 e2 e3 e4 e5 e6 e7 e8 z1 z2 z3 z4 z5 z6 z7 z8
  rename_i hh
  clear hh
  have HG1 : Hid (Gro w (W.alloc (.cells #[.int .u8 y.a.l.toNat, .string ⟨y.a.d.toArray⟩, .string ⟨y.a.n.toArray⟩, .int .u16 y.a.v.toNat, .int .u8 y.a.i.toNat, .slice y.b y.a.m.length y.c] 50)).drew) := Lib.hid ((HG.out.alloc _).drew)
  have HM1 : Hid (Blk (W.alloc (.cells #[.int .u8 y.a.l.toNat, .string ⟨y.a.d.toArray⟩, .string ⟨y.a.n.toArray⟩, .int .u16 y.a.v.toNat, .int .u8 y.a.i.toNat, .slice y.b y.a.m.length y.c] 50)).drew g 59 #[.int .i64 m.a, .int .u16 m.m.toNat, .int .u8 m.p.toNat, .bool m.u]) := Lib.hid ((HM.out.alloc _).drew)
  have HS1 : Hid (Blk (W.alloc (.cells #[.int .u8 y.a.l.toNat, .string ⟨y.a.d.toArray⟩, .string ⟨y.a.n.toArray⟩, .int .u16 y.a.v.toNat, .int .u8 y.a.i.toNat, .slice y.b y.a.m.length y.c] 50)).drew (g + 1) 90 #[.int .u8 0, .int .u16 0, .int .u8 0, .bool false]) := Lib.hid ((HS.out.alloc _).drew)
  have HY1 : Hid (Blk (W.alloc (.cells #[.int .u8 y.a.l.toNat, .string ⟨y.a.d.toArray⟩, .string ⟨y.a.n.toArray⟩, .int .u16 y.a.v.toNat, .int .u8 y.a.i.toNat, .slice y.b y.a.m.length y.c] 50)).drew W.heap.size 50 #[.int .u8 y.a.l.toNat, .string ⟨y.a.d.toArray⟩, .string ⟨y.a.n.toArray⟩, .int .u16 y.a.v.toNat, .int .u8 y.a.i.toNat, .slice y.b y.a.m.length y.c]) := Lib.hid ((Blk.new W 50 _).drew)
  obtain ⟨W1, hW1⟩ : ∃ W1, (W.alloc (.cells #[.int .u8 y.a.l.toNat, .string ⟨y.a.d.toArray⟩, .string ⟨y.a.n.toArray⟩, .int .u16 y.a.v.toNat, .int .u8 y.a.i.toNat, .slice y.b y.a.m.length y.c] 50)).drew = W1 := ⟨_, rfl⟩
  rw [hW1] at HG1 HM1 HS1 HY1
  rw [hW1]
  obtain ⟨gy, hgy⟩ : ∃ gy, W.heap.size = gy := ⟨_, rfl⟩
  rw [hgy] at HY1
  rw [hgy]
  clear hW1 hgy HG HM HS lB lA lM
  have d2 := HM1.out.cell 2
  have d3 := HM1.out.cell 3
  have y0 := HY1.out.cell 0
  have y3 := HY1.out.cell 3
  simp only [List.getElem?_toArray, List.getElem?_cons_succ, List.getElem?_cons_zero] at  d2 d3 y0 y3
  go_wp2_with (refine wpList_store_row rfl 90 (.tmp 4) (.tmp 23) rfl (g + 1) rfl _ rfl 90 _ HS1.out (by kernel_rfl) rfl (by kernel_rfl) ?_)
  refine bodyPost_ret (v := .agg #[.int .u8 m.p.toNat, .int .u16 y.a.v.toNat, .int .u8 y.a.l.toNat, .bool m.u]) (results_cell_one16 (p := 4) (by kernel_rfl) _ _ (g + 1) 90 _ _ rfl (Blk.row HS1.out _) Try.underlying90 rfl (by kernel_rfl)) rfl ?_
  exact ⟨rfl, gro_row HG1.out (by have := HGE.out; omega) _⟩
end
end Go.Proofs.Ytfdiolfelecccaa
