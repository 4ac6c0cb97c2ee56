/- Package frame: read, Take. -/
import Derived.Test.YtlghibgljmpfoaaFrameRd
import Derived.Test.YtlghibgljmpfoaaRow
namespace Go.Proofs.Ytlghibgljmpfoaa
open Go.RowKit
set_option linter.unusedVariables false
set_option linter.unusedSimpArgs false

theorem FrA.zero (w : World) : FrA (w.alloc (.cells #[.int .u8 0, .int .u8 0, .int .u8 0, .int .u8 0, .int .u8 0, .int .u8 0, .int .u8 0, .int .u8 0, .int .u8 0, .int .u8 0, .int .u8 0, .int .u8 0, .bool false, .int .u8 0, .int .u16 0, .int .u16 0, .string ⟨#[]⟩] 26)) w.heap.size Fr.zero := Blk.new w _ _
theorem FrA.setDst {w : World} {g : Nat} {f : Fr} (h : FrA w g f) (a b c d e x : UInt8) : FrA (((((((w).setCell ⟨g, 0, none⟩ (.int .u8 a.toNat)).setCell ⟨g, 1, none⟩ (.int .u8 b.toNat)).setCell ⟨g, 2, none⟩ (.int .u8 c.toNat)).setCell ⟨g, 3, none⟩ (.int .u8 d.toNat)).setCell ⟨g, 4, none⟩ (.int .u8 e.toNat)).setCell ⟨g, 5, none⟩ (.int .u8 x.toNat)) g { f with d0 := a, d1 := b, d2 := c, d3 := d, d4 := e, d5 := x } := by
  have := Blk.put (Blk.put (Blk.put (Blk.put (Blk.put (Blk.put h 0 (.int .u8 a.toNat)) 1 (.int .u8 b.toNat)) 2 (.int .u8 c.toNat)) 3 (.int .u8 d.toNat)) 4 (.int .u8 e.toNat)) 5 (.int .u8 x.toNat)
  simpa [FrA] using this
theorem FrA.setSrc {w : World} {g : Nat} {f : Fr} (h : FrA w g f) (a b c d e x : UInt8) : FrA (((((((w).setCell ⟨g, 6, none⟩ (.int .u8 a.toNat)).setCell ⟨g, 7, none⟩ (.int .u8 b.toNat)).setCell ⟨g, 8, none⟩ (.int .u8 c.toNat)).setCell ⟨g, 9, none⟩ (.int .u8 d.toNat)).setCell ⟨g, 10, none⟩ (.int .u8 e.toNat)).setCell ⟨g, 11, none⟩ (.int .u8 x.toNat)) g { f with s0 := a, s1 := b, s2 := c, s3 := d, s4 := e, s5 := x } := by
  have := Blk.put (Blk.put (Blk.put (Blk.put (Blk.put (Blk.put h 6 (.int .u8 a.toNat)) 7 (.int .u8 b.toNat)) 8 (.int .u8 c.toNat)) 9 (.int .u8 d.toNat)) 10 (.int .u8 e.toNat)) 11 (.int .u8 x.toNat)
  simpa [FrA] using this
/-- read's memory on its way -/
structure RdS (W : World) (b : Nat) (l : List UInt8) (er : Int) (f : Fr) (w : World) : Prop where
  box : Blk w W.heap.size 41 #[.pointer (some ⟨b, 0, none⟩)]
  res : FrA w (W.heap.size + 1) Fr.zero
  cur : FrA w (W.heap.size + 2) f
  rdr : Rdr w b l er
  chg : Chg (only b) W w
  lt : b < W.heap.size
section
variable {W w w' : World} {b : Nat} {l l' : List UInt8} {er er' : Int} {f f' : Fr}
theorem RdS.boxc (h : RdS W b l er f w) : w.cell? ⟨W.heap.size, 0, none⟩ = some (.pointer (some ⟨b, 0, none⟩)) := h.box.cell 0
theorem RdS.call (h : RdS W b l er f w) (hr : Rdr w' b l' er') (hc : Chg (only b) w w') : RdS W b l' er' f w' := by
  have hl := h.lt
  exact ⟨h.box.chg hc (by unfold only; omega), Blk.chg h.res hc (by unfold only; omega), Blk.chg h.cur hc (by unfold only; omega), hr, h.chg.trans hc, hl⟩
theorem RdS.set (h : RdS W b l er f w) {i : Nat} {v : Value} (hf : FrA (w.setCell ⟨W.heap.size + 2, i, none⟩ v) (W.heap.size + 2) f') : RdS W b l er f' (w.setCell ⟨W.heap.size + 2, i, none⟩ v) := by
  have hl := h.lt
  exact ⟨h.box.far (by simp) v, Blk.far h.res (by simp) v, hf, Blk.far h.rdr (by simp; omega) v, h.chg.setCell (.inl (by simp)) v, hl⟩
theorem RdS.setAny (h : RdS W b l er f w) (i : Nat) (v : Value) (hf : FrA (w.setCell ⟨W.heap.size + 2, i, none⟩ v) (W.heap.size + 2) f') : RdS W b l er f' (w.setCell ⟨W.heap.size + 2, i, none⟩ v) := h.set hf
theorem RdS.set6 (h : RdS W b l er f w) (j0 j1 j2 j3 j4 j5 : Nat) (v0 v1 v2 v3 v4 v5 : Value) (hf : FrA ((((((w.setCell ⟨W.heap.size + 2, j0, none⟩ v0).setCell ⟨W.heap.size + 2, j1, none⟩ v1).setCell ⟨W.heap.size + 2, j2, none⟩ v2).setCell ⟨W.heap.size + 2, j3, none⟩ v3).setCell ⟨W.heap.size + 2, j4, none⟩ v4).setCell ⟨W.heap.size + 2, j5, none⟩ v5) (W.heap.size + 2) f') :
    RdS W b l er f' ((((((w.setCell ⟨W.heap.size + 2, j0, none⟩ v0).setCell ⟨W.heap.size + 2, j1, none⟩ v1).setCell ⟨W.heap.size + 2, j2, none⟩ v2).setCell ⟨W.heap.size + 2, j3, none⟩ v3).setCell ⟨W.heap.size + 2, j4, none⟩ v4).setCell ⟨W.heap.size + 2, j5, none⟩ v5) := by
  have hl := h.lt
  have q : ∀ {i : Nat}, W.heap.size ≠ (Addr.mk (W.heap.size + 2) i none).block := by intro i; simp
  have q1 : ∀ {i : Nat}, W.heap.size + 1 ≠ (Addr.mk (W.heap.size + 2) i none).block := by intro i; simp
  have q2 : ∀ {i : Nat}, b ≠ (Addr.mk (W.heap.size + 2) i none).block := by intro i; simp; omega
  have q3 : ∀ {i : Nat}, W.heap.size ≤ (Addr.mk (W.heap.size + 2) i none).block ∨ only b (Addr.mk (W.heap.size + 2) i none).block := by intro i; left; simp
  exact ⟨(((((h.box.far q v0).far q v1).far q v2).far q v3).far q v4).far q v5, Blk.far (Blk.far (Blk.far (Blk.far (Blk.far (Blk.far h.res q1 v0) q1 v1) q1 v2) q1 v3) q1 v4) q1 v5, hf,
    Blk.far (Blk.far (Blk.far (Blk.far (Blk.far (Blk.far h.rdr q2 v0) q2 v1) q2 v2) q2 v3) q2 v4) q2 v5, (((((h.chg.setCell q3 v0).setCell q3 v1).setCell q3 v2).setCell q3 v3).setCell q3 v4).setCell q3 v5, hl⟩
theorem RdS.drew (h : RdS W b l er f w) : RdS W b l er f w.drew := ⟨h.box, h.res, h.cur, h.rdr, h.chg.drew, h.lt⟩
theorem RdS.first (h : Rdr W b l er) : RdS W b l er Fr.zero ((((W.alloc (.cells #[.pointer (some ⟨b, 0, none⟩)] 41)).alloc (.cells #[.int .u8 0, .int .u8 0, .int .u8 0, .int .u8 0, .int .u8 0, .int .u8 0, .int .u8 0, .int .u8 0, .int .u8 0, .int .u8 0, .int .u8 0, .int .u8 0, .bool false, .int .u8 0, .int .u16 0, .int .u16 0, .string ⟨#[]⟩] 26)).alloc (.cells #[.int .u8 0, .int .u8 0, .int .u8 0, .int .u8 0, .int .u8 0, .int .u8 0, .int .u8 0, .int .u8 0, .int .u8 0, .int .u8 0, .int .u8 0, .int .u8 0, .bool false, .int .u8 0, .int .u16 0, .int .u16 0, .string ⟨#[]⟩] 26))) := by
  refine ⟨((Blk.new W _ _).alloc _).alloc _, ?_, ?_, ((Blk.alloc (Blk.alloc (Blk.alloc h _) _) _)), (((Chg.refl _ W).alloc _).alloc _).alloc _, h.lt⟩
  · have := (FrA.zero (W.alloc (.cells #[.pointer (some ⟨b, 0, none⟩)] 41))).alloc (.cells #[.int .u8 0, .int .u8 0, .int .u8 0, .int .u8 0, .int .u8 0, .int .u8 0, .int .u8 0, .int .u8 0, .int .u8 0, .int .u8 0, .int .u8 0, .int .u8 0, .bool false, .int .u8 0, .int .u16 0, .int .u16 0, .string ⟨#[]⟩] 26)
    simpa only [World.size_alloc] using this
  · have := FrA.zero ((W.alloc (.cells #[.pointer (some ⟨b, 0, none⟩)] 41)).alloc (.cells #[.int .u8 0, .int .u8 0, .int .u8 0, .int .u8 0, .int .u8 0, .int .u8 0, .int .u8 0, .int .u8 0, .int .u8 0, .int .u8 0, .int .u8 0, .int .u8 0, .bool false, .int .u8 0, .int .u16 0, .int .u16 0, .string ⟨#[]⟩] 26))
    simpa only [World.size_alloc] using this
end
theorem u16_ex (l : List UInt8) (h : l.length ≤ 2) : ∃ x : UInt16, num l = x.toNat := by
  have := num_lt l
  have : 256 ^ l.length ≤ 256 ^ 2 := Nat.pow_le_pow_right (by omega) h
  exact ⟨UInt16.ofNat (num l), by simp; omega⟩
/-- what read answers of a text -/
def RdOk (W : World) (b : Nat) (l : List UInt8) (r : Ending) (w' : World) : Prop := ∃ f e, r = .returned (.tuple #[FV f, .int .i64 e]) ∧ (e = 0 → f = fofb l) ∧ e = ftakeE l ∧ Chg (only b) W w'
set_option maxHeartbeats 4000000 in
set_option maxRecDepth 100000 in
theorem read_any {W : World} {b : Nat} {l : List UInt8} {er : Int} (her : er = 0) (h : Rdr W b l er) (hl : l.length ≤ 1522) :
    Calls Try.prog 16 #[.pointer (some ⟨b, 0, none⟩)] W (RdOk W b l) := by
  have H0 := Lib.hid (RdS.first h)
  have hmf : ∀ (fn : Fn) (first cap : Array Value) (w : World), (Instr.makeFunc fn first cap).run Try.prog w = .ok (.func fn first cap) w := fun _ _ _ _ => rfl
  have HER := Lib.hid her
  have HL := Lib.hid hl
  clear h her hl
  go_enter Try.func16, Try.ntmps16
  go_wp2_with fail
  refine (addr_any H0.out.boxc H0.out.rdr).mono ?_
  rintro r w1 ⟨rfl, hr1, hc1⟩
  have H1 := Lib.hid (H0.out.call hr1 hc1)
  have H1s := Lib.hid (H1.out.set6 0 1 2 3 4 5 _ _ _ _ _ _ (H1.out.cur.setDst (tk6 l er 0) (tk6 l er 1) (tk6 l er 2) (tk6 l er 3) (tk6 l er 4) (tk6 l er 5)))
  have c0 : w1.cell? ⟨W.heap.size + 2, 0, none⟩ = _ := H1.out.cur.cells.c0
  have f0 : w1.frozen? ⟨W.heap.size + 2, 0, none⟩ = false := H1.out.cur.frozen 0
  have c1 : w1.cell? ⟨W.heap.size + 2, 1, none⟩ = _ := H1.out.cur.cells.c1
  have f1 : w1.frozen? ⟨W.heap.size + 2, 1, none⟩ = false := H1.out.cur.frozen 1
  have c2 : w1.cell? ⟨W.heap.size + 2, 2, none⟩ = _ := H1.out.cur.cells.c2
  have f2 : w1.frozen? ⟨W.heap.size + 2, 2, none⟩ = false := H1.out.cur.frozen 2
  have c3 : w1.cell? ⟨W.heap.size + 2, 3, none⟩ = _ := H1.out.cur.cells.c3
  have f3 : w1.frozen? ⟨W.heap.size + 2, 3, none⟩ = false := H1.out.cur.frozen 3
  have c4 : w1.cell? ⟨W.heap.size + 2, 4, none⟩ = _ := H1.out.cur.cells.c4
  have f4 : w1.frozen? ⟨W.heap.size + 2, 4, none⟩ = false := H1.out.cur.frozen 4
  have c5 : w1.cell? ⟨W.heap.size + 2, 5, none⟩ = _ := H1.out.cur.cells.c5
  have f5 : w1.frozen? ⟨W.heap.size + 2, 5, none⟩ = false := H1.out.cur.frozen 5
  clear hr1 hc1 H0
  go_wp2_with fail
  refine (addr_any H1s.out.boxc H1s.out.rdr).mono ?_
  rintro r w2 ⟨rfl, hr2, hc2⟩
  have H2 := Lib.hid (H1s.out.call hr2 hc2)
  clear hr2 hc2 c0 f0 c1 f1 c2 f2 c3 f3 c4 f4 c5 f5 H1 H1s
  generalize hl1 : tkL 6 l er = l1 at *
  generalize he1 : tkE 6 l er = e1 at *
  have L1 := Lib.hid hl1
  have E1 := Lib.hid he1
  clear hl1 he1
  have H2s := Lib.hid (H2.out.set6 6 7 8 9 10 11 _ _ _ _ _ _ (H2.out.cur.setSrc (tk6 l1 e1 0) (tk6 l1 e1 1) (tk6 l1 e1 2) (tk6 l1 e1 3) (tk6 l1 e1 4) (tk6 l1 e1 5)))
  have c6 : w2.cell? ⟨W.heap.size + 2, 6, none⟩ = _ := H2.out.cur.cells.c6
  have f6 : w2.frozen? ⟨W.heap.size + 2, 6, none⟩ = false := H2.out.cur.frozen 6
  have c7 : w2.cell? ⟨W.heap.size + 2, 7, none⟩ = _ := H2.out.cur.cells.c7
  have f7 : w2.frozen? ⟨W.heap.size + 2, 7, none⟩ = false := H2.out.cur.frozen 7
  have c8 : w2.cell? ⟨W.heap.size + 2, 8, none⟩ = _ := H2.out.cur.cells.c8
  have f8 : w2.frozen? ⟨W.heap.size + 2, 8, none⟩ = false := H2.out.cur.frozen 8
  have c9 : w2.cell? ⟨W.heap.size + 2, 9, none⟩ = _ := H2.out.cur.cells.c9
  have f9 : w2.frozen? ⟨W.heap.size + 2, 9, none⟩ = false := H2.out.cur.frozen 9
  have c10 : w2.cell? ⟨W.heap.size + 2, 10, none⟩ = _ := H2.out.cur.cells.c10
  have f10 : w2.frozen? ⟨W.heap.size + 2, 10, none⟩ = false := H2.out.cur.frozen 10
  have c11 : w2.cell? ⟨W.heap.size + 2, 11, none⟩ = _ := H2.out.cur.cells.c11
  have f11 : w2.frozen? ⟨W.heap.size + 2, 11, none⟩ = false := H2.out.cur.frozen 11
  have hbx2 : w2.cell? ⟨W.heap.size, 0, none⟩ = some (.pointer (some ⟨b, 0, none⟩)) := H2.out.boxc
  go_wp2_with fail
  obtain ⟨x, hx⟩ := u16_ex (tkV 2 (tkL 6 l1 e1) (tkE 6 l1 e1)) (tkV_len _ _ _)
  refine (u16_any H2s.out.rdr).mono ?_
  rw [hx]
  rintro r w3 ⟨rfl, hr3, hc3⟩
  have H3 := Lib.hid (H2s.out.call hr3 hc3)
  have HX := Lib.hid hx
  clear hr3 hc3 hbx2 hx c6 f6 c7 f7 c8 f8 c9 f9 c10 f10 c11 f11 H2 H2s
  generalize hl2 : tkL 6 l1 e1 = l2 at *
  generalize he2 : tkE 6 l1 e1 = e2 at *
  have L2 := Lib.hid hl2
  have E2 := Lib.hid he2
  clear hl2 he2
  generalize hl3 : tkL 2 l2 e2 = l3 at *
  generalize he3 : tkE 2 l2 e2 = e3 at *
  have L3 := Lib.hid hl3
  have E3 := Lib.hid he3
  clear hl3 he3
  have c12 : w3.cell? ⟨W.heap.size + 2, 12, none⟩ = _ := H3.out.cur.cells.c12
  have f12 : w3.frozen? ⟨W.heap.size + 2, 12, none⟩ = false := H3.out.cur.frozen 12
  have c15 : w3.cell? ⟨W.heap.size + 2, 15, none⟩ = _ := H3.out.cur.cells.c15
  have f15 : w3.frozen? ⟨W.heap.size + 2, 15, none⟩ = false := H3.out.cur.frozen 15
  have hbx3 : w3.cell? ⟨W.heap.size, 0, none⟩ = some (.pointer (some ⟨b, 0, none⟩)) := H3.out.boxc
  by_cases hq : x = 33024
  · have hqb : ((x.toNat : Int) == 33024) = true := by rw [hq]; rfl
    have H3s := Lib.hid ((H3.out.set (H3.out.cur.setTy x)).set ((H3.out.cur.setTy x).setTag true))
    have HQ := Lib.hid hq
    clear hq
    go_wp2_with fail
    obtain ⟨m, hm⟩ : ∃ m, num (tkV 2 l3 e3) = m := ⟨_, rfl⟩
    have hml : m < 65536 := by rw [← hm]; exact Nat.lt_of_lt_of_le (num_lt _) (Nat.pow_le_pow_right (by omega) (tkV_len 2 l3 e3))
    refine (tag_any H3s.out.rdr).mono ?_
    rw [hm, show m / 8192 = (UInt8.ofNat (m / 8192)).toNat by simp; omega, show m % 8192 = (UInt16.ofNat (m % 8192)).toNat by simp; omega]
    have HM := Lib.hid hm
    rintro r w4 ⟨rfl, hr4, hc4⟩
    have H4 := Lib.hid (H3s.out.call hr4 hc4)
    clear hr4 hc4 hbx3 c12 f12 c15 f15 H3 H3s hqb hm hml
    have H4s := Lib.hid ((H4.out.set (H4.out.cur.setPri (UInt8.ofNat (m / 8192)))).set ((H4.out.cur.setPri (UInt8.ofNat (m / 8192))).setVid (UInt16.ofNat (m % 8192))))
    generalize hl4 : tkL 2 l3 e3 = l4 at *
    generalize he4 : tgE l3 e3 = e4 at *
    have L4 := Lib.hid hl4
    have E4 := Lib.hid he4
    clear hl4 he4
    have c13 : w4.cell? ⟨W.heap.size + 2, 13, none⟩ = _ := H4.out.cur.cells.c13
    have f13 : w4.frozen? ⟨W.heap.size + 2, 13, none⟩ = false := H4.out.cur.frozen 13
    have c14 : w4.cell? ⟨W.heap.size + 2, 14, none⟩ = _ := H4.out.cur.cells.c14
    have f14 : w4.frozen? ⟨W.heap.size + 2, 14, none⟩ = false := H4.out.cur.frozen 14
    have c15 : w4.cell? ⟨W.heap.size + 2, 15, none⟩ = _ := H4.out.cur.cells.c15
    have f15 : w4.frozen? ⟨W.heap.size + 2, 15, none⟩ = false := H4.out.cur.frozen 15
    have hbx4 : w4.cell? ⟨W.heap.size, 0, none⟩ = some (.pointer (some ⟨b, 0, none⟩)) := H4.out.boxc
    go_wp2_with fail
    obtain ⟨z, hz⟩ := u16_ex (tkV 2 l4 e4) (tkV_len _ _ _)
    refine (u16_any H4s.out.rdr).mono ?_
    rw [hz]
    rintro r w5 ⟨rfl, hr5, hc5⟩
    have H5 := Lib.hid (H4s.out.call hr5 hc5)
    have HZ := Lib.hid hz
    clear hr5 hc5 hbx4 hz c13 f13 c14 f14 c15 f15 H4 H4s
    have H5s := Lib.hid (H5.out.set (H5.out.cur.setTy z))
    generalize hl5 : tkL 2 l4 e4 = l5 at *
    generalize he5 : tkE 2 l4 e4 = e5 at *
    have L5 := Lib.hid hl5
    have E5 := Lib.hid he5
    clear hl5 he5
    have c15 : w5.cell? ⟨W.heap.size + 2, 15, none⟩ = _ := H5.out.cur.cells.c15
    have f15 : w5.frozen? ⟨W.heap.size + 2, 15, none⟩ = false := H5.out.cur.frozen 15
    have hbx5 : w5.cell? ⟨W.heap.size, 0, none⟩ = some (.pointer (some ⟨b, 0, none⟩)) := H5.out.boxc
    go_wp2_with fail
    refine (rest_any H5s.out.rdr).mono ?_
    rintro r w6 ⟨rfl, hr6, hc6⟩
    have H6 := Lib.hid (H5s.out.call hr6 hc6)
    clear hr6 hc6 hbx5 c15 f15 H5 H5s
    have H6s := Lib.hid (H6.out.set (H6.out.cur.setData (tkV l5.length l5 e5)))
    have c16 : w6.cell? ⟨W.heap.size + 2, 16, none⟩ = _ := H6.out.cur.cells.c16
    have f16 : w6.frozen? ⟨W.heap.size + 2, 16, none⟩ = false := H6.out.cur.frozen 16
    have hbx6 : w6.cell? ⟨W.heap.size, 0, none⟩ = some (.pointer (some ⟨b, 0, none⟩)) := H6.out.boxc
    go_upto_region 11 with (fail)
    have hbd : (w6.setCell ⟨W.heap.size + 2, 16, none⟩ (.string ⟨(tkV l5.length l5 e5).toArray⟩)).drew.cell? ⟨W.heap.size, 0, none⟩ = some (.pointer (some ⟨b, 0, none⟩)) := H6s.out.boxc
    have HD := Lib.hid H6s.out.drew
    clear hbx6 c16 f16
    generalize w6.setCell ⟨W.heap.size + 2, 16, none⟩ (.string ⟨(tkV l5.length l5 e5).toArray⟩) = wE at *
    refine wp_region_still_tail 3 (by kernel_rfl) (by kernel_rfl) ?_
    simp only [List.take_succ_cons, List.take_zero, List.drop_succ_cons, List.drop_zero]
    refine still_row 26 5 rfl (by kernel_rfl) (W.heap.size + 2) rfl 26 _ _ HD.out.cur Try.underlying26 rfl (by kernel_rfl) ?_
    simp only [Act.put, List.setIfInBounds_toArray, List.set_cons_zero, List.set_cons_succ]
    still_step
    still_call ((err_any HD.out.rdr).mono (fun _ _ h => ⟨h.1, h.2.symm⟩))
    refine wpStill_nil ?_
    change wpList _ _ _ _ _ wE.drew
    go_wp2_with (refine wpList_store_row rfl 26 (.tmp 2) (.tmp 33) rfl (W.heap.size + 1) rfl _ rfl 26 _ HD.out.res (by kernel_rfl) rfl (by kernel_rfl) ?_)
    refine bodyPost_ret (v := .tuple #[FV ⟨tk6 l er 0, tk6 l er 1, tk6 l er 2, tk6 l er 3, tk6 l er 4, tk6 l er 5, tk6 l1 e1 0, tk6 l1 e1 1, tk6 l1 e1 2, tk6 l1 e1 3, tk6 l1 e1 4, tk6 l1 e1 5, true, UInt8.ofNat (m / 8192), UInt16.ofNat (m % 8192), z, tkV l5.length l5 e5⟩, .int .i64 e5]) (results_cell_slot (p := 2) (q := 3) (by kernel_rfl) _ _ (W.heap.size + 1) 26 _ _ rfl (Blk.row HD.out.res _) Try.underlying26 rfl (by kernel_rfl) _ rfl) rfl ?_
    exact ⟨_, _, rfl, (rd_tag HER.out HL.out L1.out E1.out L2.out E2.out HX.out L3.out E3.out HQ.out HM.out L4.out E4.out HZ.out L5.out E5.out).1, (rd_tag HER.out HL.out L1.out E1.out L2.out E2.out HX.out L3.out E3.out HQ.out HM.out L4.out E4.out HZ.out L5.out E5.out).2, HD.out.chg.setRow (.inl (by omega)) _⟩
  · have hqb : ((x.toNat : Int) == 33024) = false := by rw [show ((x.toNat : Int) == 33024) = (x == 33024) from u16_beq x 33024]; simpa using hq
    have H3s := Lib.hid (H3.out.set (H3.out.cur.setTy x))
    go_wp2_with fail
    refine (rest_any H3s.out.rdr).mono ?_
    rintro r w4 ⟨rfl, hr4, hc4⟩
    have H4 := Lib.hid (H3s.out.call hr4 hc4)
    clear hr4 hc4 hbx3 c12 f12 c15 f15 H3 H3s hqb
    have H4s := Lib.hid (H4.out.set (H4.out.cur.setData (tkV l3.length l3 e3)))
    have c16 : w4.cell? ⟨W.heap.size + 2, 16, none⟩ = _ := H4.out.cur.cells.c16
    have f16 : w4.frozen? ⟨W.heap.size + 2, 16, none⟩ = false := H4.out.cur.frozen 16
    have hbx4 : w4.cell? ⟨W.heap.size, 0, none⟩ = some (.pointer (some ⟨b, 0, none⟩)) := H4.out.boxc
    go_upto_region 11 with (fail)
    have hbd : (w4.setCell ⟨W.heap.size + 2, 16, none⟩ (.string ⟨(tkV l3.length l3 e3).toArray⟩)).drew.cell? ⟨W.heap.size, 0, none⟩ = some (.pointer (some ⟨b, 0, none⟩)) := H4s.out.boxc
    have HD := Lib.hid H4s.out.drew
    clear hbx4 c16 f16
    generalize w4.setCell ⟨W.heap.size + 2, 16, none⟩ (.string ⟨(tkV l3.length l3 e3).toArray⟩) = wE at *
    refine wp_region_still_tail 3 (by kernel_rfl) (by kernel_rfl) ?_
    simp only [List.take_succ_cons, List.take_zero, List.drop_succ_cons, List.drop_zero]
    refine still_row 26 5 rfl (by kernel_rfl) (W.heap.size + 2) rfl 26 _ _ HD.out.cur Try.underlying26 rfl (by kernel_rfl) ?_
    simp only [Act.put, List.setIfInBounds_toArray, List.set_cons_zero, List.set_cons_succ]
    still_step
    still_call ((err_any HD.out.rdr).mono (fun _ _ h => ⟨h.1, h.2.symm⟩))
    refine wpStill_nil ?_
    change wpList _ _ _ _ _ wE.drew
    go_wp2_with (refine wpList_store_row rfl 26 (.tmp 2) (.tmp 33) rfl (W.heap.size + 1) rfl _ rfl 26 _ HD.out.res (by kernel_rfl) rfl (by kernel_rfl) ?_)
    refine bodyPost_ret (v := .tuple #[FV ⟨tk6 l er 0, tk6 l er 1, tk6 l er 2, tk6 l er 3, tk6 l er 4, tk6 l er 5, tk6 l1 e1 0, tk6 l1 e1 1, tk6 l1 e1 2, tk6 l1 e1 3, tk6 l1 e1 4, tk6 l1 e1 5, false, 0, 0, x, tkV l3.length l3 e3⟩, .int .i64 e3]) (results_cell_slot (p := 2) (q := 3) (by kernel_rfl) _ _ (W.heap.size + 1) 26 _ _ rfl (Blk.row HD.out.res _) Try.underlying26 rfl (by kernel_rfl) _ rfl) rfl ?_
    exact ⟨_, _, rfl, (rd_bare HER.out HL.out L1.out E1.out L2.out E2.out HX.out L3.out E3.out hq).1, (rd_bare HER.out HL.out L1.out E1.out L2.out E2.out HX.out L3.out E3.out hq).2, HD.out.chg.setRow (.inl (by omega)) _⟩

set_option maxHeartbeats 2000000 in
theorem take_impl : TakeC := by
  intro W s hs
  have HB0 := Lib.hid ((Below.refl W.heap.size W).alloc (Nat.le_refl _) (.cells #[.int .u8 0, .int .u8 0, .int .u8 0, .int .u8 0, .int .u8 0, .int .u8 0, .int .u8 0, .int .u8 0, .int .u8 0, .int .u8 0, .int .u8 0, .int .u8 0, .bool false, .int .u8 0, .int .u16 0, .int .u16 0, .string ⟨#[]⟩] 26))
  have HF0 := Lib.hid (FrA.zero W)
  by_cases hl : 1522 < s.length
  · have hE : ftakeE s = 5 := by unfold ftakeE; rw [if_pos hl]
    have hF : ftakeF s = Fr.zero := by unfold ftakeF; rw [if_neg (by rw [hE]; decide)]
    have HE := Lib.hid hE
    have HF := Lib.hid hF
    have hb : decide ((1522 : Int) < (s.length : Int)) = true := by simp; omega
    clear hE hF
    go_enter Try.func10, Try.ntmps10
    go_wp2_with (refine wpList_store_row rfl 26 (.tmp 2) (.tmp 9) rfl W.heap.size rfl _ rfl 26 _ HF0.out (by kernel_rfl) rfl (by kernel_rfl) ?_)
    refine bodyPost_ret (v := .tuple #[FV Fr.zero, .int .i64 5]) (results_cell_slot (p := 2) (q := 3) (by kernel_rfl) _ _ W.heap.size 26 _ _ rfl (Blk.row HF0.out _) Try.underlying26 rfl (by kernel_rfl) _ rfl) rfl ?_
    exact ⟨by rw [HE.out, HF.out], below_row HB0.out (Nat.le_refl _) _⟩
  · have hb : decide ((1522 : Int) < (s.length : Int)) = false := by simp; omega
    go_enter Try.func10, Try.ntmps10
    go_wp2_with fail
    refine (of_any s).mono ?_
    rintro r w1 ⟨rfl, hr1, hb1⟩
    have HF1 := Lib.hid (HF0.out.next hb1)
    have HB1 : Hid (Below W.heap.size W w1) := Lib.hid (HB0.out.trans (hb1.mono (by simp only [World.size_alloc]; omega)))
    simp only [World.size_alloc] at hr1
    have hz1 : W.heap.size + 1 < w1.heap.size := hr1.lt
    clear hb1 HF0 HB0 hb
    go_wp2_with fail
    refine (read_any rfl hr1 (by omega)).mono ?_
    rintro r w2 ⟨f, e, rfl, hf, he, hc2⟩
    have HF2 : Hid (FrA w2 W.heap.size Fr.zero) := Lib.hid (Blk.chg HF1.out hc2 (by unfold only; omega))
    have HB2 := Lib.hid (HB1.out.trans (hc2.below (B := W.heap.size) HB1.out.size (by unfold only; intro k hk hk'; omega)))
    have hz2 : W.heap.size < w2.heap.size := HF2.out.lt
    have HN2 := Lib.hid (FrA.zero w2)
    clear hr1 hc2 HF1 HB1 hl
    subst he
    by_cases hq : ftakeE s = 0
    · have hF : ftakeF s = f := by unfold ftakeF; rw [if_pos hq, hf hq]
      have HF := Lib.hid hF
      have HQ := Lib.hid hq
      have hqb : (ftakeE s != 0) = false := by rw [hq]; rfl
      clear hq hF hf
      go_wp2_with (first
        | (refine wpList_store_row rfl 26 (.tmp 4) (.tmp 14) rfl w2.heap.size rfl _ rfl 26 _ HN2.out (by kernel_rfl) rfl (by kernel_rfl) ?_)
        | (refine wpList_load_frame 4 rfl (by kernel_rfl) w2.heap.size f rfl (Blk.row HN2.out _) ?_)
        | (refine wpList_store_row rfl 26 (.tmp 2) (.tmp 20) rfl W.heap.size rfl _ rfl 26 _ (Blk.rowFar (Blk.alloc HF2.out _) (by omega) _) (by kernel_rfl) rfl (by kernel_rfl) ?_))
      refine bodyPost_ret (v := .tuple #[FV f, .int .i64 0]) (results_cell_slot (p := 2) (q := 3) (by kernel_rfl) _ _ W.heap.size 26 _ _ rfl (Blk.row (Blk.rowFar (Blk.alloc HF2.out _) (by omega) _) _) Try.underlying26 rfl (by kernel_rfl) _ rfl) rfl ?_
      exact ⟨by rw [HQ.out, HF.out], below_row (below_row (HB2.out.alloc HB2.out.size _) (by omega) _) (Nat.le_refl _) _⟩
    · have hF : ftakeF s = Fr.zero := by unfold ftakeF; rw [if_neg hq]
      have HF := Lib.hid hF
      have hqb : (ftakeE s != 0) = true := by simpa using hq
      clear hq hF hf
      go_wp2_with (first
        | (refine wpList_store_row rfl 26 (.tmp 4) (.tmp 14) rfl w2.heap.size rfl _ rfl 26 _ HN2.out (by kernel_rfl) rfl (by kernel_rfl) ?_)
        | (refine wpList_store_row rfl 26 (.tmp 2) (.tmp 18) rfl W.heap.size rfl _ rfl 26 _ (Blk.rowFar (Blk.alloc HF2.out _) (by omega) _) (by kernel_rfl) rfl (by kernel_rfl) ?_))
      refine bodyPost_ret (v := .tuple #[FV Fr.zero, .int .i64 (ftakeE s)]) (results_cell_slot (p := 2) (q := 3) (by kernel_rfl) _ _ W.heap.size 26 _ _ rfl (Blk.row (Blk.rowFar (Blk.alloc HF2.out _) (by omega) _) _) Try.underlying26 rfl (by kernel_rfl) _ rfl) rfl ?_
      exact ⟨by rw [HF.out], below_row (below_row (HB2.out.alloc HB2.out.size _) (by omega) _) (Nat.le_refl _) _⟩
end Go.Proofs.Ytlghibgljmpfoaa
