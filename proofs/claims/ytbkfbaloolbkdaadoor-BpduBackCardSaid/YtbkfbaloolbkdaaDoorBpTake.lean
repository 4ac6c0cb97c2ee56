/- Package bpdu: readVector, read. -/
import Derived.Test.YtbkfbaloolbkdaaDoorBpRead
import Derived.Deep.DeepCutAuto
namespace Go.Proofs.YtbkfbaloolbkdaaDoor
open Go.RowKit
set_option linter.unusedVariables false
set_option linter.unusedSimpArgs false
set_option maxRecDepth 100000

/-- a block that holds a vector -/
def VB (w : World) (g : Nat) (x : Ve) : Prop := Blk w g 31 #[.int .u64 x.r, .int .u32 x.c, .int .u64 x.b, .int .u8 x.p]
section
variable {w w' : World} {g : Nat} {x : Ve}
theorem VB.setR (h : VB w g x) (b : Int) : VB (w.setCell ⟨g, 0, none⟩ (.int .u64 b)) g { x with r := b } := by simpa [VB] using Blk.put h 0 (.int .u64 b)
theorem VB.setC (h : VB w g x) (b : Int) : VB (w.setCell ⟨g, 1, none⟩ (.int .u32 b)) g { x with c := b } := by simpa [VB] using Blk.put h 1 (.int .u32 b)
theorem VB.setB (h : VB w g x) (b : Int) : VB (w.setCell ⟨g, 2, none⟩ (.int .u64 b)) g { x with b := b } := by simpa [VB] using Blk.put h 2 (.int .u64 b)
theorem VB.setP (h : VB w g x) (b : Int) : VB (w.setCell ⟨g, 3, none⟩ (.int .u8 b)) g { x with p := b } := by simpa [VB] using Blk.put h 3 (.int .u8 b)
end
/-- readVector's memory on its way -/
structure RvS (W : World) (b : Nat) (l : List UInt8) (er : Int) (x : Ve) (w : World) : Prop where
  res : VB w W.heap.size ⟨0, 0, 0, 0⟩
  cur : VB w (W.heap.size + 1) x
  rdr : Rdr w b l er
  chg : Chg (only b) W w
  lt : b < W.heap.size
section
variable {W w w' : World} {b : Nat} {l l' : List UInt8} {er er' : Int} {x x' : Ve}
theorem RvS.call (h : RvS W b l er x w) (hr : Rdr w' b l' er') (hc : Chg (only b) w w') : RvS W b l' er' x w' := by
  have hl := h.lt
  exact ⟨Blk.chg h.res hc (by unfold only; omega), Blk.chg h.cur hc (by unfold only; omega), hr, h.chg.trans hc, hl⟩
theorem RvS.set (h : RvS W b l er x w) {i : Nat} {v : Value} (hf : VB (w.setCell ⟨W.heap.size + 1, i, none⟩ v) (W.heap.size + 1) x') : RvS W b l er x' (w.setCell ⟨W.heap.size + 1, i, none⟩ v) := by
  have hl := h.lt
  exact ⟨Blk.far h.res (by simp) v, hf, Blk.far h.rdr (by simp; omega) v, h.chg.setCell (.inl (by simp)) v, hl⟩
theorem RvS.first (h : Rdr W b l er) : RvS W b l er ⟨0, 0, 0, 0⟩ ((W.alloc (.cells #[.int .u64 0, .int .u32 0, .int .u64 0, .int .u8 0] 31)).alloc (.cells #[.int .u64 0, .int .u32 0, .int .u64 0, .int .u8 0] 31)) := by
  refine ⟨Blk.alloc (Blk.new W _ _) _, ?_, Blk.alloc (Blk.alloc h _) _, ((Chg.refl _ W).alloc _).alloc _, h.lt⟩
  have := Blk.new (W.alloc (.cells #[.int .u64 0, .int .u32 0, .int .u64 0, .int .u8 0] 31)) 31 #[.int .u64 0, .int .u32 0, .int .u64 0, .int .u8 0]
  exact (by simpa only [World.size_alloc] using this : Blk _ (W.heap.size + 1) _ _)
end
set_option maxHeartbeats 1000000 in
theorem readvec_any {W : World} {b : Nat} {l : List UInt8} {er : Int} (h : Rdr W b l er) :
    Calls Tryd.prog 36 #[.pointer (some ⟨b, 0, none⟩)] W fun r w' => r = .returned (VV (rvX l er)) ∧ Rdr w' b (rvL l er) (rvE l er) ∧ Chg (only b) W w' := by
  have H0s := Lib.hid (RvS.first h)
  clear h
  go_enter Tryd.func36, Tryd.ntmps36
  go_wp2_with fail
  refine (u64_any H0s.out.rdr).mono ?_
  obtain ⟨n1, hn1⟩ : ∃ n, num (tkV 8 l er) = n := ⟨_, rfl⟩
  obtain ⟨l1, hl1⟩ : ∃ n, tkL 8 l er = n := ⟨_, rfl⟩
  obtain ⟨e1, he1⟩ : ∃ n, tkE 8 l er = n := ⟨_, rfl⟩
  rw [hn1, hl1, he1]
  have X1 := Lib.hid hn1
  have Y1 := Lib.hid hl1
  have Z1 := Lib.hid he1
  clear hn1 hl1 he1
  rintro r w1 ⟨rfl, hr1, hc1⟩
  have H1 := Lib.hid (H0s.out.call hr1 hc1)
  have H1s := Lib.hid (H1.out.set (H1.out.cur.setR (n1 : Int)))
  clear hr1 hc1 
  have c0 : w1.cell? ⟨W.heap.size + 1, 0, none⟩ = _ := Blk.cell H1.out.cur 0
  have f0 : w1.frozen? ⟨W.heap.size + 1, 0, none⟩ = false := Blk.frozen H1.out.cur 0
  go_wp2_with fail
  refine (u32_any H1s.out.rdr).mono ?_
  obtain ⟨n2, hn2⟩ : ∃ n, num (tkV 4 l1 e1) = n := ⟨_, rfl⟩
  obtain ⟨l2, hl2⟩ : ∃ n, tkL 4 l1 e1 = n := ⟨_, rfl⟩
  obtain ⟨e2, he2⟩ : ∃ n, tkE 4 l1 e1 = n := ⟨_, rfl⟩
  rw [hn2, hl2, he2]
  have X2 := Lib.hid hn2
  have Y2 := Lib.hid hl2
  have Z2 := Lib.hid he2
  clear hn2 hl2 he2
  rintro r w2 ⟨rfl, hr2, hc2⟩
  have H2 := Lib.hid (H1s.out.call hr2 hc2)
  have H2s := Lib.hid (H2.out.set (H2.out.cur.setC (n2 : Int)))
  clear hr2 hc2 c0 f0
  have c1 : w2.cell? ⟨W.heap.size + 1, 1, none⟩ = _ := Blk.cell H2.out.cur 1
  have f1 : w2.frozen? ⟨W.heap.size + 1, 1, none⟩ = false := Blk.frozen H2.out.cur 1
  go_wp2_with fail
  refine (u64_any H2s.out.rdr).mono ?_
  obtain ⟨n3, hn3⟩ : ∃ n, num (tkV 8 l2 e2) = n := ⟨_, rfl⟩
  obtain ⟨l3, hl3⟩ : ∃ n, tkL 8 l2 e2 = n := ⟨_, rfl⟩
  obtain ⟨e3, he3⟩ : ∃ n, tkE 8 l2 e2 = n := ⟨_, rfl⟩
  rw [hn3, hl3, he3]
  have X3 := Lib.hid hn3
  have Y3 := Lib.hid hl3
  have Z3 := Lib.hid he3
  clear hn3 hl3 he3
  rintro r w3 ⟨rfl, hr3, hc3⟩
  have H3 := Lib.hid (H2s.out.call hr3 hc3)
  have H3s := Lib.hid (H3.out.set (H3.out.cur.setB (n3 : Int)))
  clear hr3 hc3 c1 f1
  have c2 : w3.cell? ⟨W.heap.size + 1, 2, none⟩ = _ := Blk.cell H3.out.cur 2
  have f2 : w3.frozen? ⟨W.heap.size + 1, 2, none⟩ = false := Blk.frozen H3.out.cur 2
  go_wp2_with fail
  refine (u8_any H3s.out.rdr).mono ?_
  obtain ⟨n4, hn4⟩ : ∃ n, num (tkV 1 l3 e3) = n := ⟨_, rfl⟩
  obtain ⟨l4, hl4⟩ : ∃ n, tkL 1 l3 e3 = n := ⟨_, rfl⟩
  obtain ⟨e4, he4⟩ : ∃ n, tkE 1 l3 e3 = n := ⟨_, rfl⟩
  rw [hn4, hl4, he4]
  have X4 := Lib.hid hn4
  have Y4 := Lib.hid hl4
  have Z4 := Lib.hid he4
  clear hn4 hl4 he4
  rintro r w4 ⟨rfl, hr4, hc4⟩
  have H4 := Lib.hid (H3s.out.call hr4 hc4)
  have H4s := Lib.hid (H4.out.set (H4.out.cur.setP (n4 : Int)))
  clear hr4 hc4 c2 f2
  have c3 : w4.cell? ⟨W.heap.size + 1, 3, none⟩ = _ := Blk.cell H4.out.cur 3
  have f3 : w4.frozen? ⟨W.heap.size + 1, 3, none⟩ = false := Blk.frozen H4.out.cur 3
  go_upto_region 6 with (fail)
  clear c3 f3
  generalize w4.setCell ⟨W.heap.size + 1, 3, none⟩ (.int .u8 n4) = w5 at *
  go_wp2_with (first
    | (refine wpList_load_row rfl 31 (.tmp 3) rfl (W.heap.size + 1) rfl _ _ (0, 0) _ (H4s.out.cur) Tryd.underlying31 rfl (by kernel_rfl) ?_)
    | (refine wpList_store_row rfl 31 (.tmp 2) (.tmp 16) rfl W.heap.size rfl _ rfl 31 _ H4s.out.res (by kernel_rfl) rfl (by kernel_rfl) ?_))
  have e0 : rvX l er = ⟨n1, n2, n3, n4⟩ := by unfold rvX; rw [X1.out, Y1.out, Z1.out, X2.out, Y2.out, Z2.out, X3.out, Y3.out, Z3.out, X4.out]
  have e1 : rvL l er = l4 := by unfold rvL; rw [Y1.out, Z1.out, Y2.out, Z2.out, Y3.out, Z3.out, Y4.out]
  have e2 : rvE l er = e4 := by unfold rvE; rw [Y1.out, Z1.out, Y2.out, Z2.out, Y3.out, Z3.out, Z4.out]
  have hlt := H4s.out.lt
  exact bodyPost_ret (v := VV ⟨n1, n2, n3, n4⟩) (results_cell_row (p := 2) (by kernel_rfl) _ _ W.heap.size 31 _ (0, 0) _ rfl (Blk.row H4s.out.res _) Tryd.underlying31 rfl (by kernel_rfl)) rfl
    ⟨by rw [e0], by rw [e1, e2]; exact Blk.rowFar H4s.out.rdr (by omega) _, H4s.out.chg.setRow (.inl (Nat.le_refl _)) _⟩
/-- read's memory on its way -/
structure RbS (W : World) (b g : Nat) (l : List UInt8) (er : Int) (x : Bp) (w : World) : Prop where
  res : BpA 33 w W.heap.size Bp.zero
  cur : BpA 33 w g x
  rdr : Rdr w b l er
  chg : Chg (only b) W w
  lt : b < W.heap.size
  hg : W.heap.size < g
section
variable {W w w' : World} {b g : Nat} {l l' : List UInt8} {er er' : Int} {x x' : Bp}
theorem RbS.call (h : RbS W b g l er x w) (hr : Rdr w' b l' er') (hc : Chg (only b) w w') : RbS W b g l' er' x w' := by
  have hl := h.lt
  have hg := h.hg
  exact ⟨Blk.chg h.res hc (by unfold only; omega), Blk.chg h.cur hc (by unfold only; omega), hr, h.chg.trans hc, hl, hg⟩
theorem RbS.far (h : RbS W b g l er x w) (i : Nat) (v : Value) : BpA 33 (w.setCell ⟨g, i, none⟩ v) W.heap.size Bp.zero ∧ Rdr (w.setCell ⟨g, i, none⟩ v) b l er ∧ Chg (only b) W (w.setCell ⟨g, i, none⟩ v) := by
  have hl := h.lt
  have hg := h.hg
  exact ⟨Blk.far h.res (by simp; omega) v, Blk.far h.rdr (by simp; omega) v, h.chg.setCell (.inl (by simp; omega)) v⟩
theorem RbS.set (h : RbS W b g l er x w) {i : Nat} {v : Value} (hf : BpA 33 (w.setCell ⟨g, i, none⟩ v) g x') : RbS W b g l er x' (w.setCell ⟨g, i, none⟩ v) :=
  ⟨(h.far i v).1, hf, (h.far i v).2.1, (h.far i v).2.2, h.lt, h.hg⟩
theorem RbS.set3 (h : RbS W b g l er x w) {i1 i2 i3 : Nat} {v1 v2 v3 : Value} (hf : BpA 33 (((w.setCell ⟨g, i1, none⟩ v1).setCell ⟨g, i2, none⟩ v2).setCell ⟨g, i3, none⟩ v3) g x') : RbS W b g l er x' (((w.setCell ⟨g, i1, none⟩ v1).setCell ⟨g, i2, none⟩ v2).setCell ⟨g, i3, none⟩ v3) := by
  have hl := h.lt
  have hg := h.hg
  have q0 : ∀ {i : Nat}, W.heap.size ≠ (Addr.mk g i none).block := by intro i; simp; omega
  have q2 : ∀ {i : Nat}, b ≠ (Addr.mk g i none).block := by intro i; simp; omega
  have q3 : ∀ {i : Nat}, W.heap.size ≤ (Addr.mk g i none).block ∨ only b (Addr.mk g i none).block := by intro i; left; simp; omega
  exact ⟨Blk.far (Blk.far (Blk.far h.res q0 v1) q0 v2) q0 v3, hf, Blk.far (Blk.far (Blk.far h.rdr q2 v1) q2 v2) q2 v3, ((h.chg.setCell q3 v1).setCell q3 v2).setCell q3 v3, hl, hg⟩
theorem RbS.set4 (h : RbS W b g l er x w) {i1 i2 i3 i4 : Nat} {v1 v2 v3 v4 : Value} (hf : BpA 33 ((((w.setCell ⟨g, i1, none⟩ v1).setCell ⟨g, i2, none⟩ v2).setCell ⟨g, i3, none⟩ v3).setCell ⟨g, i4, none⟩ v4) g x') : RbS W b g l er x' ((((w.setCell ⟨g, i1, none⟩ v1).setCell ⟨g, i2, none⟩ v2).setCell ⟨g, i3, none⟩ v3).setCell ⟨g, i4, none⟩ v4) := by
  have hl := h.lt
  have hg := h.hg
  have q0 : ∀ {i : Nat}, W.heap.size ≠ (Addr.mk g i none).block := by intro i; simp; omega
  have q2 : ∀ {i : Nat}, b ≠ (Addr.mk g i none).block := by intro i; simp; omega
  have q3 : ∀ {i : Nat}, W.heap.size ≤ (Addr.mk g i none).block ∨ only b (Addr.mk g i none).block := by intro i; left; simp; omega
  exact ⟨Blk.far (Blk.far (Blk.far (Blk.far h.res q0 v1) q0 v2) q0 v3) q0 v4, hf, Blk.far (Blk.far (Blk.far (Blk.far h.rdr q2 v1) q2 v2) q2 v3) q2 v4, (((h.chg.setCell q3 v1).setCell q3 v2).setCell q3 v3).setCell q3 v4, hl, hg⟩
theorem RbS.first (hres : BpA 33 w W.heap.size Bp.zero) (hr : Rdr w b l er) (hc : Chg (only b) W w) (hl : b < W.heap.size) : RbS W b w.heap.size l er Bp.zero (w.alloc (.cells #[.int .u64 0, .int .u32 0, .int .u64 0, .int .u8 0, .int .u8 0, .int .u64 0, .int .u8 0, .bool false, .bool false, .bool false, .int .u64 0] 33)) :=
  ⟨hres.alloc _, BpA.zero _ _, Blk.alloc hr _, hc.alloc _, hl, hres.lt⟩
end
/-- what read answers of a text -/
def RdB (W : World) (b : Nat) (l : List UInt8) (r : Ending) (w' : World) : Prop := ∃ x l' e, r = .returned (BV x) ∧ Rdr w' b l' e ∧ Chg (only b) W w' ∧ (bhead l = true → x = bof l ∧ l' = l.drop 42 ∧ e = 0) ∧ (bhead l = false → e = 4)
set_option maxHeartbeats 2000000 in
theorem read_ok {W : World} {b : Nat} {l : List UInt8} (hl : 42 ≤ l.length) (h : Rdr W b l 0) (hm : num (tkV 2 l 0) = 17229) :
    Calls Tryd.prog 22 #[.pointer (some ⟨b, 0, none⟩)] W (RdB W b l) := by
  have HL := Lib.hid hl
  have HLT := Lib.hid h.lt
  have HZ : Hid (BpA 33 (W.alloc (.cells #[.int .u64 0, .int .u32 0, .int .u64 0, .int .u8 0, .int .u8 0, .int .u64 0, .int .u8 0, .bool false, .bool false, .bool false, .int .u64 0] 33)) W.heap.size Bp.zero) := Lib.hid (BpA.zero _ _)
  have HR : Hid (Rdr (W.alloc (.cells #[.int .u64 0, .int .u32 0, .int .u64 0, .int .u8 0, .int .u8 0, .int .u64 0, .int .u8 0, .bool false, .bool false, .bool false, .int .u64 0] 33)) b l 0) := Lib.hid (Blk.alloc h _)
  have HC : Hid (Chg (only b) W (W.alloc (.cells #[.int .u64 0, .int .u32 0, .int .u64 0, .int .u8 0, .int .u8 0, .int .u64 0, .int .u8 0, .bool false, .bool false, .bool false, .int .u64 0] 33))) := Lib.hid ((Chg.refl _ W).alloc _)
  have hq : (((num (tkV 2 l 0) : Nat) : Int) != 17229) = false := by rw [hm]; rfl
  clear h hl
  go_enter Tryd.func22, Tryd.ntmps22
  go_wp2_with fail
  refine (u16_any HR.out).mono ?_
  obtain ⟨n0, hn0⟩ : ∃ n, num (tkV 2 l 0) = n := ⟨_, rfl⟩
  obtain ⟨l1, hl1⟩ : ∃ n, tkL 2 l 0 = n := ⟨_, rfl⟩
  rw [hn0] at hq
  rw [hn0, hl1]
  have HL1 := Lib.hid hl1
  have HN0 := Lib.hid hn0
  have HM := Lib.hid hm
  clear hl1 hn0 hm
  rintro r w0 ⟨rfl, hr0, hc0⟩
  have HZ0 : Hid (BpA 33 w0 W.heap.size Bp.zero) := Lib.hid (Blk.chg HZ.out hc0 (by unfold only; have := HLT.out; omega))
  have HR0 := Lib.hid hr0
  have HC0 := Lib.hid (HC.out.trans hc0)
  clear hr0 hc0 HZ HR HC
  obtain ⟨e1, he1⟩ : ∃ n, tkE 2 l 0 = n := ⟨_, rfl⟩
  rw [he1] at HR0
  have HG1 : Hid ((num (tkV 2 l 0) = 17229 ∧ tkE 2 l 0 = e1) ∨ (num (tkV 2 l 0) ≠ 17229 ∧ bdE (tkE 2 l 0) = e1)) := Lib.hid (.inl ⟨HM.out, he1⟩)
  clear he1
  have w1 := w0
  have H1s := Lib.hid (RbS.first HZ0.out HR0.out HC0.out HLT.out)
  obtain ⟨g, hg⟩ : ∃ g, w0.heap.size = g := ⟨_, rfl⟩
  rw [hg] at H1s
  go_wp2_with fail
  refine (u8_any H1s.out.rdr).mono ?_
  obtain ⟨n2, hn2⟩ : ∃ n, num (tkV 1 l1 e1) = n := ⟨_, rfl⟩
  obtain ⟨l2, hl2⟩ : ∃ n, tkL 1 l1 e1 = n := ⟨_, rfl⟩
  obtain ⟨e2, he2⟩ : ∃ n, tkE 1 l1 e1 = n := ⟨_, rfl⟩
  rw [hn2, hl2, he2]
  have X2 := Lib.hid hn2
  have Y2 := Lib.hid hl2
  have Z2 := Lib.hid he2
  clear hn2 hl2 he2
  rintro r w2 ⟨rfl, hr2, hc2⟩
  have H2 := Lib.hid (H1s.out.call hr2 hc2)
  have H2s := Lib.hid (H2.out.set (H2.out.cur.setRole (n2 : Int)))
  clear hr2 hc2
  have c6 : w2.cell? ⟨g, 6, none⟩ = _ := H2.out.cur.cells.c6
  have f6 : w2.frozen? ⟨g, 6, none⟩ = false := H2.out.cur.frozen 6
  go_wp2_with fail
  refine (readflags_any H2s.out.rdr).mono ?_
  obtain ⟨k, hk⟩ : ∃ n, num (tkV 1 l2 e2) = n := ⟨_, rfl⟩
  obtain ⟨l3, hl3⟩ : ∃ n, tkL 1 l2 e2 = n := ⟨_, rfl⟩
  obtain ⟨e3, he3⟩ : ∃ n, flE k (tkE 1 l2 e2) = n := ⟨_, rfl⟩
  rw [hk, hl3, he3]
  have X3 := Lib.hid hk
  have Y3 := Lib.hid hl3
  have Z3 := Lib.hid he3
  clear hk hl3 he3
  obtain ⟨q1, hq1⟩ : ∃ q, (k % 2 == 1) = q := ⟨_, rfl⟩
  obtain ⟨q2, hq2⟩ : ∃ q, (k / 2 % 2 == 1) = q := ⟨_, rfl⟩
  obtain ⟨q3, hq3⟩ : ∃ q, (k / 4 % 2 == 1) = q := ⟨_, rfl⟩
  rw [hq1, hq2, hq3]
  have Q1 := Lib.hid hq1
  have Q2 := Lib.hid hq2
  have Q3 := Lib.hid hq3
  clear hq1 hq2 hq3
  rintro r w3 ⟨rfl, hr3, hc3⟩
  have H3 := Lib.hid (H2s.out.call hr3 hc3)
  have H3s := Lib.hid (H3.out.set3 (((H3.out.cur.setPr q1).setAg q2).setTp q3))
  clear hr3 hc3 c6 f6
  have c7 : w3.cell? ⟨g, 7, none⟩ = _ := H3.out.cur.cells.c7
  have f7 : w3.frozen? ⟨g, 7, none⟩ = false := H3.out.cur.frozen 7
  have c8 : w3.cell? ⟨g, 8, none⟩ = _ := H3.out.cur.cells.c8
  have f8 : w3.frozen? ⟨g, 8, none⟩ = false := H3.out.cur.frozen 8
  have c9 : w3.cell? ⟨g, 9, none⟩ = _ := H3.out.cur.cells.c9
  have f9 : w3.frozen? ⟨g, 9, none⟩ = false := H3.out.cur.frozen 9
  go_wp2_with fail
  refine (readvec_any H3s.out.rdr).mono ?_
  obtain ⟨v, hv⟩ : ∃ n, rvX l3 e3 = n := ⟨_, rfl⟩
  obtain ⟨l4, hl4⟩ : ∃ n, rvL l3 e3 = n := ⟨_, rfl⟩
  obtain ⟨e4, he4⟩ : ∃ n, rvE l3 e3 = n := ⟨_, rfl⟩
  rw [hv, hl4, he4]
  have X4 := Lib.hid hv
  have Y4 := Lib.hid hl4
  have Z4 := Lib.hid he4
  clear hv hl4 he4
  rintro r w4 ⟨rfl, hr4, hc4⟩
  have H4 := Lib.hid (H3s.out.call hr4 hc4)
  have H4s := Lib.hid (H4.out.set4 (H4.out.cur.setV v))
  clear hr4 hc4 c7 f7 c8 f8 c9 f9
  have c0 : w4.cell? ⟨g, 0, none⟩ = _ := H4.out.cur.cells.c0
  have f0 : w4.frozen? ⟨g, 0, none⟩ = false := H4.out.cur.frozen 0
  have c1 : w4.cell? ⟨g, 1, none⟩ = _ := H4.out.cur.cells.c1
  have f1 : w4.frozen? ⟨g, 1, none⟩ = false := H4.out.cur.frozen 1
  have c2 : w4.cell? ⟨g, 2, none⟩ = _ := H4.out.cur.cells.c2
  have f2 : w4.frozen? ⟨g, 2, none⟩ = false := H4.out.cur.frozen 2
  have c3 : w4.cell? ⟨g, 3, none⟩ = _ := H4.out.cur.cells.c3
  have f3 : w4.frozen? ⟨g, 3, none⟩ = false := H4.out.cur.frozen 3
  go_wp2_with fail
  refine (u8_any H4s.out.rdr).mono ?_
  obtain ⟨n5, hn5⟩ : ∃ n, num (tkV 1 l4 e4) = n := ⟨_, rfl⟩
  obtain ⟨l5, hl5⟩ : ∃ n, tkL 1 l4 e4 = n := ⟨_, rfl⟩
  obtain ⟨e5, he5⟩ : ∃ n, tkE 1 l4 e4 = n := ⟨_, rfl⟩
  rw [hn5, hl5, he5]
  have X5 := Lib.hid hn5
  have Y5 := Lib.hid hl5
  have Z5 := Lib.hid he5
  clear hn5 hl5 he5
  rintro r w5 ⟨rfl, hr5, hc5⟩
  have H5 := Lib.hid (H4s.out.call hr5 hc5)
  have H5s := Lib.hid (H5.out.set (H5.out.cur.setHops (n5 : Int)))
  clear hr5 hc5 c0 f0 c1 f1 c2 f2 c3 f3
  have c4 : w5.cell? ⟨g, 4, none⟩ = _ := H5.out.cur.cells.c4
  have f4 : w5.frozen? ⟨g, 4, none⟩ = false := H5.out.cur.frozen 4
  go_wp2_with fail
  refine (u64_any H5s.out.rdr).mono ?_
  obtain ⟨n6, hn6⟩ : ∃ n, num (tkV 8 l5 e5) = n := ⟨_, rfl⟩
  obtain ⟨l6, hl6⟩ : ∃ n, tkL 8 l5 e5 = n := ⟨_, rfl⟩
  obtain ⟨e6, he6⟩ : ∃ n, tkE 8 l5 e5 = n := ⟨_, rfl⟩
  rw [hn6, hl6, he6]
  have X6 := Lib.hid hn6
  have Y6 := Lib.hid hl6
  have Z6 := Lib.hid he6
  clear hn6 hl6 he6
  rintro r w6 ⟨rfl, hr6, hc6⟩
  have H6 := Lib.hid (H5s.out.call hr6 hc6)
  have H6s := Lib.hid (H6.out.set (H6.out.cur.setVer (n6 : Int)))
  clear hr6 hc6 c4 f4
  have c5 : w6.cell? ⟨g, 5, none⟩ = _ := H6.out.cur.cells.c5
  have f5 : w6.frozen? ⟨g, 5, none⟩ = false := H6.out.cur.frozen 5
  go_wp2_with fail
  refine (u64_any H6s.out.rdr).mono ?_
  obtain ⟨n7, hn7⟩ : ∃ n, num (tkV 8 l6 e6) = n := ⟨_, rfl⟩
  obtain ⟨l7, hl7⟩ : ∃ n, tkL 8 l6 e6 = n := ⟨_, rfl⟩
  obtain ⟨e7, he7⟩ : ∃ n, tkE 8 l6 e6 = n := ⟨_, rfl⟩
  rw [hn7, hl7, he7]
  have X7 := Lib.hid hn7
  have Y7 := Lib.hid hl7
  have Z7 := Lib.hid he7
  clear hn7 hl7 he7
  rintro r w7 ⟨rfl, hr7, hc7⟩
  have H7 := Lib.hid (H6s.out.call hr7 hc7)
  have H7s := Lib.hid (H7.out.set (H7.out.cur.setEc (n7 : Int)))
  clear hr7 hc7 c5 f5
  have c10 : w7.cell? ⟨g, 10, none⟩ = _ := H7.out.cur.cells.c10
  have f10 : w7.frozen? ⟨g, 10, none⟩ = false := H7.out.cur.frozen 10
  go_upto_region 10 with (fail)
  clear c10 f10
  generalize w7.setCell ⟨g, 10, none⟩ (.int .u64 n7) = w8 at *
  go_wp2_with (first
    | (refine load_bp 3 rfl (by kernel_rfl) g _ rfl H7s.out.cur ?_)
    | (refine store_bp rfl 2 33 rfl W.heap.size _ Bp.zero rfl rfl H7s.out.res ?_))
  have hlt := H7s.out.lt
  have hfin := rb_fin HL.out HL1.out HG1.out Y2.out Z2.out X3.out Y3.out Z3.out X4.out Y4.out Z4.out Y5.out Z5.out Y6.out Z6.out Y7.out Z7.out
  rw [X2.out, X5.out, X6.out, X7.out, Q1.out, Q2.out, Q3.out] at hfin
  exact bodyPost_ret (v := BV ⟨v, n5, n6, n2, q1, q2, q3, n7⟩) (results_cell_row (p := 2) (by kernel_rfl) _ _ W.heap.size 33 _ (0, 0) _ rfl (Blk.row H7s.out.res _) Tryd.underlying33 rfl (by kernel_rfl)) rfl
    ⟨_, l7, e7, rfl, Blk.rowFar H7s.out.rdr (by omega) _, H7s.out.chg.setRow (.inl (Nat.le_refl _)) _, hfin.1, hfin.2⟩
set_option maxHeartbeats 2000000 in
theorem read_no {W : World} {b : Nat} {l : List UInt8} (hl : 42 ≤ l.length) (h : Rdr W b l 0) (hm : num (tkV 2 l 0) ≠ 17229) :
    Calls Tryd.prog 22 #[.pointer (some ⟨b, 0, none⟩)] W (RdB W b l) := by
  have HL := Lib.hid hl
  have HLT := Lib.hid h.lt
  have HZ : Hid (BpA 33 (W.alloc (.cells #[.int .u64 0, .int .u32 0, .int .u64 0, .int .u8 0, .int .u8 0, .int .u64 0, .int .u8 0, .bool false, .bool false, .bool false, .int .u64 0] 33)) W.heap.size Bp.zero) := Lib.hid (BpA.zero _ _)
  have HR : Hid (Rdr (W.alloc (.cells #[.int .u64 0, .int .u32 0, .int .u64 0, .int .u8 0, .int .u8 0, .int .u64 0, .int .u8 0, .bool false, .bool false, .bool false, .int .u64 0] 33)) b l 0) := Lib.hid (Blk.alloc h _)
  have HC : Hid (Chg (only b) W (W.alloc (.cells #[.int .u64 0, .int .u32 0, .int .u64 0, .int .u8 0, .int .u8 0, .int .u64 0, .int .u8 0, .bool false, .bool false, .bool false, .int .u64 0] 33))) := Lib.hid ((Chg.refl _ W).alloc _)
  have hq : (((num (tkV 2 l 0) : Nat) : Int) != 17229) = true := by simp only [bne_iff_ne, ne_eq]; omega
  clear h hl
  go_enter Tryd.func22, Tryd.ntmps22
  go_wp2_with fail
  refine (u16_any HR.out).mono ?_
  obtain ⟨n0, hn0⟩ : ∃ n, num (tkV 2 l 0) = n := ⟨_, rfl⟩
  obtain ⟨l1, hl1⟩ : ∃ n, tkL 2 l 0 = n := ⟨_, rfl⟩
  rw [hn0] at hq
  rw [hn0, hl1]
  have HL1 := Lib.hid hl1
  have HN0 := Lib.hid hn0
  have HM := Lib.hid hm
  clear hl1 hn0 hm
  rintro r w0 ⟨rfl, hr0, hc0⟩
  have HZ0 : Hid (BpA 33 w0 W.heap.size Bp.zero) := Lib.hid (Blk.chg HZ.out hc0 (by unfold only; have := HLT.out; omega))
  have HR0 := Lib.hid hr0
  have HC0 := Lib.hid (HC.out.trans hc0)
  clear hr0 hc0 HZ HR HC
  go_wp2_with fail
  refine (bad_any HR0.out).mono ?_
  obtain ⟨e1, he1⟩ : ∃ n, bdE (tkE 2 l 0) = n := ⟨_, rfl⟩
  rw [he1]
  rintro r w0b ⟨rfl, hr0, hc0⟩
  have HZ1 : Hid (BpA 33 w0b W.heap.size Bp.zero) := Lib.hid (Blk.chg HZ0.out hc0 (by unfold only; have := HLT.out; omega))
  have HC1 := Lib.hid (HC0.out.trans hc0)
  have HG1 : Hid ((num (tkV 2 l 0) = 17229 ∧ tkE 2 l 0 = e1) ∨ (num (tkV 2 l 0) ≠ 17229 ∧ bdE (tkE 2 l 0) = e1)) := Lib.hid (.inr ⟨HM.out, he1⟩)
  have H1s := Lib.hid (RbS.first HZ1.out hr0 HC1.out HLT.out)
  clear he1 hr0 hc0 HZ0 HC0 HR0 HZ1 HC1
  obtain ⟨g, hg⟩ : ∃ g, w0b.heap.size = g := ⟨_, rfl⟩
  rw [hg] at H1s
  go_wp2_with fail
  refine (u8_any H1s.out.rdr).mono ?_
  obtain ⟨n2, hn2⟩ : ∃ n, num (tkV 1 l1 e1) = n := ⟨_, rfl⟩
  obtain ⟨l2, hl2⟩ : ∃ n, tkL 1 l1 e1 = n := ⟨_, rfl⟩
  obtain ⟨e2, he2⟩ : ∃ n, tkE 1 l1 e1 = n := ⟨_, rfl⟩
  rw [hn2, hl2, he2]
  have X2 := Lib.hid hn2
  have Y2 := Lib.hid hl2
  have Z2 := Lib.hid he2
  clear hn2 hl2 he2
  rintro r w2 ⟨rfl, hr2, hc2⟩
  have H2 := Lib.hid (H1s.out.call hr2 hc2)
  have H2s := Lib.hid (H2.out.set (H2.out.cur.setRole (n2 : Int)))
  clear hr2 hc2
  have c6 : w2.cell? ⟨g, 6, none⟩ = _ := H2.out.cur.cells.c6
  have f6 : w2.frozen? ⟨g, 6, none⟩ = false := H2.out.cur.frozen 6
  go_wp2_with fail
  refine (readflags_any H2s.out.rdr).mono ?_
  obtain ⟨k, hk⟩ : ∃ n, num (tkV 1 l2 e2) = n := ⟨_, rfl⟩
  obtain ⟨l3, hl3⟩ : ∃ n, tkL 1 l2 e2 = n := ⟨_, rfl⟩
  obtain ⟨e3, he3⟩ : ∃ n, flE k (tkE 1 l2 e2) = n := ⟨_, rfl⟩
  rw [hk, hl3, he3]
  have X3 := Lib.hid hk
  have Y3 := Lib.hid hl3
  have Z3 := Lib.hid he3
  clear hk hl3 he3
  obtain ⟨q1, hq1⟩ : ∃ q, (k % 2 == 1) = q := ⟨_, rfl⟩
  obtain ⟨q2, hq2⟩ : ∃ q, (k / 2 % 2 == 1) = q := ⟨_, rfl⟩
  obtain ⟨q3, hq3⟩ : ∃ q, (k / 4 % 2 == 1) = q := ⟨_, rfl⟩
  rw [hq1, hq2, hq3]
  have Q1 := Lib.hid hq1
  have Q2 := Lib.hid hq2
  have Q3 := Lib.hid hq3
  clear hq1 hq2 hq3
  rintro r w3 ⟨rfl, hr3, hc3⟩
  have H3 := Lib.hid (H2s.out.call hr3 hc3)
  have H3s := Lib.hid (H3.out.set3 (((H3.out.cur.setPr q1).setAg q2).setTp q3))
  clear hr3 hc3 c6 f6
  have c7 : w3.cell? ⟨g, 7, none⟩ = _ := H3.out.cur.cells.c7
  have f7 : w3.frozen? ⟨g, 7, none⟩ = false := H3.out.cur.frozen 7
  have c8 : w3.cell? ⟨g, 8, none⟩ = _ := H3.out.cur.cells.c8
  have f8 : w3.frozen? ⟨g, 8, none⟩ = false := H3.out.cur.frozen 8
  have c9 : w3.cell? ⟨g, 9, none⟩ = _ := H3.out.cur.cells.c9
  have f9 : w3.frozen? ⟨g, 9, none⟩ = false := H3.out.cur.frozen 9
  go_wp2_with fail
  refine (readvec_any H3s.out.rdr).mono ?_
  obtain ⟨v, hv⟩ : ∃ n, rvX l3 e3 = n := ⟨_, rfl⟩
  obtain ⟨l4, hl4⟩ : ∃ n, rvL l3 e3 = n := ⟨_, rfl⟩
  obtain ⟨e4, he4⟩ : ∃ n, rvE l3 e3 = n := ⟨_, rfl⟩
  rw [hv, hl4, he4]
  have X4 := Lib.hid hv
  have Y4 := Lib.hid hl4
  have Z4 := Lib.hid he4
  clear hv hl4 he4
  rintro r w4 ⟨rfl, hr4, hc4⟩
  have H4 := Lib.hid (H3s.out.call hr4 hc4)
  have H4s := Lib.hid (H4.out.set4 (H4.out.cur.setV v))
  clear hr4 hc4 c7 f7 c8 f8 c9 f9
  have c0 : w4.cell? ⟨g, 0, none⟩ = _ := H4.out.cur.cells.c0
  have f0 : w4.frozen? ⟨g, 0, none⟩ = false := H4.out.cur.frozen 0
  have c1 : w4.cell? ⟨g, 1, none⟩ = _ := H4.out.cur.cells.c1
  have f1 : w4.frozen? ⟨g, 1, none⟩ = false := H4.out.cur.frozen 1
  have c2 : w4.cell? ⟨g, 2, none⟩ = _ := H4.out.cur.cells.c2
  have f2 : w4.frozen? ⟨g, 2, none⟩ = false := H4.out.cur.frozen 2
  have c3 : w4.cell? ⟨g, 3, none⟩ = _ := H4.out.cur.cells.c3
  have f3 : w4.frozen? ⟨g, 3, none⟩ = false := H4.out.cur.frozen 3
  go_wp2_with fail
  refine (u8_any H4s.out.rdr).mono ?_
  obtain ⟨n5, hn5⟩ : ∃ n, num (tkV 1 l4 e4) = n := ⟨_, rfl⟩
  obtain ⟨l5, hl5⟩ : ∃ n, tkL 1 l4 e4 = n := ⟨_, rfl⟩
  obtain ⟨e5, he5⟩ : ∃ n, tkE 1 l4 e4 = n := ⟨_, rfl⟩
  rw [hn5, hl5, he5]
  have X5 := Lib.hid hn5
  have Y5 := Lib.hid hl5
  have Z5 := Lib.hid he5
  clear hn5 hl5 he5
  rintro r w5 ⟨rfl, hr5, hc5⟩
  have H5 := Lib.hid (H4s.out.call hr5 hc5)
  have H5s := Lib.hid (H5.out.set (H5.out.cur.setHops (n5 : Int)))
  clear hr5 hc5 c0 f0 c1 f1 c2 f2 c3 f3
  have c4 : w5.cell? ⟨g, 4, none⟩ = _ := H5.out.cur.cells.c4
  have f4 : w5.frozen? ⟨g, 4, none⟩ = false := H5.out.cur.frozen 4
  go_wp2_with fail
  refine (u64_any H5s.out.rdr).mono ?_
  obtain ⟨n6, hn6⟩ : ∃ n, num (tkV 8 l5 e5) = n := ⟨_, rfl⟩
  obtain ⟨l6, hl6⟩ : ∃ n, tkL 8 l5 e5 = n := ⟨_, rfl⟩
  obtain ⟨e6, he6⟩ : ∃ n, tkE 8 l5 e5 = n := ⟨_, rfl⟩
  rw [hn6, hl6, he6]
  have X6 := Lib.hid hn6
  have Y6 := Lib.hid hl6
  have Z6 := Lib.hid he6
  clear hn6 hl6 he6
  rintro r w6 ⟨rfl, hr6, hc6⟩
  have H6 := Lib.hid (H5s.out.call hr6 hc6)
  have H6s := Lib.hid (H6.out.set (H6.out.cur.setVer (n6 : Int)))
  clear hr6 hc6 c4 f4
  have c5 : w6.cell? ⟨g, 5, none⟩ = _ := H6.out.cur.cells.c5
  have f5 : w6.frozen? ⟨g, 5, none⟩ = false := H6.out.cur.frozen 5
  go_wp2_with fail
  refine (u64_any H6s.out.rdr).mono ?_
  obtain ⟨n7, hn7⟩ : ∃ n, num (tkV 8 l6 e6) = n := ⟨_, rfl⟩
  obtain ⟨l7, hl7⟩ : ∃ n, tkL 8 l6 e6 = n := ⟨_, rfl⟩
  obtain ⟨e7, he7⟩ : ∃ n, tkE 8 l6 e6 = n := ⟨_, rfl⟩
  rw [hn7, hl7, he7]
  have X7 := Lib.hid hn7
  have Y7 := Lib.hid hl7
  have Z7 := Lib.hid he7
  clear hn7 hl7 he7
  rintro r w7 ⟨rfl, hr7, hc7⟩
  have H7 := Lib.hid (H6s.out.call hr7 hc7)
  have H7s := Lib.hid (H7.out.set (H7.out.cur.setEc (n7 : Int)))
  clear hr7 hc7 c5 f5
  have c10 : w7.cell? ⟨g, 10, none⟩ = _ := H7.out.cur.cells.c10
  have f10 : w7.frozen? ⟨g, 10, none⟩ = false := H7.out.cur.frozen 10
  go_upto_region 10 with (fail)
  clear c10 f10
  generalize w7.setCell ⟨g, 10, none⟩ (.int .u64 n7) = w8 at *
  go_wp2_with (first
    | (refine load_bp 3 rfl (by kernel_rfl) g _ rfl H7s.out.cur ?_)
    | (refine store_bp rfl 2 33 rfl W.heap.size _ Bp.zero rfl rfl H7s.out.res ?_))
  have hlt := H7s.out.lt
  have hfin := rb_fin HL.out HL1.out HG1.out Y2.out Z2.out X3.out Y3.out Z3.out X4.out Y4.out Z4.out Y5.out Z5.out Y6.out Z6.out Y7.out Z7.out
  rw [X2.out, X5.out, X6.out, X7.out, Q1.out, Q2.out, Q3.out] at hfin
  exact bodyPost_ret (v := BV ⟨v, n5, n6, n2, q1, q2, q3, n7⟩) (results_cell_row (p := 2) (by kernel_rfl) _ _ W.heap.size 33 _ (0, 0) _ rfl (Blk.row H7s.out.res _) Tryd.underlying33 rfl (by kernel_rfl)) rfl
    ⟨_, l7, e7, rfl, Blk.rowFar H7s.out.rdr (by omega) _, H7s.out.chg.setRow (.inl (Nat.le_refl _)) _, hfin.1, hfin.2⟩
theorem readb_any {W : World} {b : Nat} {l : List UInt8} (hl : 42 ≤ l.length) (h : Rdr W b l 0) : Calls Tryd.prog 22 #[.pointer (some ⟨b, 0, none⟩)] W (RdB W b l) := by
  by_cases hm : num (tkV 2 l 0) = 17229
  · exact read_ok hl h hm
  · exact read_no hl h hm
end Go.Proofs.YtbkfbaloolbkdaaDoor
