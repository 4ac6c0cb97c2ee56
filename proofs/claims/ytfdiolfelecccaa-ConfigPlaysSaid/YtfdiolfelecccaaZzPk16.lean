/- Layer 16, the program: Assoc of a place; At. -/
import Derived.Test.YtfdiolfelecccaaZzPj16
namespace Go.Proofs.Ytfdiolfelecccaa
open Go.RowKit
open Go.Sort (grow)
set_option linter.unusedVariables false
set_option linter.unusedSimpArgs false
set_option maxRecDepth 100000

section
variable {w : World} {b : Nat} {T : Tb} {X : PX}
set_option maxHeartbeats 4000000 in
theorem assoc_any (h : Pt w b T X) (i : Int) (h0 : 0 ≤ i) (h1 : i < T.A.length) : Calls Try.prog 12 #[.pointer (some ⟨b, 0, none⟩), .int .i64 i] w fun e w' => ∃ B c, e = .returned (.tuple #[AsV (T.A.getD i.toNat default) B c, .bool true]) ∧ Els 1 u16c w' B (T.A.getD i.toNat default).m ∧ Below w.heap.size w w' := by
  have HB : Hid (Below w.heap.size w (w.alloc (.cells #[.int .u8 0, .string ⟨#[]⟩, .string ⟨#[]⟩, .int .u16 0, .int .u8 0, .slice none 0 0] 50))) := Lib.hid ((Below.refl _ _).alloc (Nat.le_refl _) _)
  have HZ := Lib.hid (Blk.new w 50 #[.int .u8 0, .string ⟨#[]⟩, .string ⟨#[]⟩, .int .u16 0, .int .u8 0, .slice none 0 0])
  have HT := Lib.hid (h.next HB.out)
  have K := Lib.hid (isPlace_any HT.out i)
  have q : (decide (0 ≤ i) && decide (i < T.A.length)) = true := by simp [h0, h1]
  rw [q] at K
  obtain ⟨y, hy, hya, hyl⟩ := h.at (j := i.toNat) (by omega)
  rw [← hya]
  have HY := Lib.hid (And.intro hy hyl)
  have hm8 : y.a.m.length ≤ 1000 := by
    have hmem : y.a ∈ T.A := by rw [← h.la]; exact List.mem_map_of_mem hyl
    have := (asM_head (h.inv.ass _ hmem)).2.2.2.2.2.2.1
    omega
  have HM8 := Lib.hid hm8
  obtain ⟨nA, hnA⟩ : ∃ n, T.A.length = n := ⟨_, rfl⟩
  have HNA := Lib.hid hnA
  rw [hnA] at h1
  have p1 : ¬ i < 0 := by omega
  have p2 : decide ((nA : Int) ≤ i) = false := by simp; omega
  obtain ⟨g, hg⟩ : ∃ g, w.heap.size = g := ⟨_, rfl⟩
  have HGE : Hid (w.heap.size = g) := Lib.hid hg
  have hw0 : ((w.alloc (.cells #[.int .u8 0, .string ⟨#[]⟩, .string ⟨#[]⟩, .int .u16 0, .int .u8 0, .slice none 0 0] 50))).heap.size = w.heap.size + 1 := by simp
  rw [hg] at HZ
  clear h hya hyl hy q hnA hm8 hw0
  go_enter Try.func12, Try.ntmps12
  go_wp2_with fail
  refine K.out.mono ?_
  rintro e w1 ⟨rfl, hg1⟩
  have HB1 : Hid (Below w.heap.size w w1) := Lib.hid (HB.out.trans (hg1.below.mono HB.out.size))
  have HZ1 := Lib.hid (HZ.out.below hg1.below HZ.out.lt)
  have HT1 := Lib.hid (HT.out.gro hg1)
  clear hg1 HB HZ HT K
  have c1 := HT1.out.c1
  obtain ⟨bA, off, hA, hltA, a0, a1, a2, a3, a4, a5⟩ := as_at HT1.out.elsA HY.out.1
  obtain ⟨nm, hnm⟩ : ∃ n, y.a.m.length = n := ⟨_, rfl⟩
  have HNM := Lib.hid hnm
  rw [hA, HNA.out] at c1
  rw [hnm] at a5
  have HB2 : Hid (Below w.heap.size w (w1.alloc (.cells #[.int .u8 y.a.l.toNat, .string ⟨y.a.d.toArray⟩, .string ⟨y.a.n.toArray⟩, .int .u16 y.a.v.toNat, .int .u8 y.a.i.toNat, .slice y.b nm y.c] 50))) := Lib.hid (HB1.out.alloc HB1.out.size _)
  have HZ2 := Lib.hid (HZ1.out.alloc (.cells #[.int .u8 y.a.l.toNat, .string ⟨y.a.d.toArray⟩, .string ⟨y.a.n.toArray⟩, .int .u16 y.a.v.toNat, .int .u8 y.a.i.toNat, .slice y.b nm y.c] 50))
  have HY2 := Lib.hid (Blk.new w1 50 #[.int .u8 y.a.l.toNat, .string ⟨y.a.d.toArray⟩, .string ⟨y.a.n.toArray⟩, .int .u16 y.a.v.toNat, .int .u8 y.a.i.toNat, .slice y.b nm y.c])
  have HL2 := Lib.hid (own_elsL (HT1.out.lst y HY.out.2))
  have HL3 : Hid (Els 1 u16c (w1.alloc (.cells #[.int .u8 y.a.l.toNat, .string ⟨y.a.d.toArray⟩, .string ⟨y.a.n.toArray⟩, .int .u16 y.a.v.toNat, .int .u8 y.a.i.toNat, .slice y.b nm y.c] 50)) y.b y.a.m) := Lib.hid (HL2.out.1.next ((Below.refl _ _).alloc (Nat.le_refl _) _))
  have KL := Lib.hid (cloU_any _ y.a.m y.b y.c HM8.out HL2.out.2 HL3.out)
  rw [hnm] at KL
  obtain ⟨g1, hg1⟩ : ∃ g1, w1.heap.size = g1 := ⟨_, rfl⟩
  have HGL : Hid (g < g1) := Lib.hid (by rw [← hg1]; exact HZ1.out.lt)
  rw [hg1] at HY2
  clear hnm HB1 HT1 hA hltA HL2 HL3
  go_upto_region 4 with (fail)
  try rw [hg1]
  obtain ⟨w2, hw2⟩ : ∃ w2, w1.alloc (.cells #[.int .u8 y.a.l.toNat, .string ⟨y.a.d.toArray⟩, .string ⟨y.a.n.toArray⟩, .int .u16 y.a.v.toNat, .int .u8 y.a.i.toNat, .slice y.b nm y.c] 50) = w2 := ⟨_, rfl⟩
  rw [hw2] at HB2 HZ2 HY2 KL ⊢
  clear hw2 hg1 HZ1 a0 a1 a2 a3 a4 a5 c1
  have y5 := HY2.out.cell 5
  simp only [List.getElem?_toArray, List.getElem?_cons_succ, List.getElem?_cons_zero] at y5
  go_wp2_with fail
  refine KL.out.mono ?_
  rintro e w3 ⟨B3, c3, rfl, ho3, hb3⟩
  have HB3 : Hid (Below w.heap.size w w3) := Lib.hid (HB2.out.trans (hb3.mono HB2.out.size))
  have HZ3 := Lib.hid (HZ2.out.below hb3 HZ2.out.lt)
  have HY3 := Lib.hid (HY2.out.below hb3 HY2.out.lt)
  have HG2 : Hid (g1 < w2.heap.size) := Lib.hid HY2.out.lt
  have HO3 := Lib.hid ho3
  clear hb3 ho3 HB2 HZ2 HY2 KL y5
  obtain ⟨w4, hw4⟩ : ∃ w4, w3.setCell ⟨g1, 5, none⟩ (.slice B3 nm c3) = w4 := ⟨_, rfl⟩
  have hC4 : Chg (fun k => k = g1) w3 w4 := by rw [← hw4]; exact (Chg.refl (fun k => k = g1) w3).setCell (p := ⟨g1, 5, none⟩) (.inr rfl) _
  have HY4 : Hid (Blk w4 g1 50 #[.int .u8 y.a.l.toNat, .string ⟨y.a.d.toArray⟩, .string ⟨y.a.n.toArray⟩, .int .u16 y.a.v.toNat, .int .u8 y.a.i.toNat, .slice B3 nm c3]) := Lib.hid (by
    have := HY3.out.put 5 (.slice B3 nm c3)
    rw [hw4] at this
    simpa using this)
  have HZ4 : Hid (Blk w4 g 50 #[.int .u8 0, .string ⟨#[]⟩, .string ⟨#[]⟩, .int .u16 0, .int .u8 0, .slice none 0 0]) := Lib.hid (HZ3.out.chg hC4 (fun e => by have := HGL.out; omega))
  have HB4 : Hid (Below w.heap.size w w4) := Lib.hid (by
    rw [← hw4]
    exact HB3.out.setCell (p := ⟨g1, 5, none⟩) (by have := HGL.out; have := HGE.out; show w.heap.size ≤ g1; omega) _)
  have HE4 : Hid (Els 1 u16c w4 B3 y.a.m) := Lib.hid (by
    have h1 := own_chgP HO3.out hC4 (fun k e e' => by rw [rb_own] at e; have := (own_ltP HO3.out e).1; have := HG2.out; omega)
    rw [← HNM.out] at h1
    exact (own_elsL (x := ⟨y.a, B3, c3⟩) (own_base h1)).1)
  have HNG : Hid (∀ ad : Addr, B3 = some ad → ad.block ≠ g) := Lib.hid (fun ad e e' => by
    have h1 := (own_ltP HO3.out (g := ad.block) (by rw [e]; rfl)).1
    have := HG2.out
    have := HGL.out
    omega)
  have f5 := HY3.out.frozen 5
  have y5 := HY3.out.cell 5
  simp only [List.getElem?_toArray, List.getElem?_cons_succ, List.getElem?_cons_zero] at y5
  clear hC4 HY3 HZ3 HB3 HO3 HG2
  go_upto_region 5 with (fail)
  try rw [hw4]
  clear hw4 f5 y5
  have y0 := HY4.out.cell 0
  have y1 := HY4.out.cell 1
  have y2 := HY4.out.cell 2
  have y3 := HY4.out.cell 3
  have y4 := HY4.out.cell 4
  have y5 := HY4.out.cell 5
  simp only [List.getElem?_toArray, List.getElem?_cons_succ, List.getElem?_cons_zero] at y0 y1 y2 y3 y4 y5
  go_wp2_with (refine wpList_store_row rfl 50 (.tmp 4) (.tmp 27) rfl g rfl _ rfl 50 _ HZ4.out (by kernel_rfl) rfl (by kernel_rfl) ?_)
  refine bodyPost_ret (v := .tuple #[.agg #[.int .u8 y.a.l.toNat, .string ⟨y.a.d.toArray⟩, .string ⟨y.a.n.toArray⟩, .int .u16 y.a.v.toNat, .int .u8 y.a.i.toNat, .slice B3 nm c3], .bool true]) (results_cell_slot (p := 4) (q := 5) (by kernel_rfl) _ _ g 50 _ _ rfl (Blk.row HZ4.out _) Try.underlying50 rfl (by kernel_rfl) _ rfl) rfl ?_
  refine ⟨B3, c3, by rw [← HNM.out], ?_, below_row HB4.out (by have := HGE.out; omega) _⟩
  exact elsL_chg HE4.out ((Chg.refl (fun k => k = g) w4).setRow (.inr rfl) _) (fun ad e e' => HNG.out ad e e')
theorem or_set8 : ∀ b0 b1 b2 b3 b4 b5 b6 b7 : Bool, ∀ l : Fin 8, bits BinOp.or IntKind.u8 (set8 b0 b1 b2 b3 b4 b5 b6 b7 : Nat) ((2 : Int) ^ l.val) = (set8 (b0 || decide (l.val = 0)) (b1 || decide (l.val = 1)) (b2 || decide (l.val = 2)) (b3 || decide (l.val = 3)) (b4 || decide (l.val = 4)) (b5 || decide (l.val = 5)) (b6 || decide (l.val = 6)) (b7 || decide (l.val = 7)) : Nat) := by decide +kernel
theorem or_setOf (f g : Nat → Bool) (l : Nat) (hl : l < 8) (h : ∀ j, j < 8 → g j = (f j || decide (l = j))) : bits BinOp.or IntKind.u8 ((setOf f).toNat : Int) ((2 : Int) ^ l) = ((setOf g).toNat : Int) := by
  have e (f : Nat → Bool) : (setOf f).toNat = set8 (f 0) (f 1) (f 2) (f 3) (f 4) (f 5) (f 6) (f 7) := by
    unfold setOf
    rw [UInt8.toNat_ofNat', Nat.mod_eq_of_lt (set8_lt _ _ _ _ _ _ _ _)]
  rw [e, e, or_set8 _ _ _ _ _ _ _ _ ⟨l, hl⟩, h 0 (by omega), h 1 (by omega), h 2 (by omega), h 3 (by omega), h 4 (by omega), h 5 (by omega), h 6 (by omega), h 7 (by omega)]
/-- what stands, of the first end points -/
def lvK (T : Tb) (k : Nat) (p : UInt8) (v : UInt16) (u : Bool) (j : Nat) : Bool := (T.E.take k).any (fun e => e.p == p && ((T.of e).v == v && (e.u == u && decide ((T.of e).l.toNat = j))))
theorem lvK_all (T : Tb) (p : UInt8) (v : UInt16) (u : Bool) : lvK T T.E.length p v u = T.lev p v u := by
  funext j
  unfold lvK Tb.lev
  rw [List.take_length]
theorem lvK_next {T : Tb} {k : Nat} {x : Mp} (hx : T.E[k]? = some x) (p : UInt8) (v : UInt16) (u : Bool) (j : Nat) : lvK T (k + 1) p v u j = (lvK T k p v u j || (x.p == p && ((T.of x).v == v && (x.u == u && decide ((T.of x).l.toNat = j))))) := by
  obtain ⟨hk, he⟩ := List.getElem?_eq_some_iff.1 hx
  unfold lvK
  rw [List.take_succ_eq_append_getElem hk, List.any_append, he]
  simp
end
end Go.Proofs.Ytfdiolfelecccaa
