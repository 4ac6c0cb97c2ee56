/- Layer 5: the document's Take. -/
import Derived.Test.YtbkfbaloolbkdaaDoorRefB
import Derived.Deep.DeepCutAuto
import Derived.Shelf.SlSortCmp.QuietGrown
import Derived.BigQuiet
namespace Go.Proofs.YtbkfbaloolbkdaaDoor
open Go.RowKit Go.Shelf
open Go.Sort (grow)
set_option linter.unusedVariables false
set_option linter.unusedSimpArgs false
set_option maxRecDepth 100000

theorem extract_seg (l : List UInt8) (i n j : Nat) (hj : j = i + n) : (⟨l.toArray⟩ : ByteArray).extract i j = ⟨(seg l i n).toArray⟩ := by
  subst hj
  apply ByteArray.ext
  simp [ByteArray.data_extract, seg, List.drop_take]
theorem num_one (l : List UInt8) (i : Nat) (h : i < l.length) : num (seg l i 1) = (l.getD i 0).toNat := by
  have : seg l i 1 = [l.getD i 0] := by
    unfold seg
    rw [List.drop_eq_getElem_cons h, List.take_succ_cons, List.take_zero]
    simp [List.getD, h]
  rw [this]; simp [num]
theorem byte_at (l : List UInt8) (i : Nat) (h : i < (⟨l.toArray⟩ : ByteArray).size) : (⟨l.toArray⟩ : ByteArray)[i]'h = l.getD i 0 := by
  have hi : i < l.length := h
  show l[i]'hi = _
  simp [List.getD, hi]
def RefTakeB : Prop := ∀ (w : World) (s : List UInt8), s.length ≤ 8388000 →
    Calls Tryd.prog 13 #[.string ⟨s.toArray⟩] w fun r w' => r = .returned (.tuple #[BV (btakeF s), .int .i64 (btakeE s)]) ∧ Below w.heap.size w w'
theorem rtake_short {s : List UInt8} (h : s.length < 42) : btakeE s = 3 ∧ btakeF s = Bp.zero := by
  have : btakeE s = 3 := by unfold btakeE; rw [if_pos h]
  exact ⟨this, by unfold btakeF; rw [this]; rfl⟩
theorem rtake_bad {s : List UInt8} (h : 42 ≤ s.length) (hg : bgood s = false) : btakeE s = 4 ∧ btakeF s = Bp.zero := by
  have : btakeE s = 4 := by unfold btakeE; rw [if_neg (by omega), hg]; rfl
  exact ⟨this, by unfold btakeF; rw [this]; rfl⟩
theorem rtake_ok {s : List UInt8} (h : 42 ≤ s.length) (hg : bgood s = true) : btakeE s = 0 ∧ btakeF s = bof s := by
  have : btakeE s = 0 := by unfold btakeE; rw [if_neg (by omega), hg]; rfl
  exact ⟨this, by unfold btakeF; rw [this]; rfl⟩
theorem u8z (c : UInt8) : ((c.toNat : Int) == 0) = (c == 0) := by
  rw [Bool.eq_iff_iff]
  simp only [beq_iff_eq]
  exact ⟨fun e => UInt8.toNat_inj.1 (by show c.toNat = 0; omega), fun e => by rw [e]; rfl⟩
theorem allz_step (s : List UInt8) (k : Nat) (c : UInt8) (h : 42 ≤ k) (hk : k < s.length) (hc : s.getD k 0 = c) : allz ((s.take (k + 1)).drop 42) = (allz ((s.take k).drop 42) && (c == 0)) := by
  have e : s.take (k + 1) = s.take k ++ [c] := by
    rw [List.take_succ_eq_append_getElem hk, ← hc]
    simp [List.getD, hk]
  rw [e, List.drop_append_of_le_length (by simp; omega)]
  simp [allz]
set_option maxHeartbeats 4000000 in
theorem reftake5 : RefTakeB := by
  intro W s hs
  have HB0 := Lib.hid ((Below.refl W.heap.size W).alloc (Nat.le_refl _) (.cells #[.int .u64 0, .int .u32 0, .int .u64 0, .int .u8 0, .int .u8 0, .int .u64 0, .int .u8 0, .bool false, .bool false, .bool false, .int .u64 0] 27))
  have HF0 := Lib.hid (BpA.zero 27 W)
  by_cases hl : s.length < 42
  · have HE := Lib.hid (rtake_short hl).1
    have HF := Lib.hid (rtake_short hl).2
    have hb : decide ((s.length : Int) < 42) = true := by simp; omega
    go_enter Tryd.func13, Tryd.ntmps13
    go_wp2_with (refine store_rb rfl 2 10 rfl W.heap.size Bp.zero Bp.zero rfl rfl HF0.out ?_)
    exact bodyPost_ret (v := .tuple #[BV Bp.zero, .int .i64 3]) (results_cell_slot (p := 2) (q := 3) (by kernel_rfl) _ _ W.heap.size 27 _ _ rfl (Blk.row HF0.out _) Tryd.underlying27 rfl (by kernel_rfl) _ rfl) rfl ⟨by rw [HE.out, HF.out], below_row HB0.out (Nat.le_refl _) _⟩
  have hb : decide ((s.length : Int) < 42) = false := by simp; omega
  have hl42 : 42 ≤ s.length := by omega
  have HL := Lib.hid hl42
  clear hl
  obtain ⟨d4, hd4⟩ : ∃ d, seg s 4 8 = d := ⟨_, rfl⟩
  have x4 : ∀ w, (Instr.slice 9 (.string ⟨s.toArray⟩) (some (.int .i64 4)) (some (.int .i64 12)) none).run Tryd.prog w = .ok (.string ⟨d4.toArray⟩) w := fun w => by
    have hz : (⟨s.toArray⟩ : ByteArray).size = s.length := rfl
    have := run_slice_string (P := Tryd.prog) (w := w) 9 ⟨s.toArray⟩ .i64 .i64 4 12 Tryd.underlying9 (by omega) (by omega) (by rw [hz]; omega)
    rw [this, ← hd4]
    exact congrArg (fun b => Result.ok (Value.string b) w) (extract_seg s 4 8 _ rfl)
  have l4 : d4.length ≤ 8 := by rw [← hd4]; exact Nat.le_trans (seg_le _ _ _) (by omega)
  have HD4 := Lib.hid hd4
  have L4 := Lib.hid l4
  clear hd4 l4
  obtain ⟨d12, hd12⟩ : ∃ d, seg s 12 4 = d := ⟨_, rfl⟩
  have x12 : ∀ w, (Instr.slice 9 (.string ⟨s.toArray⟩) (some (.int .i64 12)) (some (.int .i64 16)) none).run Tryd.prog w = .ok (.string ⟨d12.toArray⟩) w := fun w => by
    have hz : (⟨s.toArray⟩ : ByteArray).size = s.length := rfl
    have := run_slice_string (P := Tryd.prog) (w := w) 9 ⟨s.toArray⟩ .i64 .i64 12 16 Tryd.underlying9 (by omega) (by omega) (by rw [hz]; omega)
    rw [this, ← hd12]
    exact congrArg (fun b => Result.ok (Value.string b) w) (extract_seg s 12 4 _ rfl)
  have l12 : d12.length ≤ 8 := by rw [← hd12]; exact Nat.le_trans (seg_le _ _ _) (by omega)
  have HD12 := Lib.hid hd12
  have L12 := Lib.hid l12
  clear hd12 l12
  obtain ⟨d16, hd16⟩ : ∃ d, seg s 16 8 = d := ⟨_, rfl⟩
  have x16 : ∀ w, (Instr.slice 9 (.string ⟨s.toArray⟩) (some (.int .i64 16)) (some (.int .i64 24)) none).run Tryd.prog w = .ok (.string ⟨d16.toArray⟩) w := fun w => by
    have hz : (⟨s.toArray⟩ : ByteArray).size = s.length := rfl
    have := run_slice_string (P := Tryd.prog) (w := w) 9 ⟨s.toArray⟩ .i64 .i64 16 24 Tryd.underlying9 (by omega) (by omega) (by rw [hz]; omega)
    rw [this, ← hd16]
    exact congrArg (fun b => Result.ok (Value.string b) w) (extract_seg s 16 8 _ rfl)
  have l16 : d16.length ≤ 8 := by rw [← hd16]; exact Nat.le_trans (seg_le _ _ _) (by omega)
  have HD16 := Lib.hid hd16
  have L16 := Lib.hid l16
  clear hd16 l16
  obtain ⟨d26, hd26⟩ : ∃ d, seg s 26 8 = d := ⟨_, rfl⟩
  have x26 : ∀ w, (Instr.slice 9 (.string ⟨s.toArray⟩) (some (.int .i64 26)) (some (.int .i64 34)) none).run Tryd.prog w = .ok (.string ⟨d26.toArray⟩) w := fun w => by
    have hz : (⟨s.toArray⟩ : ByteArray).size = s.length := rfl
    have := run_slice_string (P := Tryd.prog) (w := w) 9 ⟨s.toArray⟩ .i64 .i64 26 34 Tryd.underlying9 (by omega) (by omega) (by rw [hz]; omega)
    rw [this, ← hd26]
    exact congrArg (fun b => Result.ok (Value.string b) w) (extract_seg s 26 8 _ rfl)
  have l26 : d26.length ≤ 8 := by rw [← hd26]; exact Nat.le_trans (seg_le _ _ _) (by omega)
  have HD26 := Lib.hid hd26
  have L26 := Lib.hid l26
  clear hd26 l26
  obtain ⟨d34, hd34⟩ : ∃ d, seg s 34 8 = d := ⟨_, rfl⟩
  have x34 : ∀ w, (Instr.slice 9 (.string ⟨s.toArray⟩) (some (.int .i64 34)) (some (.int .i64 42)) none).run Tryd.prog w = .ok (.string ⟨d34.toArray⟩) w := fun w => by
    have hz : (⟨s.toArray⟩ : ByteArray).size = s.length := rfl
    have := run_slice_string (P := Tryd.prog) (w := w) 9 ⟨s.toArray⟩ .i64 .i64 34 42 Tryd.underlying9 (by omega) (by omega) (by rw [hz]; omega)
    rw [this, ← hd34]
    exact congrArg (fun b => Result.ok (Value.string b) w) (extract_seg s 34 8 _ rfl)
  have l34 : d34.length ≤ 8 := by rw [← hd34]; exact Nat.le_trans (seg_le _ _ _) (by omega)
  have HD34 := Lib.hid hd34
  have L34 := Lib.hid l34
  clear hd34 l34
  obtain ⟨b2, hb2⟩ : ∃ d, s.getD 2 0 = d := ⟨_, rfl⟩
  have y2 : ∀ h, (⟨s.toArray⟩ : ByteArray)[2]'h = b2 := fun h => by rw [← hb2]; exact byte_at s 2 h
  have N2 : Hid (num (seg s 2 1) = b2.toNat) := Lib.hid (by rw [num_one s 2 (by omega), hb2])
  clear hb2
  obtain ⟨b3, hb3⟩ : ∃ d, s.getD 3 0 = d := ⟨_, rfl⟩
  have y3 : ∀ h, (⟨s.toArray⟩ : ByteArray)[3]'h = b3 := fun h => by rw [← hb3]; exact byte_at s 3 h
  have N3 : Hid (num (seg s 3 1) = b3.toNat) := Lib.hid (by rw [num_one s 3 (by omega), hb3])
  clear hb3
  obtain ⟨b24, hb24⟩ : ∃ d, s.getD 24 0 = d := ⟨_, rfl⟩
  have y24 : ∀ h, (⟨s.toArray⟩ : ByteArray)[24]'h = b24 := fun h => by rw [← hb24]; exact byte_at s 24 h
  have N24 : Hid (num (seg s 24 1) = b24.toNat) := Lib.hid (by rw [num_one s 24 (by omega), hb24])
  clear hb24
  obtain ⟨b25, hb25⟩ : ∃ d, s.getD 25 0 = d := ⟨_, rfl⟩
  have y25 : ∀ h, (⟨s.toArray⟩ : ByteArray)[25]'h = b25 := fun h => by rw [← hb25]; exact byte_at s 25 h
  have N25 : Hid (num (seg s 25 1) = b25.toNat) := Lib.hid (by rw [num_one s 25 (by omega), hb25])
  clear hb25
  obtain ⟨q1, hq1⟩ : ∃ q, (b3.toNat % 2 == 1) = q := ⟨_, rfl⟩
  obtain ⟨q2, hq2⟩ : ∃ q, (b3.toNat / 2 % 2 == 1) = q := ⟨_, rfl⟩
  obtain ⟨q3, hq3⟩ : ∃ q, (b3.toNat / 4 % 2 == 1) = q := ⟨_, rfl⟩
  have p1 : (((b3.toNat : Int) % 2) == 1) = q1 := by rw [← hq1, Bool.eq_iff_iff]; simp; omega
  have p2 : (((b3.toNat : Int) / 2 % 2) == 1) = q2 := by rw [← hq2, Bool.eq_iff_iff]; simp; omega
  have p3 : (((b3.toNat : Int) / 4 % 2) == 1) = q3 := by rw [← hq3, Bool.eq_iff_iff]; simp; omega
  have HQ1 := Lib.hid hq1
  have HQ2 := Lib.hid hq2
  have HQ3 := Lib.hid hq3
  clear hq1 hq2 hq3
  obtain ⟨y, hy0⟩ : ∃ y : Bp, y = { Bp.zero with role := (b2.toNat : Int), pr := q1, ag := q2, tp := q3 } := ⟨_, rfl⟩
  obtain ⟨w0, hw0⟩ : ∃ w0, (W.alloc (.cells #[.int .u64 0, .int .u32 0, .int .u64 0, .int .u8 0, .int .u8 0, .int .u64 0, .int .u8 0, .bool false, .bool false, .bool false, .int .u64 0] 27)).alloc (.cells #[.int .u64 0, .int .u32 0, .int .u64 0, .int .u8 0, .int .u8 0, .int .u64 0, .int .u8 b2.toNat, .bool q1, .bool q2, .bool q3, .int .u64 0] 27) = w0 := ⟨_, rfl⟩
  have HX0 : Hid (BpA 27 w0 (W.heap.size + 1) y) := Lib.hid (by rw [← hw0, hy0]; exact (by simpa only [World.size_alloc] using Blk.new (W.alloc (.cells #[.int .u64 0, .int .u32 0, .int .u64 0, .int .u8 0, .int .u8 0, .int .u64 0, .int .u8 0, .bool false, .bool false, .bool false, .int .u64 0] 27)) 27 #[.int .u64 0, .int .u32 0, .int .u64 0, .int .u8 0, .int .u8 0, .int .u64 0, .int .u8 b2.toNat, .bool q1, .bool q2, .bool q3, .int .u64 0] : Blk _ (W.heap.size + 1) _ _))
  have HZ0 : Hid (BpA 27 w0 W.heap.size Bp.zero) := Lib.hid (by rw [← hw0]; exact BpA.alloc (BpA.zero _ _) _)
  have HBB0 : Hid (Below W.heap.size W w0) := Lib.hid (by rw [← hw0]; exact HB0.out.alloc (by simp) _)
  go_enter Tryd.func13, Tryd.ntmps13
  go_upto_region 8 with (fail)
  try rw [hw0]
  clear hw0 HF0 HB0 hb y2 y3 p1 p2 p3
  have HY0 := Lib.hid hy0
  clear hy0
  go_wp2_with fail
  refine (num5_any d4 L4.out _).mono ?_
  rintro r w1 ⟨rfl, hb1⟩
  have HC1 := Lib.hid (HX0.out.next hb1)
  have HCZ1 := Lib.hid (HZ0.out.next hb1)
  have HCB1 : Hid (Below W.heap.size W w1) := Lib.hid (HBB0.out.trans (hb1.mono HBB0.out.size))
  clear hb1 HX0 HZ0 HBB0 x4
  obtain ⟨y1, hy1⟩ : ∃ z_ : Bp, z_ = { y with v := { y.v with r := (num d4 : Int) } } := ⟨_, rfl⟩
  have c0 : w1.cell? ⟨W.heap.size + 1, 0, none⟩ = _ := HC1.out.cells.c0
  have f0 : w1.frozen? ⟨W.heap.size + 1, 0, none⟩ = false := HC1.out.frozen 0
  have HX1 : Hid (BpA 27 ((w1).setCell ⟨W.heap.size + 1, 0, none⟩ (.int .u64 (num d4))) (W.heap.size + 1) y1) := Lib.hid (by rw [hy1]; have := (Blk.put HC1.out 0 (.int .u64 (num d4))); simpa [BpA] using this)
  have HZ1 : Hid (BpA 27 ((w1).setCell ⟨W.heap.size + 1, 0, none⟩ (.int .u64 (num d4))) W.heap.size Bp.zero) := Lib.hid (Blk.far HCZ1.out (by simp) (.int .u64 (num d4)))
  have HBB1 : Hid (Below W.heap.size W ((w1).setCell ⟨W.heap.size + 1, 0, none⟩ (.int .u64 (num d4)))) := Lib.hid (HCB1.out.setCell (p := ⟨W.heap.size + 1, 0, none⟩) (by simp) (.int .u64 (num d4)))
  have HY1 := Lib.hid hy1
  clear hy1 HC1 HCZ1 HCB1
  go_wp2_with fail
  refine (num5_any d12 L12.out _).mono ?_
  rintro r w2 ⟨rfl, hb2⟩
  have HC2 := Lib.hid (HX1.out.next hb2)
  have HCZ2 := Lib.hid (HZ1.out.next hb2)
  have HCB2 : Hid (Below W.heap.size W w2) := Lib.hid (HBB1.out.trans (hb2.mono HBB1.out.size))
  clear hb2 HX1 HZ1 HBB1 x12 c0 f0
  have e12 : IntKind.u32.wrap (num d12 : Int) = (num d12 : Int) := IntWalk.u32_in _ (by have := num_seg s 12 4; rw [HD12.out] at this; omega)
  obtain ⟨y2, hy2⟩ : ∃ z_ : Bp, z_ = { y1 with v := { y1.v with c := (num d12 : Int) } } := ⟨_, rfl⟩
  have c1 : w2.cell? ⟨W.heap.size + 1, 1, none⟩ = _ := HC2.out.cells.c1
  have f1 : w2.frozen? ⟨W.heap.size + 1, 1, none⟩ = false := HC2.out.frozen 1
  have HX2 : Hid (BpA 27 ((w2).setCell ⟨W.heap.size + 1, 1, none⟩ (.int .u32 (num d12))) (W.heap.size + 1) y2) := Lib.hid (by rw [hy2]; have := (Blk.put HC2.out 1 (.int .u32 (num d12))); simpa [BpA] using this)
  have HZ2 : Hid (BpA 27 ((w2).setCell ⟨W.heap.size + 1, 1, none⟩ (.int .u32 (num d12))) W.heap.size Bp.zero) := Lib.hid (Blk.far HCZ2.out (by simp) (.int .u32 (num d12)))
  have HBB2 : Hid (Below W.heap.size W ((w2).setCell ⟨W.heap.size + 1, 1, none⟩ (.int .u32 (num d12)))) := Lib.hid (HCB2.out.setCell (p := ⟨W.heap.size + 1, 1, none⟩) (by simp) (.int .u32 (num d12)))
  have HY2 := Lib.hid hy2
  clear hy2 HC2 HCZ2 HCB2
  go_wp2_with fail
  refine (num5_any d16 L16.out _).mono ?_
  rintro r w3 ⟨rfl, hb3⟩
  have HC3 := Lib.hid (HX2.out.next hb3)
  have HCZ3 := Lib.hid (HZ2.out.next hb3)
  have HCB3 : Hid (Below W.heap.size W w3) := Lib.hid (HBB2.out.trans (hb3.mono HBB2.out.size))
  clear hb3 HX2 HZ2 HBB2 x16 c1 f1 e12
  obtain ⟨y3, hy3⟩ : ∃ z_ : Bp, z_ = { y2 with v := { y2.v with b := (num d16 : Int), p := (b24.toNat : Int) }, h := (b25.toNat : Int) } := ⟨_, rfl⟩
  have c2 : w3.cell? ⟨W.heap.size + 1, 2, none⟩ = _ := HC3.out.cells.c2
  have f2 : w3.frozen? ⟨W.heap.size + 1, 2, none⟩ = false := HC3.out.frozen 2
  have c3 : w3.cell? ⟨W.heap.size + 1, 3, none⟩ = _ := HC3.out.cells.c3
  have f3 : w3.frozen? ⟨W.heap.size + 1, 3, none⟩ = false := HC3.out.frozen 3
  have c4 : w3.cell? ⟨W.heap.size + 1, 4, none⟩ = _ := HC3.out.cells.c4
  have f4 : w3.frozen? ⟨W.heap.size + 1, 4, none⟩ = false := HC3.out.frozen 4
  have HX3 : Hid (BpA 27 ((((w3).setCell ⟨W.heap.size + 1, 2, none⟩ (.int .u64 (num d16))).setCell ⟨W.heap.size + 1, 3, none⟩ (.int .u8 b24.toNat)).setCell ⟨W.heap.size + 1, 4, none⟩ (.int .u8 b25.toNat)) (W.heap.size + 1) y3) := Lib.hid (by rw [hy3]; have := (Blk.put (Blk.put (Blk.put HC3.out 2 (.int .u64 (num d16))) 3 (.int .u8 b24.toNat)) 4 (.int .u8 b25.toNat)); simpa [BpA] using this)
  have HZ3 : Hid (BpA 27 ((((w3).setCell ⟨W.heap.size + 1, 2, none⟩ (.int .u64 (num d16))).setCell ⟨W.heap.size + 1, 3, none⟩ (.int .u8 b24.toNat)).setCell ⟨W.heap.size + 1, 4, none⟩ (.int .u8 b25.toNat)) W.heap.size Bp.zero) := Lib.hid (Blk.far (Blk.far (Blk.far HCZ3.out (by simp) (.int .u64 (num d16))) (by simp) (.int .u8 b24.toNat)) (by simp) (.int .u8 b25.toNat))
  have HBB3 : Hid (Below W.heap.size W ((((w3).setCell ⟨W.heap.size + 1, 2, none⟩ (.int .u64 (num d16))).setCell ⟨W.heap.size + 1, 3, none⟩ (.int .u8 b24.toNat)).setCell ⟨W.heap.size + 1, 4, none⟩ (.int .u8 b25.toNat))) := Lib.hid (((HCB3.out.setCell (p := ⟨W.heap.size + 1, 2, none⟩) (by simp) (.int .u64 (num d16))).setCell (p := ⟨W.heap.size + 1, 3, none⟩) (by simp) (.int .u8 b24.toNat)).setCell (p := ⟨W.heap.size + 1, 4, none⟩) (by simp) (.int .u8 b25.toNat))
  have HY3 := Lib.hid hy3
  clear hy3 HC3 HCZ3 HCB3
  go_wp2_with fail
  refine (num5_any d26 L26.out _).mono ?_
  rintro r w4 ⟨rfl, hb4⟩
  have HC4 := Lib.hid (HX3.out.next hb4)
  have HCZ4 := Lib.hid (HZ3.out.next hb4)
  have HCB4 : Hid (Below W.heap.size W w4) := Lib.hid (HBB3.out.trans (hb4.mono HBB3.out.size))
  clear hb4 HX3 HZ3 HBB3 x26 c2 f2 c3 f3 c4 f4 y24 y25
  obtain ⟨y4, hy4⟩ : ∃ z_ : Bp, z_ = { y3 with ver := (num d26 : Int) } := ⟨_, rfl⟩
  have c5 : w4.cell? ⟨W.heap.size + 1, 5, none⟩ = _ := HC4.out.cells.c5
  have f5 : w4.frozen? ⟨W.heap.size + 1, 5, none⟩ = false := HC4.out.frozen 5
  have HX4 : Hid (BpA 27 ((w4).setCell ⟨W.heap.size + 1, 5, none⟩ (.int .u64 (num d26))) (W.heap.size + 1) y4) := Lib.hid (by rw [hy4]; have := (Blk.put HC4.out 5 (.int .u64 (num d26))); simpa [BpA] using this)
  have HZ4 : Hid (BpA 27 ((w4).setCell ⟨W.heap.size + 1, 5, none⟩ (.int .u64 (num d26))) W.heap.size Bp.zero) := Lib.hid (Blk.far HCZ4.out (by simp) (.int .u64 (num d26)))
  have HBB4 : Hid (Below W.heap.size W ((w4).setCell ⟨W.heap.size + 1, 5, none⟩ (.int .u64 (num d26)))) := Lib.hid (HCB4.out.setCell (p := ⟨W.heap.size + 1, 5, none⟩) (by simp) (.int .u64 (num d26)))
  have HY4 := Lib.hid hy4
  clear hy4 HC4 HCZ4 HCB4
  go_wp2_with fail
  refine (num5_any d34 L34.out _).mono ?_
  rintro r w5 ⟨rfl, hb5⟩
  have HC5 := Lib.hid (HX4.out.next hb5)
  have HCZ5 := Lib.hid (HZ4.out.next hb5)
  have HCB5 : Hid (Below W.heap.size W w5) := Lib.hid (HBB4.out.trans (hb5.mono HBB4.out.size))
  clear hb5 HX4 HZ4 HBB4 x34 c5 f5
  obtain ⟨y5, hy5⟩ : ∃ z_ : Bp, z_ = { y4 with ec := (num d34 : Int) } := ⟨_, rfl⟩
  have c10 : w5.cell? ⟨W.heap.size + 1, 10, none⟩ = _ := HC5.out.cells.c10
  have f10 : w5.frozen? ⟨W.heap.size + 1, 10, none⟩ = false := HC5.out.frozen 10
  have HX5 : Hid (BpA 27 ((w5).setCell ⟨W.heap.size + 1, 10, none⟩ (.int .u64 (num d34))) (W.heap.size + 1) y5) := Lib.hid (by rw [hy5]; have := (Blk.put HC5.out 10 (.int .u64 (num d34))); simpa [BpA] using this)
  have HZ5 : Hid (BpA 27 ((w5).setCell ⟨W.heap.size + 1, 10, none⟩ (.int .u64 (num d34))) W.heap.size Bp.zero) := Lib.hid (Blk.far HCZ5.out (by simp) (.int .u64 (num d34)))
  have HBB5 : Hid (Below W.heap.size W ((w5).setCell ⟨W.heap.size + 1, 10, none⟩ (.int .u64 (num d34)))) := Lib.hid (HCB5.out.setCell (p := ⟨W.heap.size + 1, 10, none⟩) (by simp) (.int .u64 (num d34)))
  have HY5 := Lib.hid hy5
  clear hy5 HC5 HCZ5 HCB5
  go_upto_region 15 with (fail)
  clear c10 f10
  have hfin : y5 = bof s := by
    rw [HY5.out, HY4.out, HY3.out, HY2.out, HY1.out, HY0.out]
    unfold bof
    rw [HD4.out, HD12.out, HD16.out, HD26.out, HD34.out, N2.out, N3.out, N24.out, N25.out, HQ1.out, HQ2.out, HQ3.out]
  have HFIN := Lib.hid hfin
  have HROLE : Hid (0 ≤ y5.role) := Lib.hid (by rw [hfin]; exact (u8wf (bof_ok s).role).1)
  have HOK : Hid (y5.ok) := Lib.hid (by rw [hfin]; exact bof_ok s)
  clear hfin
  generalize w5.setCell ⟨W.heap.size + 1, 10, none⟩ (.int .u64 (num d34)) = w6 at *
  generalize y5 = y at *
  clear HY0 HY1 HY2 HY3 HY4 HY5 L4 L12 L16 L26 L34 HD4 HD12 HD16 HD26 HD34 N2 N3 N24 N25 HQ1 HQ2 HQ3
  have HSL := Lib.hid hs
  clear hs
  go_wp2
  go_loop [5, 6] (fun n i => ∃ k : Nat, 42 ≤ k ∧ k ≤ s.length ∧ i = .int .i64 k ∧ n = .bool (allz ((s.take k).drop 42))) (fun _ i => s.length - (intOf i).toNat)
  case atStart => exact ⟨42, Nat.le_refl _, hl42, rfl, by simp [allz]⟩
  case round =>
    obtain ⟨k, hk1, hk2, rfl, rfl⟩ := hrel
    have HK1 := Lib.hid hk1
    have HSL2 : (s.length : Int) ≤ 8388000 := by have := HSL.out; omega
    by_cases hlt : k < s.length
    · obtain ⟨c, hc0⟩ : ∃ c, s.getD k 0 = c := ⟨_, rfl⟩
      have hc : ∀ h, (⟨s.toArray⟩ : ByteArray)[k]'h = c := fun h => by rw [← hc0]; exact byte_at s k h
      have hstep : Hid (allz ((s.take (k + 1)).drop 42) = (allz ((s.take k).drop 42) && (c == 0))) := Lib.hid (allz_step s k c hk1 hlt hc0)
      have hcb : Hid (((c.toNat : Int) == 0) = (c == 0)) := Lib.hid (u8z c)
      clear hc0
      obtain ⟨q, hq⟩ : ∃ q, allz ((s.take k).drop 42) = q := ⟨_, rfl⟩
      rw [hq]
      rw [hq] at hstep
      clear hq
      cases q
      · go_wp2
        go_round
        case rel => exact ⟨k + 1, by omega, by omega, by go_num, by rw [hstep.out]; rfl⟩
        case measure => simp [intOf]; omega
      · go_wp2
        go_round
        case rel => exact ⟨k + 1, by omega, by omega, by go_num, by rw [hstep.out, Bool.true_and, ← hcb.out]⟩
        case measure => simp [intOf]; omega
    · have hk : k = s.length := by omega
      subst hk
      clear hlt hk1 hk2
      rw [List.take_length]
      obtain ⟨n, hn⟩ : ∃ n, allz (s.drop 42) = n := ⟨_, rfl⟩
      rw [hn]
      have HN := Lib.hid hn
      clear hn
      go_upto_region 20 with (fail)
      have HM := Lib.hid (fun w => refmay5_any w y HROLE.out)
      have HMG := Lib.hid (fun w q h => refmay5_grow w y HROLE.out q h)
      have mixed : Tryd.prog.follows .mixedOrders = true := by kernel_rfl
      have HY := Lib.hid (fun w => refbytes5_any w y HOK.out)
      have hgd := bgood_doc s hl42
      rw [← HFIN.out] at hgd
      obtain ⟨q, hq⟩ : ∃ q, bmay y = q := ⟨_, rfl⟩
      obtain ⟨B, hB⟩ : ∃ B, bbytes y = B := ⟨_, rfl⟩
      obtain ⟨C, hC⟩ : ∃ C, s.take 42 = C := ⟨_, rfl⟩
      obtain ⟨r, hr⟩ : ∃ r, (B == C) = r := ⟨_, rfl⟩
      rw [hq] at HM
      have kL := fun w => HMG.out w q hq
      clear HMG
      rw [hB] at HY
      rw [hq, hB, hC, HN.out, hr] at hgd
      have HGD := Lib.hid hgd
      have HRR := Lib.hid hr
      have hbc : ((⟨B.toArray⟩ : ByteArray).toList == (⟨C.toArray⟩ : ByteArray).toList) = r := by rw [← hr, ByteArray.toList_eq, ByteArray.toList_eq]
      have hxs : ∀ w, (Instr.slice 9 (.string ⟨s.toArray⟩) none (some (.int .i64 42)) none).run Tryd.prog w = .ok (.string ⟨C.toArray⟩) w := fun w => by
        have hz : (⟨s.toArray⟩ : ByteArray).size = s.length := rfl
        have := run_slice_string_h (P := Tryd.prog) (w := w) (s := ⟨s.toArray⟩) (t := 9) Tryd.underlying9 .i64 42 (by omega) (by rw [hz]; omega)
        rw [this, ← hC]
        exact congrArg (fun b => Result.ok (Value.string b) w) (extract_take s 42)
      have HXS := Lib.hid hxs
      have HBC := Lib.hid hbc
      have HB6 : Hid (Below w6.heap.size w6 w6.drew) := Lib.hid (Below.refl _ _).drew
      obtain ⟨c0, c1, c2, c3, c4, c5, c6, c7, c8, c9, c10⟩ := HX5.out.cells
      clear hgd hq hB hC hr hbc hxs
      go_cut [88] (fun t wx => t = .bool (!(q && (n && r))) ∧ Hid (Below w6.heap.size w6 wx))
      case first =>
        cases q
        · skip
          have g0 := fun n os => cell_grown (w := w6) (a := ⟨W.heap.size + 1, 0, none⟩) HX5.out.lt c0 n os
          have g1 := fun n os => cell_grown (w := w6) (a := ⟨W.heap.size + 1, 1, none⟩) HX5.out.lt c1 n os
          have g2 := fun n os => cell_grown (w := w6) (a := ⟨W.heap.size + 1, 2, none⟩) HX5.out.lt c2 n os
          have g3 := fun n os => cell_grown (w := w6) (a := ⟨W.heap.size + 1, 3, none⟩) HX5.out.lt c3 n os
          have g4 := fun n os => cell_grown (w := w6) (a := ⟨W.heap.size + 1, 4, none⟩) HX5.out.lt c4 n os
          have g5 := fun n os => cell_grown (w := w6) (a := ⟨W.heap.size + 1, 5, none⟩) HX5.out.lt c5 n os
          have g6 := fun n os => cell_grown (w := w6) (a := ⟨W.heap.size + 1, 6, none⟩) HX5.out.lt c6 n os
          have g7 := fun n os => cell_grown (w := w6) (a := ⟨W.heap.size + 1, 7, none⟩) HX5.out.lt c7 n os
          have g8 := fun n os => cell_grown (w := w6) (a := ⟨W.heap.size + 1, 8, none⟩) HX5.out.lt c8 n os
          have g9 := fun n os => cell_grown (w := w6) (a := ⟨W.heap.size + 1, 9, none⟩) HX5.out.lt c9 n os
          have g10 := fun n os => cell_grown (w := w6) (a := ⟨W.heap.size + 1, 10, none⟩) HX5.out.lt c10 n os
          refine wp_region_quiet_grown mixed (by kernel_rfl) ?_
          repeat (first | go_big_quiet_step ((go_at_call 9; exact Calls.grown_of (kL _))) | quiet_step ((go_at_call 9; exact Calls.grown_of (kL _))))
          refine wpQuiet_nil ?_
          intro _ hw'
          obtain ⟨⟨nq, osq⟩, hw''⟩ := hw'
          subst hw''
          go_wp2_with fail
          go_meet
          exact ⟨rfl, Lib.hid (Gro.of_grow nq osq).below⟩
        cases n
        · skip
          have g0 := fun n os => cell_grown (w := w6) (a := ⟨W.heap.size + 1, 0, none⟩) HX5.out.lt c0 n os
          have g1 := fun n os => cell_grown (w := w6) (a := ⟨W.heap.size + 1, 1, none⟩) HX5.out.lt c1 n os
          have g2 := fun n os => cell_grown (w := w6) (a := ⟨W.heap.size + 1, 2, none⟩) HX5.out.lt c2 n os
          have g3 := fun n os => cell_grown (w := w6) (a := ⟨W.heap.size + 1, 3, none⟩) HX5.out.lt c3 n os
          have g4 := fun n os => cell_grown (w := w6) (a := ⟨W.heap.size + 1, 4, none⟩) HX5.out.lt c4 n os
          have g5 := fun n os => cell_grown (w := w6) (a := ⟨W.heap.size + 1, 5, none⟩) HX5.out.lt c5 n os
          have g6 := fun n os => cell_grown (w := w6) (a := ⟨W.heap.size + 1, 6, none⟩) HX5.out.lt c6 n os
          have g7 := fun n os => cell_grown (w := w6) (a := ⟨W.heap.size + 1, 7, none⟩) HX5.out.lt c7 n os
          have g8 := fun n os => cell_grown (w := w6) (a := ⟨W.heap.size + 1, 8, none⟩) HX5.out.lt c8 n os
          have g9 := fun n os => cell_grown (w := w6) (a := ⟨W.heap.size + 1, 9, none⟩) HX5.out.lt c9 n os
          have g10 := fun n os => cell_grown (w := w6) (a := ⟨W.heap.size + 1, 10, none⟩) HX5.out.lt c10 n os
          refine wp_region_quiet_grown mixed (by kernel_rfl) ?_
          repeat (first | go_big_quiet_step ((go_at_call 9; exact Calls.grown_of (kL _))) | quiet_step ((go_at_call 9; exact Calls.grown_of (kL _))))
          refine wpQuiet_nil ?_
          intro _ hw'
          obtain ⟨⟨nq, osq⟩, hw''⟩ := hw'
          subst hw''
          go_wp2_with fail
          go_meet
          exact ⟨rfl, Lib.hid (Gro.of_grow nq osq).below⟩
        have hxs := HXS.out
        have hbc := HBC.out
        go_region_held3 (fun w_ => w_.cell? ⟨W.heap.size + 1, 0, none⟩ = some (.int .u64 y.v.r) ∧ w_.cell? ⟨W.heap.size + 1, 1, none⟩ = some (.int .u32 y.v.c) ∧ w_.cell? ⟨W.heap.size + 1, 2, none⟩ = some (.int .u64 y.v.b) ∧ w_.cell? ⟨W.heap.size + 1, 3, none⟩ = some (.int .u8 y.v.p) ∧ w_.cell? ⟨W.heap.size + 1, 4, none⟩ = some (.int .u8 y.h) ∧ w_.cell? ⟨W.heap.size + 1, 5, none⟩ = some (.int .u64 y.ver) ∧ w_.cell? ⟨W.heap.size + 1, 6, none⟩ = some (.int .u8 y.role) ∧ w_.cell? ⟨W.heap.size + 1, 7, none⟩ = some (.bool y.pr) ∧ w_.cell? ⟨W.heap.size + 1, 8, none⟩ = some (.bool y.ag) ∧ w_.cell? ⟨W.heap.size + 1, 9, none⟩ = some (.bool y.tp) ∧ w_.cell? ⟨W.heap.size + 1, 10, none⟩ = some (.int .u64 y.ec) ∧ Hid (Below w6.heap.size w6 w_)) (go_keep)
          (first
            | (go_at_call 9; refine (HM.out _).mono ?_; rintro r_ w_ ⟨rfl, hb_⟩; have k0 := keepc (p := ⟨W.heap.size + 1, 0, none⟩) (v := .int .u64 y.v.r) (by assumption) hb_; have k1 := keepc (p := ⟨W.heap.size + 1, 1, none⟩) (v := .int .u32 y.v.c) (by assumption) hb_; have k2 := keepc (p := ⟨W.heap.size + 1, 2, none⟩) (v := .int .u64 y.v.b) (by assumption) hb_; have k3 := keepc (p := ⟨W.heap.size + 1, 3, none⟩) (v := .int .u8 y.v.p) (by assumption) hb_; have k4 := keepc (p := ⟨W.heap.size + 1, 4, none⟩) (v := .int .u8 y.h) (by assumption) hb_; have k5 := keepc (p := ⟨W.heap.size + 1, 5, none⟩) (v := .int .u64 y.ver) (by assumption) hb_; have k6 := keepc (p := ⟨W.heap.size + 1, 6, none⟩) (v := .int .u8 y.role) (by assumption) hb_; have k7 := keepc (p := ⟨W.heap.size + 1, 7, none⟩) (v := .bool y.pr) (by assumption) hb_; have k8 := keepc (p := ⟨W.heap.size + 1, 8, none⟩) (v := .bool y.ag) (by assumption) hb_; have k9 := keepc (p := ⟨W.heap.size + 1, 9, none⟩) (v := .bool y.tp) (by assumption) hb_; have k10 := keepc (p := ⟨W.heap.size + 1, 10, none⟩) (v := .int .u64 y.ec) (by assumption) hb_; have kB := keepb (by assumption) hb_; clear hb_)
            | (go_at_call 11; refine (HY.out _).mono ?_; rintro r_ w_ ⟨rfl, hb_⟩; have k0 := keepc (p := ⟨W.heap.size + 1, 0, none⟩) (v := .int .u64 y.v.r) (by assumption) hb_; have k1 := keepc (p := ⟨W.heap.size + 1, 1, none⟩) (v := .int .u32 y.v.c) (by assumption) hb_; have k2 := keepc (p := ⟨W.heap.size + 1, 2, none⟩) (v := .int .u64 y.v.b) (by assumption) hb_; have k3 := keepc (p := ⟨W.heap.size + 1, 3, none⟩) (v := .int .u8 y.v.p) (by assumption) hb_; have k4 := keepc (p := ⟨W.heap.size + 1, 4, none⟩) (v := .int .u8 y.h) (by assumption) hb_; have k5 := keepc (p := ⟨W.heap.size + 1, 5, none⟩) (v := .int .u64 y.ver) (by assumption) hb_; have k6 := keepc (p := ⟨W.heap.size + 1, 6, none⟩) (v := .int .u8 y.role) (by assumption) hb_; have k7 := keepc (p := ⟨W.heap.size + 1, 7, none⟩) (v := .bool y.pr) (by assumption) hb_; have k8 := keepc (p := ⟨W.heap.size + 1, 8, none⟩) (v := .bool y.ag) (by assumption) hb_; have k9 := keepc (p := ⟨W.heap.size + 1, 9, none⟩) (v := .bool y.tp) (by assumption) hb_; have k10 := keepc (p := ⟨W.heap.size + 1, 10, none⟩) (v := .int .u64 y.ec) (by assumption) hb_; have kB := keepb (by assumption) hb_; clear hb_))
        all_goals (
          go_wp2_with fail
          go_meet
          exact ⟨by simp; exact HRR.out, by assumption⟩)
      obtain ⟨rfl, HB7⟩ := hcut
      obtain ⟨w7, rfl⟩ : ∃ w7, w7 = wc := ⟨_, rfl⟩
      have HX7 := Lib.hid (HX5.out.next HB7.out)
      have HZ7 := Lib.hid (HZ5.out.next HB7.out)
      have HBF : Hid (Below W.heap.size W w7) := Lib.hid (HBB5.out.trans (HB7.out.mono HBB5.out.size))
      clear c0 c1 c2 c3 c4 c5 c6 c7 c8 c9 c10 HB6 HX5 HZ5 HBB5 HB7
      obtain ⟨z, hz⟩ : ∃ z, (q && (n && r)) = z := ⟨_, rfl⟩
      rw [hz] at HGD ⊢
      clear hz
      cases z
      · have HE := Lib.hid (rtake_bad HL.out HGD.out.symm).1
        have HF := Lib.hid (rtake_bad HL.out HGD.out.symm).2
        go_wp2_with (refine store_rb rfl 2 89 rfl W.heap.size Bp.zero Bp.zero rfl rfl HZ7.out ?_)
        exact bodyPost_ret (v := .tuple #[BV Bp.zero, .int .i64 4]) (results_cell_slot (p := 2) (q := 3) (by kernel_rfl) _ _ W.heap.size 27 _ _ rfl (Blk.row HZ7.out _) Tryd.underlying27 rfl (by kernel_rfl) _ rfl) rfl ⟨by rw [HE.out, HF.out], below_row HBF.out (Nat.le_refl _) _⟩
      · have HE := Lib.hid (rtake_ok HL.out HGD.out.symm).1
        have HF := Lib.hid ((rtake_ok HL.out HGD.out.symm).2.trans HFIN.out.symm)
        go_wp2_with (first
          | (refine load_rb 4 rfl (by kernel_rfl) (W.heap.size + 1) y rfl HX7.out ?_)
          | (refine store_rb rfl 2 90 rfl W.heap.size y Bp.zero rfl rfl HZ7.out ?_))
        exact bodyPost_ret (v := .tuple #[BV y, .int .i64 0]) (results_cell_slot (p := 2) (q := 3) (by kernel_rfl) _ _ W.heap.size 27 _ _ rfl (Blk.row HZ7.out _) Tryd.underlying27 rfl (by kernel_rfl) _ rfl) rfl ⟨by rw [HE.out, HF.out], below_row HBF.out (Nat.le_refl _) _⟩
end Go.Proofs.YtbkfbaloolbkdaaDoor
