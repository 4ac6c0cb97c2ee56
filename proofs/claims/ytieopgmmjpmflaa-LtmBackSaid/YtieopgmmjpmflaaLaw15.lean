/- Layer 15: the contracts of package ltm as words; the law's wakes. -/
import Derived.Test.YtieopgmmjpmflaaLt
import Derived.Test.YtieopgmmjpmflaaLaw12
import Derived.Laws.Rows
namespace Go.Proofs.Ytieopgmmjpmflaa
open Go.RowKit
set_option linter.unusedVariables false
set_option linter.unusedSimpArgs false
set_option maxRecDepth 100000

/-- the load of a whole struct, as a step of a list (guarded too) -/
theorem wpList_load_cs {P : Program} {ops : Array Oper} {rest : List Oper} {o : Oper} {a : Act} {w : World} {Q : Exit → Act → World → Prop} (ty : TypeId) (x : Nat) (ho : o.op = .load ty (.tmp x)) (hw : Region.wanted o (yielded ops a.tmps) = true) (g : Nat) (t : TypeId) (cs : Array Value) (d : TypeDesc)
    (hx : a.eval (.tmp x) = .pointer (some ⟨g, 0, none⟩)) (h : Blk w g t cs) (hu : P.underlying ty = some d) (hd : (match d with | .struct _ | .array _ _ => true | _ => false) = true) (hi : (P.info? ty).map (·.size) = some cs.size) (hK : wpList P ops Q rest (a.put o.dst (.agg cs)) w) : wpList P ops Q (o :: rest) a w :=
  wpList_step fun K hK' => by
    rw [if_pos hw]
    exact wp_load_row ty (.tmp x) ho g hx _ _ (0, 0) _ h hu hd hi (hK' _ _ hK)
/-- what package ltm is held to -/
def LtPutC : Prop := ∀ (t : Tc) (w : World),
    Calls Try.prog 5 #[TcV t] w fun e w' => ∃ A k, e = .returned (.tuple #[PdV (tcP t) A k, .int .i64 (tcE t : Nat)]) ∧ (A = none → k = 0) ∧ Below w.heap.size w w'
def LtTakeC : Prop := ∀ (A : Option Addr) (k : Nat) (p : Pd) (w : World), Els 2 tlV w A p.t → p.x.length ≤ 1000 → p.t.length ≤ 1000 → p.l.toNat < 8 → (p.o = 5 → 127 < p.g.toNat) →
    Calls Try.prog 16 #[PdV p A k] w fun e w' => e = .returned (.tuple #[TcV (tcX p), .int .i64 (tcF p : Nat)]) ∧ Below w.heap.size w w'
def LtPutRC : Prop := ∀ (r : Ry) (w : World),
    Calls Try.prog 8 #[RyV r] w fun e w' => ∃ A k, e = .returned (.tuple #[PdV (ryP r) A k, .int .i64 (ryE r : Nat)]) ∧ Els 2 tlV w' A (ryP r).t ∧ (A = none → k = 0) ∧ (0 < (ryP r).t.length → ∀ a, A = some a → w.heap.size ≤ a.block) ∧ Below w.heap.size w w'
def LtTakeRC : Prop := ∀ (A : Option Addr) (k : Nat) (p : Pd) (w : World), Els 2 tlV w A p.t → p.x.length ≤ 1000 → p.t.length ≤ 1000 → p.l.toNat < 8 →
    Calls Try.prog 17 #[PdV p A k] w fun e w' => e = .returned (.tuple #[RyV (ryX p), .int .i64 (ryF p : Nat)]) ∧ Below w.heap.size w w'
def wk15t : Tc := ⟨1, 9, 64, ⟨2, 0, 0, 0, 0, 0⟩, ⟨4, 0, 0, 0, 0, 0⟩⟩
def wk15r : Ry := ⟨1, 9, 63, true, false, ⟨6, 0, 0, 0, 0, 0⟩, A6.z⟩
theorem wk15_a : tcE wk15t = 0 ∧ tcS wk15t = [0, 0, 0, 9, 64, 2, 0, 0, 0, 0, 0, 4, 0, 0, 0, 0, 0] := by decide +kernel
theorem wk15_b : ryE wk15r = 0 ∧ ryS wk15r = [0, 0, 0, 9, 63, 2] ∧ ryG wk15r = 64 ∧ ryT wk15r = [⟨5, [1, 6, 0, 0, 0, 0, 0]⟩] := by decide +kernel
theorem wk15_p : tcP wk15t = ⟨1, 5, 128, [0, 0, 0, 9, 64, 2, 0, 0, 0, 0, 0, 4, 0, 0, 0, 0, 0], []⟩ := by rw [tcP_ok wk15_a.1, wk15_a.2]; rfl
theorem wk15_q : ryP wk15r = ⟨1, 4, 64, [0, 0, 0, 9, 63, 2], [⟨5, [1, 6, 0, 0, 0, 0, 0]⟩]⟩ := by rw [ryP_ok wk15_b.1, wk15_b.2.1, wk15_b.2.2.1, wk15_b.2.2.2]; rfl
set_option maxHeartbeats 4000000 in
theorem wakes15 (HPC : LtPutC) (HTC : LtTakeC) (HQC : LtPutRC) (HUC : LtTakeRC) (w : World) : Calls Try.prog 13 #[] w fun r w' => r = .returned (.bool true) ∧ Below w.heap.size w w' := by
  have KP : Hid (∀ w, Calls Try.prog 5 #[.agg #[.int .u8 1, .int .u32 9, .int .u8 64, .int .u8 2, .int .u8 0, .int .u8 0, .int .u8 0, .int .u8 0, .int .u8 0, .int .u8 4, .int .u8 0, .int .u8 0, .int .u8 0, .int .u8 0, .int .u8 0]] w fun e w' => ∃ A k, e = .returned (.tuple #[.agg #[.int .u8 1, .int .u8 5, .int .u8 128, .string ⟨#[0, 0, 0, 9, 64, 2, 0, 0, 0, 0, 0, 4, 0, 0, 0, 0, 0]⟩, .slice A 0 k], .int .i64 0]) ∧ Below w.heap.size w w') := Lib.hid (fun w => by
    have := HPC wk15t w
    rw [wk15_p, wk15_a.1] at this
    exact this.mono (fun e w' ⟨A, k, h1, _, h3⟩ => ⟨A, k, h1, h3⟩))
  have KQ : Hid (∀ w, Calls Try.prog 8 #[.agg #[.int .u8 1, .int .u32 9, .int .u8 63, .bool true, .bool false, .int .u8 6, .int .u8 0, .int .u8 0, .int .u8 0, .int .u8 0, .int .u8 0, .int .u8 0, .int .u8 0, .int .u8 0, .int .u8 0, .int .u8 0, .int .u8 0]] w fun e w' => ∃ A k, e = .returned (.tuple #[.agg #[.int .u8 1, .int .u8 4, .int .u8 64, .string ⟨#[0, 0, 0, 9, 63, 2]⟩, .slice A 1 k], .int .i64 0]) ∧ Els 2 tlV w' A [(⟨5, [1, 6, 0, 0, 0, 0, 0]⟩ : Tl)] ∧ Below w.heap.size w w') := Lib.hid (fun w => by
    have := HQC wk15r w
    rw [wk15_q, wk15_b.1] at this
    exact this.mono (fun e w' ⟨A, k, h1, h2, _, _, h3⟩ => ⟨A, k, h1, h2, h3⟩))
  have KU : Hid (∀ A k w, Els 2 tlV w A [(⟨5, [1, 6, 0, 0, 0, 0, 0]⟩ : Tl)] → Calls Try.prog 17 #[.agg #[.int .u8 1, .int .u8 4, .int .u8 64, .string ⟨#[0, 0, 0, 9, 63, 2]⟩, .slice A 1 k]] w fun e w' => e = .returned (.tuple #[.agg #[.int .u8 1, .int .u32 9, .int .u8 63, .bool true, .bool false, .int .u8 6, .int .u8 0, .int .u8 0, .int .u8 0, .int .u8 0, .int .u8 0, .int .u8 0, .int .u8 0, .int .u8 0, .int .u8 0, .int .u8 0, .int .u8 0], .int .i64 0]) ∧ Below w.heap.size w w') := Lib.hid (fun A k w h => by
    have := HUC A k (ryP wk15r) w (by rw [wk15_q]; exact h) (by rw [wk15_q]; decide) (by rw [wk15_q]; decide) (by rw [wk15_q]; decide)
    rw [(ry_back wk15_b.1).1, (ry_back wk15_b.1).2, wk15_q] at this
    exact this)
  have q : ∀ w : World, (Op.equalIn 10000 43 (.agg #[.int .u8 1, .int .u32 9, .int .u8 63, .bool true, .bool false, .int .u8 6, .int .u8 0, .int .u8 0, .int .u8 0, .int .u8 0, .int .u8 0, .int .u8 0, .int .u8 0, .int .u8 0, .int .u8 0, .int .u8 0, .int .u8 0]) (.agg #[.int .u8 1, .int .u32 9, .int .u8 63, .bool true, .bool false, .int .u8 6, .int .u8 0, .int .u8 0, .int .u8 0, .int .u8 0, .int .u8 0, .int .u8 0, .int .u8 0, .int .u8 0, .int .u8 0, .int .u8 0, .int .u8 0])).run Try.prog w = .ok true w := fun w => by
    have := run_eqRy wk15r wk15r w
    simp only [decide_true] at this
    exact this
  have HB0 := Lib.hid (Below.refl w.heap.size w)
  go_enter Try.func13, Try.ntmps13
  go_wp2_with fail
  refine (KP.out _).mono ?_
  rintro r w1 ⟨A, k, rfl, hb1⟩
  have HB1 : Hid (Below w.heap.size w w1) := Lib.hid (HB0.out.trans (hb1.mono HB0.out.size))
  clear hb1 HB0
  have HB2 : Hid (Below w.heap.size w (w1.alloc (.cells #[.int .u8 1, .int .u8 5, .int .u8 128, .string ⟨#[0, 0, 0, 9, 64, 2, 0, 0, 0, 0, 0, 4, 0, 0, 0, 0, 0]⟩, .slice A 0 k] 31))) := Lib.hid (HB1.out.alloc HB1.out.size _)
  have HM2 := Lib.hid (Blk.new w1 31 #[.int .u8 1, .int .u8 5, .int .u8 128, .string ⟨#[0, 0, 0, 9, 64, 2, 0, 0, 0, 0, 0, 4, 0, 0, 0, 0, 0]⟩, .slice A 0 k])
  clear HB1
  have HB3 : Hid (Below w.heap.size w ((w1.alloc (.cells #[.int .u8 1, .int .u8 5, .int .u8 128, .string ⟨#[0, 0, 0, 9, 64, 2, 0, 0, 0, 0, 0, 4, 0, 0, 0, 0, 0]⟩, .slice A 0 k] 31)).alloc (.cells #[.int .u8 1, .int .u32 9, .int .u8 63, .bool true, .bool false, .int .u8 6, .int .u8 0, .int .u8 0, .int .u8 0, .int .u8 0, .int .u8 0, .int .u8 0, .int .u8 0, .int .u8 0, .int .u8 0, .int .u8 0, .int .u8 0] 43))) := Lib.hid (HB2.out.alloc HB2.out.size _)
  have HM3 := Lib.hid (HM2.out.alloc (.cells #[.int .u8 1, .int .u32 9, .int .u8 63, .bool true, .bool false, .int .u8 6, .int .u8 0, .int .u8 0, .int .u8 0, .int .u8 0, .int .u8 0, .int .u8 0, .int .u8 0, .int .u8 0, .int .u8 0, .int .u8 0, .int .u8 0] 43))
  have HR3 := Lib.hid (Blk.new (w1.alloc (.cells #[.int .u8 1, .int .u8 5, .int .u8 128, .string ⟨#[0, 0, 0, 9, 64, 2, 0, 0, 0, 0, 0, 4, 0, 0, 0, 0, 0]⟩, .slice A 0 k] 31)) 43 #[.int .u8 1, .int .u32 9, .int .u8 63, .bool true, .bool false, .int .u8 6, .int .u8 0, .int .u8 0, .int .u8 0, .int .u8 0, .int .u8 0, .int .u8 0, .int .u8 0, .int .u8 0, .int .u8 0, .int .u8 0, .int .u8 0])
  clear HB2 HM2
  have HRx : Hid (Blk ((w1.alloc (.cells #[.int .u8 1, .int .u8 5, .int .u8 128, .string ⟨#[0, 0, 0, 9, 64, 2, 0, 0, 0, 0, 0, 4, 0, 0, 0, 0, 0]⟩, .slice A 0 k] 31)).alloc (.cells #[.int .u8 1, .int .u32 9, .int .u8 63, .bool true, .bool false, .int .u8 6, .int .u8 0, .int .u8 0, .int .u8 0, .int .u8 0, .int .u8 0, .int .u8 0, .int .u8 0, .int .u8 0, .int .u8 0, .int .u8 0, .int .u8 0] 43)) (w1.heap.size + 1) 43 #[.int .u8 1, .int .u32 9, .int .u8 63, .bool true, .bool false, .int .u8 6, .int .u8 0, .int .u8 0, .int .u8 0, .int .u8 0, .int .u8 0, .int .u8 0, .int .u8 0, .int .u8 0, .int .u8 0, .int .u8 0, .int .u8 0]) := Lib.hid (by have := HR3.out; simpa using this)
  go_wp2_with (refine wpList_load_cs 43 3 rfl (by kernel_rfl) (w1.heap.size + 1) 43 #[.int .u8 1, .int .u32 9, .int .u8 63, .bool true, .bool false, .int .u8 6, .int .u8 0, .int .u8 0, .int .u8 0, .int .u8 0, .int .u8 0, .int .u8 0, .int .u8 0, .int .u8 0, .int .u8 0, .int .u8 0, .int .u8 0] _ rfl HRx.out Try.underlying43 rfl (by kernel_rfl) ?_)
  refine (KQ.out _).mono ?_
  rintro r w4 ⟨B, d, rfl, hF, hb4⟩
  have HB4 : Hid (Below w.heap.size w w4) := Lib.hid (HB3.out.trans (hb4.mono HB3.out.size))
  have HM4 := Lib.hid (HM3.out.below hb4 HM3.out.lt)
  have HR4 := Lib.hid (HRx.out.below hb4 HRx.out.lt)
  clear hb4 HB3 HM3 HRx
  have HF4 : Hid (Els 2 tlV w4 B [(⟨5, [1, 6, 0, 0, 0, 0, 0]⟩ : Tl)]) := Lib.hid hF
  clear hF
  have HB5 : Hid (Below w.heap.size w (w4.alloc (.cells #[.int .u8 1, .int .u8 4, .int .u8 64, .string ⟨#[0, 0, 0, 9, 63, 2]⟩, .slice B 1 d] 31))) := Lib.hid (HB4.out.alloc HB4.out.size _)
  have HM5 := Lib.hid (HM4.out.alloc (.cells #[.int .u8 1, .int .u8 4, .int .u8 64, .string ⟨#[0, 0, 0, 9, 63, 2]⟩, .slice B 1 d] 31))
  have HR5 := Lib.hid (HR4.out.alloc (.cells #[.int .u8 1, .int .u8 4, .int .u8 64, .string ⟨#[0, 0, 0, 9, 63, 2]⟩, .slice B 1 d] 31))
  have HF5 : Hid (Els 2 tlV (w4.alloc (.cells #[.int .u8 1, .int .u8 4, .int .u8 64, .string ⟨#[0, 0, 0, 9, 63, 2]⟩, .slice B 1 d] 31)) B [(⟨5, [1, 6, 0, 0, 0, 0, 0]⟩ : Tl)]) := Lib.hid (HF4.out.next ((Below.refl _ _).alloc (Nat.le_refl _) _))
  have HQ5 := Lib.hid (Blk.new w4 31 #[.int .u8 1, .int .u8 4, .int .u8 64, .string ⟨#[0, 0, 0, 9, 63, 2]⟩, .slice B 1 d])
  clear HB4 HM4 HR4 HF4
  have a0 := HQ5.out.cell 0
  have a1 := HQ5.out.cell 1
  have a2 := HQ5.out.cell 2
  have a3 := HQ5.out.cell 3
  have a4 := HQ5.out.cell 4
  simp only [List.getElem?_toArray, List.getElem?_cons_succ, List.getElem?_cons_zero] at a0 a1 a2 a3 a4
  go_wp2_with fail
  refine (KU.out _ _ _ HF5.out).mono ?_
  rintro r w6 ⟨rfl, hb6⟩
  have HB6 : Hid (Below w.heap.size w w6) := Lib.hid (HB5.out.trans (hb6.mono HB5.out.size))
  have HM6 := Lib.hid (HM5.out.below hb6 HM5.out.lt)
  have HR6 := Lib.hid (HR5.out.below hb6 HR5.out.lt)
  have HQ6 := Lib.hid (HQ5.out.below hb6 HQ5.out.lt)
  have HF6 : Hid (Els 2 tlV w6 B [(⟨5, [1, 6, 0, 0, 0, 0, 0]⟩ : Tl)]) := Lib.hid (HF5.out.next hb6)
  clear hb6 HB5 HM5 HR5 HQ5 HF5
  clear a0 a1 a2 a3 a4
  have HB7 : Hid (Below w.heap.size w (w6.alloc (.cells #[.int .u8 1, .int .u32 9, .int .u8 63, .bool true, .bool false, .int .u8 6, .int .u8 0, .int .u8 0, .int .u8 0, .int .u8 0, .int .u8 0, .int .u8 0, .int .u8 0, .int .u8 0, .int .u8 0, .int .u8 0, .int .u8 0] 43))) := Lib.hid (HB6.out.alloc HB6.out.size _)
  have HM7 := Lib.hid (HM6.out.alloc (.cells #[.int .u8 1, .int .u32 9, .int .u8 63, .bool true, .bool false, .int .u8 6, .int .u8 0, .int .u8 0, .int .u8 0, .int .u8 0, .int .u8 0, .int .u8 0, .int .u8 0, .int .u8 0, .int .u8 0, .int .u8 0, .int .u8 0] 43))
  have HR7 := Lib.hid (HR6.out.alloc (.cells #[.int .u8 1, .int .u32 9, .int .u8 63, .bool true, .bool false, .int .u8 6, .int .u8 0, .int .u8 0, .int .u8 0, .int .u8 0, .int .u8 0, .int .u8 0, .int .u8 0, .int .u8 0, .int .u8 0, .int .u8 0, .int .u8 0] 43))
  have HQ7 := Lib.hid (HQ6.out.alloc (.cells #[.int .u8 1, .int .u32 9, .int .u8 63, .bool true, .bool false, .int .u8 6, .int .u8 0, .int .u8 0, .int .u8 0, .int .u8 0, .int .u8 0, .int .u8 0, .int .u8 0, .int .u8 0, .int .u8 0, .int .u8 0, .int .u8 0] 43))
  have HF7 : Hid (Els 2 tlV (w6.alloc (.cells #[.int .u8 1, .int .u32 9, .int .u8 63, .bool true, .bool false, .int .u8 6, .int .u8 0, .int .u8 0, .int .u8 0, .int .u8 0, .int .u8 0, .int .u8 0, .int .u8 0, .int .u8 0, .int .u8 0, .int .u8 0, .int .u8 0] 43)) B [(⟨5, [1, 6, 0, 0, 0, 0, 0]⟩ : Tl)]) := Lib.hid (HF6.out.next ((Below.refl _ _).alloc (Nat.le_refl _) _))
  have HY7 := Lib.hid (Blk.new w6 43 #[.int .u8 1, .int .u32 9, .int .u8 63, .bool true, .bool false, .int .u8 6, .int .u8 0, .int .u8 0, .int .u8 0, .int .u8 0, .int .u8 0, .int .u8 0, .int .u8 0, .int .u8 0, .int .u8 0, .int .u8 0, .int .u8 0])
  clear HB6 HM6 HR6 HQ6 HF6
  have a0 := HM7.out.cell 0
  have a1 := HM7.out.cell 1
  have a2 := HM7.out.cell 2
  have a3 := HM7.out.cell 3
  have a4 := HM7.out.cell 4
  simp only [List.getElem?_toArray, List.getElem?_cons_succ, List.getElem?_cons_zero] at a0 a1 a2 a3 a4
  have b0 := HQ7.out.cell 0
  have b1 := HQ7.out.cell 1
  have b2 := HQ7.out.cell 2
  have b3 := HQ7.out.cell 3
  have b4 := HQ7.out.cell 4
  simp only [List.getElem?_toArray, List.getElem?_cons_succ, List.getElem?_cons_zero] at b0 b1 b2 b3 b4
  go_wp2_with (first
    | (refine wpList_load_cs 43 6 rfl (by kernel_rfl) w6.heap.size 43 #[.int .u8 1, .int .u32 9, .int .u8 63, .bool true, .bool false, .int .u8 6, .int .u8 0, .int .u8 0, .int .u8 0, .int .u8 0, .int .u8 0, .int .u8 0, .int .u8 0, .int .u8 0, .int .u8 0, .int .u8 0, .int .u8 0] _ rfl HY7.out Try.underlying43 rfl (by kernel_rfl) ?_)
    | (refine wpList_load_cs 43 3 rfl (by kernel_rfl) (w1.heap.size + 1) 43 #[.int .u8 1, .int .u32 9, .int .u8 63, .bool true, .bool false, .int .u8 6, .int .u8 0, .int .u8 0, .int .u8 0, .int .u8 0, .int .u8 0, .int .u8 0, .int .u8 0, .int .u8 0, .int .u8 0, .int .u8 0, .int .u8 0] _ rfl HR7.out Try.underlying43 rfl (by kernel_rfl) ?_))
  go_ret
  exact ⟨rfl, HB7.out⟩
end Go.Proofs.Ytieopgmmjpmflaa
