/- Layer 13: the contracts of package ccm as words; the law's Of, wakes. -/
import Derived.Test.YtmhhhcphdnnopaaCk
import Derived.Test.YtmhhhcphdnnopaaLaw12
import Derived.Test.YtmhhhcphdnnopaaR13
namespace Go.Proofs.Ytmhhhcphdnnopaa
open Go.RowKit
set_option linter.unusedVariables false
set_option linter.unusedSimpArgs false
set_option maxRecDepth 100000

/-- what package ccm is held to -/
def CcPutC : Prop := ∀ (c : Ck) (w : World), c.a.length ≤ 1000 →
    Calls Try.prog 7 #[CkV c] w fun e w' => ∃ A k, e = .returned (.tuple #[PdV (ckP c) A k, .int .i64 (ckE c : Nat)]) ∧ (A = none → k = 0) ∧ Below w.heap.size w w'
def CcTakeC : Prop := ∀ (A : Option Addr) (k : Nat) (p : Pd) (w : World), Els 2 tlV w A p.t → p.x.length ≤ 1000 →
    Calls Try.prog 13 #[PdV p A k] w fun e w' => e = .returned (.tuple #[CkV (ckX p), .int .i64 (ckF p : Nat)]) ∧ Below w.heap.size w w'
def CcTicksC : Prop := ∀ (i : UInt8) (w : World),
    Calls Try.prog 12 #[.int .u8 i.toNat] w fun e w' => e = .returned (.int .i64 (ckN i : Nat)) ∧ Below w.heap.size w w'
set_option maxHeartbeats 1000000 in
theorem of13_any (c : Ck) (w : World) :
    Calls Try.prog 8 #[CkV c] w fun e w' => e = .returned (CkV c) ∧ Below w.heap.size w w' := by
  have HB0 : Hid (Below w.heap.size w ((w.alloc (.cells #[.int .u8 c.l.toNat, .bool c.r, .int .u8 c.i.toNat, .int .u32 c.q.toNat, .int .u16 c.m.toNat, .string ⟨c.a.toArray⟩] 25)).alloc (.cells #[.int .u8 0, .bool false, .int .u8 0, .int .u32 0, .int .u16 0, .string ⟨#[]⟩] 33))) := Lib.hid (((Below.refl _ _).alloc (Nat.le_refl _) _).alloc (by simp) _)
  have HR0 : Hid (Blk ((w.alloc (.cells #[.int .u8 c.l.toNat, .bool c.r, .int .u8 c.i.toNat, .int .u32 c.q.toNat, .int .u16 c.m.toNat, .string ⟨c.a.toArray⟩] 25)).alloc (.cells #[.int .u8 0, .bool false, .int .u8 0, .int .u32 0, .int .u16 0, .string ⟨#[]⟩] 33)) (w.heap.size + 1) 33 #[.int .u8 0, .bool false, .int .u8 0, .int .u32 0, .int .u16 0, .string ⟨#[]⟩]) := Lib.hid (by
    have := Blk.new (w.alloc (.cells #[.int .u8 c.l.toNat, .bool c.r, .int .u8 c.i.toNat, .int .u32 c.q.toNat, .int .u16 c.m.toNat, .string ⟨c.a.toArray⟩] 25)) 33 #[.int .u8 0, .bool false, .int .u8 0, .int .u32 0, .int .u16 0, .string ⟨#[]⟩]
    simpa using this)
  go_enter Try.func8, Try.ntmps8
  go_wp2_with (refine wpList_store_row rfl 33 (.tmp 2) (.tmp 15) rfl (w.heap.size + 1) rfl _ rfl 33 _ HR0.out (by kernel_rfl) rfl (by kernel_rfl) ?_)
  refine bodyPost_ret (v := .agg #[.int .u8 c.l.toNat, .bool c.r, .int .u8 c.i.toNat, .int .u32 c.q.toNat, .int .u16 c.m.toNat, .string ⟨c.a.toArray⟩]) (results_cell_one (p := 2) (by kernel_rfl) _ _ (w.heap.size + 1) 33 _ _ rfl (Blk.row HR0.out _) Try.underlying33 rfl (by kernel_rfl)) rfl ?_
  exact ⟨rfl, below_row HB0.out (by omega) _⟩
def wk13a : List UInt8 := mdV [] [97]
def wk13 : Ck := ⟨3, true, 4, 1, 2, wk13a⟩
theorem wk13_m : mdE [] [97] = 0 := by decide +kernel
theorem wk13_ok : ckM wk13 = true := by decide +kernel
theorem wk13_x : (ckS wk13).take 6 = [0, 0, 0, 1, 0, 2] := by decide +kernel
set_option maxHeartbeats 4000000 in
theorem wakes13 (HP : CcPutC) (HT : CcTakeC) (HN : CcTicksC) (w : World) : Calls Try.prog 6 #[] w fun r w' => r = .returned (.bool true) ∧ Below w.heap.size w w' := by
  obtain ⟨V, hV⟩ : ∃ V, wk13a = V := ⟨_, rfl⟩
  obtain ⟨X, hX⟩ : ∃ X, ckS wk13 = X := ⟨_, rfl⟩
  have hVl : V.length = 48 := by rw [← hV]; exact mdV_len wk13_m
  have hXl : X.length = 70 := by rw [← hX]; exact ckS_len wk13_ok
  have hX6 : X.take 6 = [0, 0, 0, 1, 0, 2] := by rw [← hX]; exact wk13_x
  have KR : Hid (∀ w, Calls Try.prog 17 #[.string ⟨#[]⟩, .string ⟨#[97]⟩] w fun e w' => e = .returned (.tuple #[.string ⟨V.toArray⟩, .int .i64 0]) ∧ Below w.heap.size w w') := Lib.hid (fun w => by
    have := refput_any [] [97] w (by decide) (by decide)
    rw [wk13_m, show mdV [] [97] = V from hV] at this
    exact this)
  have hM : ckM ⟨3, true, 4, 1, 2, V⟩ = true := by rw [← hV]; exact wk13_ok
  have hCP : ckP ⟨3, true, 4, 1, 2, V⟩ = ⟨3, 1, 132, X, []⟩ := by rw [ckP_ok hM, ← hX, ← hV]; rfl
  have KP : Hid (∀ w, Calls Try.prog 7 #[.agg #[.int .u8 3, .bool true, .int .u8 4, .int .u32 1, .int .u16 2, .string ⟨V.toArray⟩]] w fun e w' => ∃ A k, e = .returned (.tuple #[.agg #[.int .u8 3, .int .u8 1, .int .u8 132, .string ⟨X.toArray⟩, .slice A 0 k], .int .i64 0]) ∧ (A = none → k = 0) ∧ Below w.heap.size w w') := Lib.hid (fun w => by
    have := HP ⟨3, true, 4, 1, 2, V⟩ w (by show V.length ≤ 1000; omega)
    rw [hCP, ckE_zero.2 hM] at this
    exact this)
  have KT : Hid (∀ A k w, Calls Try.prog 13 #[.agg #[.int .u8 3, .int .u8 1, .int .u8 132, .string ⟨X.toArray⟩, .slice A 0 k]] w fun e w' => e = .returned (.tuple #[.agg #[.int .u8 3, .bool true, .int .u8 4, .int .u32 1, .int .u16 2, .string ⟨V.toArray⟩], .int .i64 0]) ∧ Below w.heap.size w w') := Lib.hid (fun A k w => by
    have := HT A k ⟨3, 1, 132, X, []⟩ w (els_nilL _ _) (by show X.length ≤ 1000; omega)
    have h := ckF_P hM
    rw [hCP] at h
    rw [h.1, h.2] at this
    exact this)
  have KN : Hid (∀ w, Calls Try.prog 12 #[.int .u8 5] w fun e w' => e = .returned (.int .i64 10) ∧ Below w.heap.size w w') := Lib.hid (fun w => HN 5 w)
  have q := fun w => run_eqCk ⟨3, true, 4, 1, 2, V⟩ ⟨3, true, 4, 1, 2, V⟩ w
  simp only [decide_true] at q
  have q' : ∀ w : World, (Op.equalIn 10000 33 (.agg #[.int .u8 3, .bool true, .int .u8 4, .int .u32 1, .int .u16 2, .string ⟨V.toArray⟩]) (.agg #[.int .u8 3, .bool true, .int .u8 4, .int .u32 1, .int .u16 2, .string ⟨V.toArray⟩])).run Try.prog w = .ok true w := q
  have hcut : ∀ w, (Instr.slice 9 (.string ⟨X.toArray⟩) none (some (.int .i64 6)) none).run Try.prog w = .ok (.string ⟨#[0, 0, 0, 1, 0, 2]⟩) w := fun w => by
    rw [run_slice_string_h (P := Try.prog) (w := w) (s := ⟨X.toArray⟩) (t := 9) Try.underlying9 .i64 6 (by omega) (by show (6 : Int) ≤ (X.length : Int); omega)]
    have e : (⟨X.toArray⟩ : ByteArray).extract 0 6 = ⟨#[0, 0, 0, 1, 0, 2]⟩ := by
      rw [extract_take, hX6]
    exact congrArg (fun x => Result.ok (Value.string x) w) e
  have hxl : ((X.length : Int) == 70) = true := by rw [hXl]; rfl
  clear q hV hX hX6 hM hCP HP HT HN hVl
  go_enter Try.func6, Try.ntmps6
  go_wp2_with fail
  refine (KR.out _).mono ?_
  rintro r w1 ⟨rfl, hb1⟩
  have HB1 := Lib.hid hb1
  clear hb1
  have HB1a : Hid (Below w.heap.size w (w1.alloc (.cells #[.int .u8 3, .bool true, .int .u8 4, .int .u32 1, .int .u16 2, .string ⟨V.toArray⟩] 33))) := Lib.hid (HB1.out.alloc HB1.out.size _)
  have HK1 := Lib.hid (Blk.new w1 33 #[.int .u8 3, .bool true, .int .u8 4, .int .u32 1, .int .u16 2, .string ⟨V.toArray⟩])
  go_wp2_with fail
  refine (KP.out _).mono ?_
  rintro r w2 ⟨A, k, rfl, hz, hb2⟩
  have HB2 : Hid (Below w.heap.size w w2) := Lib.hid (HB1a.out.trans (hb2.mono HB1a.out.size))
  have HK2 := Lib.hid (HK1.out.below hb2 HK1.out.lt)
  clear hb2 HB1a HK1 HB1 hz
  have HB2a : Hid (Below w.heap.size w (w2.alloc (.cells #[.int .u8 3, .int .u8 1, .int .u8 132, .string ⟨X.toArray⟩, .slice A 0 k] 29))) := Lib.hid (HB2.out.alloc HB2.out.size _)
  have HK2a := Lib.hid (HK2.out.alloc (.cells #[.int .u8 3, .int .u8 1, .int .u8 132, .string ⟨X.toArray⟩, .slice A 0 k] 29))
  have HP2 := Lib.hid (Blk.new w2 29 #[.int .u8 3, .int .u8 1, .int .u8 132, .string ⟨X.toArray⟩, .slice A 0 k])
  clear HB2 HK2
  go_wp2_with fail
  refine (KT.out _ _ _).mono ?_
  rintro r w3 ⟨rfl, hb3⟩
  have HB3 : Hid (Below w.heap.size w w3) := Lib.hid (HB2a.out.trans (hb3.mono HB2a.out.size))
  have HK3 := Lib.hid (HK2a.out.below hb3 HK2a.out.lt)
  have HP3 := Lib.hid (HP2.out.below hb3 HP2.out.lt)
  clear hb3 HB2a HK2a HP2
  have HB4 : Hid (Below w.heap.size w (w3.alloc (.cells #[.int .u8 3, .bool true, .int .u8 4, .int .u32 1, .int .u16 2, .string ⟨V.toArray⟩] 33))) := Lib.hid (HB3.out.alloc HB3.out.size _)
  have HK4 := Lib.hid (HK3.out.alloc (.cells #[.int .u8 3, .bool true, .int .u8 4, .int .u32 1, .int .u16 2, .string ⟨V.toArray⟩] 33))
  have HP4 := Lib.hid (HP3.out.alloc (.cells #[.int .u8 3, .bool true, .int .u8 4, .int .u32 1, .int .u16 2, .string ⟨V.toArray⟩] 33))
  clear HB3 HK3 HP3
  have k0 := HK4.out.cell 0
  have k1 := HK4.out.cell 1
  have k2 := HK4.out.cell 2
  have k3 := HK4.out.cell 3
  have k4 := HK4.out.cell 4
  have k5 := HK4.out.cell 5
  simp only [List.getElem?_toArray, List.getElem?_cons_succ, List.getElem?_cons_zero] at k0 k1 k2 k3 k4 k5
  have j0 := HP4.out.cell 0
  have j1 := HP4.out.cell 1
  have j2 := HP4.out.cell 2
  have j3 := HP4.out.cell 3
  have j4 := HP4.out.cell 4
  simp only [List.getElem?_toArray, List.getElem?_cons_succ, List.getElem?_cons_zero] at j0 j1 j2 j3 j4
  go_wp2_with fail
  refine (KN.out _).mono ?_
  rintro r w5 ⟨rfl, hb5⟩
  have HB5 : Hid (Below w.heap.size w w5) := Lib.hid (HB4.out.trans (hb5.mono HB4.out.size))
  clear hb5
  go_wp2
  go_ret
  exact ⟨rfl, HB5.out⟩
end Go.Proofs.Ytmhhhcphdnnopaa
