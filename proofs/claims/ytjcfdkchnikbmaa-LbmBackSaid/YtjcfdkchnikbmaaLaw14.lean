/- Layer 14: the contracts of package lbm as words; the law's of, wakes. -/
import Derived.Test.YtjcfdkchnikbmaaLo
import Derived.Test.YtjcfdkchnikbmaaLaw12
import Derived.Test.YtjcfdkchnikbmaaR14
namespace Go.Proofs.Ytjcfdkchnikbmaa
open Go.RowKit
set_option linter.unusedVariables false
set_option linter.unusedSimpArgs false
set_option maxRecDepth 100000

/-- what package lbm is held to -/
def LbPutC : Prop := ∀ (o : Lo) (w : World), o.d.length ≤ 1000 →
    Calls Try.prog 7 #[LoV o] w fun e w' => ∃ A k, e = .returned (.tuple #[PdV (loP o) A k, .int .i64 (loE o : Nat)]) ∧ Els 2 tlV w' A (loP o).t ∧ (A = none → k = 0) ∧ Below w.heap.size w w'
def LbTakeC : Prop := ∀ (A : Option Addr) (k : Nat) (p : Pd) (w : World), Els 2 tlV w A p.t → p.x.length ≤ 1000 → p.t.length ≤ 1000 →
    Calls Try.prog 12 #[PdV p A k] w fun e w' => e = .returned (.tuple #[LoV (lkX p), .int .i64 (lkF p : Nat)]) ∧ Below w.heap.size w w'
def LbAnsC : Prop := ∀ (A : Option Addr) (k : Nat) (p : Pd) (w : World), Els 2 tlV w A p.t → (A = none → k = 0) → p.x.length ≤ 1000 → p.t.length ≤ 1000 →
    Calls Try.prog 14 #[PdV p A k] w fun e w' => ∃ B d, e = .returned (.tuple #[PdV (anP p) B d, .int .i64 (anF p : Nat)]) ∧ Els 2 tlV w' B (anP p).t ∧ (B = none → d = 0) ∧ (0 < (anP p).t.length → ∀ a, B = some a → w.heap.size ≤ a.block) ∧ Below w.heap.size w w'
set_option maxHeartbeats 1000000 in
theorem of14_any (c : Lo) (w : World) :
    Calls Try.prog 8 #[LoV c] w fun e w' => e = .returned (LoV c) ∧ Below w.heap.size w w' := by
  have HB0 : Hid (Below w.heap.size w ((w.alloc (.cells #[.int .u8 c.l.toNat, .bool c.r, .int .u32 c.q.toNat, .string ⟨c.d.toArray⟩] 24)).alloc (.cells #[.int .u8 0, .bool false, .int .u32 0, .string ⟨#[]⟩] 32))) := Lib.hid (((Below.refl _ _).alloc (Nat.le_refl _) _).alloc (by simp) _)
  have HR0 : Hid (Blk ((w.alloc (.cells #[.int .u8 c.l.toNat, .bool c.r, .int .u32 c.q.toNat, .string ⟨c.d.toArray⟩] 24)).alloc (.cells #[.int .u8 0, .bool false, .int .u32 0, .string ⟨#[]⟩] 32)) (w.heap.size + 1) 32 #[.int .u8 0, .bool false, .int .u32 0, .string ⟨#[]⟩]) := Lib.hid (by
    have := Blk.new (w.alloc (.cells #[.int .u8 c.l.toNat, .bool c.r, .int .u32 c.q.toNat, .string ⟨c.d.toArray⟩] 24)) 32 #[.int .u8 0, .bool false, .int .u32 0, .string ⟨#[]⟩]
    simpa using this)
  go_enter Try.func8, Try.ntmps8
  go_wp2_with (refine wpList_store_row rfl 32 (.tmp 2) (.tmp 11) rfl (w.heap.size + 1) rfl _ rfl 32 _ HR0.out (by kernel_rfl) rfl (by kernel_rfl) ?_)
  refine bodyPost_ret (v := .agg #[.int .u8 c.l.toNat, .bool c.r, .int .u32 c.q.toNat, .string ⟨c.d.toArray⟩]) (results_cell_one (p := 2) (by kernel_rfl) _ _ (w.heap.size + 1) 32 _ _ rfl (Blk.row HR0.out _) Try.underlying32 rfl (by kernel_rfl)) rfl ?_
  exact ⟨rfl, below_row HB0.out (by omega) _⟩
def wk14 : Lo := ⟨2, false, 7, [97, 98]⟩
def wp14 : Pd := ⟨2, 3, 0, [0, 0, 0, 7], [⟨3, [97, 98]⟩]⟩
theorem wk14_a : loE wk14 = 0 ∧ dig 4 (7 : UInt32).toNat = [0, 0, 0, 7] := by decide +kernel
theorem wk14_p : loP wk14 = wp14 := by rw [loP_ok wk14_a.1]; show (⟨2, loO wk14, 0, dig 4 (7 : UInt32).toNat, loT wk14⟩ : Pd) = _; rw [wk14_a.2]; rfl
theorem wk14_b : anF wp14 = 0 ∧ lkF (anP wp14) = 0 ∧ lkX (anP wp14) = ⟨2, true, 7, [97, 98]⟩ ∧ anP wp14 = ⟨2, 2, 0, [0, 0, 0, 7], [⟨3, [97, 98]⟩]⟩ := by
  have h := an_back (o := wk14) wk14_a.1 rfl
  rw [wk14_p] at h
  refine ⟨h.1, h.2.1, h.2.2, ?_⟩
  unfold anP
  rw [if_pos h.1]
  rfl
set_option maxHeartbeats 4000000 in
theorem wakes14 (HP : LbPutC) (HT : LbTakeC) (HA : LbAnsC) (w : World) : Calls Try.prog 6 #[] w fun r w' => r = .returned (.bool true) ∧ Below w.heap.size w w' := by
  have KP : Hid (∀ w, Calls Try.prog 7 #[.agg #[.int .u8 2, .bool false, .int .u32 7, .string ⟨#[97, 98]⟩]] w fun e w' => ∃ A k, e = .returned (.tuple #[.agg #[.int .u8 2, .int .u8 3, .int .u8 0, .string ⟨#[0, 0, 0, 7]⟩, .slice A 1 k], .int .i64 0]) ∧ Els 2 tlV w' A [(⟨3, [97, 98]⟩ : Tl)] ∧ (A = none → k = 0) ∧ Below w.heap.size w w') := Lib.hid (fun w => by
    have := HP wk14 w (by decide)
    rw [wk14_p, wk14_a.1] at this
    exact this)
  have KA : Hid (∀ A k w, Els 2 tlV w A [(⟨3, [97, 98]⟩ : Tl)] → (A = none → k = 0) → Calls Try.prog 14 #[.agg #[.int .u8 2, .int .u8 3, .int .u8 0, .string ⟨#[0, 0, 0, 7]⟩, .slice A 1 k]] w fun e w' => ∃ B d, e = .returned (.tuple #[.agg #[.int .u8 2, .int .u8 2, .int .u8 0, .string ⟨#[0, 0, 0, 7]⟩, .slice B 1 d], .int .i64 0]) ∧ Els 2 tlV w' B [(⟨3, [97, 98]⟩ : Tl)] ∧ Below w.heap.size w w') := Lib.hid (fun A k w h hz => by
    have := HA A k wp14 w h hz (by decide) (by decide)
    rw [wk14_b.1, wk14_b.2.2.2] at this
    exact this.mono (fun e w' ⟨B, d, h1, h2, _, _, h5⟩ => ⟨B, d, h1, h2, h5⟩))
  have KT : Hid (∀ A k w, Els 2 tlV w A [(⟨3, [97, 98]⟩ : Tl)] → Calls Try.prog 12 #[.agg #[.int .u8 2, .int .u8 2, .int .u8 0, .string ⟨#[0, 0, 0, 7]⟩, .slice A 1 k]] w fun e w' => e = .returned (.tuple #[.agg #[.int .u8 2, .bool true, .int .u32 7, .string ⟨#[97, 98]⟩], .int .i64 0]) ∧ Below w.heap.size w w') := Lib.hid (fun A k w h => by
    have := HT A k (anP wp14) w (by rw [wk14_b.2.2.2]; exact h) (by rw [wk14_b.2.2.2]; decide) (by rw [wk14_b.2.2.2]; decide)
    rw [wk14_b.2.1, wk14_b.2.2.1, wk14_b.2.2.2] at this
    exact this)
  have q : ∀ w : World, (Op.equalIn 10000 32 (.agg #[.int .u8 2, .bool true, .int .u32 7, .string ⟨#[97, 98]⟩]) (.agg #[.int .u8 2, .bool true, .int .u32 7, .string ⟨#[97, 98]⟩])).run Try.prog w = .ok true w := fun w => by
    have := run_eqLo ⟨2, true, 7, [97, 98]⟩ ⟨2, true, 7, [97, 98]⟩ w
    simp only [decide_true] at this
    exact this
  have HB0 : Hid (Below w.heap.size w (w.alloc (.cells #[.int .u8 2, .bool false, .int .u32 7, .string ⟨#[97, 98]⟩] 32))) := Lib.hid ((Below.refl _ _).alloc (Nat.le_refl _) _)
  go_enter Try.func6, Try.ntmps6
  go_wp2_with fail
  refine (KP.out _).mono ?_
  rintro r w1 ⟨A, k, rfl, hE, hz, hb1⟩
  have HB1 : Hid (Below w.heap.size w w1) := Lib.hid (HB0.out.trans (hb1.mono HB0.out.size))
  clear hb1 HB0
  have HZ := Lib.hid hz
  clear hz
  have HE1 : Hid (Els 2 tlV w1 A [(⟨3, [97, 98]⟩ : Tl)]) := Lib.hid hE
  clear hE
  have HB2 : Hid (Below w.heap.size w (w1.alloc (.cells #[.int .u8 2, .int .u8 3, .int .u8 0, .string ⟨#[0, 0, 0, 7]⟩, .slice A 1 k] 28))) := Lib.hid (HB1.out.alloc HB1.out.size _)
  have HE2 : Hid (Els 2 tlV (w1.alloc (.cells #[.int .u8 2, .int .u8 3, .int .u8 0, .string ⟨#[0, 0, 0, 7]⟩, .slice A 1 k] 28)) A [(⟨3, [97, 98]⟩ : Tl)]) := Lib.hid (HE1.out.next ((Below.refl _ _).alloc (Nat.le_refl _) _))
  have HM2 := Lib.hid (Blk.new w1 28 #[.int .u8 2, .int .u8 3, .int .u8 0, .string ⟨#[0, 0, 0, 7]⟩, .slice A 1 k])
  clear HB1 HE1
  have a0 := HM2.out.cell 0
  have a1 := HM2.out.cell 1
  have a2 := HM2.out.cell 2
  have a3 := HM2.out.cell 3
  have a4 := HM2.out.cell 4
  simp only [List.getElem?_toArray, List.getElem?_cons_succ, List.getElem?_cons_zero] at a0 a1 a2 a3 a4
  go_wp2_with fail
  refine (KA.out _ _ _ HE2.out HZ.out).mono ?_
  rintro r w3 ⟨B, d, rfl, hF, hb3⟩
  have HB3 : Hid (Below w.heap.size w w3) := Lib.hid (HB2.out.trans (hb3.mono HB2.out.size))
  have HM3 := Lib.hid (HM2.out.below hb3 HM2.out.lt)
  have HE3 : Hid (Els 2 tlV w3 A [(⟨3, [97, 98]⟩ : Tl)]) := Lib.hid (HE2.out.next hb3)
  clear hb3 HB2 HM2 HE2
  clear a0 a1 a2 a3 a4
  have HF3 : Hid (Els 2 tlV w3 B [(⟨3, [97, 98]⟩ : Tl)]) := Lib.hid hF
  clear hF
  have HB4 : Hid (Below w.heap.size w (w3.alloc (.cells #[.int .u8 2, .int .u8 2, .int .u8 0, .string ⟨#[0, 0, 0, 7]⟩, .slice B 1 d] 28))) := Lib.hid (HB3.out.alloc HB3.out.size _)
  have HM4 := Lib.hid (HM3.out.alloc (.cells #[.int .u8 2, .int .u8 2, .int .u8 0, .string ⟨#[0, 0, 0, 7]⟩, .slice B 1 d] 28))
  have HE4 : Hid (Els 2 tlV (w3.alloc (.cells #[.int .u8 2, .int .u8 2, .int .u8 0, .string ⟨#[0, 0, 0, 7]⟩, .slice B 1 d] 28)) A [(⟨3, [97, 98]⟩ : Tl)]) := Lib.hid (HE3.out.next ((Below.refl _ _).alloc (Nat.le_refl _) _))
  have HF4 : Hid (Els 2 tlV (w3.alloc (.cells #[.int .u8 2, .int .u8 2, .int .u8 0, .string ⟨#[0, 0, 0, 7]⟩, .slice B 1 d] 28)) B [(⟨3, [97, 98]⟩ : Tl)]) := Lib.hid (HF3.out.next ((Below.refl _ _).alloc (Nat.le_refl _) _))
  have HN4 := Lib.hid (Blk.new w3 28 #[.int .u8 2, .int .u8 2, .int .u8 0, .string ⟨#[0, 0, 0, 7]⟩, .slice B 1 d])
  clear HB3 HM3 HE3 HF3
  have a0 := HN4.out.cell 0
  have a1 := HN4.out.cell 1
  have a2 := HN4.out.cell 2
  have a3 := HN4.out.cell 3
  have a4 := HN4.out.cell 4
  simp only [List.getElem?_toArray, List.getElem?_cons_succ, List.getElem?_cons_zero] at a0 a1 a2 a3 a4
  go_wp2_with fail
  refine (KT.out _ _ _ HF4.out).mono ?_
  rintro r w5 ⟨rfl, hb5⟩
  have HB5 : Hid (Below w.heap.size w w5) := Lib.hid (HB4.out.trans (hb5.mono HB4.out.size))
  have HM5 := Lib.hid (HM4.out.below hb5 HM4.out.lt)
  have HN5 := Lib.hid (HN4.out.below hb5 HN4.out.lt)
  have HE5 : Hid (Els 2 tlV w5 A [(⟨3, [97, 98]⟩ : Tl)]) := Lib.hid (HE4.out.next hb5)
  have HF5 : Hid (Els 2 tlV w5 B [(⟨3, [97, 98]⟩ : Tl)]) := Lib.hid (HF4.out.next hb5)
  clear hb5 HB4 HM4 HN4 HE4 HF4
  clear a0 a1 a2 a3 a4
  clear HF5
  clear HN5
  have HB6 : Hid (Below w.heap.size w (w5.alloc (.cells #[.int .u8 2, .bool true, .int .u32 7, .string ⟨#[97, 98]⟩] 32))) := Lib.hid (HB5.out.alloc HB5.out.size _)
  have HM6 := Lib.hid (HM5.out.alloc (.cells #[.int .u8 2, .bool true, .int .u32 7, .string ⟨#[97, 98]⟩] 32))
  have HE6 : Hid (Els 2 tlV (w5.alloc (.cells #[.int .u8 2, .bool true, .int .u32 7, .string ⟨#[97, 98]⟩] 32)) A [(⟨3, [97, 98]⟩ : Tl)]) := Lib.hid (HE5.out.next ((Below.refl _ _).alloc (Nat.le_refl _) _))
  have HL6 := Lib.hid (Blk.new w5 32 #[.int .u8 2, .bool true, .int .u32 7, .string ⟨#[97, 98]⟩])
  clear HB5 HM5 HE5
  have a0 := HL6.out.cell 0
  have a1 := HL6.out.cell 1
  have a2 := HL6.out.cell 2
  have a3 := HL6.out.cell 3
  simp only [List.getElem?_toArray, List.getElem?_cons_succ, List.getElem?_cons_zero] at a0 a1 a2 a3
  have b0 := HM6.out.cell 0
  have b1 := HM6.out.cell 1
  have b2 := HM6.out.cell 2
  have b3 := HM6.out.cell 3
  have b4 := HM6.out.cell 4
  simp only [List.getElem?_toArray, List.getElem?_cons_succ, List.getElem?_cons_zero] at b0 b1 b2 b3 b4
  obtain ⟨bb, off, rfl, hbb, c0, c1⟩ := tl_at HE6.out (k := 0) (x := ⟨3, [97, 98]⟩) rfl
  simp only [Nat.zero_mul, Nat.add_zero] at c0 c1
  have c1' : (w5.alloc (.cells #[.int .u8 2, .bool true, .int .u32 7, .string ⟨#[97, 98]⟩] 32)).cell? ⟨bb, off + 1, none⟩ = some (.string ⟨#[97, 98]⟩) := c1
  clear c1 hbb
  go_wp2
  go_ret
  exact ⟨rfl, HB6.out⟩
end Go.Proofs.Ytjcfdkchnikbmaa
