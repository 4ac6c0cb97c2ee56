/- Layer 7: the laws' wakes. -/
import Derived.Test.YteiopobkbfancaaVw5
namespace Go.Proofs.Yteiopobkbfancaa
open Go.RowKit
set_option linter.unusedVariables false
set_option linter.unusedSimpArgs false
set_option maxRecDepth 100000

def L1 : List Vn := [⟨2, 7, 2⟩]
def own1 : List UInt16 := [0, 2, 0, 0, 0, 0, 0, 0]
def frT : Fr := { Fr.zero with tag := true, vid := 2 }
def frA : Fr := { Fr.zero with tag := true, pri := 3, vid := 9 }
def frB : Fr := { Fr.zero with pri := 3 }
def frC : Fr := { Fr.zero with tag := true, pri := 3, vid := 2 }
section
variable {w : World} {t : Nat} {mb : Option Nat}
theorem wk_new : Calls Try.prog 8 #[.int .i64 4] w fun e w' => ∃ t, e = .returned (.tuple #[.pointer (some ⟨t, 0, none⟩), .int .i64 0]) ∧ Tbl w' t none 4 [] own0 ∧ w.heap.size ≤ t ∧ Below w.heap.size w w' := new_any 4 (by decide) (by decide)
theorem wk_set (h : Tbl w t none 4 [] own0) : Calls Try.prog 17 #[.pointer (some ⟨t, 0, none⟩), .int .u16 2, .int .u8 7, .int .u8 2] w fun e w' => e = .returned (.int .i64 0) ∧ ∃ mb', Tbl w' t mb' 4 L1 own0 ∧ Chg (tset t none) w w' ∧ (∀ k, tset t mb' k → tset t none k ∨ w.heap.size ≤ k) :=
  set_ok h 2 7 2 (by decide) (.inr (by decide))
theorem wk_own (h : Tbl w t mb 4 L1 own0) : Calls Try.prog 19 #[.pointer (some ⟨t, 0, none⟩), .int .u8 1, .int .u16 2] w fun e w' => e = .returned (.int .i64 0) ∧ Tbl w' t mb 4 L1 own1 ∧ Chg (tset t mb) w w' :=
  setOwn_ok h 1 2 (by decide) (by decide)
theorem wk_in1 (h : Tbl w t mb 4 L1 own1) : Calls Try.prog 13 #[.pointer (some ⟨t, 0, none⟩), .int .u8 1, .agg #[.int .u8 0, .int .u8 0, .int .u8 0, .int .u8 0, .int .u8 0, .int .u8 0, .int .u8 0, .int .u8 0, .int .u8 0, .int .u8 0, .int .u8 0, .int .u8 0, .bool false, .int .u8 0, .int .u16 0, .int .u16 0, .string ⟨#[]⟩]] w fun e w' => e = .returned (.tuple #[.int .u16 2, .bool true]) ∧ Below w.heap.size w w' := by
  have := in_impl h 1 Fr.zero
  rw [show vinV 4 L1 own1 1 Fr.zero = 2 by decide, show vinB 4 L1 own1 1 Fr.zero = true by decide] at this
  exact this
theorem wk_in2 (h : Tbl w t mb 4 L1 own1) : Calls Try.prog 13 #[.pointer (some ⟨t, 0, none⟩), .int .u8 0, .agg #[.int .u8 0, .int .u8 0, .int .u8 0, .int .u8 0, .int .u8 0, .int .u8 0, .int .u8 0, .int .u8 0, .int .u8 0, .int .u8 0, .int .u8 0, .int .u8 0, .bool true, .int .u8 0, .int .u16 2, .int .u16 0, .string ⟨#[]⟩]] w fun e w' => e = .returned (.tuple #[.int .u16 2, .bool true]) ∧ Below w.heap.size w w' := by
  have := in_impl h 0 frT
  rw [show vinV 4 L1 own1 0 frT = 2 by decide, show vinB 4 L1 own1 0 frT = true by decide] at this
  exact this
theorem wk_in3 (h : Tbl w t mb 4 L1 own1) : Calls Try.prog 13 #[.pointer (some ⟨t, 0, none⟩), .int .u8 3, .agg #[.int .u8 0, .int .u8 0, .int .u8 0, .int .u8 0, .int .u8 0, .int .u8 0, .int .u8 0, .int .u8 0, .int .u8 0, .int .u8 0, .int .u8 0, .int .u8 0, .bool true, .int .u8 0, .int .u16 2, .int .u16 0, .string ⟨#[]⟩]] w fun e w' => e = .returned (.tuple #[.int .u16 0, .bool false]) ∧ Below w.heap.size w w' := by
  have := in_impl h 3 frT
  rw [show vinV 4 L1 own1 3 frT = 0 by decide, show vinB 4 L1 own1 3 frT = false by decide] at this
  exact this
theorem wk_in4 (h : Tbl w t mb 4 L1 own1) : Calls Try.prog 13 #[.pointer (some ⟨t, 0, none⟩), .int .u8 0, .agg #[.int .u8 0, .int .u8 0, .int .u8 0, .int .u8 0, .int .u8 0, .int .u8 0, .int .u8 0, .int .u8 0, .int .u8 0, .int .u8 0, .int .u8 0, .int .u8 0, .bool false, .int .u8 0, .int .u16 0, .int .u16 0, .string ⟨#[]⟩]] w fun e w' => e = .returned (.tuple #[.int .u16 0, .bool false]) ∧ Below w.heap.size w w' := by
  have := in_impl h 0 Fr.zero
  rw [show vinV 4 L1 own1 0 Fr.zero = 0 by decide, show vinB 4 L1 own1 0 Fr.zero = false by decide] at this
  exact this
theorem wk_out1 {z : Fr} (hz : z = Fr.zero) (h : Tbl w t mb 4 L1 own1) : Calls Try.prog 15 #[.pointer (some ⟨t, 0, none⟩), .int .u8 1, .int .u16 2, .agg #[.int .u8 0, .int .u8 0, .int .u8 0, .int .u8 0, .int .u8 0, .int .u8 0, .int .u8 0, .int .u8 0, .int .u8 0, .int .u8 0, .int .u8 0, .int .u8 0, .bool true, .int .u8 3, .int .u16 9, .int .u16 0, .string ⟨#[]⟩]] w fun e w' => e = .returned (.tuple #[FV z, .bool true]) ∧ Below w.heap.size w w' := by
  subst hz
  have := out_any h 1 2 frA (by decide)
  have e : voutB L1 1 2 frA = true := by decide +kernel
  rw [show voutF L1 1 2 frA = Fr.zero by unfold voutF; rw [e]; rfl, e] at this
  exact this
theorem wk_out2 {c : Fr} (hc : c = frC) (h : Tbl w t mb 4 L1 own1) : Calls Try.prog 15 #[.pointer (some ⟨t, 0, none⟩), .int .u8 0, .int .u16 2, .agg #[.int .u8 0, .int .u8 0, .int .u8 0, .int .u8 0, .int .u8 0, .int .u8 0, .int .u8 0, .int .u8 0, .int .u8 0, .int .u8 0, .int .u8 0, .int .u8 0, .bool false, .int .u8 3, .int .u16 0, .int .u16 0, .string ⟨#[]⟩]] w fun e w' => e = .returned (.tuple #[FV c, .bool true]) ∧ Below w.heap.size w w' := by
  subst hc
  have := out_any h 0 2 frB (by decide)
  have e : voutB L1 0 2 frB = true := by decide +kernel
  rw [show voutF L1 0 2 frB = frC by unfold voutF; rw [e]; rfl, e] at this
  exact this
theorem wk_out3 {z : Fr} (hz : z = Fr.zero) (h : Tbl w t mb 4 L1 own1) : Calls Try.prog 15 #[.pointer (some ⟨t, 0, none⟩), .int .u8 3, .int .u16 2, .agg #[.int .u8 0, .int .u8 0, .int .u8 0, .int .u8 0, .int .u8 0, .int .u8 0, .int .u8 0, .int .u8 0, .int .u8 0, .int .u8 0, .int .u8 0, .int .u8 0, .bool false, .int .u8 0, .int .u16 0, .int .u16 0, .string ⟨#[]⟩]] w fun e w' => e = .returned (.tuple #[FV z, .bool false]) ∧ Below w.heap.size w w' := by
  subst hz
  have := out_any h 3 2 Fr.zero (by decide)
  have e : voutB L1 3 2 Fr.zero = false := by decide +kernel
  rw [show voutF L1 3 2 Fr.zero = Fr.zero by unfold voutF; rw [e]; rfl, e] at this
  exact this
end
theorem eqZZ {z : Fr} (hz : z = Fr.zero) (W : World) : (Op.equalIn 10000 27 (FV z) (.agg #[.int .u8 0, .int .u8 0, .int .u8 0, .int .u8 0, .int .u8 0, .int .u8 0, .int .u8 0, .int .u8 0, .int .u8 0, .int .u8 0, .int .u8 0, .int .u8 0, .bool false, .int .u8 0, .int .u16 0, .int .u16 0, .string ⟨#[]⟩])).run Try.prog W = .ok true W := by
  subst hz
  have := run_eqF Fr.zero Fr.zero W
  rw [Fr.same_self] at this
  exact this
theorem eqCC {c : Fr} (hc : c = frC) (W : World) : (Op.equalIn 10000 27 (FV c) (.agg #[.int .u8 0, .int .u8 0, .int .u8 0, .int .u8 0, .int .u8 0, .int .u8 0, .int .u8 0, .int .u8 0, .int .u8 0, .int .u8 0, .int .u8 0, .int .u8 0, .bool true, .int .u8 3, .int .u16 2, .int .u16 0, .string ⟨#[]⟩])).run Try.prog W = .ok true W := by
  subst hc
  have := run_eqF frC frC W
  rw [Fr.same_self] at this
  exact this

set_option maxRecDepth 100000 in
set_option maxHeartbeats 4000000 in
theorem wakes_any : WakesC 7 := by
  intro w
  obtain ⟨z, hz⟩ : ∃ z, z = Fr.zero := ⟨_, rfl⟩
  have HZ := Lib.hid hz
  obtain ⟨c, hc⟩ : ∃ c, c = frC := ⟨_, rfl⟩
  have HCC := Lib.hid hc
  clear hz hc
  go_enter Try.func7, Try.ntmps7
  go_wp2_with fail
  refine wk_new.mono ?_
  rintro e w1 ⟨t, rfl, hT, ht, hB⟩
  have HT1 := Lib.hid hT
  have HB1 := Lib.hid hB
  have HTT := Lib.hid ht
  clear hT hB ht
  go_wp2_with fail
  refine (wk_set HT1.out).mono ?_
  rintro e w2 ⟨rfl, mb, hT, hC, hk⟩
  have HT2 := Lib.hid hT
  have HB2 : Hid (Below w.heap.size w w2) := Lib.hid (HB1.out.trans (hC.below HB1.out.size (fun k hk e => by
    rcases e with e | e
    · have := HTT.out; have e' : k = t := e; omega
    · cases e)))
  have HK2 : Hid (∀ k, tset t mb k → w.heap.size ≤ k) := Lib.hid (fun k e => by
    rcases hk k e with (e' | e') | e'
    · have := HTT.out; have e'' : k = t := e'; omega
    · cases e'
    · have := HB1.out.size; omega)
  clear hT hC hk HT1 HB1
  go_wp2_with fail
  refine (wk_own HT2.out).mono ?_
  rintro e w3 ⟨rfl, hT, hC⟩
  have HT3 := Lib.hid hT
  have HB3 : Hid (Below w.heap.size w w3) := Lib.hid (HB2.out.trans (hC.below HB2.out.size (fun k hk e => by have := HK2.out k e; omega)))
  clear hT hC HT2 HB2 HK2 HTT
  go_wp2_with fail
  refine (wk_in1 HT3.out).mono ?_
  rintro e w4 ⟨rfl, hb⟩
  have HT4 := Lib.hid (HT3.out.next hb)
  have HB4 : Hid (Below w.heap.size w w4) := Lib.hid (HB3.out.trans (hb.mono HB3.out.size))
  clear hb HT3 HB3
  go_wp2_with fail
  refine (wk_in2 HT4.out).mono ?_
  rintro e w5 ⟨rfl, hb⟩
  have HT5 := Lib.hid (HT4.out.next hb)
  have HB5 : Hid (Below w.heap.size w w5) := Lib.hid (HB4.out.trans (hb.mono HB4.out.size))
  clear hb HT4 HB4
  go_wp2_with fail
  refine (wk_in3 HT5.out).mono ?_
  rintro e w6 ⟨rfl, hb⟩
  have HT6 := Lib.hid (HT5.out.next hb)
  have HB6 : Hid (Below w.heap.size w w6) := Lib.hid (HB5.out.trans (hb.mono HB5.out.size))
  clear hb HT5 HB5
  go_wp2_with fail
  refine (wk_in4 HT6.out).mono ?_
  rintro e w7 ⟨rfl, hb⟩
  have HT7 := Lib.hid (HT6.out.next hb)
  have HB7 : Hid (Below w.heap.size w w7) := Lib.hid (HB6.out.trans (hb.mono HB6.out.size))
  clear hb HT6 HB6
  go_wp2_with fail
  refine (wk_out1 HZ.out HT7.out).mono ?_
  rintro e u7 ⟨rfl, hb⟩
  have HTu := Lib.hid (HT7.out.next hb)
  have HBu : Hid (Below w.heap.size w u7) := Lib.hid (HB7.out.trans (hb.mono HB7.out.size))
  clear hb HT7 HB7 
  have st := stores_new u7 (.int .u8 z.d0.toNat) (.int .u8 z.d1.toNat) (.int .u8 z.d2.toNat) (.int .u8 z.d3.toNat) (.int .u8 z.d4.toNat) (.int .u8 z.d5.toNat) (.int .u8 z.s0.toNat) (.int .u8 z.s1.toNat) (.int .u8 z.s2.toNat) (.int .u8 z.s3.toNat) (.int .u8 z.s4.toNat) (.int .u8 z.s5.toNat) (.bool z.tag) (.int .u8 z.pri.toNat) (.int .u16 z.vid.toNat) (.int .u16 z.ty.toNat) (.string ⟨z.data.toArray⟩) (by kernel_rfl)
  obtain ⟨w8, hw⟩ : ∃ x, u7.alloc (.cells #[.int .u8 z.d0.toNat, .int .u8 z.d1.toNat, .int .u8 z.d2.toNat, .int .u8 z.d3.toNat, .int .u8 z.d4.toNat, .int .u8 z.d5.toNat, .int .u8 z.s0.toNat, .int .u8 z.s1.toNat, .int .u8 z.s2.toNat, .int .u8 z.s3.toNat, .int .u8 z.s4.toNat, .int .u8 z.s5.toNat, .bool z.tag, .int .u8 z.pri.toNat, .int .u16 z.vid.toNat, .int .u16 z.ty.toNat, .string ⟨z.data.toArray⟩] 27) = x := ⟨_, rfl⟩
  obtain ⟨g8, hg⟩ : ∃ x, u7.heap.size = x := ⟨_, rfl⟩
  rw [hw, hg] at st
  have HF8 := Lib.hid (show FrA w8 g8 z by rw [← hw, ← hg]; exact FrA.new u7 z)
  have HT8 := Lib.hid (show Tbl w8 t mb 4 L1 own1 by rw [← hw]; exact HTu.out.next ((Below.refl _ _).alloc (Nat.le_refl _) _))
  have HB8 := Lib.hid (show Below w.heap.size w w8 by rw [← hw]; exact HBu.out.alloc HBu.out.size _)
  clear  HTu HBu
  go_upto_region 11 with fail
  clear st hw hg
  go_wp2_with fail
  refine (wk_out2 HCC.out HT8.out).mono ?_
  rintro e u8 ⟨rfl, hb⟩
  have HTu := Lib.hid (HT8.out.next hb)
  have HBu : Hid (Below w.heap.size w u8) := Lib.hid (HB8.out.trans (hb.mono HB8.out.size))
  have HFu8 := Lib.hid (HF8.out.next hb)
  clear hb HT8 HB8 HF8
  have st := stores_new u8 (.int .u8 c.d0.toNat) (.int .u8 c.d1.toNat) (.int .u8 c.d2.toNat) (.int .u8 c.d3.toNat) (.int .u8 c.d4.toNat) (.int .u8 c.d5.toNat) (.int .u8 c.s0.toNat) (.int .u8 c.s1.toNat) (.int .u8 c.s2.toNat) (.int .u8 c.s3.toNat) (.int .u8 c.s4.toNat) (.int .u8 c.s5.toNat) (.bool c.tag) (.int .u8 c.pri.toNat) (.int .u16 c.vid.toNat) (.int .u16 c.ty.toNat) (.string ⟨c.data.toArray⟩) (by kernel_rfl)
  obtain ⟨w9, hw⟩ : ∃ x, u8.alloc (.cells #[.int .u8 c.d0.toNat, .int .u8 c.d1.toNat, .int .u8 c.d2.toNat, .int .u8 c.d3.toNat, .int .u8 c.d4.toNat, .int .u8 c.d5.toNat, .int .u8 c.s0.toNat, .int .u8 c.s1.toNat, .int .u8 c.s2.toNat, .int .u8 c.s3.toNat, .int .u8 c.s4.toNat, .int .u8 c.s5.toNat, .bool c.tag, .int .u8 c.pri.toNat, .int .u16 c.vid.toNat, .int .u16 c.ty.toNat, .string ⟨c.data.toArray⟩] 27) = x := ⟨_, rfl⟩
  obtain ⟨g9, hg⟩ : ∃ x, u8.heap.size = x := ⟨_, rfl⟩
  rw [hw, hg] at st
  have HF9 := Lib.hid (show FrA w9 g9 c by rw [← hw, ← hg]; exact FrA.new u8 c)
  have HT9 := Lib.hid (show Tbl w9 t mb 4 L1 own1 by rw [← hw]; exact HTu.out.next ((Below.refl _ _).alloc (Nat.le_refl _) _))
  have HB9 := Lib.hid (show Below w.heap.size w w9 by rw [← hw]; exact HBu.out.alloc HBu.out.size _)
  have HF8 := Lib.hid (show FrA w9 g8 z by rw [← hw]; exact HFu8.out.alloc _)
  clear HFu8 HTu HBu
  go_upto_region 12 with fail
  clear st hw hg
  go_wp2_with fail
  refine (wk_out3 HZ.out HT9.out).mono ?_
  rintro e u9 ⟨rfl, hb⟩
  have HTu := Lib.hid (HT9.out.next hb)
  have HBu : Hid (Below w.heap.size w u9) := Lib.hid (HB9.out.trans (hb.mono HB9.out.size))
  have HFu8 := Lib.hid (HF8.out.next hb)
  have HFu9 := Lib.hid (HF9.out.next hb)
  clear hb HT9 HB9 HF8 HF9
  have st := stores_new u9 (.int .u8 z.d0.toNat) (.int .u8 z.d1.toNat) (.int .u8 z.d2.toNat) (.int .u8 z.d3.toNat) (.int .u8 z.d4.toNat) (.int .u8 z.d5.toNat) (.int .u8 z.s0.toNat) (.int .u8 z.s1.toNat) (.int .u8 z.s2.toNat) (.int .u8 z.s3.toNat) (.int .u8 z.s4.toNat) (.int .u8 z.s5.toNat) (.bool z.tag) (.int .u8 z.pri.toNat) (.int .u16 z.vid.toNat) (.int .u16 z.ty.toNat) (.string ⟨z.data.toArray⟩) (by kernel_rfl)
  obtain ⟨w10, hw⟩ : ∃ x, u9.alloc (.cells #[.int .u8 z.d0.toNat, .int .u8 z.d1.toNat, .int .u8 z.d2.toNat, .int .u8 z.d3.toNat, .int .u8 z.d4.toNat, .int .u8 z.d5.toNat, .int .u8 z.s0.toNat, .int .u8 z.s1.toNat, .int .u8 z.s2.toNat, .int .u8 z.s3.toNat, .int .u8 z.s4.toNat, .int .u8 z.s5.toNat, .bool z.tag, .int .u8 z.pri.toNat, .int .u16 z.vid.toNat, .int .u16 z.ty.toNat, .string ⟨z.data.toArray⟩] 27) = x := ⟨_, rfl⟩
  obtain ⟨g10, hg⟩ : ∃ x, u9.heap.size = x := ⟨_, rfl⟩
  rw [hw, hg] at st
  have HF10 := Lib.hid (show FrA w10 g10 z by rw [← hw, ← hg]; exact FrA.new u9 z)
  have HT10 := Lib.hid (show Tbl w10 t mb 4 L1 own1 by rw [← hw]; exact HTu.out.next ((Below.refl _ _).alloc (Nat.le_refl _) _))
  have HB10 := Lib.hid (show Below w.heap.size w w10 by rw [← hw]; exact HBu.out.alloc HBu.out.size _)
  have HF8 := Lib.hid (show FrA w10 g8 z by rw [← hw]; exact HFu8.out.alloc _)
  have HF9 := Lib.hid (show FrA w10 g9 c by rw [← hw]; exact HFu9.out.alloc _)
  clear HFu8 HFu9 HTu HBu
  go_upto_region 13 with fail
  clear st hw hg
  clear HF10 HT10
  have eZ := fun W => eqZZ HZ.out W
  have eC := fun W => eqCC HCC.out W
  go_wp2_with (first
    | refine wpList_load_frame 13 rfl (by kernel_rfl) g8 z rfl HF8.out ?_
    | refine wpList_load_frame 15 rfl (by kernel_rfl) g9 c rfl HF9.out ?_)
  go_ret
  exact ⟨rfl, HB10.out⟩
end Go.Proofs.Yteiopobkbfancaa
