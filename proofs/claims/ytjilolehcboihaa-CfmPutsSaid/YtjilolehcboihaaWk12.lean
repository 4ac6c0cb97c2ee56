/- Layer 12: the laws' wakes. -/
import Derived.Test.YtjilolehcboihaaLaw12
namespace Go.Proofs.Ytjilolehcboihaa
open Go.RowKit
set_option linter.unusedVariables false
set_option linter.unusedSimpArgs false
set_option maxRecDepth 100000

def wp12 : Pd := ⟨5, 3, 0, [97, 98, 99, 100], []⟩
theorem w12a : pdP wp12 = [160, 3, 0, 4, 97, 98, 99, 100, 0] ∧ pdE wp12 = 0 := by decide +kernel
theorem w12b : cfE [160, 3, 0, 4, 97, 98, 99, 100, 0, 120] = 0 := by decide +kernel
theorem w12q : cfX [160, 3, 0, 4, 97, 98, 99, 100, 0, 120] = wp12 := by
  have h := (cf_back (p := wp12) w12a.2 [120]).2
  rw [w12a.1] at h
  exact h
theorem w12c : hdL [191, 9, 7, 6] = 5 ∧ hdO [191, 9, 7, 6] = 9 ∧ hdB [191, 9, 7, 6] = true := by decide +kernel
theorem wput12 (w : World) :
    Calls Try.prog 8 #[.agg #[.int .u8 5, .int .u8 3, .int .u8 0, .string ⟨#[97, 98, 99, 100]⟩, .slice none 0 0]] w fun e w' => e = .returned (.tuple #[.string ⟨#[160, 3, 0, 4, 97, 98, 99, 100, 0]⟩, .int .i64 0]) ∧ Below w.heap.size w w' := by
  have := cfput_any none 0 wp12 w (els_nilL _ _) (by decide)
  rw [w12a.1, w12a.2] at this
  exact this
theorem wtake12 (w : World) :
    Calls Try.prog 11 #[.string ⟨#[160, 3, 0, 4, 97, 98, 99, 100, 0, 120]⟩] w fun e w' => ∃ A c, e = .returned (.tuple #[.agg #[.int .u8 5, .int .u8 3, .int .u8 0, .string ⟨#[97, 98, 99, 100]⟩, .slice A 0 c], .int .i64 0]) ∧ Below w.heap.size w w' := by
  have := cftake_any [160, 3, 0, 4, 97, 98, 99, 100, 0, 120] w (by decide)
  rw [w12b, w12q] at this
  refine this.mono ?_
  rintro e w' ⟨A, c, he, _, _, hb⟩
  exact ⟨A, c, he, hb⟩
theorem whead12 (w : World) :
    Calls Try.prog 13 #[.string ⟨#[191, 9, 7, 6]⟩] w fun e w' => e = .returned (.tuple #[.int .u8 5, .int .u8 9, .bool true]) ∧ Below w.heap.size w w' := by
  have := cfhead_any [191, 9, 7, 6] w
  rw [w12c.1, w12c.2.1, w12c.2.2] at this
  refine this.mono ?_
  rintro e w' ⟨he, m, rfl⟩
  exact ⟨he, below_drewN (Below.refl _ _) m⟩
theorem wsame12 (A : Option Addr) (c : Nat) (w : World) :
    Calls Try.prog 16 #[.agg #[.int .u8 5, .int .u8 3, .int .u8 0, .string ⟨#[97, 98, 99, 100]⟩, .slice none 0 0], .agg #[.int .u8 5, .int .u8 3, .int .u8 0, .string ⟨#[97, 98, 99, 100]⟩, .slice A 0 c]] w fun e w' => e = .returned (.bool true) ∧ Below w.heap.size w w' :=
  same12_any none A 0 c wp12 w (els_nilL _ _) (els_nilL _ _) (by decide)
set_option maxHeartbeats 2000000 in
theorem wakes12 (w : World) : Calls Try.prog 7 #[] w fun r w' => r = .returned (.bool true) ∧ Below w.heap.size w w' := by
  have HB0 : Hid (Below w.heap.size w (w.alloc (.cells #[.int .u8 5, .int .u8 3, .int .u8 0, .string ⟨#[97, 98, 99, 100]⟩, .slice none 0 0] 32))) := Lib.hid ((Below.refl _ _).alloc (Nat.le_refl _) _)
  have HK0 : Hid (Blk (w.alloc (.cells #[.int .u8 5, .int .u8 3, .int .u8 0, .string ⟨#[97, 98, 99, 100]⟩, .slice none 0 0] 32)) w.heap.size 32 #[.int .u8 5, .int .u8 3, .int .u8 0, .string ⟨#[97, 98, 99, 100]⟩, .slice none 0 0]) := Lib.hid (Blk.new w _ _)
  have ha : ∀ W : World, (Op.stringOp .add ⟨#[160, 3, 0, 4, 97, 98, 99, 100, 0]⟩ ⟨#[120]⟩).run Try.prog W = .ok (.string ⟨#[160, 3, 0, 4, 97, 98, 99, 100, 0, 120]⟩) W := fun W => run_string_add_lists W [160, 3, 0, 4, 97, 98, 99, 100, 0] [120] (by decide) (by decide)
  go_enter Try.func7, Try.ntmps7
  go_wp2_with fail
  refine (wput12 _).mono ?_
  rintro r w1 ⟨rfl, hb1⟩
  have HB1 : Hid (Below w.heap.size w w1) := Lib.hid (HB0.out.trans (hb1.mono HB0.out.size))
  have HK1 := Lib.hid (HK0.out.below hb1 HK0.out.lt)
  clear hb1 HK0 HB0
  go_wp2_with fail
  refine (wtake12 _).mono ?_
  rintro r w2 ⟨A, c, rfl, hb2⟩
  have HB2 : Hid (Below w.heap.size w w2) := Lib.hid (HB1.out.trans (hb2.mono HB1.out.size))
  have HK2 := Lib.hid (HK1.out.below hb2 HK1.out.lt)
  clear hb2 HK1 HB1
  have HB3 : Hid (Below w.heap.size w (w2.alloc (.cells #[.int .u8 5, .int .u8 3, .int .u8 0, .string ⟨#[97, 98, 99, 100]⟩, .slice A 0 c] 32))) := Lib.hid (HB2.out.alloc HB2.out.size _)
  have HK3 := Lib.hid (HK2.out.alloc (.cells #[.int .u8 5, .int .u8 3, .int .u8 0, .string ⟨#[97, 98, 99, 100]⟩, .slice A 0 c] 32))
  have HJ3 := Lib.hid (Blk.new w2 32 #[.int .u8 5, .int .u8 3, .int .u8 0, .string ⟨#[97, 98, 99, 100]⟩, .slice A 0 c])
  clear HB2 HK2
  go_wp2_with fail
  refine (whead12 _).mono ?_
  rintro r w4 ⟨rfl, hb4⟩
  have HB4 : Hid (Below w.heap.size w w4) := Lib.hid (HB3.out.trans (hb4.mono HB3.out.size))
  have HK4 := Lib.hid (HK3.out.below hb4 HK3.out.lt)
  have HJ4 := Lib.hid (HJ3.out.below hb4 HJ3.out.lt)
  clear hb4 HK3 HJ3 HB3
  have k0 := HK4.out.cell 0
  have k1 := HK4.out.cell 1
  have k2 := HK4.out.cell 2
  have k3 := HK4.out.cell 3
  have k4 := HK4.out.cell 4
  have j0 := HJ4.out.cell 0
  have j1 := HJ4.out.cell 1
  have j2 := HJ4.out.cell 2
  have j3 := HJ4.out.cell 3
  have j4 := HJ4.out.cell 4
  simp only [List.getElem?_toArray, List.getElem?_cons_succ, List.getElem?_cons_zero] at k0 k1 k2 k3 k4 j0 j1 j2 j3 j4
  go_wp2_with fail
  refine (wsame12 _ _ _).mono ?_
  rintro r w5 ⟨rfl, hb5⟩
  have HB5 : Hid (Below w.heap.size w w5) := Lib.hid (HB4.out.trans (hb5.mono HB4.out.size))
  clear hb5
  go_wp2
  go_ret
  exact ⟨rfl, HB5.out⟩
end Go.Proofs.Ytjilolehcboihaa
