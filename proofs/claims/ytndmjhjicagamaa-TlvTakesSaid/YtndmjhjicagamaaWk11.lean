/- Layer 11: the laws' wakes. -/
import Derived.Test.YtndmjhjicagamaaTlPut
import Derived.Test.YtndmjhjicagamaaTlFind
import Derived.Test.YtndmjhjicagamaaTlTk
import Derived.Deep.DeepCutAuto
import Derived.Laws.Concat
namespace Go.Proofs.Ytndmjhjicagamaa
open Go.RowKit
set_option linter.unusedVariables false
set_option linter.unusedSimpArgs false
set_option maxRecDepth 100000

def tl11 : List Tl := [⟨3, [97, 98]⟩]
theorem w11a : tlP tl11 = [3, 0, 2, 97, 98, 0] ∧ tlE tl11 = 0 := by decide +kernel
theorem w11b : tkX [3, 0, 2, 97, 98, 0, 7] = tl11 ∧ tkR [3, 0, 2, 97, 98, 0, 7] = [7] ∧ tkErr [3, 0, 2, 97, 98, 0, 7] = 0 := by decide +kernel
theorem w11c : tlFv tl11 3 = [97, 98] ∧ tlFb tl11 3 = true := by decide +kernel
theorem wput11 (A : Option Addr) (c : Nat) (w : World) (hE : Els 2 tlV w A tl11) :
    Calls Try.prog 8 #[.slice A 1 c] w fun e w' => e = .returned (.tuple #[.string ⟨#[3, 0, 2, 97, 98, 0]⟩, .int .i64 0]) ∧ Below w.heap.size w w' := by
  have := tlput_any A c tl11 w hE (by decide)
  rw [w11a.1, w11a.2] at this
  exact this
theorem wtake11 (w : World) :
    Calls Try.prog 13 #[.string ⟨#[3, 0, 2, 97, 98, 0, 7]⟩] w fun e w' => ∃ A c, e = .returned (.tuple #[.slice A 1 c, .string ⟨#[7]⟩, .int .i64 0]) ∧ Els 2 tlV w' A tl11 ∧ Below w.heap.size w w' := by
  have := tltake_any [3, 0, 2, 97, 98, 0, 7] w (by decide)
  rw [w11b.1, w11b.2.1, w11b.2.2] at this
  refine this.mono ?_
  rintro e w' ⟨A, c, he, hE, _, hb⟩
  exact ⟨A, c, he, hE, hb⟩
theorem wfind11 (A : Option Addr) (c : Nat) (w : World) (hE : Els 2 tlV w A tl11) :
    Calls Try.prog 11 #[.slice A 1 c, .int .u8 3] w fun e w' => e = .returned (.tuple #[.string ⟨#[97, 98]⟩, .bool true]) ∧ Below w.heap.size w w' := by
  have := tlfind_any A c tl11 3 w hE (by decide)
  rw [w11c.1, w11c.2] at this
  exact this
set_option maxHeartbeats 1000000 in
theorem wakes11 (w : World) : Calls Try.prog 7 #[] w fun r w' => r = .returned (.bool true) ∧ Below w.heap.size w w' := by
  have HE0 : Hid (Els 2 tlV (w.alloc (.cells #[.int .u8 3, .string ⟨#[97, 98]⟩] 44)) (some ⟨w.heap.size, 0, none⟩) tl11) := Lib.hid (els_oneL w _ ⟨3, [97, 98]⟩ _ rfl)
  have HB0 : Hid (Below w.heap.size w (w.alloc (.cells #[.int .u8 3, .string ⟨#[97, 98]⟩] 44))) := Lib.hid ((Below.refl _ _).alloc (Nat.le_refl _) _)
  have ha : ∀ W : World, (Op.stringOp .add ⟨#[3, 0, 2, 97, 98, 0]⟩ ⟨#[7]⟩).run Try.prog W = .ok (.string ⟨#[3, 0, 2, 97, 98, 0, 7]⟩) W := fun W => run_string_add_lists W [3, 0, 2, 97, 98, 0] [7] (by decide) (by decide)
  go_enter Try.func7, Try.ntmps7
  go_wp2_with fail
  refine (wput11 _ _ _ HE0.out).mono ?_
  rintro r w1 ⟨rfl, hb1⟩
  have HB1 : Hid (Below w.heap.size w w1) := Lib.hid (HB0.out.trans (hb1.mono HB0.out.size))
  clear hb1
  go_wp2_with fail
  refine (wtake11 _).mono ?_
  rintro r w2 ⟨A, c, rfl, hE, hb2⟩
  have HE2 := Lib.hid hE
  have HB2 : Hid (Below w.heap.size w w2) := Lib.hid (HB1.out.trans (hb2.mono HB1.out.size))
  clear hE hb2
  go_wp2_with fail
  refine (wfind11 _ _ _ HE2.out).mono ?_
  rintro r w3 ⟨rfl, hb3⟩
  have HB3 : Hid (Below w.heap.size w w3) := Lib.hid (HB2.out.trans (hb3.mono HB2.out.size))
  clear hb3
  go_wp2
  go_ret
  exact ⟨rfl, HB3.out⟩
end Go.Proofs.Ytndmjhjicagamaa
