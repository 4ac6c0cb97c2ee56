/- Layer 2: the laws' wakes; addresses that are known. -/
import Derived.Test.YtabdhokcgedomaaMac
import Derived.Test.YtabdhokcgedomaaText
namespace Go.Proofs.Ytabdhokcgedomaa
open Go.RowKit
set_option linter.unusedVariables false
set_option linter.unusedSimpArgs false

theorem lvl_known : lvl [1, 128, 194, 0, 0, gby 48 7] = some 7 := by decide +kernel
theorem txt_known1 : txt 1 128 194 0 0 (gby 48 7) = [48, 49, 58, 56, 48, 58, 99, 50, 58, 48, 48, 58, 48, 48, 58, 51, 55] := by decide +kernel
theorem txt_known2 : txt 1 128 194 0 0 (gby 56 0) = [48, 49, 58, 56, 48, 58, 99, 50, 58, 48, 48, 58, 48, 48, 58, 51, 56] := by decide +kernel
theorem txt_known3 : txt 1 128 194 0 0 0 = [48, 49, 58, 56, 48, 58, 99, 50, 58, 48, 48, 58, 48, 48, 58, 48, 48] := by decide +kernel

set_option maxHeartbeats 4000000 in
set_option maxRecDepth 100000 in
theorem wakes_any (w : World) :
    Calls Try.prog 17 #[] w fun e w' => e = .returned (.bool true) ∧ Below w.heap.size w w' := by
  have k1 := Lib.hid txt_known1
  have k2 := Lib.hid txt_known2
  have k3 := Lib.hid txt_known3
  have kl : Hid (lvlV [1, 128, 194, 0, 0, gby 48 7] = .tuple #[.int .u8 7, .bool true]) := Lib.hid (by unfold lvlV; rw [lvl_known]; rfl)
  go_enter Try.func17, Try.ntmps17
  go_wp2_with fail
  refine (check_in _ 7 (by omega)).mono ?_
  rintro r w1 ⟨rfl, hb1⟩
  have HB1 := Lib.hid hb1
  clear hb1
  go_wp2_with fail
  refine (trace_in _ 0 (by omega)).mono ?_
  rintro r w2 ⟨rfl, hb2⟩
  have HB2 : Hid (Below w.heap.size w w2) := Lib.hid ((HB1.out.alloc HB1.out.size _).trans (hb2.mono (by have := HB1.out.size; simp; omega)))
  have C2 : Hid (Arr w2 w1.heap.size 1 128 194 0 0 (gby 48 7)) := Lib.hid ((Arr.new w1 _ _ _ _ _ _).next hb2)
  clear hb2 HB1
  go_wp2_with fail
  refine (check_out _ 8 (by omega)).mono ?_
  rintro r w3 ⟨rfl, hb3⟩
  have HB3 : Hid (Below w.heap.size w w3) := Lib.hid ((HB2.out.alloc HB2.out.size _).trans (hb3.mono (by have := HB2.out.size; simp; omega)))
  have C3 : Arr w3 w1.heap.size 1 128 194 0 0 (gby 48 7) := (C2.out.alloc _).next hb3
  have T3 : Hid (Arr w3 w2.heap.size 1 128 194 0 0 (gby 56 0)) := Lib.hid ((Arr.new w2 _ _ _ _ _ _).next hb3)
  clear hb3 HB2 C2
  have hl := C3.lt
  obtain ⟨c0, c1, c2, c3, c4, c5⟩ := C3.cells
  have CC3 := Lib.hid C3
  clear C3
  go_wp2_with fail
  refine (level_any _ 1 128 194 0 0 (gby 48 7)).mono ?_
  rw [kl.out]
  rintro r w4 ⟨rfl, hb4⟩
  have HB4 : Hid (Below w.heap.size w w4) := Lib.hid ((HB3.out.alloc HB3.out.size _).trans (hb4.mono (by have := HB3.out.size; simp; omega)))
  have C4 : Arr w4 w1.heap.size 1 128 194 0 0 (gby 48 7) := (CC3.out.alloc _).next hb4
  have T4 : Hid (Arr w4 w2.heap.size 1 128 194 0 0 (gby 56 0)) := Lib.hid ((T3.out.alloc _).next hb4)
  clear hb4 HB3 T3 c0 c1 c2 c3 c4 c5 hl CC3
  obtain ⟨c0, c1, c2, c3, c4, c5⟩ := C4.cells
  clear C4
  go_wp2_with fail
  refine (text_mac _ 1 128 194 0 0 (gby 48 7)).mono ?_
  rw [k1.out]
  rintro r w5 ⟨rfl, hb5⟩
  have HB5 : Hid (Below w.heap.size w w5) := Lib.hid (HB4.out.trans (hb5.mono HB4.out.size))
  have T5 : Arr w5 w2.heap.size 1 128 194 0 0 (gby 56 0) := T4.out.next hb5
  clear hb5 HB4 T4 c0 c1 c2 c3 c4 c5
  obtain ⟨c0, c1, c2, c3, c4, c5⟩ := T5.cells
  clear T5
  go_wp2_with fail
  refine (text_mac _ 1 128 194 0 0 (gby 56 0)).mono ?_
  rw [k2.out]
  rintro r w6 ⟨rfl, hb6⟩
  have HB6 : Hid (Below w.heap.size w w6) := Lib.hid (HB5.out.trans (hb6.mono HB5.out.size))
  clear hb6 HB5 c0 c1 c2 c3 c4 c5
  go_wp2_with fail
  refine (own_any _).mono ?_
  rintro r w7 ⟨rfl, hb7⟩
  have HB7 : Hid (Below w.heap.size w w7) := Lib.hid (HB6.out.trans (hb7.mono HB6.out.size))
  clear hb7 HB6
  go_wp2_with fail
  refine (text_mac _ 1 128 194 0 0 0).mono ?_
  rw [k3.out]
  rintro r w8 ⟨rfl, hb8⟩
  have HB8 : Hid (Below w.heap.size w w8) := Lib.hid (HB7.out.trans (hb8.mono HB7.out.size))
  clear hb8 HB7
  go_wp2_with fail
  refine (all_any _).mono ?_
  rintro r w9 ⟨rfl, hb9⟩
  have HB9 : Hid (Below w.heap.size w w9) := Lib.hid (HB8.out.trans (hb9.mono HB8.out.size))
  clear hb9 HB8
  go_wp2_with fail
  refine (isgroup_any _ 255 255 255 255 255 255).mono ?_
  rw [show ((255 : UInt8).toNat % 2 == 1) = true from by decide]
  rintro r w10 ⟨rfl, hb10⟩
  have HBA : Hid (Below w.heap.size w w10) := Lib.hid (HB9.out.trans (hb10.mono HB9.out.size))
  clear hb10 HB9
  go_wp2
  go_ret
  exact ⟨rfl, HBA.out⟩
end Go.Proofs.Ytabdhokcgedomaa
