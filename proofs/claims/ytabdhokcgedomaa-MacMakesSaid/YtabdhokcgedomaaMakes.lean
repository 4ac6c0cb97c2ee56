/- MacMakes: the groups of any level, the address of any number, everybody's and the bridge's own are what the document says: for every level and number, without a condition. -/
import Derived.Test.YtabdhokcgedomaaWakes
import Derived.Test.YtabdhokcgedomaaRef
import Derived.Test.YtabdhokcgedomaaRefOf
import Derived.Test.YtabdhokcgedomaaMacNum
import Derived.OpenShut
import Derived.ShutString
import Derived.ChangeOld
namespace Go.Proofs.Ytabdhokcgedomaa.macMakes
open Go.ChangeShapes Go.WideShapes Go.ChangeAt Go.RowKit
open Go.ChangeMaps (open_string shut_string)
set_option linter.unusedVariables false
set_option linter.unusedSimpArgs false

theorem refof_all (w : World) :
    Calls Try.prog 22 #[.int .u64 281474976710655] w fun r w' => r = .returned (MA 255 255 255 255 255 255) ∧ Below w.heap.size w w' := by
  have := refof_any w 281474976710655 (by omega) 255 255 255 255 255 255 (by decide +kernel)
  have e : ((281474976710655 : Nat) : Int) = 281474976710655 := by omega
  rw [e] at this
  exact this
set_option maxRecDepth 100000 in
set_option maxHeartbeats 4000000 in
theorem walk11 (W : World) (k n : Nat) (hk : k < 8) (hn : n < 281474976710656) :
    Calls Try.prog 4 #[.int .u8 k, .int .u64 n] W fun e w' => e = .returned (.bool true) ∧ Below W.heap.size W w' := by
  have ek : (k : Int) % 8 = ((k % 8 : Nat) : Int) := by omega
  have EK := Lib.hid ek
  have el : k % 8 = k := by omega
  have EL := Lib.hid el
  have em : (n : Int) % 281474976710656 = ((n % 281474976710656 : Nat) : Int) := by omega
  have EM := Lib.hid em
  obtain ⟨a, b, c, d, e, f, hd⟩ := list6 (dig_len 6 n)
  have hd2 : dig 6 (n % 281474976710656) = [a, b, c, d, e, f] := (dig_mod 6 n).trans hd
  have HD := Lib.hid hd
  have HD2 := Lib.hid hd2
  clear ek em hd hd2 el
  have eC : ∀ w, (Op.equalIn 10000 23 (.agg #[.int .u8 1, .int .u8 128, .int .u8 194, .int .u8 0, .int .u8 0, .int .u8 (gby 48 k).toNat]) (.agg #[.int .u8 1, .int .u8 128, .int .u8 194, .int .u8 0, .int .u8 0, .int .u8 (gby 48 k).toNat])).run Try.prog w = .ok true w := fun w => by have := run_eq6 1 128 194 0 0 (gby 48 k) 1 128 194 0 0 (gby 48 k) w; rw [beq_self_eq_true] at this; exact this
  have eD : ∀ w, (Op.equalIn 10000 23 (.agg #[.int .u8 1, .int .u8 128, .int .u8 194, .int .u8 0, .int .u8 0, .int .u8 (gby 56 k).toNat]) (.agg #[.int .u8 1, .int .u8 128, .int .u8 194, .int .u8 0, .int .u8 0, .int .u8 (gby 56 k).toNat])).run Try.prog w = .ok true w := fun w => by have := run_eq6 1 128 194 0 0 (gby 56 k) 1 128 194 0 0 (gby 56 k) w; rw [beq_self_eq_true] at this; exact this
  have eM : ∀ w, (Op.equalIn 10000 23 (.agg #[.int .u8 (a).toNat, .int .u8 (b).toNat, .int .u8 (c).toNat, .int .u8 (d).toNat, .int .u8 (e).toNat, .int .u8 (f).toNat]) (.agg #[.int .u8 (a).toNat, .int .u8 (b).toNat, .int .u8 (c).toNat, .int .u8 (d).toNat, .int .u8 (e).toNat, .int .u8 (f).toNat])).run Try.prog w = .ok true w := fun w => by have := run_eq6 a b c d e f a b c d e f w; rw [beq_self_eq_true] at this; exact this
  have eA : ∀ w, (Op.equalIn 10000 23 (.agg #[.int .u8 255, .int .u8 255, .int .u8 255, .int .u8 255, .int .u8 255, .int .u8 255]) (.agg #[.int .u8 255, .int .u8 255, .int .u8 255, .int .u8 255, .int .u8 255, .int .u8 255])).run Try.prog w = .ok true w := fun w => by have := run_eq6 255 255 255 255 255 255 255 255 255 255 255 255 w; rw [beq_self_eq_true] at this; exact this
  have eO : ∀ w, (Op.equalIn 10000 23 (.agg #[.int .u8 1, .int .u8 128, .int .u8 194, .int .u8 0, .int .u8 0, .int .u8 0]) (.agg #[.int .u8 1, .int .u8 128, .int .u8 194, .int .u8 0, .int .u8 0, .int .u8 0])).run Try.prog w = .ok true w := fun w => by have := run_eq6 1 128 194 0 0 0 1 128 194 0 0 0 w; rw [beq_self_eq_true] at this; exact this
  go_enter Try.func4, Try.ntmps4
  go_wp2_with fail
  refine (check_in _ k hk).mono ?_
  rintro r w1 ⟨rfl, hb1⟩
  have HB1 := Lib.hid hb1
  clear hb1
  go_wp2_with fail
  refine (trace_in _ k hk).mono ?_
  rintro r w2 ⟨rfl, hb2⟩
  have HB2 : Hid (Below W.heap.size W w2) := Lib.hid ((HB1.out.alloc HB1.out.size _).trans (hb2.mono (by have := HB1.out.size; simp; omega)))
  have A2 : Hid (Arr w2 w1.heap.size 1 128 194 0 0 (gby 48 k)) := Lib.hid ((Arr.new w1 _ _ _ _ _ _).next hb2)
  clear hb2 HB1
  go_wp2_with fail
  rw [EK.out]
  refine (reflevels_any _ (k % 8) (by omega)).mono ?_
  rw [EL.out]
  rintro r w3 ⟨rfl, hb3⟩
  have HB3 : Hid (Below W.heap.size W w3) := Lib.hid ((HB2.out.alloc HB2.out.size _).trans (hb3.mono (by have := HB2.out.size; simp; omega)))
  have A3 : Hid (Arr w3 w1.heap.size 1 128 194 0 0 (gby 48 k)) := Lib.hid ((A2.out.alloc _).next hb3)
  have B3 : Hid (Arr w3 w2.heap.size 1 128 194 0 0 (gby 56 k)) := Lib.hid ((Arr.new w2 _ _ _ _ _ _).next hb3)
  clear hb3 HB2 A2
  go_wp2_with fail
  refine (macof_in _ n hn a b c d e f HD.out).mono ?_
  rintro r w4 ⟨rfl, hb4⟩
  have HB4 : Hid (Below W.heap.size W w4) := Lib.hid (((HB3.out.alloc HB3.out.size _).alloc (by have := HB3.out.size; simp; omega) _).trans (hb4.mono (by have := HB3.out.size; simp; omega)))
  have A4 : Hid (Arr w4 w1.heap.size 1 128 194 0 0 (gby 48 k)) := Lib.hid (((A3.out.alloc _).alloc _).next hb4)
  have B4 : Hid (Arr w4 w2.heap.size 1 128 194 0 0 (gby 56 k)) := Lib.hid (((B3.alloc _).alloc _).next hb4)
  have C4 : Hid (Arr w4 w3.heap.size 1 128 194 0 0 (gby 48 k)) := Lib.hid (((Arr.new w3 _ _ _ _ _ _).alloc _).next hb4)
  have D4 : Hid (Arr w4 (w3.heap.size + 1) 1 128 194 0 0 (gby 56 k)) := Lib.hid (by have := (Arr.new (w3.alloc _) 1 128 194 0 0 (gby 56 k)).next hb4; simpa using this)
  clear hb4 HB3 A3 B3
  go_wp2_with fail
  first | rw [EM.out] | skip
  first
    | refine (refof_any _ (n % 281474976710656) (by omega) a b c d e f HD2.out).mono ?_
    | refine (refof_any _ n (by omega) a b c d e f HD.out).mono ?_
  rintro r w5 ⟨rfl, hb5⟩
  have HB5 : Hid (Below W.heap.size W w5) := Lib.hid ((HB4.out.alloc HB4.out.size _).trans (hb5.mono (by have := HB4.out.size; simp; omega)))
  have A5 : Arr w5 w1.heap.size 1 128 194 0 0 (gby 48 k) := (A4.out.alloc _).next hb5
  have B5 : Arr w5 w2.heap.size 1 128 194 0 0 (gby 56 k) := (B4.out.alloc _).next hb5
  have C5 : Arr w5 w3.heap.size 1 128 194 0 0 (gby 48 k) := (C4.out.alloc _).next hb5
  have D5 : Arr w5 (w3.heap.size + 1) 1 128 194 0 0 (gby 56 k) := (D4.out.alloc _).next hb5
  have M5 : Arr w5 w4.heap.size a b c d e f := (Arr.new w4 _ _ _ _ _ _).next hb5
  clear hb5 HB4 A4 B4 C4 D4
  have pl := A5.lt
  obtain ⟨p0, p1, p2, p3, p4, p5⟩ := A5.cells
  have ql := B5.lt
  obtain ⟨q0, q1, q2, q3, q4, q5⟩ := B5.cells
  have sl := C5.lt
  obtain ⟨s0, s1, s2, s3, s4, s5⟩ := C5.cells
  have tl := D5.lt
  obtain ⟨t0, t1, t2, t3, t4, t5⟩ := D5.cells
  have ul := M5.lt
  obtain ⟨u0, u1, u2, u3, u4, u5⟩ := M5.cells
  clear A5 B5 C5 D5 M5
  have hge : decide ((281474976710656 : Int) ≤ (n : Int)) = false := by simp; omega
  go_upto_region 11 with (fail)
  clear hge
  obtain ⟨N, hN⟩ : ∃ N : Int, (281474976710656 : Int) = N := ⟨_, rfl⟩
  have hlt : decide ((n : Int) < N) = true := by simp; omega
  rw [hN]
  clear hN hn
  go_wp2_with fail
  refine (all_any _).mono ?_
  rintro r w6 ⟨rfl, hb6⟩
  have HB6 : Hid (Below W.heap.size W w6) := Lib.hid ((HB5.out.alloc HB5.out.size _).trans (hb6.mono (by have := HB5.out.size; simp; omega)))
  clear hb6 HB5
  go_wp2_with fail
  refine (refof_all _).mono ?_
  rintro r w7 ⟨rfl, hb7⟩
  have HB7 : Hid (Below W.heap.size W w7) := Lib.hid (HB6.out.trans (hb7.mono HB6.out.size))
  clear hb7 HB6
  go_wp2_with fail
  refine (own_any _).mono ?_
  rintro r w8 ⟨rfl, hb8⟩
  have HB8 : Hid (Below W.heap.size W w8) := Lib.hid (HB7.out.trans (hb8.mono HB7.out.size))
  clear hb8 HB7
  go_wp2_with fail
  refine (wakes_any _).mono ?_
  rintro r w9 ⟨rfl, hb9⟩
  have HB9 : Hid (Below W.heap.size W w9) := Lib.hid (HB8.out.trans (hb9.mono HB8.out.size))
  clear hb9 HB8
  go_wp2
  go_ret
  exact ⟨rfl, HB9.out⟩
set_option maxRecDepth 100000 in
set_option maxHeartbeats 4000000 in
theorem walk10 (W : World) (k n : Nat) (hk : k < 8) (hn : 281474976710656 ≤ n) (hn64 : n < 18446744073709551616) :
    Calls Try.prog 4 #[.int .u8 k, .int .u64 n] W fun e w' => e = .returned (.bool true) ∧ Below W.heap.size W w' := by
  have ek : (k : Int) % 8 = ((k % 8 : Nat) : Int) := by omega
  have EK := Lib.hid ek
  have el : k % 8 = k := by omega
  have EL := Lib.hid el
  have em : (n : Int) % 281474976710656 = ((n % 281474976710656 : Nat) : Int) := by omega
  have EM := Lib.hid em
  obtain ⟨a, b, c, d, e, f, hd⟩ := list6 (dig_len 6 n)
  have hd2 : dig 6 (n % 281474976710656) = [a, b, c, d, e, f] := (dig_mod 6 n).trans hd
  have HD := Lib.hid hd
  have HD2 := Lib.hid hd2
  clear ek em hd hd2 el
  have eC : ∀ w, (Op.equalIn 10000 23 (.agg #[.int .u8 1, .int .u8 128, .int .u8 194, .int .u8 0, .int .u8 0, .int .u8 (gby 48 k).toNat]) (.agg #[.int .u8 1, .int .u8 128, .int .u8 194, .int .u8 0, .int .u8 0, .int .u8 (gby 48 k).toNat])).run Try.prog w = .ok true w := fun w => by have := run_eq6 1 128 194 0 0 (gby 48 k) 1 128 194 0 0 (gby 48 k) w; rw [beq_self_eq_true] at this; exact this
  have eD : ∀ w, (Op.equalIn 10000 23 (.agg #[.int .u8 1, .int .u8 128, .int .u8 194, .int .u8 0, .int .u8 0, .int .u8 (gby 56 k).toNat]) (.agg #[.int .u8 1, .int .u8 128, .int .u8 194, .int .u8 0, .int .u8 0, .int .u8 (gby 56 k).toNat])).run Try.prog w = .ok true w := fun w => by have := run_eq6 1 128 194 0 0 (gby 56 k) 1 128 194 0 0 (gby 56 k) w; rw [beq_self_eq_true] at this; exact this
  have eZ : ∀ w, (Op.equalIn 10000 23 (.agg #[.int .u8 0, .int .u8 0, .int .u8 0, .int .u8 0, .int .u8 0, .int .u8 0]) (.agg #[.int .u8 0, .int .u8 0, .int .u8 0, .int .u8 0, .int .u8 0, .int .u8 0])).run Try.prog w = .ok true w := fun w => by have := run_eq6 0 0 0 0 0 0 0 0 0 0 0 0 w; rw [beq_self_eq_true] at this; exact this
  have eA : ∀ w, (Op.equalIn 10000 23 (.agg #[.int .u8 255, .int .u8 255, .int .u8 255, .int .u8 255, .int .u8 255, .int .u8 255]) (.agg #[.int .u8 255, .int .u8 255, .int .u8 255, .int .u8 255, .int .u8 255, .int .u8 255])).run Try.prog w = .ok true w := fun w => by have := run_eq6 255 255 255 255 255 255 255 255 255 255 255 255 w; rw [beq_self_eq_true] at this; exact this
  have eO : ∀ w, (Op.equalIn 10000 23 (.agg #[.int .u8 1, .int .u8 128, .int .u8 194, .int .u8 0, .int .u8 0, .int .u8 0]) (.agg #[.int .u8 1, .int .u8 128, .int .u8 194, .int .u8 0, .int .u8 0, .int .u8 0])).run Try.prog w = .ok true w := fun w => by have := run_eq6 1 128 194 0 0 0 1 128 194 0 0 0 w; rw [beq_self_eq_true] at this; exact this
  go_enter Try.func4, Try.ntmps4
  go_wp2_with fail
  refine (check_in _ k hk).mono ?_
  rintro r w1 ⟨rfl, hb1⟩
  have HB1 := Lib.hid hb1
  clear hb1
  go_wp2_with fail
  refine (trace_in _ k hk).mono ?_
  rintro r w2 ⟨rfl, hb2⟩
  have HB2 : Hid (Below W.heap.size W w2) := Lib.hid ((HB1.out.alloc HB1.out.size _).trans (hb2.mono (by have := HB1.out.size; simp; omega)))
  have A2 : Hid (Arr w2 w1.heap.size 1 128 194 0 0 (gby 48 k)) := Lib.hid ((Arr.new w1 _ _ _ _ _ _).next hb2)
  clear hb2 HB1
  go_wp2_with fail
  rw [EK.out]
  refine (reflevels_any _ (k % 8) (by omega)).mono ?_
  rw [EL.out]
  rintro r w3 ⟨rfl, hb3⟩
  have HB3 : Hid (Below W.heap.size W w3) := Lib.hid ((HB2.out.alloc HB2.out.size _).trans (hb3.mono (by have := HB2.out.size; simp; omega)))
  have A3 : Hid (Arr w3 w1.heap.size 1 128 194 0 0 (gby 48 k)) := Lib.hid ((A2.out.alloc _).next hb3)
  have B3 : Hid (Arr w3 w2.heap.size 1 128 194 0 0 (gby 56 k)) := Lib.hid ((Arr.new w2 _ _ _ _ _ _).next hb3)
  clear hb3 HB2 A2
  go_wp2_with fail
  refine (macof_out _ n hn64 hn).mono ?_
  rintro r w4 ⟨rfl, hb4⟩
  have HB4 : Hid (Below W.heap.size W w4) := Lib.hid (((HB3.out.alloc HB3.out.size _).alloc (by have := HB3.out.size; simp; omega) _).trans (hb4.mono (by have := HB3.out.size; simp; omega)))
  have A4 : Hid (Arr w4 w1.heap.size 1 128 194 0 0 (gby 48 k)) := Lib.hid (((A3.out.alloc _).alloc _).next hb4)
  have B4 : Hid (Arr w4 w2.heap.size 1 128 194 0 0 (gby 56 k)) := Lib.hid (((B3.alloc _).alloc _).next hb4)
  have C4 : Hid (Arr w4 w3.heap.size 1 128 194 0 0 (gby 48 k)) := Lib.hid (((Arr.new w3 _ _ _ _ _ _).alloc _).next hb4)
  have D4 : Hid (Arr w4 (w3.heap.size + 1) 1 128 194 0 0 (gby 56 k)) := Lib.hid (by have := (Arr.new (w3.alloc _) 1 128 194 0 0 (gby 56 k)).next hb4; simpa using this)
  clear hb4 HB3 A3 B3
  go_wp2_with fail
  first | rw [EM.out] | skip
  refine (refof_any _ (n % 281474976710656) (by omega) a b c d e f HD2.out).mono ?_
  rintro r w5 ⟨rfl, hb5⟩
  have HB5 : Hid (Below W.heap.size W w5) := Lib.hid ((HB4.out.alloc HB4.out.size _).trans (hb5.mono (by have := HB4.out.size; simp; omega)))
  have A5 : Arr w5 w1.heap.size 1 128 194 0 0 (gby 48 k) := (A4.out.alloc _).next hb5
  have B5 : Arr w5 w2.heap.size 1 128 194 0 0 (gby 56 k) := (B4.out.alloc _).next hb5
  have C5 : Arr w5 w3.heap.size 1 128 194 0 0 (gby 48 k) := (C4.out.alloc _).next hb5
  have D5 : Arr w5 (w3.heap.size + 1) 1 128 194 0 0 (gby 56 k) := (D4.out.alloc _).next hb5
  have M5 : Arr w5 w4.heap.size 0 0 0 0 0 0 := (Arr.zero w4).next hb5
  clear hb5 HB4 A4 B4 C4 D4
  have pl := A5.lt
  obtain ⟨p0, p1, p2, p3, p4, p5⟩ := A5.cells
  have ql := B5.lt
  obtain ⟨q0, q1, q2, q3, q4, q5⟩ := B5.cells
  have sl := C5.lt
  obtain ⟨s0, s1, s2, s3, s4, s5⟩ := C5.cells
  have tl := D5.lt
  obtain ⟨t0, t1, t2, t3, t4, t5⟩ := D5.cells
  have ul := M5.lt
  obtain ⟨u0, u1, u2, u3, u4, u5⟩ := M5.cells
  clear A5 B5 C5 D5 M5
  have hge : decide ((281474976710656 : Int) ≤ (n : Int)) = true := by simp; omega
  go_upto_region 11 with (fail)
  clear hge
  obtain ⟨N, hN⟩ : ∃ N : Int, (281474976710656 : Int) = N := ⟨_, rfl⟩
  have hlt : decide ((n : Int) < N) = false := by simp; omega
  rw [hN]
  clear hN hn
  go_wp2_with fail
  refine (all_any _).mono ?_
  rintro r w6 ⟨rfl, hb6⟩
  have HB6 : Hid (Below W.heap.size W w6) := Lib.hid ((HB5.out.alloc HB5.out.size _).trans (hb6.mono (by have := HB5.out.size; simp; omega)))
  clear hb6 HB5
  go_wp2_with fail
  refine (refof_all _).mono ?_
  rintro r w7 ⟨rfl, hb7⟩
  have HB7 : Hid (Below W.heap.size W w7) := Lib.hid (HB6.out.trans (hb7.mono HB6.out.size))
  clear hb7 HB6
  go_wp2_with fail
  refine (own_any _).mono ?_
  rintro r w8 ⟨rfl, hb8⟩
  have HB8 : Hid (Below W.heap.size W w8) := Lib.hid (HB7.out.trans (hb8.mono HB7.out.size))
  clear hb8 HB7
  go_wp2_with fail
  refine (wakes_any _).mono ?_
  rintro r w9 ⟨rfl, hb9⟩
  have HB9 : Hid (Below W.heap.size W w9) := Lib.hid (HB8.out.trans (hb9.mono HB8.out.size))
  clear hb9 HB8
  go_wp2
  go_ret
  exact ⟨rfl, HB9.out⟩
set_option maxRecDepth 100000 in
set_option maxHeartbeats 4000000 in
theorem walk01 (W : World) (k n : Nat) (hk : 8 ≤ k) (wk : k ≤ 255) (hn : n < 281474976710656) :
    Calls Try.prog 4 #[.int .u8 k, .int .u64 n] W fun e w' => e = .returned (.bool true) ∧ Below W.heap.size W w' := by
  have ek : (k : Int) % 8 = ((k % 8 : Nat) : Int) := by omega
  have EK := Lib.hid ek
  have em : (n : Int) % 281474976710656 = ((n % 281474976710656 : Nat) : Int) := by omega
  have EM := Lib.hid em
  obtain ⟨a, b, c, d, e, f, hd⟩ := list6 (dig_len 6 n)
  have hd2 : dig 6 (n % 281474976710656) = [a, b, c, d, e, f] := (dig_mod 6 n).trans hd
  have HD := Lib.hid hd
  have HD2 := Lib.hid hd2
  clear ek em hd hd2
  have eZ : ∀ w, (Op.equalIn 10000 23 (.agg #[.int .u8 0, .int .u8 0, .int .u8 0, .int .u8 0, .int .u8 0, .int .u8 0]) (.agg #[.int .u8 0, .int .u8 0, .int .u8 0, .int .u8 0, .int .u8 0, .int .u8 0])).run Try.prog w = .ok true w := fun w => by have := run_eq6 0 0 0 0 0 0 0 0 0 0 0 0 w; rw [beq_self_eq_true] at this; exact this
  have eM : ∀ w, (Op.equalIn 10000 23 (.agg #[.int .u8 (a).toNat, .int .u8 (b).toNat, .int .u8 (c).toNat, .int .u8 (d).toNat, .int .u8 (e).toNat, .int .u8 (f).toNat]) (.agg #[.int .u8 (a).toNat, .int .u8 (b).toNat, .int .u8 (c).toNat, .int .u8 (d).toNat, .int .u8 (e).toNat, .int .u8 (f).toNat])).run Try.prog w = .ok true w := fun w => by have := run_eq6 a b c d e f a b c d e f w; rw [beq_self_eq_true] at this; exact this
  have eA : ∀ w, (Op.equalIn 10000 23 (.agg #[.int .u8 255, .int .u8 255, .int .u8 255, .int .u8 255, .int .u8 255, .int .u8 255]) (.agg #[.int .u8 255, .int .u8 255, .int .u8 255, .int .u8 255, .int .u8 255, .int .u8 255])).run Try.prog w = .ok true w := fun w => by have := run_eq6 255 255 255 255 255 255 255 255 255 255 255 255 w; rw [beq_self_eq_true] at this; exact this
  have eO : ∀ w, (Op.equalIn 10000 23 (.agg #[.int .u8 1, .int .u8 128, .int .u8 194, .int .u8 0, .int .u8 0, .int .u8 0]) (.agg #[.int .u8 1, .int .u8 128, .int .u8 194, .int .u8 0, .int .u8 0, .int .u8 0])).run Try.prog w = .ok true w := fun w => by have := run_eq6 1 128 194 0 0 0 1 128 194 0 0 0 w; rw [beq_self_eq_true] at this; exact this
  go_enter Try.func4, Try.ntmps4
  go_wp2_with fail
  refine (check_out _ k hk).mono ?_
  rintro r w1 ⟨rfl, hb1⟩
  have HB1 := Lib.hid hb1
  clear hb1
  go_wp2_with fail
  refine (trace_out _ k hk).mono ?_
  rintro r w2 ⟨rfl, hb2⟩
  have HB2 : Hid (Below W.heap.size W w2) := Lib.hid ((HB1.out.alloc HB1.out.size _).trans (hb2.mono (by have := HB1.out.size; simp; omega)))
  have A2 : Hid (Arr w2 w1.heap.size 0 0 0 0 0 0) := Lib.hid ((Arr.zero w1).next hb2)
  clear hb2 HB1
  go_wp2_with fail
  rw [EK.out]
  refine (reflevels_any _ (k % 8) (by omega)).mono ?_
  rintro r w3 ⟨rfl, hb3⟩
  have HB3 : Hid (Below W.heap.size W w3) := Lib.hid ((HB2.out.alloc HB2.out.size _).trans (hb3.mono (by have := HB2.out.size; simp; omega)))
  have A3 : Hid (Arr w3 w1.heap.size 0 0 0 0 0 0) := Lib.hid ((A2.out.alloc _).next hb3)
  have B3 : Hid (Arr w3 w2.heap.size 0 0 0 0 0 0) := Lib.hid ((Arr.zero w2).next hb3)
  clear hb3 HB2 A2
  go_wp2_with fail
  refine (macof_in _ n hn a b c d e f HD.out).mono ?_
  rintro r w4 ⟨rfl, hb4⟩
  have HB4 : Hid (Below W.heap.size W w4) := Lib.hid (((HB3.out.alloc HB3.out.size _).alloc (by have := HB3.out.size; simp; omega) _).trans (hb4.mono (by have := HB3.out.size; simp; omega)))
  have A4 : Hid (Arr w4 w1.heap.size 0 0 0 0 0 0) := Lib.hid (((A3.out.alloc _).alloc _).next hb4)
  have B4 : Hid (Arr w4 w2.heap.size 0 0 0 0 0 0) := Lib.hid (((B3.alloc _).alloc _).next hb4)
  have C4 : Hid (Arr w4 w3.heap.size 0 0 0 0 0 0) := Lib.hid (((Arr.zero w3).alloc _).next hb4)
  have D4 : Hid (Arr w4 (w3.heap.size + 1) 0 0 0 0 0 0) := Lib.hid (by have := (Arr.zero (w3.alloc _)).next hb4; simpa using this)
  clear hb4 HB3 A3 B3
  go_wp2_with fail
  first | rw [EM.out] | skip
  first
    | refine (refof_any _ (n % 281474976710656) (by omega) a b c d e f HD2.out).mono ?_
    | refine (refof_any _ n (by omega) a b c d e f HD.out).mono ?_
  rintro r w5 ⟨rfl, hb5⟩
  have HB5 : Hid (Below W.heap.size W w5) := Lib.hid ((HB4.out.alloc HB4.out.size _).trans (hb5.mono (by have := HB4.out.size; simp; omega)))
  have A5 : Arr w5 w1.heap.size 0 0 0 0 0 0 := (A4.out.alloc _).next hb5
  have B5 : Arr w5 w2.heap.size 0 0 0 0 0 0 := (B4.out.alloc _).next hb5
  have C5 : Arr w5 w3.heap.size 0 0 0 0 0 0 := (C4.out.alloc _).next hb5
  have D5 : Arr w5 (w3.heap.size + 1) 0 0 0 0 0 0 := (D4.out.alloc _).next hb5
  have M5 : Arr w5 w4.heap.size a b c d e f := (Arr.new w4 _ _ _ _ _ _).next hb5
  clear hb5 HB4 A4 B4 C4 D4
  have pl := A5.lt
  obtain ⟨p0, p1, p2, p3, p4, p5⟩ := A5.cells
  have ql := B5.lt
  obtain ⟨q0, q1, q2, q3, q4, q5⟩ := B5.cells
  have sl := C5.lt
  obtain ⟨s0, s1, s2, s3, s4, s5⟩ := C5.cells
  have tl := D5.lt
  obtain ⟨t0, t1, t2, t3, t4, t5⟩ := D5.cells
  have ul := M5.lt
  obtain ⟨u0, u1, u2, u3, u4, u5⟩ := M5.cells
  clear A5 B5 C5 D5 M5
  have hge : decide ((281474976710656 : Int) ≤ (n : Int)) = false := by simp; omega
  go_upto_region 11 with (fail)
  clear hge
  obtain ⟨N, hN⟩ : ∃ N : Int, (281474976710656 : Int) = N := ⟨_, rfl⟩
  have hlt : decide ((n : Int) < N) = true := by simp; omega
  rw [hN]
  clear hN hn
  have hk8 : decide ((k : Int) < 8) = false := by simp; omega
  go_wp2_with fail
  refine (all_any _).mono ?_
  rintro r w6 ⟨rfl, hb6⟩
  have HB6 : Hid (Below W.heap.size W w6) := Lib.hid ((HB5.out.alloc HB5.out.size _).trans (hb6.mono (by have := HB5.out.size; simp; omega)))
  clear hb6 HB5
  go_wp2_with fail
  refine (refof_all _).mono ?_
  rintro r w7 ⟨rfl, hb7⟩
  have HB7 : Hid (Below W.heap.size W w7) := Lib.hid (HB6.out.trans (hb7.mono HB6.out.size))
  clear hb7 HB6
  go_wp2_with fail
  refine (own_any _).mono ?_
  rintro r w8 ⟨rfl, hb8⟩
  have HB8 : Hid (Below W.heap.size W w8) := Lib.hid (HB7.out.trans (hb8.mono HB7.out.size))
  clear hb8 HB7
  go_wp2_with fail
  refine (wakes_any _).mono ?_
  rintro r w9 ⟨rfl, hb9⟩
  have HB9 : Hid (Below W.heap.size W w9) := Lib.hid (HB8.out.trans (hb9.mono HB8.out.size))
  clear hb9 HB8
  go_wp2
  go_ret
  exact ⟨rfl, HB9.out⟩
set_option maxRecDepth 100000 in
set_option maxHeartbeats 4000000 in
theorem walk00 (W : World) (k n : Nat) (hk : 8 ≤ k) (wk : k ≤ 255) (hn : 281474976710656 ≤ n) (hn64 : n < 18446744073709551616) :
    Calls Try.prog 4 #[.int .u8 k, .int .u64 n] W fun e w' => e = .returned (.bool true) ∧ Below W.heap.size W w' := by
  have ek : (k : Int) % 8 = ((k % 8 : Nat) : Int) := by omega
  have EK := Lib.hid ek
  have em : (n : Int) % 281474976710656 = ((n % 281474976710656 : Nat) : Int) := by omega
  have EM := Lib.hid em
  obtain ⟨a, b, c, d, e, f, hd⟩ := list6 (dig_len 6 n)
  have hd2 : dig 6 (n % 281474976710656) = [a, b, c, d, e, f] := (dig_mod 6 n).trans hd
  have HD := Lib.hid hd
  have HD2 := Lib.hid hd2
  clear ek em hd hd2
  have eZ : ∀ w, (Op.equalIn 10000 23 (.agg #[.int .u8 0, .int .u8 0, .int .u8 0, .int .u8 0, .int .u8 0, .int .u8 0]) (.agg #[.int .u8 0, .int .u8 0, .int .u8 0, .int .u8 0, .int .u8 0, .int .u8 0])).run Try.prog w = .ok true w := fun w => by have := run_eq6 0 0 0 0 0 0 0 0 0 0 0 0 w; rw [beq_self_eq_true] at this; exact this
  have eA : ∀ w, (Op.equalIn 10000 23 (.agg #[.int .u8 255, .int .u8 255, .int .u8 255, .int .u8 255, .int .u8 255, .int .u8 255]) (.agg #[.int .u8 255, .int .u8 255, .int .u8 255, .int .u8 255, .int .u8 255, .int .u8 255])).run Try.prog w = .ok true w := fun w => by have := run_eq6 255 255 255 255 255 255 255 255 255 255 255 255 w; rw [beq_self_eq_true] at this; exact this
  have eO : ∀ w, (Op.equalIn 10000 23 (.agg #[.int .u8 1, .int .u8 128, .int .u8 194, .int .u8 0, .int .u8 0, .int .u8 0]) (.agg #[.int .u8 1, .int .u8 128, .int .u8 194, .int .u8 0, .int .u8 0, .int .u8 0])).run Try.prog w = .ok true w := fun w => by have := run_eq6 1 128 194 0 0 0 1 128 194 0 0 0 w; rw [beq_self_eq_true] at this; exact this
  go_enter Try.func4, Try.ntmps4
  go_wp2_with fail
  refine (check_out _ k hk).mono ?_
  rintro r w1 ⟨rfl, hb1⟩
  have HB1 := Lib.hid hb1
  clear hb1
  go_wp2_with fail
  refine (trace_out _ k hk).mono ?_
  rintro r w2 ⟨rfl, hb2⟩
  have HB2 : Hid (Below W.heap.size W w2) := Lib.hid ((HB1.out.alloc HB1.out.size _).trans (hb2.mono (by have := HB1.out.size; simp; omega)))
  have A2 : Hid (Arr w2 w1.heap.size 0 0 0 0 0 0) := Lib.hid ((Arr.zero w1).next hb2)
  clear hb2 HB1
  go_wp2_with fail
  rw [EK.out]
  refine (reflevels_any _ (k % 8) (by omega)).mono ?_
  rintro r w3 ⟨rfl, hb3⟩
  have HB3 : Hid (Below W.heap.size W w3) := Lib.hid ((HB2.out.alloc HB2.out.size _).trans (hb3.mono (by have := HB2.out.size; simp; omega)))
  have A3 : Hid (Arr w3 w1.heap.size 0 0 0 0 0 0) := Lib.hid ((A2.out.alloc _).next hb3)
  have B3 : Hid (Arr w3 w2.heap.size 0 0 0 0 0 0) := Lib.hid ((Arr.zero w2).next hb3)
  clear hb3 HB2 A2
  go_wp2_with fail
  refine (macof_out _ n hn64 hn).mono ?_
  rintro r w4 ⟨rfl, hb4⟩
  have HB4 : Hid (Below W.heap.size W w4) := Lib.hid (((HB3.out.alloc HB3.out.size _).alloc (by have := HB3.out.size; simp; omega) _).trans (hb4.mono (by have := HB3.out.size; simp; omega)))
  have A4 : Hid (Arr w4 w1.heap.size 0 0 0 0 0 0) := Lib.hid (((A3.out.alloc _).alloc _).next hb4)
  have B4 : Hid (Arr w4 w2.heap.size 0 0 0 0 0 0) := Lib.hid (((B3.alloc _).alloc _).next hb4)
  have C4 : Hid (Arr w4 w3.heap.size 0 0 0 0 0 0) := Lib.hid (((Arr.zero w3).alloc _).next hb4)
  have D4 : Hid (Arr w4 (w3.heap.size + 1) 0 0 0 0 0 0) := Lib.hid (by have := (Arr.zero (w3.alloc _)).next hb4; simpa using this)
  clear hb4 HB3 A3 B3
  go_wp2_with fail
  first | rw [EM.out] | skip
  refine (refof_any _ (n % 281474976710656) (by omega) a b c d e f HD2.out).mono ?_
  rintro r w5 ⟨rfl, hb5⟩
  have HB5 : Hid (Below W.heap.size W w5) := Lib.hid ((HB4.out.alloc HB4.out.size _).trans (hb5.mono (by have := HB4.out.size; simp; omega)))
  have A5 : Arr w5 w1.heap.size 0 0 0 0 0 0 := (A4.out.alloc _).next hb5
  have B5 : Arr w5 w2.heap.size 0 0 0 0 0 0 := (B4.out.alloc _).next hb5
  have C5 : Arr w5 w3.heap.size 0 0 0 0 0 0 := (C4.out.alloc _).next hb5
  have D5 : Arr w5 (w3.heap.size + 1) 0 0 0 0 0 0 := (D4.out.alloc _).next hb5
  have M5 : Arr w5 w4.heap.size 0 0 0 0 0 0 := (Arr.zero w4).next hb5
  clear hb5 HB4 A4 B4 C4 D4
  have pl := A5.lt
  obtain ⟨p0, p1, p2, p3, p4, p5⟩ := A5.cells
  have ql := B5.lt
  obtain ⟨q0, q1, q2, q3, q4, q5⟩ := B5.cells
  have sl := C5.lt
  obtain ⟨s0, s1, s2, s3, s4, s5⟩ := C5.cells
  have tl := D5.lt
  obtain ⟨t0, t1, t2, t3, t4, t5⟩ := D5.cells
  have ul := M5.lt
  obtain ⟨u0, u1, u2, u3, u4, u5⟩ := M5.cells
  clear A5 B5 C5 D5 M5
  have hge : decide ((281474976710656 : Int) ≤ (n : Int)) = true := by simp; omega
  go_upto_region 11 with (fail)
  clear hge
  obtain ⟨N, hN⟩ : ∃ N : Int, (281474976710656 : Int) = N := ⟨_, rfl⟩
  have hlt : decide ((n : Int) < N) = false := by simp; omega
  rw [hN]
  clear hN hn
  have hk8 : decide ((k : Int) < 8) = false := by simp; omega
  go_wp2_with fail
  refine (all_any _).mono ?_
  rintro r w6 ⟨rfl, hb6⟩
  have HB6 : Hid (Below W.heap.size W w6) := Lib.hid ((HB5.out.alloc HB5.out.size _).trans (hb6.mono (by have := HB5.out.size; simp; omega)))
  clear hb6 HB5
  go_wp2_with fail
  refine (refof_all _).mono ?_
  rintro r w7 ⟨rfl, hb7⟩
  have HB7 : Hid (Below W.heap.size W w7) := Lib.hid (HB6.out.trans (hb7.mono HB6.out.size))
  clear hb7 HB6
  go_wp2_with fail
  refine (own_any _).mono ?_
  rintro r w8 ⟨rfl, hb8⟩
  have HB8 : Hid (Below W.heap.size W w8) := Lib.hid (HB7.out.trans (hb8.mono HB7.out.size))
  clear hb8 HB7
  go_wp2_with fail
  refine (wakes_any _).mono ?_
  rintro r w9 ⟨rfl, hb9⟩
  have HB9 : Hid (Below W.heap.size W w9) := Lib.hid (HB8.out.trans (hb9.mono HB8.out.size))
  clear hb9 HB8
  go_wp2
  go_ret
  exact ⟨rfl, HB9.out⟩
set_option maxRecDepth 100000 in
set_option maxHeartbeats 4000000 in
theorem walk {H : Type} {enc : TypeId × Value → H} (W : World) (base : Nat) {v0 v1 : Value} {d0 d1 : DataW H} {p0 p1 : List MemPlace}
    (o0 : Value.okWide Try.prog W .any base 5 v0) (h0 : DataW.Trod enc Try.prog W 0 (fun _ => true) true 5 v0 d0 p0) (o1 : Value.okWide Try.prog W .any base 27 v1) (h1 : DataW.Trod enc Try.prog W 0 (fun _ => true) true 27 v1 d1 p1) :
    Calls Try.prog 4 #[v0, v1] W fun e w' => e = .returned (.bool true) ∧ Below W.heap.size W w' := by
  obtain ⟨n0, rfl, rfl, rfl, wn0⟩ := open_int Try.underlying5 o0 h0
  obtain ⟨n1, rfl, rfl, rfl, wn1⟩ := open_int Try.underlying27 o1 h1
  simp [Lit.wf, IntKind.min, IntKind.max, IntKind.signed, IntKind.bits] at wn0 wn1
  obtain ⟨k, rfl⟩ := Int.eq_ofNat_of_zero_le wn0.1
  obtain ⟨n, rfl⟩ := Int.eq_ofNat_of_zero_le wn1.1
  have wk : k ≤ 255 := by omega
  have hn64 : n < 18446744073709551616 := by omega
  clear o0 o1 h0 h1 wn0 wn1
  by_cases hk : k < 8
  · by_cases hn : n < 281474976710656
    · exact walk11 W k n hk hn
    · exact walk10 W k n hk (by omega) hn64
  · by_cases hn : n < 281474976710656
    · exact walk01 W k n (by omega) wk hn
    · exact walk00 W k n (by omega) wk (by omega) hn64

theorem own : ownKnob Try.prog.godebug = none := by kernel_rfl
theorem laidOut : laidOutB Try.prog = true := by kernel_rfl
set_option maxRecDepth 100000 in
theorem lifted (os : Os) (started : os.Started) (H : Type) (enc : TypeId × Value → H) :
    ReturnsInHanded {} Try.checked os 4 .any (Rows.macMakesSpec.pre6 enc Try.prog Try.f4 Rows.macMakesRow.domain false) (Rows.macMakesSpec.post enc Try.prog Try.f4 false true false false) := by
  refine returnsInHanded_of_change (C := Try.checked) own started (by kernel_rfl) Try.func4
    (ChangeSpec.witness6 (enc := enc) (C := Try.checked) false ⟨#[], #[.int .u8 0, .int .u64 0], []⟩ 8 (by kernel_rfl) (by kernel_rfl) (by kernel_rfl) (by kernel_rfl)) ?_
  intro W base args ds gs before hval0 hW hcnd _
  have hval : ∀ (j : Nat) t v, Try.f4.params[j]? = some t → args[j]? = some v → Value.okWide Try.prog W .any base t v := hval0
  have hW' := hW
  obtain ⟨p, q, hA0, hV, rfl, hfz, hnd⟩ := hW
  have hA : DataW.TrodAll enc Try.prog W 0 (fun _ => true) true Try.f4.params.toList args.toList ds p := hA0
  rw [Try.params4] at hA hval
  obtain ⟨v0, vs0, d0, ds0, p0, q0, hargs, rfl, rfl, h0, r0⟩ := trodAll_cons hA
  obtain ⟨v1, vs1, d1, ds1, p1, q1, rfl, rfl, rfl, h1, r1⟩ := trodAll_cons r0
  obtain ⟨rfl, rfl, rfl⟩ := trodAll_nil r1
  obtain rfl : args = #[v0, v1] := by cases args; simp_all
  obtain ⟨rfl, rfl⟩ := trodVars_none hV
  have o0 := hval 0 5 v0 rfl rfl
  have lt0 : ∀ x ∈ p0, x.block < W.heap.size := by obtain ⟨m, hm⟩ := h0; exact DataW.trod_lt m _ _ _ hm
  have o1 := hval 1 27 v1 rfl rfl
  have lt1 : ∀ x ∈ p1, x.block < W.heap.size := by obtain ⟨m, hm⟩ := h1; exact DataW.trod_lt m _ _ _ hm
  clear hA0 hval0
  refine (walk W base o0 h0 o1 h1).mono fun e W' ⟨he, bel⟩ => ?_
  subst he
  exact ⟨_, rfl, _, _, _, [], _, [], hW', trodAll_mk1 (shut_bool Try.underlying4 _), (trodAll_cons_mk (Below.trod laidOut (by kernel_rfl) (of_decide_eq_true (by kernel_rfl)) h0 bel lt0) (trodAll_cons_mk (Below.trod laidOut (by kernel_rfl) (of_decide_eq_true (by kernel_rfl)) h1 bel lt1) trodAll_mk0)), rfl, bel.frame _, fun h => by cases h⟩

theorem over : Rows.macMakesRow.holds Try.pinned (OpenSpec.ofChange Rows.macMakesSpec) :=
  OpenClaim.holds_of_wide 4 Try.f4 rfl rfl rfl rfl rfl rfl rfl ⟨rfl, rfl, rfl, rfl, rfl⟩ rfl rfl rfl rfl rfl (by kernel_rfl) Try.func4 (by kernel_rfl)
    (of_decide_eq_true (by kernel_rfl)) (by unfold Func.isWrapper; first | (rw [if_pos (by decide +kernel)]; kernel_rfl) | (rw [if_neg (by decide +kernel)]; exact ⟨rfl, rfl⟩))
    (fun os started H enc _ => lifted os started H enc)

/-- THE STATEMENT -/
theorem proved : Rows.MacMakesSaid := over
end Go.Proofs.Ytabdhokcgedomaa.macMakes
