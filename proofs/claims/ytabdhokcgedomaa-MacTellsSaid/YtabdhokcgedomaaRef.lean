/- Layer 2: the document's own functions (viaductref02). -/
import Derived.Test.YtabdhokcgedomaaMac
import Derived.Test.YtabdhokcgedomaaText
import Derived.Test.YtabdhokcgedomaaDig
import Derived.BigQuiet
namespace Go.Proofs.Ytabdhokcgedomaa
open Go.RowKit
set_option linter.unusedVariables false
set_option linter.unusedSimpArgs false

theorem reflevels_any (w : World) (k : Nat) (hk : k < 8) :
    Calls Try.prog 20 #[.int .i64 k] w fun e w' => e = .returned (.tuple #[MA 1 128 194 0 0 (gby 48 k), MA 1 128 194 0 0 (gby 56 k)]) ∧ Below w.heap.size w w' := by
  have e1 : (48 + (k : Int)) = ((gby 48 k).toNat : Int) := by rw [gby_nat (by omega)]; omega
  have e2 : (56 + (k : Int)) = ((gby 56 k).toNat : Int) := by rw [gby_nat (by omega)]; omega
  have E1 := Lib.hid e1
  have E2 := Lib.hid e2
  clear e1 e2
  go_enter Try.func20, Try.ntmps20
  go_wp2
  rw [E1.out, E2.out]
  exact bodyPost_ret (v := .tuple #[MA 1 128 194 0 0 (gby 48 k), MA 1 128 194 0 0 (gby 56 k)]) (by simp [results, Try.results20, go_sem]) rfl ⟨rfl, (((Below.refl _ _).alloc (Nat.le_refl _) _).alloc (by simp) _)⟩

set_option maxHeartbeats 1000000 in
theorem reflevel_any (w : World) (a b c d e f : UInt8) :
    Calls Try.prog 9 #[MA a b c d e f] w fun r w' => r = .returned (lvlV [a, b, c, d, e, f]) ∧ Below w.heap.size w w' := by
  go_enter Try.func9, Try.ntmps9
  go_wp2
  go_loopw [4] (fun i wr => ∃ k : Nat, k ≤ 8 ∧ i = .int .i64 k ∧ Hid (∀ j, j < k → hitb [a, b, c, d, e, f] j = false) ∧ Below w.heap.size w wr ∧ Arr wr w.heap.size a b c d e f) (fun i _ => 8 - (intOf i).toNat)
  case atStart => exact ⟨0, by omega, rfl, Lib.hid (fun j hj => by omega), (Below.refl _ _).alloc (Nat.le_refl _) _, Arr.new _ _ _ _ _ _ _⟩
  case round =>
    obtain ⟨k, hk, rfl, hno, hb, ha⟩ := hrel
    by_cases hlt : k < 8
    · go_wp2_with fail
      refine (reflevels_any _ k hlt).mono ?_
      rintro r w2 ⟨rfl, hb2⟩
      have ha2 : Arr w2 w.heap.size a b c d e f := ha.next hb2
      have HB2 := Lib.hid (hb.trans (hb2.mono hb.size))
      have hl2 := ha2.lt
      obtain ⟨h0, h1, h2, h3, h4, h5⟩ := ha2.cells
      have e1 := run_eqN a b c d e f (gby 48 k)
      have e2 := run_eqN a b c d e f (gby 56 k)
      generalize hq1 : ([a, b, c, d, e, f] == [1, 128, 194, 0, 0, gby 48 k]) = q1 at e1
      generalize hq2 : ([a, b, c, d, e, f] == [1, 128, 194, 0, 0, gby 56 k]) = q2 at e2
      have hh : Hid (hitb [a, b, c, d, e, f] k = (q1 || q2)) := Lib.hid (by unfold hitb; rw [hq1, hq2])
      have HA2 := Lib.hid ha2
      clear hb2 hb ha hq1 hq2 ha2
      have HH : Below w.heap.size w ((w2.alloc (.cells #[.int .u8 1, .int .u8 128, .int .u8 194, .int .u8 0, .int .u8 0, .int .u8 (gby 48 k).toNat] 23)).alloc (.cells #[.int .u8 1, .int .u8 128, .int .u8 194, .int .u8 0, .int .u8 0, .int .u8 (gby 56 k).toNat] 23)) := (HB2.out.alloc HB2.out.size _).alloc (by have := HB2.out.size; simp; omega) _
      cases q1
      · cases q2
        · go_wp2
          go_roundw
          case rel => exact ⟨k + 1, by omega, by go_num, no_step hno hh.out, HH, (HA2.out.alloc _).alloc _⟩
          case measure => simp [intOf]; omega
        · go_wp2
          have hv : lvlV [a, b, c, d, e, f] = .tuple #[.int .u8 k, .bool true] := by unfold lvlV; rw [lvl_hit hlt hno.out hh.out]
          rw [hv]
          exact bodyPost_ret (v := .tuple #[.int .u8 k, .bool true]) (by simp [results, Try.results9, go_sem]) rfl ⟨rfl, HH⟩
      · go_wp2
        have hv : lvlV [a, b, c, d, e, f] = .tuple #[.int .u8 k, .bool true] := by unfold lvlV; rw [lvl_hit hlt hno.out hh.out]
        rw [hv]
        exact bodyPost_ret (v := .tuple #[.int .u8 k, .bool true]) (by simp [results, Try.results9, go_sem]) rfl ⟨rfl, HH⟩
    · go_wp2
      obtain rfl : k = 8 := by omega
      have hv : lvlV [a, b, c, d, e, f] = .tuple #[.int .u8 0, .bool false] := by unfold lvlV; rw [lvl_none hno.out]
      rw [hv]
      exact bodyPost_ret (v := .tuple #[.int .u8 0, .bool false]) (by simp [results, Try.results9, go_sem]) rfl ⟨rfl, hb⟩

theorem rsv_hit {a b c d e f : UInt8} {k : Nat} (hk : k < 16) (h : ([a, b, c, d, e, f] == [1, 128, 194, 0, 0, gby 0 k]) = true) : rsv a b c d e f = true := by
  have e1 := eq_of_beq h
  simp only [List.cons.injEq, and_true] at e1
  obtain ⟨rfl, rfl, rfl, rfl, rfl, rfl⟩ := e1
  unfold rsv
  rw [gby_nat (by omega)]
  simp
  omega
theorem rsv_none {a b c d e f : UInt8} (h : ∀ j, j < 16 → ([a, b, c, d, e, f] == [1, 128, 194, 0, 0, gby 0 j]) = false) : rsv a b c d e f = false := by
  unfold rsv
  by_cases hf : f.toNat ≤ 15
  · have := h f.toNat (by omega)
    have e : gby 0 f.toNat = f := by
      unfold gby
      simp
    rw [e] at this
    simp [this]
  · simp [hf]
set_option maxHeartbeats 1000000 in
theorem refreserved_any (w : World) (a b c d e f : UInt8) :
    Calls Try.prog 12 #[MA a b c d e f] w fun r w' => r = .returned (.bool (rsv a b c d e f)) ∧ Below w.heap.size w w' := by
  go_enter Try.func12, Try.ntmps12
  go_wp2
  go_loop [3] (fun i => ∃ k : Nat, k ≤ 16 ∧ i = .int .i64 k ∧ Hid (∀ j, j < k → ([a, b, c, d, e, f] == [1, 128, 194, 0, 0, gby 0 j]) = false)) (fun i => 16 - (intOf i).toNat)
  case atStart => exact ⟨0, by omega, rfl, Lib.hid (fun j hj => by omega)⟩
  case round =>
    obtain ⟨k, hk, rfl, hno⟩ := hrel
    by_cases hlt : k < 16
    · have e1 := run_eqN a b c d e f (gby 0 k)
      rw [show (gby 0 k).toNat = k by rw [gby_nat (by omega)]; omega] at e1
      generalize hq1 : ([a, b, c, d, e, f] == [1, 128, 194, 0, 0, gby 0 k]) = q1 at e1
      have hh := Lib.hid hq1
      clear hq1
      cases q1
      · go_wp2
        go_round
        case rel => exact ⟨k + 1, by omega, by go_num, no_step (p := fun j => ([a, b, c, d, e, f] == [1, 128, 194, 0, 0, gby 0 j])) hno hh.out⟩
        case measure => simp [intOf]; omega
      · go_wp2
        rw [rsv_hit hlt hh.out]
        exact bodyPost_ret (v := .bool true) (by simp [results, Try.results12, go_sem]) rfl ⟨rfl, (by repeat (first | exact Below.refl _ _ | (refine Below.drew ?_) | (refine Below.alloc ?_ (by simp; try omega) _) | (refine Below.setCell ?_ (by simp; try omega) _)))⟩
    · go_wp2
      obtain rfl : k = 16 := by omega
      rw [rsv_none hno.out]
      exact bodyPost_ret (v := .bool false) (by simp [results, Try.results12, go_sem]) rfl ⟨rfl, (by repeat (first | exact Below.refl _ _ | (refine Below.drew ?_) | (refine Below.alloc ?_ (by simp; try omega) _) | (refine Below.setCell ?_ (by simp; try omega) _)))⟩

set_option maxHeartbeats 1000000 in
theorem refnumber_any (w : World) (a b c d e f : UInt8) :
    Calls Try.prog 14 #[MA a b c d e f] w fun r w' => r = .returned (.int .u64 (num [a, b, c, d, e, f])) ∧ Below w.heap.size w w' := by
  go_enter Try.func14, Try.ntmps14
  go_wp2
  go_loop [3, 4] (fun n i => ∃ k : Nat, k ≤ 6 ∧ i = .int .i64 k ∧ n = .int .u64 (num ([a, b, c, d, e, f].take k))) (fun _ i => 6 - (intOf i).toNat)
  case atStart => exact ⟨0, by omega, rfl, rfl⟩
  case round =>
    obtain ⟨k, hk, rfl, rfl⟩ := hrel
    by_cases hlt : k < 6
    · have hc := (Arr.new w a b c d e f).at k hlt
      have hs := num_take_lt [a, b, c, d, e, f] k hlt
      have hb := num_lt ([a, b, c, d, e, f].take k)
      have hb2 : num ([a, b, c, d, e, f].take k) < 1099511627776 := Nat.lt_of_lt_of_le hb (Nat.le_trans (Nat.pow_le_pow_right (by omega) (show ([a, b, c, d, e, f].take k).length ≤ 5 by rw [List.length_take]; omega)) (by decide))
      have hy := ([a, b, c, d, e, f][k]'hlt).toNat_lt
      generalize num ([a, b, c, d, e, f].take k) = x at *
      generalize ([a, b, c, d, e, f][k]'hlt) = y at *
      have HS := Lib.hid hs
      clear hs hb
      go_wp2
      go_round
      case rel => exact ⟨k + 1, by omega, by go_num, by rw [HS.out]; exact congrArg (Value.int IntKind.u64) (by omega)⟩
      case measure => simp [intOf]; omega
    · obtain rfl : k = 6 := by omega
      rw [show [a, b, c, d, e, f].take 6 = [a, b, c, d, e, f] from rfl]
      go_wp2
      exact bodyPost_ret (v := .int .u64 (num [a, b, c, d, e, f])) (by simp [results, Try.results14, go_sem]) rfl ⟨rfl, (by repeat (first | exact Below.refl _ _ | (refine Below.drew ?_) | (refine Below.alloc ?_ (by simp; try omega) _) | (refine Below.setCell ?_ (by simp; try omega) _)))⟩

end Go.Proofs.Ytabdhokcgedomaa
