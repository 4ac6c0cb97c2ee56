/- Layer 2: the document's own Of, Text. -/
import Derived.Test.YtabdhokcgedomaaText
import Derived.Test.YtabdhokcgedomaaDig
import Derived.Deep.QuietTactic
import Derived.BigQuiet
import Derived.Laws.Concat
namespace Go.Proofs.Ytabdhokcgedomaa
open Go.RowKit
set_option linter.unusedVariables false
set_option linter.unusedSimpArgs false

/-- the last j bytes of a number laid, of six -/
def tailed (n j : Nat) : Array Value := (List.replicate (6 - j) (Value.int .u8 0) ++ bvals (dig j n)).toArray
theorem tailed_step (n j : Nat) (hj : j < 6) : (tailed n j).setIfInBounds (5 - j) (Value.int .u8 (((n / 256 ^ j % 256 : Nat)) : Int)) = tailed n (j + 1) := by
  unfold tailed
  have hv : Value.int .u8 (((n / 256 ^ j % 256 : Nat)) : Int) = bval (UInt8.ofNat (n / 256 ^ j % 256)) := by
    unfold bval
    simp
  have hd : dig (j + 1) n = UInt8.ofNat (n / 256 ^ j % 256) :: dig j n := by
    rw [Nat.add_comm, dig_add 1 j n]
    rfl
  rw [hv, hd, show 6 - j = (6 - (j + 1)) + 1 by omega, List.replicate_succ']
  apply Array.ext'
  simp only [Array.toList_setIfInBounds]
  rw [show 5 - j = 6 - (j + 1) by omega, List.append_assoc, List.set_append_right _ _ (by simp)]
  simp [bvals]
theorem tailed_at (n j : Nat) (hj : j < 6) : (tailed n j)[5 - j]? = some (Value.int .u8 0) := by
  unfold tailed
  have h : (List.replicate (6 - j) (Value.int .u8 0) ++ bvals (dig j n)).toArray[5 - j]? = (List.replicate (6 - j) (Value.int .u8 0) ++ bvals (dig j n))[5 - j]? := List.getElem?_toArray
  rw [h, List.getElem?_append_left (by simp; omega), List.getElem?_replicate, if_pos (by omega)]
set_option maxHeartbeats 1000000 in
theorem refof_any (w : World) (n : Nat) (hn : n < 18446744073709551616) (a b c d e f : UInt8) (hd : dig 6 n = [a, b, c, d, e, f]) :
    Calls Try.prog 22 #[.int .u64 n] w fun r w' => r = .returned (MA a b c d e f) ∧ Below w.heap.size w w' := by
  have HD := Lib.hid hd
  clear hd
  go_enter Try.func22, Try.ntmps22
  go_wp2
  go_loopw [0, 4] (fun t0 vi wr => ((∃ k : Nat, k < 6 ∧ vi = .int .i64 k ∧ t0 = .int .u64 ((n / 256 ^ (5 - k) : Nat) : Int) ∧ Blk wr (w.heap.size + 1) 23 (tailed n (5 - k))) ∨ (vi = .int .i64 (-1) ∧ Blk wr (w.heap.size + 1) 23 (tailed n 6) ∧ ∃ u : Int, t0 = .int .u64 u)) ∧ Arr wr w.heap.size 0 0 0 0 0 0 ∧ Below w.heap.size w wr) (fun _ i _ => (intOf i + 1).toNat)
  case atStart =>
    refine ⟨.inl ⟨5, by omega, rfl, by simp, ?_⟩, (Arr.zero w).alloc _, ((Below.refl _ _).alloc (Nat.le_refl _) _).alloc (by simp) _⟩
    have := Blk.new (w.alloc (.cells #[.int .u8 0, .int .u8 0, .int .u8 0, .int .u8 0, .int .u8 0, .int .u8 0] 23)) 23 #[.int .u8 0, .int .u8 0, .int .u8 0, .int .u8 0, .int .u8 0, .int .u8 0]
    simpa [tailed, dig, bvals, List.replicate] using this
  case round =>
    obtain ⟨hr, ha, hb⟩ := hrel
    have HA := Lib.hid ha
    have HB := Lib.hid hb
    clear ha hb
    rcases hr with ⟨k, hk, rfl, rfl, hbk⟩ | ⟨rfl, hbk, u, rfl⟩
    · have hce : wr.cell? ⟨w.heap.size + 1, k, none⟩ = some (.int .u8 0) := by
        have := (Blk.cell hbk (5 - (5 - k))).trans (tailed_at n (5 - k) (by omega))
        rwa [show 5 - (5 - k) = k by omega] at this
      have hfr := Blk.frozen hbk k
      have HBk := Lib.hid hbk
      have hx : n / 256 ^ (5 - k) < 18446744073709551616 := Nat.lt_of_le_of_lt (Nat.div_le_self _ _) hn
      clear hbk
      obtain ⟨x, hxx⟩ : ∃ x, n / 256 ^ (5 - k) = x := ⟨_, rfl⟩
      rw [hxx] at hx ⊢
      have HX := Lib.hid hxx
      clear hxx
      go_wp2
      go_roundw
      case rel =>
        have hv : (x : Int) % 256 = ((n / 256 ^ (5 - k) % 256 : Nat) : Int) := by rw [HX.out]; omega
        have hq := HBk.out.put k (Value.int IntKind.u8 ((x : Int) % 256))
        have hst := tailed_step n (5 - k) (by omega)
        rw [show 5 - (5 - k) = k by omega, ← hv] at hst
        rw [hst] at hq
        refine ⟨?_, Blk.far HA.out (by show w.heap.size ≠ w.heap.size + 1; omega) _, HB.out.setCell (by show w.heap.size ≤ w.heap.size + 1; omega) _⟩
        have hdiv : n / 256 ^ (5 - k) / 256 = n / 256 ^ (5 - k + 1) := by rw [Nat.div_div_eq_div_mul, ← Nat.pow_succ]
        rw [HX.out] at hdiv
        by_cases hz : k = 0
        · subst hz
          exact .inr ⟨rfl, hq, _, rfl⟩
        · rw [show 5 - k + 1 = 5 - (k - 1) by omega] at hq hdiv
          exact .inl ⟨k - 1, by omega, congrArg (Value.int IntKind.i64) (by omega), congrArg (Value.int IntKind.u64) (by omega), hq⟩
      case measure => simp [intOf]
    · have ht : tailed n 6 = (bvals [a, b, c, d, e, f]).toArray := by unfold tailed; rw [HD.out]; rfl
      rw [ht] at hbk
      have hm : Arr wr (w.heap.size + 1) a b c d e f := hbk
      obtain ⟨d0, d1, d2, d3, d4, d5⟩ := hm.cells
      obtain ⟨f0, f1, f2, f3, f4, f5⟩ := HA.out.frozens
      obtain ⟨c0, c1, c2, c3, c4, c5⟩ := HA.out.cells
      clear hm hbk ht
      go_wp2
      exact bodyPost_ret (v := MA a b c d e f) (by simp [results, Try.results22, go_sem, c0, c1, c2, c3, c4, c5]) rfl ⟨rfl, put6_below HB.out (Nat.le_refl _) _ _ _ _ _ _⟩

theorem txt_step (a b c d e f : UInt8) (k : Nat) (h : k < 5) : (txt a b c d e f).take (3 * (k + 1)) = (txt a b c d e f).take (3 * k) ++ [hx (([a, b, c, d, e, f][k]'(by simp; omega)).toNat / 16), hx (([a, b, c, d, e, f][k]'(by simp; omega)).toNat % 16)] ++ [58] := by
  have : k = 0 ∨ k = 1 ∨ k = 2 ∨ k = 3 ∨ k = 4 := by omega
  rcases this with rfl | rfl | rfl | rfl | rfl <;> rfl
theorem ByteArray.mk_append_lit (l : List UInt8) (x : UInt8) : (⟨l.toArray⟩ : ByteArray) ++ ⟨#[x]⟩ = ⟨(l ++ [x]).toArray⟩ := by
  apply ByteArray.ext
  simp
theorem dig_slice (q : Nat) (hq : q < 16) (W : World) : (Instr.slice 9 (.string ⟨#[48, 49, 50, 51, 52, 53, 54, 55, 56, 57, 97, 98, 99, 100, 101, 102]⟩) (some (.int .i64 (q : Int))) (some (.int .i64 ((q : Int) + 1))) none).run Try.prog W = .ok (.string ⟨#[hx q]⟩) W := by
  rw [run_slice_string W 9 _ .i64 .i64 (q : Int) ((q : Int) + 1) Try.underlying9 (by omega) (by omega) (by show ((q : Int) + 1) ≤ 16; omega)]
  have : q = 0 ∨ q = 1 ∨ q = 2 ∨ q = 3 ∨ q = 4 ∨ q = 5 ∨ q = 6 ∨ q = 7 ∨ q = 8 ∨ q = 9 ∨ q = 10 ∨ q = 11 ∨ q = 12 ∨ q = 13 ∨ q = 14 ∨ q = 15 := by omega
  rcases this with rfl | rfl | rfl | rfl | rfl | rfl | rfl | rfl | rfl | rfl | rfl | rfl | rfl | rfl | rfl | rfl <;> rfl
set_option maxHeartbeats 1000000 in
theorem reftext_mac (w : World) (a b c d e f : UInt8) :
    Calls Try.prog 16 #[MA a b c d e f] w fun r w' => r = .returned (.string ⟨(txt a b c d e f).toArray⟩) ∧ Below w.heap.size w w' := by
  go_enter Try.func16, Try.ntmps16
  go_wp2
  go_loopw [3, 4] (fun s i wr => ∃ k : Nat, k ≤ 6 ∧ i = .int .i64 k ∧ s = .string ⟨((txt a b c d e f).take (3 * k)).toArray⟩ ∧ Arr wr w.heap.size a b c d e f ∧ Below w.heap.size w wr) (fun _ i _ => 6 - (intOf i).toNat)
  case atStart => exact ⟨0, by omega, rfl, rfl, Arr.new _ _ _ _ _ _ _, (Below.refl _ _).alloc (Nat.le_refl _) _⟩
  case round =>
    obtain ⟨k, hk, rfl, rfl, ha, hb⟩ := hrel
    by_cases hlt : k < 6
    · have hc := ha.at k hlt
      have HA := Lib.hid ha
      have HB := Lib.hid hb
      clear ha hb
      obtain ⟨y, hyy⟩ : ∃ y, [a, b, c, d, e, f][k] = y := ⟨_, rfl⟩
      rw [hyy] at hc
      have HY := Lib.hid hyy
      have hyl := y.toNat_lt
      clear hyy
      obtain ⟨q, hq⟩ : ∃ q, y.toNat / 16 = q := ⟨_, rfl⟩
      obtain ⟨r, hr⟩ : ∃ r, y.toNat % 16 = r := ⟨_, rfl⟩
      have hq16 : q < 16 := by omega
      have hr16 : r < 16 := by omega
      have hs1 : ∀ W : World, (Instr.slice 9 (.string ⟨#[48, 49, 50, 51, 52, 53, 54, 55, 56, 57, 97, 98, 99, 100, 101, 102]⟩) (some (.int .i64 (q : Int))) (some (.int .i64 ((q : Int) + 1))) none).run Try.prog W = .ok (.string ⟨#[hx q]⟩) W := fun W => dig_slice q hq16 W
      have hs2 : ∀ W : World, (Instr.slice 9 (.string ⟨#[48, 49, 50, 51, 52, 53, 54, 55, 56, 57, 97, 98, 99, 100, 101, 102]⟩) (some (.int .i64 (r : Int))) (some (.int .i64 ((r : Int) + 1))) none).run Try.prog W = .ok (.string ⟨#[hx r]⟩) W := fun W => dig_slice r hr16 W
      obtain ⟨A, hA⟩ : ∃ A, (txt a b c d e f).take (3 * k) = A := ⟨_, rfl⟩
      have hAl : A.length ≤ 17 := by rw [← hA, List.length_take]; have := txt_len a b c d e f; omega
      have ha1 : ∀ W : World, (Op.stringOp .add ⟨A.toArray⟩ ⟨#[hx q]⟩).run Try.prog W = .ok (.string ⟨(A ++ [hx q]).toArray⟩) W := fun W => run_string_add_lists W A [hx q] (by omega) (by simp)
      have ha2 : ∀ W : World, (Op.stringOp .add ⟨(A ++ [hx q]).toArray⟩ ⟨#[hx r]⟩).run Try.prog W = .ok (.string ⟨(A ++ [hx q] ++ [hx r]).toArray⟩) W := fun W => run_string_add_lists W (A ++ [hx q]) [hx r] (by simp; omega) (by simp)
      rw [hA]
      have HA' := Lib.hid hA
      have e1 : IntKind.i64.wrap ((y.toNat : Int) / 16) = (q : Int) := by rw [IntWalk.i64_in _ (by omega)]; omega
      have e2 : IntKind.i64.wrap ((q : Int) + 1) = (q : Int) + 1 := IntWalk.i64_in _ (by omega)
      have e3 : (y.toNat : Int).tmod 16 = (r : Int) := by rw [Int.tmod_eq_emod_of_nonneg (by omega)]; omega
      have e4 : IntKind.i64.wrap ((r : Int) + 1) = (r : Int) + 1 := IntWalk.i64_in _ (by omega)
      have e5 : IntKind.i64.wrap (r : Int) = (r : Int) := IntWalk.i64_in _ (by omega)
      have HQ := Lib.hid hq
      have HR := Lib.hid hr
      clear hA hq hr
      go_wp2_with fail
      go_quiet (fail)
      clear e1 e2 e3 e4 e5 hs1 hs2 ha1 ha2
      have HA2 : Hid (Arr (wr.drewN nq) w.heap.size a b c d e f) := Lib.hid (HA.out.drewN nq)
      have HB2 : Hid (Below w.heap.size w (wr.drewN nq)) := Lib.hid ⟨HB.out.os, HB.out.tape, HB.out.output, HB.out.size, HB.out.block⟩
      by_cases h5 : k < 5
      · go_wp2
        go_roundw
        case rel =>
          have hv := txt_step a b c d e f k h5
          rw [HY.out, HQ.out, HR.out, HA'.out] at hv
          refine ⟨k + 1, by omega, by go_num, ?_, HA2.out, HB2.out⟩
          rw [hv, ByteArray.mk_append_lit]
        case measure => simp [intOf]; omega
      · obtain rfl : k = 5 := by omega
        go_wp2
        go_roundw
        case rel =>
          have hv : (txt a b c d e f).take (3 * 6) = (txt a b c d e f).take (3 * 5) ++ [hx (([a, b, c, d, e, f][5]).toNat / 16), hx (([a, b, c, d, e, f][5]).toNat % 16)] := rfl
          rw [HY.out, HQ.out, HR.out, HA'.out] at hv
          refine ⟨6, by omega, rfl, ?_, HA2.out, HB2.out⟩
          rw [hv]
        case measure => simp [intOf]
    · obtain rfl : k = 6 := by omega
      rw [show (txt a b c d e f).take (3 * 6) = txt a b c d e f from rfl]
      have HB := Lib.hid hb
      clear ha hb
      go_wp2
      go_ret
      exact ⟨rfl, HB.out⟩
end Go.Proofs.Ytabdhokcgedomaa
