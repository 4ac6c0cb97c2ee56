/- package mac's Parse; strings.IndexByte off the shelf. -/
import Derived.Test.YtabdhokcgedomaaText
import Derived.Test.YtabdhokcgedomaaDig
import Derived.Shelf.Small.Strs
namespace Go.Proofs.Ytabdhokcgedomaa
open Go.RowKit
set_option linter.unusedVariables false
set_option linter.unusedSimpArgs false

def indexb_ren : Go.Shelf.Ren := ⟨fun | 137 => 35 | 217 => 43 | 266 => 48 | n => n, fun | 3 => 3 | 5 => 5 | 9 => 9 | n => n, fun | n => n⟩
theorem indexb_lays : Go.Proofs.Lays.n137 Try.prog indexb_ren := {
  mixed := by kernel_rfl
  f137 := Try.func35.trans (congrArg some (by kernel_rfl))
  f217 := Try.func43.trans (congrArg some (by kernel_rfl))
  f266 := Try.func48.trans (congrArg some (by kernel_rfl))
  t3 := Try.underlying3
  a3 := Try.isAgg3
  z3 := Try.sizeOf3
  v3 := Try.zeroValue3
  t5 := Try.underlying5
  a5 := Try.isAgg5
  z5 := Try.sizeOf5
  v5 := Try.zeroValue5
  t9 := Try.underlying9
  a9 := Try.isAgg9
  z9 := Try.sizeOf9
  v9 := Try.zeroValue9 }
theorem indexb_any (s : ByteArray) (c : UInt8) (w : World) :
    Calls Try.prog 35 #[.string s, .int .u8 c.toNat] w fun e w' => e = .returned (.int .i64 (Lib.indexByte s.data.toList c)) ∧ w = w' := by
  refine (Any.strings_IndexByte indexb_lays s (c.toNat : Int) w).mono ?_
  rintro e w' ⟨rfl, rfl⟩
  refine ⟨?_, rfl⟩
  simp

/-- the number of a digit; below 0: it is none -/
def dgt (c : UInt8) : Int := Lib.indexByte digs c
theorem strAt (s : List UInt8) (i : Nat) (h : i < (⟨s.toArray⟩ : ByteArray).size) : (⟨s.toArray⟩ : ByteArray)[i]'h = s.getD i 0 := by
  have hi : i < s.length := h
  show s[i]'hi = _
  simp [List.getD, hi]
theorem digit_at (c : UInt8) (w : World) :
    Calls Try.prog 35 #[.string ⟨#[48, 49, 50, 51, 52, 53, 54, 55, 56, 57, 97, 98, 99, 100, 101, 102]⟩, .int .u8 c.toNat] w fun e w' => e = .returned (.int .i64 (dgt c)) ∧ w = w' := indexb_any _ c w
def pby (h l : Int) : UInt8 := UInt8.ofNat ((bits BinOp.or IntKind.i64 (h * 16) l) % 256).toNat
/-- the byte that two digits make, whatever they are -/
def pm (s : List UInt8) (i : Nat) : UInt8 := pby (dgt (s.getD (3 * i) 0)) (dgt (s.getD (3 * i + 1) 0))
def ml (s : List UInt8) : List UInt8 := [pm s 0, pm s 1, pm s 2, pm s 3, pm s 4, pm s 5]
theorem ml_at (s : List UInt8) (k : Nat) (hk : k < 6) : (ml s)[k]'hk = pm s k := by
  have : k = 0 ∨ k = 1 ∨ k = 2 ∨ k = 3 ∨ k = 4 ∨ k = 5 := by omega
  rcases this with rfl | rfl | rfl | rfl | rfl | rfl <;> rfl
theorem pby_int (x y : Int) : bits BinOp.or IntKind.i64 (x * 16) y % 256 = ((pby x y).toNat : Int) := by
  unfold pby
  generalize bits BinOp.or IntKind.i64 (x * 16) y = z
  have h0 := Int.emod_nonneg z (show (256 : Int) ≠ 0 by omega)
  have h1 := Int.emod_lt_of_pos z (show (0 : Int) < 256 by omega)
  generalize z % 256 = u at *
  have h2 : u.toNat % 256 = u.toNat := by omega
  simp [h2]
  omega
theorem dgt_bounds (c : UInt8) : -1 ≤ dgt c ∧ dgt c ≤ 15 := by
  have h : ∀ n : Fin 256, -1 ≤ dgt (UInt8.ofNat n.val) ∧ dgt (UInt8.ofNat n.val) ≤ 15 := by decide +kernel
  have := h ⟨c.toNat, c.toNat_lt⟩
  simpa using this

theorem laid_6 (l : List UInt8) : laid l 6 0 = #[Value.int .u8 0, Value.int .u8 0, Value.int .u8 0, Value.int .u8 0, Value.int .u8 0, Value.int .u8 0] := by
  unfold laid
  simp [bvals, List.replicate]
/-- the text of what was read -/
def pt (s : List UInt8) : List UInt8 := txt (pm s 0) (pm s 1) (pm s 2) (pm s 3) (pm s 4) (pm s 5)
/-- what Parse answers -/
def prsV (s : List UInt8) : Value := if pt s == s then .tuple #[MA (pm s 0) (pm s 1) (pm s 2) (pm s 3) (pm s 4) (pm s 5), .bool true] else .tuple #[MZ, .bool false]
theorem pt_len (s : List UInt8) (h : s.length ≠ 17) : (pt s == s) = false := by
  rw [beq_eq_false_iff_ne]
  intro e
  exact h (by rw [← e]; rfl)
theorem parse_short (w : World) (s : List UInt8) (hs : s.length ≠ 17) :
    Calls Try.prog 25 #[.string ⟨s.toArray⟩] w fun r w' => r = .returned (prsV s) ∧ Below w.heap.size w w' := by
  have hv : prsV s = .tuple #[MZ, .bool false] := by unfold prsV; rw [pt_len s hs]; rfl
  rw [hv]
  clear hv
  have hn : ((s.length : Int) != 17) = true := by simp; omega
  go_enter Try.func25, Try.ntmps25
  go_wp2
  exact bodyPost_ret (v := .tuple #[MZ, .bool false]) (by simp [results, Try.results25, go_sem]) rfl ⟨rfl, (by repeat (first | exact Below.refl _ _ | (refine Below.drew ?_) | (refine Below.alloc ?_ (by simp; try omega) _) | (refine Below.setCell ?_ (by simp; try omega) _)))⟩

set_option maxHeartbeats 2000000 in
theorem parse_long (w : World) (s : List UInt8) (hs : s.length = 17) :
    Calls Try.prog 25 #[.string ⟨s.toArray⟩] w fun r w' => r = .returned (prsV s) ∧ Below w.heap.size w w' := by
  have hn : ((s.length : Int) != 17) = false := by simp; omega
  go_enter Try.func25, Try.ntmps25
  go_wp2
  go_loopw [12] (fun i wr => ∃ k : Nat, k ≤ 6 ∧ i = .int .i64 k ∧ Arr wr w.heap.size 0 0 0 0 0 0 ∧ Blk wr (w.heap.size + 1) 23 (laid (ml s) 6 k) ∧ Below w.heap.size w wr) (fun i _ => 6 - (intOf i).toNat)
  case atStart => exact ⟨0, by omega, rfl, (Arr.zero w).alloc _, by rw [laid_6]; simpa using Blk.new (w.alloc (.cells #[.int .u8 0, .int .u8 0, .int .u8 0, .int .u8 0, .int .u8 0, .int .u8 0] 23)) _ _, ((Below.refl _ _).alloc (Nat.le_refl _) _).alloc (by simp) _⟩
  case round =>
    obtain ⟨k, hk, rfl, ha, hbk, hb⟩ := hrel
    by_cases hlt : k < 6
    · have HA2 := Lib.hid ha
      have hce : wr.cell? ⟨w.heap.size + 1, k, none⟩ = some (.int .u8 0) := (Blk.cell hbk k).trans (laid_at _ _ _ hlt rfl)
      have hfr := Blk.frozen hbk k
      have HBk := Lib.hid hbk
      have HB2 := Lib.hid hb
      clear ha hbk hb
      obtain ⟨x, hx⟩ : ∃ x, dgt (s.getD (3 * k) 0) = x := ⟨_, rfl⟩
      obtain ⟨y, hy⟩ : ∃ y, dgt (s.getD (3 * k + 1) 0) = y := ⟨_, rfl⟩
      have hxb := dgt_bounds (s.getD (3 * k) 0)
      have hyb := dgt_bounds (s.getD (3 * k + 1) 0)
      rw [hx] at hxb
      rw [hy] at hyb
      have HX := Lib.hid hx
      have HY := Lib.hid hy
      clear hx hy
      go_wp2_with fail
      rw [strAt]
      refine (digit_at _ _).mono ?_
      rw [HX.out]
      rintro r w1 ⟨rfl, rfl⟩
      go_wp2_with fail
      rw [strAt]
      refine (digit_at _ _).mono ?_
      rw [HY.out]
      rintro r w1 ⟨rfl, rfl⟩
      go_wp2
      go_roundw
      case rel =>
        have hv : Value.int IntKind.u8 (bits BinOp.or IntKind.i64 (x * 16) y % 256) = Value.int IntKind.u8 (((ml s)[k]'hlt).toNat : Int) := by
          rw [ml_at s k hlt]
          unfold pm
          rw [HX.out, HY.out]
          exact congrArg _ (pby_int x y)
        rw [hv]
        have hq := HBk.out.put k (Value.int IntKind.u8 (((ml s)[k]'hlt).toNat : Int))
        rw [laid_step (ml s) 6 k hlt (Nat.le_refl 6)] at hq
        exact ⟨k + 1, by omega, by go_num, Blk.far HA2.out (by show w.heap.size ≠ w.heap.size + 1; omega) _, hq, HB2.out.setCell (by show w.heap.size ≤ w.heap.size + 1; omega) _⟩
      case measure => simp [intOf]; omega
    · obtain rfl : k = 6 := by omega
      rw [laid_all (ml s) 6 rfl] at hbk
      have hm : Arr wr (w.heap.size + 1) (pm s 0) (pm s 1) (pm s 2) (pm s 3) (pm s 4) (pm s 5) := hbk
      obtain ⟨d0, d1, d2, d3, d4, d5⟩ := hm.cells
      have HA := Lib.hid ha
      have HM := Lib.hid hm
      have HB := Lib.hid hb
      have hgl := hm.lt
      clear ha hm hbk hb
      go_wp2_with fail
      refine (text_mac _ (pm s 0) (pm s 1) (pm s 2) (pm s 3) (pm s 4) (pm s 5)).mono ?_
      rintro r w2 ⟨rfl, hb2⟩
      have ha2 := HA.out.next hb2
      have hm2 := HM.out.next hb2
      have HB2 := Lib.hid (HB.out.trans (hb2.mono HB.out.size))
      obtain ⟨f0, f1, f2, f3, f4, f5⟩ := ha2.frozens
      obtain ⟨c0, c1, c2, c3, c4, c5⟩ := ha2.cells
      clear d0 d1 d2 d3 d4 d5
      obtain ⟨d0, d1, d2, d3, d4, d5⟩ := hm2.cells
      clear ha2 hm2 hb2 HB HA HM
      have hpt : txt (pm s 0) (pm s 1) (pm s 2) (pm s 3) (pm s 4) (pm s 5) = pt s := rfl
      rw [hpt]
      clear hpt
      cases hq : (pt s == s)
      · have hv : prsV s = .tuple #[MZ, .bool false] := by unfold prsV; rw [hq]; rfl
        have HV := Lib.hid hv
        clear hv
        go_wp2
        rw [HV.out]
        exact bodyPost_ret (v := .tuple #[MZ, .bool false]) (by simp [results, Try.results25, go_sem, c0, c1, c2, c3, c4, c5]) rfl ⟨rfl, put6_below HB2.out (Nat.le_refl _) _ _ _ _ _ _⟩
      · have hv : prsV s = .tuple #[MA (pm s 0) (pm s 1) (pm s 2) (pm s 3) (pm s 4) (pm s 5), .bool true] := by unfold prsV; rw [hq]; rfl
        have HV := Lib.hid hv
        clear hv
        go_wp2
        rw [HV.out]
        exact bodyPost_ret (v := .tuple #[MA (pm s 0) (pm s 1) (pm s 2) (pm s 3) (pm s 4) (pm s 5), .bool true]) (by simp [results, Try.results25, go_sem, c0, c1, c2, c3, c4, c5]) rfl ⟨rfl, put6_below HB2.out (Nat.le_refl _) _ _ _ _ _ _⟩
theorem parse_any (w : World) (s : List UInt8) :
    Calls Try.prog 25 #[.string ⟨s.toArray⟩] w fun r w' => r = .returned (prsV s) ∧ Below w.heap.size w w' := by
  by_cases h : s.length = 17
  · exact parse_long w s h
  · exact parse_short w s h
end Go.Proofs.Ytabdhokcgedomaa
