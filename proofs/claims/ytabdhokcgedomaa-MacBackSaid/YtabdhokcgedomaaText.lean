/- package mac's Text: the text of an address. -/
import Derived.Test.YtabdhokcgedomaaMac
namespace Go.Proofs.Ytabdhokcgedomaa
open Go.RowKit
set_option linter.unusedVariables false
set_option linter.unusedSimpArgs false

/-- the digits to the base 16 -/
def digs : List UInt8 := [48, 49, 50, 51, 52, 53, 54, 55, 56, 57, 97, 98, 99, 100, 101, 102]
def hx (n : Nat) : UInt8 := digs.getD n 0
/-- the text of an address -/
def txt (a b c d e f : UInt8) : List UInt8 := [hx (a.toNat / 16), hx (a.toNat % 16), 58, hx (b.toNat / 16), hx (b.toNat % 16), 58, hx (c.toNat / 16), hx (c.toNat % 16), 58,
  hx (d.toNat / 16), hx (d.toNat % 16), 58, hx (e.toNat / 16), hx (e.toNat % 16), 58, hx (f.toNat / 16), hx (f.toNat % 16)]
theorem txt_len (a b c d e f : UInt8) : (txt a b c d e f).length = 17 := rfl
theorem Arr.at {w : World} {g : Nat} {a b c d e f : UInt8} (h : Arr w g a b c d e f) (k : Nat) (hk : k < 6) : w.cell? ⟨g, k, none⟩ = some (.int .u8 (([a, b, c, d, e, f][k]).toNat : Int)) := by
  have := Blk.cell h k
  rw [this]
  match k, hk with
  | 0, _ => rfl
  | 1, _ => rfl
  | 2, _ => rfl
  | 3, _ => rfl
  | 4, _ => rfl
  | 5, _ => rfl

theorem digAt (n : Nat) (h : n < (⟨#[48, 49, 50, 51, 52, 53, 54, 55, 56, 57, 97, 98, 99, 100, 101, 102]⟩ : ByteArray).size) : (⟨#[48, 49, 50, 51, 52, 53, 54, 55, 56, 57, 97, 98, 99, 100, 101, 102]⟩ : ByteArray)[n]'h = hx n := by
  have h16 : n < 16 := h
  have : n = 0 ∨ n = 1 ∨ n = 2 ∨ n = 3 ∨ n = 4 ∨ n = 5 ∨ n = 6 ∨ n = 7 ∨ n = 8 ∨ n = 9 ∨ n = 10 ∨ n = 11 ∨ n = 12 ∨ n = 13 ∨ n = 14 ∨ n = 15 := by omega
  rcases this with rfl | rfl | rfl | rfl | rfl | rfl | rfl | rfl | rfl | rfl | rfl | rfl | rfl | rfl | rfl | rfl <;> rfl
theorem and_low (x : UInt8) : bits BinOp.and IntKind.u8 (x.toNat : Int) 15 = ((x.toNat % 16 : Nat) : Int) := by
  have h : ∀ n : Fin 256, bits BinOp.and IntKind.u8 ((n.val : Nat) : Int) 15 = ((n.val % 16 : Nat) : Int) := by decide +kernel
  exact h ⟨x.toNat, x.toNat_lt⟩
/-- the three places of a byte: its high digit, its low digit, the colon -/
def plc (x : UInt8) (r : Nat) : UInt8 := if r = 0 then hx (x.toNat / 16) else if r = 1 then hx (x.toNat % 16) else 58
set_option maxHeartbeats 1000000 in
theorem spell_at {w : World} {g : Nat} {a b c d e f : UInt8} (h : Arr w g a b c d e f) (q r : Nat) (hq : q < 6) (hr : r < 3) (x : UInt8) (hx' : [a, b, c, d, e, f][q] = x) :
    Calls Try.prog 38 #[.int .i64 ((3 * q + r : Nat) : Int), .pointer (some ⟨g, 0, none⟩)] w fun e w' => e = .returned (.int .u8 (plc x r).toNat) ∧ w = w' := by
  have hc := h.at q hq
  rw [hx'] at hc
  have hd : ((3 * q + r : Nat) : Int) / 3 = (q : Int) := by omega
  have hm : ((3 * q + r : Nat) : Int) % 3 = (r : Int) := by omega
  generalize ((3 * q + r : Nat) : Int) = i at *
  clear h
  have hlow := and_low x
  have hxl := x.toNat_lt
  have hb1 : 0 ≤ (x.toNat : Int) / 16 ∧ (x.toNat : Int) / 16 < 16 := by omega
  have hb2 : 0 ≤ ((x.toNat % 16 : Nat) : Int) ∧ ((x.toNat % 16 : Nat) : Int) < 16 := by omega
  have hr3 : r = 0 ∨ r = 1 ∨ r = 2 := by omega
  rcases hr3 with rfl | rfl | rfl
  · have hv : plc x 0 = hx (x.toNat / 16) := rfl
    rw [hv]
    go_enter Try.func38, Try.ntmps38
    go_wp2
    rw [digAt]
    go_ret
    exact ⟨rfl, rfl⟩
  · have hv : plc x 1 = hx (x.toNat % 16) := rfl
    rw [hv]
    go_enter Try.func38, Try.ntmps38
    go_wp2
    rw [digAt]
    go_ret
    exact ⟨rfl, rfl⟩
  · have hv : plc x 2 = 58 := rfl
    rw [hv]
    go_enter Try.func38, Try.ntmps38
    go_wp2
    go_ret
    exact ⟨rfl, rfl⟩
theorem plc_txt (a b c d e f : UInt8) (k : Nat) (hk : k < 17) : plc ([a, b, c, d, e, f][k / 3]'(by simp; omega)) (k % 3) = (txt a b c d e f)[k]'(by rw [txt_len]; exact hk) := by
  have : k = 0 ∨ k = 1 ∨ k = 2 ∨ k = 3 ∨ k = 4 ∨ k = 5 ∨ k = 6 ∨ k = 7 ∨ k = 8 ∨ k = 9 ∨ k = 10 ∨ k = 11 ∨ k = 12 ∨ k = 13 ∨ k = 14 ∨ k = 15 ∨ k = 16 := by omega
  rcases this with rfl | rfl | rfl | rfl | rfl | rfl | rfl | rfl | rfl | rfl | rfl | rfl | rfl | rfl | rfl | rfl | rfl <;> rfl
theorem spell_k {w : World} {g : Nat} {a b c d e f : UInt8} (h : Arr w g a b c d e f) (k : Nat) (hk : k < 17) :
    Calls Try.prog 38 #[.int .i64 (k : Int), .pointer (some ⟨g, 0, none⟩)] w fun r w' => r = .returned (.int .u8 ((txt a b c d e f)[k]'(by rw [txt_len]; exact hk)).toNat) ∧ w = w' := by
  have := spell_at h (k / 3) (k % 3) (by omega) (by omega) _ rfl
  rw [plc_txt a b c d e f k hk, show 3 * (k / 3) + k % 3 = k from Nat.div_add_mod k 3] at this
  exact this

theorem spell_any (w : World) (a b c d e f : UInt8) :
    Calls Try.prog 30 #[MA a b c d e f] w fun r w' => r = .returned (.func (.func 38) #[] #[.pointer (some ⟨w.heap.size, 0, none⟩)]) ∧ Arr w' w.heap.size a b c d e f ∧ Below w.heap.size w w' := by
  have hmf : ∀ (fn : Fn) (first cap : Array Value) (w : World), (Instr.makeFunc fn first cap).run Try.prog w = .ok (.func fn first cap) w := fun _ _ _ _ => rfl
  go_enter Try.func30, Try.ntmps30
  go_wp2
  go_ret
  exact ⟨rfl, Arr.new _ _ _ _ _ _ _, (Below.refl _ _).alloc (Nat.le_refl _) _⟩

/-- the first k bytes of a text laid, of so many -/
def laid (l : List UInt8) (n k : Nat) : Array Value := (bvals (l.take k) ++ List.replicate (n - k) (Value.int .u8 0)).toArray
theorem laid_step (l : List UInt8) (n k : Nat) (hk : k < l.length) (hn : l.length ≤ n) : (laid l n k).setIfInBounds k (Value.int .u8 ((l[k]).toNat : Int)) = laid l n (k + 1) := by
  unfold laid
  have e : n - k = (n - (k + 1)) + 1 := by omega
  have hl : (bvals (l.take k)).length = k := by simp [bvals]; omega
  rw [List.take_succ_eq_append_getElem hk, bvals_app, e, List.replicate_succ]
  apply Array.ext'
  simp only [Array.toList_setIfInBounds]
  rw [List.set_append_right _ _ (by omega), hl]
  simp [bvals, bval]
theorem laid_at (l : List UInt8) (n k : Nat) (hk : k < n) (hl : l.length = n) : (laid l n k)[k]? = some (Value.int .u8 0) := by
  unfold laid
  have hl : (bvals (l.take k)).length = k := by simp [bvals]; omega
  simp only [List.getElem?_toArray]
  rw [List.getElem?_append_right (by omega), hl]
  simp [show 0 < n - k by omega]
theorem laid_all (l : List UInt8) (n : Nat) (hn : l.length = n) : laid l n n = (bvals l).toArray := by
  unfold laid
  simp [← hn]

theorem laid_0 (l : List UInt8) : laid l 17 0 = #[Value.int .u8 0, Value.int .u8 0, Value.int .u8 0, Value.int .u8 0, Value.int .u8 0, Value.int .u8 0, Value.int .u8 0, Value.int .u8 0, Value.int .u8 0, Value.int .u8 0, Value.int .u8 0, Value.int .u8 0, Value.int .u8 0, Value.int .u8 0, Value.int .u8 0, Value.int .u8 0, Value.int .u8 0] := by
  unfold laid
  simp [bvals, List.replicate]
theorem Blk.str {w : World} {g : Nat} {t : TypeId} {l : List UInt8} (h : Blk w g t (bvals l).toArray) (c : Nat) : Str w (.slice (some ⟨g, 0, none⟩) l.length c) l :=
  ⟨_, c, rfl, (by simp), fun _ => ⟨_, rfl, fun j u hu => by
    have hc := Blk.cell h j
    have e : ((bvals l).toArray)[j]? = (bvals l)[j]? := List.getElem?_toArray
    rw [e, hu] at hc
    simp only [Addr.add, Nat.zero_add]
    split
    · rename_i h0; subst h0; exact hc
    · exact hc⟩⟩

set_option maxHeartbeats 1000000 in
theorem text_mac (w : World) (a b c d e f : UInt8) :
    Calls Try.prog 15 #[MA a b c d e f] w fun r w' => r = .returned (.string ⟨(txt a b c d e f).toArray⟩) ∧ Below w.heap.size w w' := by
  go_enter Try.func15, Try.ntmps15
  go_wp2_with fail
  refine (spell_any _ a b c d e f).mono ?_
  rintro r w1 ⟨rfl, ha, hb⟩
  have HB : Below w.heap.size w w1 := ((Below.refl _ _).alloc (Nat.le_refl _) _).trans (hb.mono (by simp))
  have hs1 := hb.size
  simp only [World.size_alloc] at hs1
  have hl1 : w.heap.size + 1 < w1.heap.size := by have := ha.lt; simpa using this
  have HA := Lib.hid ha
  clear hb ha hs1
  have hms : ∀ w : World, (Instr.makeSlice 47 (.int .i64 17) (.int .i64 17)).run Try.prog w = .ok (.slice (some ⟨w.heap.size, 0, none⟩) 17 17) (w.alloc (.cells #[.int .u8 0, .int .u8 0, .int .u8 0, .int .u8 0, .int .u8 0, .int .u8 0, .int .u8 0, .int .u8 0, .int .u8 0, .int .u8 0, .int .u8 0, .int .u8 0, .int .u8 0, .int .u8 0, .int .u8 0, .int .u8 0, .int .u8 0] 5)) := fun w => by kernel_rfl
  go_wp2
  go_loopw [11] (fun i wr => ∃ k : Nat, k ≤ 17 ∧ i = .int .i64 k ∧ Arr wr (w.heap.size + 1) a b c d e f ∧ Blk wr w1.heap.size 5 (laid (txt a b c d e f) 17 k) ∧ Below w.heap.size w wr) (fun i _ => 17 - (intOf i).toNat)
  case atStart => exact ⟨0, by omega, rfl, Arr.below (by simpa using HA.out) ((Below.refl w1.heap.size w1).alloc (Nat.le_refl _) _) hl1, by rw [laid_0]; exact Blk.new _ _ _, HB.alloc HB.size _⟩
  case round =>
    obtain ⟨k, hk, rfl, ha, hbk, hb⟩ := hrel
    by_cases hlt : k < 17
    · have HA2 := Lib.hid ha
      have hce : wr.cell? ⟨w1.heap.size, k, none⟩ = some (.int .u8 0) := (Blk.cell hbk k).trans (laid_at _ _ _ hlt rfl)
      have hfr := Blk.frozen hbk k
      have HBk := Lib.hid hbk
      have HB2 := Lib.hid hb
      clear ha hbk hb
      go_wp2_with fail
      refine (spell_k HA2.out k hlt).mono ?_
      rintro r w2 ⟨rfl, rfl⟩
      go_wp2
      go_roundw
      case rel =>
        have hq := HBk.out.put k (Value.int .u8 (((txt a b c d e f)[k]'(by rw [txt_len]; exact hlt)).toNat : Int))
        rw [laid_step _ _ k (by rw [txt_len]; exact hlt) (by rw [txt_len]; omega)] at hq
        exact ⟨k + 1, by omega, by go_num, Blk.far HA2.out (by show w.heap.size + 1 ≠ w1.heap.size; omega) _, hq, HB2.out.setCell (by show w.heap.size ≤ w1.heap.size; omega) _⟩
      case measure => simp [intOf]; omega
    · obtain rfl : k = 17 := by omega
      rw [laid_all _ _ (txt_len a b c d e f)] at hbk
      have hcv : (convert 47 9 (.slice (some ⟨w1.heap.size, 0, none⟩) 17 17)).run Try.prog wr = .ok (.string ⟨(txt a b c d e f).toArray⟩) wr := (Blk.str hbk 17).conv
      have HBB := Lib.hid hb
      clear hbk ha hb
      go_wp2
      go_ret
      exact ⟨rfl, HBB.out⟩

end Go.Proofs.Ytabdhokcgedomaa
