/- package mac's Text: the text of an address. -/
import Derived.Test.YtieopgmmjpmflaaMac
namespace Go.Proofs.Ytieopgmmjpmflaa
open Go.RowKit
set_option linter.unusedVariables false
set_option linter.unusedSimpArgs false
set_option maxRecDepth 100000

/-- the digits to the base 16 -/
def digs : List UInt8 := [48, 49, 50, 51, 52, 53, 54, 55, 56, 57, 97, 98, 99, 100, 101, 102]
def hx (n : Nat) : UInt8 := digs.getD n 0
/-- the text of an address -/
def txt (a b c d e f : UInt8) : List UInt8 := [hx (a.toNat / 16), hx (a.toNat % 16), 58, hx (b.toNat / 16), hx (b.toNat % 16), 58, hx (c.toNat / 16), hx (c.toNat % 16), 58,
  hx (d.toNat / 16), hx (d.toNat % 16), 58, hx (e.toNat / 16), hx (e.toNat % 16), 58, hx (f.toNat / 16), hx (f.toNat % 16)]
theorem txt_len (a b c d e f : UInt8) : (txt a b c d e f).length = 17 := rfl
theorem Arr.at {w : World} {g : Nat} {a b c d e f : UInt8} (h : Arr w g a b c d e f) (k : Nat) (hk : k < 6) : w.cell? ⟨g, k, none⟩ = some (.int .u8 (([a, b, c, d, e, f][k]).toNat : Int)) := by
  have := Blk.cell h k
  rw [this]
  match k, hk with
  | 0, _ => rfl
  | 1, _ => rfl
  | 2, _ => rfl
  | 3, _ => rfl
  | 4, _ => rfl
  | 5, _ => rfl

theorem digAt (n : Nat) (h : n < (⟨#[48, 49, 50, 51, 52, 53, 54, 55, 56, 57, 97, 98, 99, 100, 101, 102]⟩ : ByteArray).size) : (⟨#[48, 49, 50, 51, 52, 53, 54, 55, 56, 57, 97, 98, 99, 100, 101, 102]⟩ : ByteArray)[n]'h = hx n := by
  have h16 : n < 16 := h
  have : n = 0 ∨ n = 1 ∨ n = 2 ∨ n = 3 ∨ n = 4 ∨ n = 5 ∨ n = 6 ∨ n = 7 ∨ n = 8 ∨ n = 9 ∨ n = 10 ∨ n = 11 ∨ n = 12 ∨ n = 13 ∨ n = 14 ∨ n = 15 := by omega
  rcases this with rfl | rfl | rfl | rfl | rfl | rfl | rfl | rfl | rfl | rfl | rfl | rfl | rfl | rfl | rfl | rfl <;> rfl


/-- the first k bytes of a text laid, of so many -/
def laid (l : List UInt8) (n k : Nat) : Array Value := (bvals (l.take k) ++ List.replicate (n - k) (Value.int .u8 0)).toArray
theorem laid_step (l : List UInt8) (n k : Nat) (hk : k < l.length) (hn : l.length ≤ n) : (laid l n k).setIfInBounds k (Value.int .u8 ((l[k]).toNat : Int)) = laid l n (k + 1) := by
  unfold laid
  have e : n - k = (n - (k + 1)) + 1 := by omega
  have hl : (bvals (l.take k)).length = k := by simp [bvals]; omega
  rw [List.take_succ_eq_append_getElem hk, bvals_app, e, List.replicate_succ]
  apply Array.ext'
  simp only [Array.toList_setIfInBounds]
  rw [List.set_append_right _ _ (by omega), hl]
  simp [bvals, bval]
theorem laid_at (l : List UInt8) (n k : Nat) (hk : k < n) (hl : l.length = n) : (laid l n k)[k]? = some (Value.int .u8 0) := by
  unfold laid
  have hl : (bvals (l.take k)).length = k := by simp [bvals]; omega
  simp only [List.getElem?_toArray]
  rw [List.getElem?_append_right (by omega), hl]
  simp [show 0 < n - k by omega]
theorem laid_all (l : List UInt8) (n : Nat) (hn : l.length = n) : laid l n n = (bvals l).toArray := by
  unfold laid
  simp [← hn]

theorem laid_0 (l : List UInt8) : laid l 17 0 = #[Value.int .u8 0, Value.int .u8 0, Value.int .u8 0, Value.int .u8 0, Value.int .u8 0, Value.int .u8 0, Value.int .u8 0, Value.int .u8 0, Value.int .u8 0, Value.int .u8 0, Value.int .u8 0, Value.int .u8 0, Value.int .u8 0, Value.int .u8 0, Value.int .u8 0, Value.int .u8 0, Value.int .u8 0] := by
  unfold laid
  simp [bvals, List.replicate]
theorem Blk.str {w : World} {g : Nat} {t : TypeId} {l : List UInt8} (h : Blk w g t (bvals l).toArray) (c : Nat) : Str w (.slice (some ⟨g, 0, none⟩) l.length c) l :=
  ⟨_, c, rfl, (by simp), fun _ => ⟨_, rfl, fun j u hu => by
    have hc := Blk.cell h j
    have e : ((bvals l).toArray)[j]? = (bvals l)[j]? := List.getElem?_toArray
    rw [e, hu] at hc
    simp only [Addr.add, Nat.zero_add]
    split
    · rename_i h0; subst h0; exact hc
    · exact hc⟩⟩


end Go.Proofs.Ytieopgmmjpmflaa
