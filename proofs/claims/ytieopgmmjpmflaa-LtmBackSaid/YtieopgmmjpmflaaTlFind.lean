/- package tlv: Find. -/
import Derived.Test.YtieopgmmjpmflaaTl
import Derived.Deep.DeepCutAuto
namespace Go.Proofs.Ytieopgmmjpmflaa
open Go.RowKit
set_option linter.unusedVariables false
set_option linter.unusedSimpArgs false
set_option maxRecDepth 100000

/-- what is found: the value, and whether there is one -/
def tlFv (l : List Tl) (q : UInt8) : List UInt8 := (tlF l q).getD []
def tlFb (l : List Tl) (q : UInt8) : Bool := (tlF l q).isSome
set_option maxHeartbeats 1000000 in
theorem tlfind_any (A : Option Addr) (c : Nat) (l : List Tl) (q : UInt8) (w : World) (hE : Els 2 tlV w A l) (hl : l.length ≤ 1000000) :
    Calls Try.prog 53 #[.slice A l.length c, .int .u8 q.toNat] w fun e w' => e = .returned (.tuple #[.string ⟨(tlFv l q).toArray⟩, .bool (tlFb l q)]) ∧ Below w.heap.size w w' := by
  have HE := Lib.hid hE
  obtain ⟨n, hn⟩ : ∃ n, l.length = n := ⟨_, rfl⟩
  have HN := Lib.hid hn
  rw [hn]
  rw [hn] at hl
  clear hE hn
  go_enter Try.func53, Try.ntmps53
  go_wp2
  go_loopw [10] (fun i wr => ∃ k : Nat, k ≤ n ∧ i = .int .i64 k ∧ Hid (Below w.heap.size w wr) ∧ Hid (∀ y ∈ l.take k, y.k ≠ q)) (fun i _ => n - (intOf i).toNat)
  case atStart => exact ⟨0, Nat.zero_le _, rfl, Lib.hid (Below.refl _ _), Lib.hid (by intro y hy; simp at hy)⟩
  case round =>
    obtain ⟨k, hk, rfl, HB, HZ⟩ := hrel
    by_cases hlt : k < n
    · obtain ⟨x, hx⟩ : ∃ x, l[k]? = some x := ⟨_, List.getElem?_eq_getElem (by rw [HN.out]; exact hlt)⟩
      obtain ⟨b, off, rfl, hb, c0, c1⟩ := tl_at (HE.out.next HB.out) hx
      have hki : (k : Int) < n := by omega
      have HX := Lib.hid hx
      have HA : Hid (Below w.heap.size w (wr.alloc (.cells #[.int .u8 x.k.toNat, .string ⟨x.v.toArray⟩] 69))) := Lib.hid (HB.out.alloc HB.out.size _)
      clear hx hb
      by_cases h0 : x.k = q
      · have e0 : ((x.k.toNat : Int) == (q.toNat : Int)) = true := by rw [tl_eqI]; simpa using h0
        have HF : Hid (tlFv l q = x.v ∧ tlFb l q = true) := Lib.hid (by unfold tlFv tlFb; rw [tlF_hit HX.out HZ.out h0]; exact ⟨rfl, rfl⟩)
        clear h0
        go_wp2
        go_ret2
        exact ⟨by rw [HF.out.1, HF.out.2]; rfl, HA.out⟩
      · have e0 : ((x.k.toNat : Int) == (q.toNat : Int)) = false := by rw [tl_eqI]; simpa using h0
        have HZ1 := Lib.hid (tl_take_all HX.out HZ.out h0)
        clear h0
        go_wp2
        go_roundw
        case rel => exact ⟨k + 1, by omega, by go_num, HA, HZ1⟩
        case measure => simp [intOf]; omega
    · obtain rfl : k = n := by omega
      have htk : l.take k = l := List.take_of_length_le (by rw [HN.out]; omega)
      have HF : Hid (tlFv l q = [] ∧ tlFb l q = false) := Lib.hid (by
        have h0 := HZ.out
        rw [htk] at h0
        unfold tlFv tlFb
        rw [tlF_none h0]
        exact ⟨rfl, rfl⟩)
      clear htk
      go_wp2
      go_ret2
      exact ⟨by rw [HF.out.1, HF.out.2]; rfl, HB.out⟩
end Go.Proofs.Ytieopgmmjpmflaa
