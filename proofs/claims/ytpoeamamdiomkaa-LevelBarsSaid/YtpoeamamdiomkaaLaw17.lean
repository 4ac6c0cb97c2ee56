/- Layer 17: the contracts of package level as words; the law's wakes. -/
import Derived.Test.YtpoeamamdiomkaaR17
import Derived.Deep.RegionHeld3
namespace Go.Proofs.Ytpoeamamdiomkaa
open Go.RowKit
set_option linter.unusedVariables false
set_option linter.unusedSimpArgs false
set_option maxRecDepth 100000

/-- what package level is held to -/
def LvWireC : Prop := ∀ (d u : UInt8) (m : Int) (l : UInt8) (w : World),
    Calls Try.prog 6 #[.agg #[.int .u8 d.toNat, .int .u8 u.toNat, .int .i64 m], .int .u8 l.toNat] w fun e w' => e = .returned (.int .u8 (fa d u m l.toNat : Nat)) ∧ Below w.heap.size w w'
def LvRelayC : Prop := ∀ (d u : UInt8) (m : Int) (l : UInt8) (w : World),
    Calls Try.prog 8 #[.agg #[.int .u8 d.toNat, .int .u8 u.toNat, .int .i64 m], .int .u8 l.toNat] w fun e w' => e = .returned (.int .u8 (fa u d m l.toNat : Nat)) ∧ Below w.heap.size w w'
theorem tab_wire : ∀ k : Fin 8, fa 4 32 6 k.val = [0, 0, 2, 0, 0, 0, 3, 1].getD k.val 0 := by decide +kernel
theorem tab_relay : ∀ k : Fin 8, fa 32 4 6 k.val = [0, 0, 0, 0, 0, 2, 3, 1].getD k.val 0 := by decide +kernel
theorem cell_wire (k : Nat) (h : k < 8) : (#[.int .u8 0, .int .u8 0, .int .u8 2, .int .u8 0, .int .u8 0, .int .u8 0, .int .u8 3, .int .u8 1] : Array Value)[k]? = some (.int .u8 (([0, 0, 2, 0, 0, 0, 3, 1] : List Nat).getD k 0 : Nat)) := by
  match k, h with
  | 0, _ => rfl
  | 1, _ => rfl
  | 2, _ => rfl
  | 3, _ => rfl
  | 4, _ => rfl
  | 5, _ => rfl
  | 6, _ => rfl
  | 7, _ => rfl
theorem cell_relay (k : Nat) (h : k < 8) : (#[.int .u8 0, .int .u8 0, .int .u8 0, .int .u8 0, .int .u8 0, .int .u8 2, .int .u8 3, .int .u8 1] : Array Value)[k]? = some (.int .u8 (([0, 0, 0, 0, 0, 2, 3, 1] : List Nat).getD k 0 : Nat)) := by
  match k, h with
  | 0, _ => rfl
  | 1, _ => rfl
  | 2, _ => rfl
  | 3, _ => rfl
  | 4, _ => rfl
  | 5, _ => rfl
  | 6, _ => rfl
  | 7, _ => rfl
theorem keep17 {W w w' : World} {gA gW gR k x y : Nat} (h0 : w.cell? ⟨gA, 0, none⟩ = some (.int .u8 4)) (h1 : w.cell? ⟨gA, 1, none⟩ = some (.int .u8 32)) (h2 : w.cell? ⟨gA, 2, none⟩ = some (.int .i64 6)) (h3 : w.cell? ⟨gW, k, none⟩ = some (.int .u8 (x : Nat))) (h4 : w.cell? ⟨gR, k, none⟩ = some (.int .u8 (y : Nat))) (hE0 : Hid (Blk w gA 23 #[.int .u8 4, .int .u8 32, .int .i64 6])) (hE1 : Hid (Blk w gW 26 #[.int .u8 0, .int .u8 0, .int .u8 2, .int .u8 0, .int .u8 0, .int .u8 0, .int .u8 3, .int .u8 1])) (hE2 : Hid (Blk w gR 26 #[.int .u8 0, .int .u8 0, .int .u8 0, .int .u8 0, .int .u8 0, .int .u8 2, .int .u8 3, .int .u8 1])) (hB : Hid (Below W.heap.size W w)) (hb : Below w.heap.size w w') : w'.cell? ⟨gA, 0, none⟩ = some (.int .u8 4) ∧ w'.cell? ⟨gA, 1, none⟩ = some (.int .u8 32) ∧ w'.cell? ⟨gA, 2, none⟩ = some (.int .i64 6) ∧ w'.cell? ⟨gW, k, none⟩ = some (.int .u8 (x : Nat)) ∧ w'.cell? ⟨gR, k, none⟩ = some (.int .u8 (y : Nat)) ∧ Hid (Blk w' gA 23 #[.int .u8 4, .int .u8 32, .int .i64 6]) ∧ Hid (Blk w' gW 26 #[.int .u8 0, .int .u8 0, .int .u8 2, .int .u8 0, .int .u8 0, .int .u8 0, .int .u8 3, .int .u8 1]) ∧ Hid (Blk w' gR 26 #[.int .u8 0, .int .u8 0, .int .u8 0, .int .u8 0, .int .u8 0, .int .u8 2, .int .u8 3, .int .u8 1]) ∧ Hid (Below W.heap.size W w') := by
  have hk : ∀ {g i : Nat} {v : Value}, w.cell? ⟨g, i, none⟩ = some v → w'.cell? ⟨g, i, none⟩ = some v := fun {g i v} h => (hb.cell (p := ⟨g, i, none⟩) (World.block_lt_of_cell? w _ h)).trans h
  exact ⟨hk h0, hk h1, hk h2, hk h3, hk h4, Lib.hid (hE0.out.below hb hE0.out.lt), Lib.hid (hE1.out.below hb hE1.out.lt), Lib.hid (hE2.out.below hb hE2.out.lt), Lib.hid (hB.out.trans (hb.mono hB.out.size))⟩
set_option maxHeartbeats 4000000 in
theorem wakes17 (HW : LvWireC) (HR : LvRelayC) (w : World) : Calls Try.prog 9 #[] w fun r w' => r = .returned (.bool true) ∧ Below w.heap.size w w' := by
  obtain ⟨w0, hw0⟩ : ∃ w0, (((w.alloc (.cells #[.int .u8 4, .int .u8 32, .int .i64 6] 23)).alloc (.cells #[.int .u8 0, .int .u8 0, .int .u8 2, .int .u8 0, .int .u8 0, .int .u8 0, .int .u8 3, .int .u8 1] 26)).alloc (.cells #[.int .u8 0, .int .u8 0, .int .u8 0, .int .u8 0, .int .u8 0, .int .u8 2, .int .u8 3, .int .u8 1] 26)) = w0 := ⟨_, rfl⟩
  have HB0 : Hid (Below w.heap.size w w0) := Lib.hid (by rw [← hw0]; exact (((Below.refl _ _).alloc (Nat.le_refl _) _).alloc (by simp) _).alloc (by simp; omega) _)
  have HA0 : Hid (Blk w0 w.heap.size 23 #[.int .u8 4, .int .u8 32, .int .i64 6]) := Lib.hid (by rw [← hw0]; exact ((Blk.new _ _ _).alloc _).alloc _)
  have HW0 : Hid (Blk w0 (w.heap.size + 1) 26 #[.int .u8 0, .int .u8 0, .int .u8 2, .int .u8 0, .int .u8 0, .int .u8 0, .int .u8 3, .int .u8 1]) := Lib.hid (by
    have := (Blk.new (w.alloc (.cells #[.int .u8 4, .int .u8 32, .int .i64 6] 23)) 26 #[.int .u8 0, .int .u8 0, .int .u8 2, .int .u8 0, .int .u8 0, .int .u8 0, .int .u8 3, .int .u8 1]).alloc (.cells #[.int .u8 0, .int .u8 0, .int .u8 0, .int .u8 0, .int .u8 0, .int .u8 2, .int .u8 3, .int .u8 1] 26)
    rw [← hw0]
    simpa using this)
  have HR0 : Hid (Blk w0 (w.heap.size + 2) 26 #[.int .u8 0, .int .u8 0, .int .u8 0, .int .u8 0, .int .u8 0, .int .u8 2, .int .u8 3, .int .u8 1]) := Lib.hid (by
    have := Blk.new ((w.alloc (.cells #[.int .u8 4, .int .u8 32, .int .i64 6] 23)).alloc (.cells #[.int .u8 0, .int .u8 0, .int .u8 2, .int .u8 0, .int .u8 0, .int .u8 0, .int .u8 3, .int .u8 1] 26)) 26 #[.int .u8 0, .int .u8 0, .int .u8 0, .int .u8 0, .int .u8 0, .int .u8 2, .int .u8 3, .int .u8 1]
    rw [← hw0]
    simpa using this)
  go_enter Try.func9, Try.ntmps9
  go_wp2
  try rw [hw0]
  try rw [show w.heap.size + 1 + 1 = w.heap.size + 2 from rfl]
  clear hw0
  go_loopw [4] (fun i wr => ∃ k : Nat, k ≤ 8 ∧ i = .int .i64 k ∧ Hid (Blk wr w.heap.size 23 #[.int .u8 4, .int .u8 32, .int .i64 6]) ∧ Hid (Blk wr (w.heap.size + 1) 26 #[.int .u8 0, .int .u8 0, .int .u8 2, .int .u8 0, .int .u8 0, .int .u8 0, .int .u8 3, .int .u8 1]) ∧ Hid (Blk wr (w.heap.size + 2) 26 #[.int .u8 0, .int .u8 0, .int .u8 0, .int .u8 0, .int .u8 0, .int .u8 2, .int .u8 3, .int .u8 1]) ∧ Hid (Below w.heap.size w wr)) (fun i _ => 8 - (intOf i).toNat)
  case atStart => exact ⟨0, Nat.zero_le _, rfl, HA0, HW0, HR0, HB0⟩
  case round =>
    obtain ⟨k, hk, rfl, HA, HWW, HRR, HB⟩ := hrel
    clear HA0 HW0 HR0 HB0
    by_cases hlt : k < 8
    · have hki : (k : Int) < 8 := by omega
      have hk0 : (0 : Int) ≤ (k : Int) := by omega
      have KW := HW 4 32 6 (UInt8.ofNat k)
      have KR := HR 4 32 6 (UInt8.ofNat k)
      have hkk : (UInt8.ofNat k).toNat = k := by simp; omega
      rw [hkk] at KW KR
      rw [tab_wire ⟨k, hlt⟩] at KW
      rw [tab_relay ⟨k, hlt⟩] at KR
      have e3 := (HWW.out.cell k).trans (cell_wire k hlt)
      have e4 := (HRR.out.cell k).trans (cell_relay k hlt)
      obtain ⟨x, hx⟩ : ∃ x, ([0, 0, 2, 0, 0, 0, 3, 1] : List Nat).getD k 0 = x := ⟨_, rfl⟩
      obtain ⟨y, hy⟩ : ∃ x, ([0, 0, 0, 0, 0, 2, 3, 1] : List Nat).getD k 0 = x := ⟨_, rfl⟩
      simp only [hx] at KW e3
      simp only [hy] at KR e4
      have KWW := Lib.hid KW
      have KRR := Lib.hid KR
      have hwr : IntKind.u8.wrap (k : Int) = (k : Int) := by simp [IntKind.wrap, IntKind.signed, IntKind.bits]; omega
      have HA_ : Hid (Blk wr.drew w.heap.size 23 #[.int .u8 4, .int .u8 32, .int .i64 6]) := Lib.hid (Blk.drew HA.out)
      have HW_ : Hid (Blk wr.drew (w.heap.size + 1) 26 #[.int .u8 0, .int .u8 0, .int .u8 2, .int .u8 0, .int .u8 0, .int .u8 0, .int .u8 3, .int .u8 1]) := Lib.hid (Blk.drew HWW.out)
      have HR_ : Hid (Blk wr.drew (w.heap.size + 2) 26 #[.int .u8 0, .int .u8 0, .int .u8 0, .int .u8 0, .int .u8 0, .int .u8 2, .int .u8 3, .int .u8 1]) := Lib.hid (Blk.drew HRR.out)
      have HB_ : Hid (Below w.heap.size w wr.drew) := Lib.hid HB.out.drew
      have k0 := HA_.out.cell 0
      have k1 := HA_.out.cell 1
      have k2 := HA_.out.cell 2
      simp only [List.getElem?_toArray, List.getElem?_cons_succ, List.getElem?_cons_zero] at k0 k1 k2
      have k3 : wr.drew.cell? ⟨w.heap.size + 1, k, none⟩ = some (.int .u8 (x : Nat)) := e3
      have k4 : wr.drew.cell? ⟨w.heap.size + 2, k, none⟩ = some (.int .u8 (y : Nat)) := e4
      have HLT := Lib.hid hlt
      clear KW KR hkk e3 e4 hx hy hlt HA HWW HRR HB
      go_wp2_with fail
      go_region_held3 (fun w_ => w_.cell? ⟨w.heap.size, 0, none⟩ = some (.int .u8 4) ∧ w_.cell? ⟨w.heap.size, 1, none⟩ = some (.int .u8 32) ∧ w_.cell? ⟨w.heap.size, 2, none⟩ = some (.int .i64 6) ∧ w_.cell? ⟨w.heap.size + 1, k, none⟩ = some (.int .u8 (x : Nat)) ∧ w_.cell? ⟨w.heap.size + 2, k, none⟩ = some (.int .u8 (y : Nat))) (first | go_keep)
        (first
          | (go_at_call 6; refine (KWW.out _).mono ?_; rintro r w_ ⟨rfl, hb_⟩; obtain ⟨k0, k1, k2, k3, k4, HA_, HW_, HR_, HB_⟩ := keep17 (gA := w.heap.size) (gW := w.heap.size + 1) (gR := w.heap.size + 2) k0 k1 k2 k3 k4 HA_ HW_ HR_ HB_ hb_; clear hb_)
          | (go_at_call 8; refine (KRR.out _).mono ?_; rintro r w_ ⟨rfl, hb_⟩; obtain ⟨k0, k1, k2, k3, k4, HA_, HW_, HR_, HB_⟩ := keep17 (gA := w.heap.size) (gW := w.heap.size + 1) (gR := w.heap.size + 2) k0 k1 k2 k3 k4 HA_ HW_ HR_ HB_ hb_; clear hb_)
          | fail "no")
      all_goals (
        go_wp2
        go_roundw
        case rel => exact ⟨k + 1, by have := HLT.out; omega, by go_num, HA_, HW_, HR_, HB_⟩
        case measure => have := HLT.out; simp [intOf]; omega)
    · obtain rfl : k = 8 := by omega
      go_wp2
      go_ret
      exact ⟨rfl, HB.out⟩
end Go.Proofs.Ytpoeamamdiomkaa
