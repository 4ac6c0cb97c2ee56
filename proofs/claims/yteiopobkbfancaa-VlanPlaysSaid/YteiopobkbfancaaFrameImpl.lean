/- Package frame: Len, mayBe, readTag. -/
import Derived.Test.YteiopobkbfancaaFrameKit
import Derived.Test.YteiopobkbfancaaFrameC
import Derived.Test.YteiopobkbfancaaNext
import Derived.Deep.DeepCutAuto
import Derived.IntWalk
import Derived.Laws.BitsAllLaws
namespace Go.Proofs.Yteiopobkbfancaa
open Go.RowKit
set_option linter.unusedVariables false
set_option linter.unusedSimpArgs false
set_option maxRecDepth 100000

set_option maxHeartbeats 1000000 in
theorem len_impl : LenC := by
  intro w f hl
  have HB := Lib.hid ((Below.refl w.heap.size w).alloc (Nat.le_refl _) (.cells #[.int .u8 f.d0.toNat, .int .u8 f.d1.toNat, .int .u8 f.d2.toNat, .int .u8 f.d3.toNat, .int .u8 f.d4.toNat, .int .u8 f.d5.toNat, .int .u8 f.s0.toNat, .int .u8 f.s1.toNat, .int .u8 f.s2.toNat, .int .u8 f.s3.toNat, .int .u8 f.s4.toNat, .int .u8 f.s5.toNat, .bool f.tag, .int .u8 f.pri.toNat, .int .u16 f.vid.toNat, .int .u16 f.ty.toNat, .string ⟨f.data.toArray⟩] 27))
  obtain ⟨n, hn⟩ : ∃ n, flen f = n := ⟨_, rfl⟩
  rw [hn]
  unfold flen at hn
  have HN := Lib.hid hn
  clear hn
  cases ht : f.tag
  · rw [ht] at HN
    go_enter Try.func41, Try.ntmps41
    go_wp2
    go_ret
    exact ⟨by have := HN.out; simp at this; exact ret_ (by rw [← this]; simp), (Below.refl _ _).alloc (Nat.le_refl _) _⟩
  · rw [ht] at HN
    go_enter Try.func41, Try.ntmps41
    go_wp2
    go_ret
    exact ⟨by have := HN.out; simp at this; exact ret_ (by rw [← this]; simp; omega), (Below.refl _ _).alloc (Nat.le_refl _) _⟩

def bare (f : Fr) : Bool := (f.pri == 0) && (f.vid == 0)
theorem bare_same (p : UInt8) (v : UInt16) : Fr.same ⟨0, 0, 0, 0, 0, 0, 0, 0, 0, 0, 0, 0, false, p, v, 0, []⟩ Fr.zero = ((p == 0) && (v == 0)) := by
  simp [Fr.same, Fr.zero, Fr.dst, Fr.src]
set_option maxHeartbeats 1000000 in
theorem bare_any (w : World) (f : Fr) (ht : f.tag = false) :
    Calls Try.prog 49 #[FV f] w fun r w' => r = .returned (.bool (bare f)) ∧ Below w.heap.size w w' := by
  have HB := Lib.hid ((Below.refl w.heap.size w).alloc (Nat.le_refl _) (.cells #[.int .u8 f.d0.toNat, .int .u8 f.d1.toNat, .int .u8 f.d2.toNat, .int .u8 f.d3.toNat, .int .u8 f.d4.toNat, .int .u8 f.d5.toNat, .int .u8 f.s0.toNat, .int .u8 f.s1.toNat, .int .u8 f.s2.toNat, .int .u8 f.s3.toNat, .int .u8 f.s4.toNat, .int .u8 f.s5.toNat, .bool f.tag, .int .u8 f.pri.toNat, .int .u16 f.vid.toNat, .int .u16 f.ty.toNat, .string ⟨f.data.toArray⟩] 27))
  have e : ∀ W : World, (Op.equalIn 10000 27 (.agg #[.int .u8 0, .int .u8 0, .int .u8 0, .int .u8 0, .int .u8 0, .int .u8 0, .int .u8 0, .int .u8 0, .int .u8 0, .int .u8 0, .int .u8 0, .int .u8 0, .bool false, .int .u8 f.pri.toNat, .int .u16 f.vid.toNat, .int .u16 0, .string ⟨#[]⟩]) (.agg #[.int .u8 0, .int .u8 0, .int .u8 0, .int .u8 0, .int .u8 0, .int .u8 0, .int .u8 0, .int .u8 0, .int .u8 0, .int .u8 0, .int .u8 0, .int .u8 0, .bool false, .int .u8 0, .int .u16 0, .int .u16 0, .string ⟨#[]⟩])).run Try.prog W = .ok (bare f) W := fun W => by
    have := run_eqF ⟨0, 0, 0, 0, 0, 0, 0, 0, 0, 0, 0, 0, false, f.pri, f.vid, 0, []⟩ Fr.zero W
    rw [bare_same] at this
    exact this
  generalize bare f = q at *
  go_enter Try.func49, Try.ntmps49
  go_wp2
  go_ret
  exact ⟨rfl, (Below.refl _ _).alloc (Nat.le_refl _) _⟩

set_option maxHeartbeats 2000000 in
theorem may_any (w : World) (f : Fr) :
    Calls Try.prog 40 #[FV f] w fun r w' => r = .returned (.bool (fmay f)) ∧ Below w.heap.size w w' := by
  have hF := FrA.new w f
  cases ht : f.tag
  · rw [ht] at hF
    have HF := Lib.hid hF
    clear hF
    have hm : fmay f = (bare f && (f.ty != 33024)) := by rw [fmay_bare f ht]; unfold bare; cases (f.pri == 0) <;> simp
    have p4 : ((f.ty.toNat : Int) != 33024) = (f.ty != 33024) := by unfold bne; rw [show ((f.ty.toNat : Int) == 33024) = (f.ty == 33024) from u16_beq f.ty 33024]
    generalize (f.ty != 33024) = q2 at *
    rw [hm]
    have hcall := fun W => bare_any W f ht
    have HT := Lib.hid hcall
    clear hm hcall
    cases hq : bare f
    all_goals (
      rw [hq] at HT
      clear hq
      go_enter Try.func40, Try.ntmps40
      go_wp2_with (refine wpList_load_frame 1 rfl (by kernel_rfl) w.heap.size f rfl HF.out ?_)
      refine (HT.out _).mono ?_
      rintro r w1 ⟨rfl, hb1⟩
      have HB1 : Hid (Below w.heap.size w w1) := Lib.hid (((Below.refl w.heap.size w).alloc (Nat.le_refl _) _).trans (hb1.mono (by simp)))
      have c15 := (HF.out.next hb1).cells.c15
      clear hb1
      go_wp2
      go_ret
      exact ⟨rfl, HB1.out⟩)
  · rw [fmay_tag f ht]
    have p1 : decide ((f.pri.toNat : Int) ≤ 7) = decide (f.pri.toNat ≤ 7) := by rw [Bool.eq_iff_iff]; simp; omega
    have p2 : decide ((f.vid.toNat : Int) ≤ 4095) = decide (f.vid.toNat ≤ 4095) := by rw [Bool.eq_iff_iff]; simp; omega
    generalize decide (f.pri.toNat ≤ 7) = q1 at *
    generalize decide (f.vid.toNat ≤ 4095) = q2 at *
    cases q1
    all_goals (
      go_enter Try.func40, Try.ntmps40
      skip
      go_wp2
      go_ret
      exact ⟨rfl, (Below.refl _ _).alloc (Nat.le_refl _) _⟩)

end Go.Proofs.Yteiopobkbfancaa
