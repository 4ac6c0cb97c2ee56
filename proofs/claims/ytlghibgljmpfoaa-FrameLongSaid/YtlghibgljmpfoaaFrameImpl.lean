/- Package frame: Len, mayBe, readTag. -/
import Derived.Test.YtlghibgljmpfoaaFrameKit
import Derived.Test.YtlghibgljmpfoaaFrameC
import Derived.Test.YtlghibgljmpfoaaNext
import Derived.Deep.DeepCutAuto
import Derived.IntWalk
import Derived.Laws.BitsAllLaws
namespace Go.Proofs.Ytlghibgljmpfoaa
open Go.RowKit
set_option linter.unusedVariables false
set_option linter.unusedSimpArgs false

set_option maxHeartbeats 1000000 in
theorem len_impl : LenC := by
  intro w f hl
  have HB := Lib.hid ((Below.refl w.heap.size w).alloc (Nat.le_refl _) (.cells #[.int .u8 f.d0.toNat, .int .u8 f.d1.toNat, .int .u8 f.d2.toNat, .int .u8 f.d3.toNat, .int .u8 f.d4.toNat, .int .u8 f.d5.toNat, .int .u8 f.s0.toNat, .int .u8 f.s1.toNat, .int .u8 f.s2.toNat, .int .u8 f.s3.toNat, .int .u8 f.s4.toNat, .int .u8 f.s5.toNat, .bool f.tag, .int .u8 f.pri.toNat, .int .u16 f.vid.toNat, .int .u16 f.ty.toNat, .string ⟨f.data.toArray⟩] 26))
  obtain ⟨n, hn⟩ : ∃ n, flen f = n := ⟨_, rfl⟩
  rw [hn]
  unfold flen at hn
  have HN := Lib.hid hn
  clear hn
  cases ht : f.tag
  · rw [ht] at HN
    go_enter Try.func9, Try.ntmps9
    go_wp2
    go_ret
    exact ⟨by have := HN.out; simp at this; exact ret_ (by rw [← this]; simp), (Below.refl _ _).alloc (Nat.le_refl _) _⟩
  · rw [ht] at HN
    go_enter Try.func9, Try.ntmps9
    go_wp2
    go_ret
    exact ⟨by have := HN.out; simp at this; exact ret_ (by rw [← this]; simp; omega), (Below.refl _ _).alloc (Nat.le_refl _) _⟩

def bare (f : Fr) : Bool := (f.pri == 0) && (f.vid == 0)
theorem bare_same (p : UInt8) (v : UInt16) : Fr.same ⟨0, 0, 0, 0, 0, 0, 0, 0, 0, 0, 0, 0, false, p, v, 0, []⟩ Fr.zero = ((p == 0) && (v == 0)) := by
  simp [Fr.same, Fr.zero, Fr.dst, Fr.src]
set_option maxHeartbeats 1000000 in
theorem bare_any (w : World) (f : Fr) (ht : f.tag = false) :
    Calls Try.prog 18 #[FV f] w fun r w' => r = .returned (.bool (bare f)) ∧ Below w.heap.size w w' := by
  have HB := Lib.hid ((Below.refl w.heap.size w).alloc (Nat.le_refl _) (.cells #[.int .u8 f.d0.toNat, .int .u8 f.d1.toNat, .int .u8 f.d2.toNat, .int .u8 f.d3.toNat, .int .u8 f.d4.toNat, .int .u8 f.d5.toNat, .int .u8 f.s0.toNat, .int .u8 f.s1.toNat, .int .u8 f.s2.toNat, .int .u8 f.s3.toNat, .int .u8 f.s4.toNat, .int .u8 f.s5.toNat, .bool f.tag, .int .u8 f.pri.toNat, .int .u16 f.vid.toNat, .int .u16 f.ty.toNat, .string ⟨f.data.toArray⟩] 26))
  have e : ∀ W : World, (Op.equalIn 10000 26 (.agg #[.int .u8 0, .int .u8 0, .int .u8 0, .int .u8 0, .int .u8 0, .int .u8 0, .int .u8 0, .int .u8 0, .int .u8 0, .int .u8 0, .int .u8 0, .int .u8 0, .bool false, .int .u8 f.pri.toNat, .int .u16 f.vid.toNat, .int .u16 0, .string ⟨#[]⟩]) (.agg #[.int .u8 0, .int .u8 0, .int .u8 0, .int .u8 0, .int .u8 0, .int .u8 0, .int .u8 0, .int .u8 0, .int .u8 0, .int .u8 0, .int .u8 0, .int .u8 0, .bool false, .int .u8 0, .int .u16 0, .int .u16 0, .string ⟨#[]⟩])).run Try.prog W = .ok (bare f) W := fun W => by
    have := run_eqF ⟨0, 0, 0, 0, 0, 0, 0, 0, 0, 0, 0, 0, false, f.pri, f.vid, 0, []⟩ Fr.zero W
    rw [bare_same] at this
    exact this
  generalize bare f = q at *
  go_enter Try.func18, Try.ntmps18
  go_wp2
  go_ret
  exact ⟨rfl, (Below.refl _ _).alloc (Nat.le_refl _) _⟩

set_option maxHeartbeats 2000000 in
theorem may_any (w : World) (f : Fr) :
    Calls Try.prog 11 #[FV f] w fun r w' => r = .returned (.bool (fmay f)) ∧ Below w.heap.size w w' := by
  have hF := FrA.new w f
  cases ht : f.tag
  · rw [ht] at hF
    have HF := Lib.hid hF
    clear hF
    have hm : fmay f = (bare f && (f.ty != 33024)) := by rw [fmay_bare f ht]; unfold bare; cases (f.pri == 0) <;> simp
    have p4 : ((f.ty.toNat : Int) != 33024) = (f.ty != 33024) := by unfold bne; rw [show ((f.ty.toNat : Int) == 33024) = (f.ty == 33024) from u16_beq f.ty 33024]
    generalize (f.ty != 33024) = q2 at *
    rw [hm]
    have hcall := fun W => bare_any W f ht
    have HT := Lib.hid hcall
    clear hm hcall
    cases hq : bare f
    all_goals (
      rw [hq] at HT
      clear hq
      go_enter Try.func11, Try.ntmps11
      go_wp2_with (refine wpList_load_frame 1 rfl (by kernel_rfl) w.heap.size f rfl HF.out ?_)
      refine (HT.out _).mono ?_
      rintro r w1 ⟨rfl, hb1⟩
      have HB1 : Hid (Below w.heap.size w w1) := Lib.hid (((Below.refl w.heap.size w).alloc (Nat.le_refl _) _).trans (hb1.mono (by simp)))
      have c15 := (HF.out.next hb1).cells.c15
      clear hb1
      go_wp2
      go_ret
      exact ⟨rfl, HB1.out⟩)
  · rw [fmay_tag f ht]
    have p1 : decide ((f.pri.toNat : Int) ≤ 7) = decide (f.pri.toNat ≤ 7) := by rw [Bool.eq_iff_iff]; simp; omega
    have p2 : decide ((f.vid.toNat : Int) ≤ 4095) = decide (f.vid.toNat ≤ 4095) := by rw [Bool.eq_iff_iff]; simp; omega
    generalize decide (f.pri.toNat ≤ 7) = q1 at *
    generalize decide (f.vid.toNat ≤ 4095) = q2 at *
    cases q1
    all_goals (
      go_enter Try.func11, Try.ntmps11
      skip
      go_wp2
      go_ret
      exact ⟨rfl, (Below.refl _ _).alloc (Nat.le_refl _) _⟩)

def tgE (l : List UInt8) (er : Int) : Int := if num (tkV 2 l er) / 4096 % 2 = 1 then bdE (tkE 2 l er) else tkE 2 l er
set_option maxHeartbeats 1000000 in
theorem tag_any {w : World} {b : Nat} {l : List UInt8} {er : Int} (h : Rdr w b l er) :
    Calls Try.prog 25 #[.pointer (some ⟨b, 0, none⟩)] w fun r w' => r = .returned (.tuple #[.int .u8 (num (tkV 2 l er) / 8192 : Nat), .int .u16 (num (tkV 2 l er) % 8192 : Nat)]) ∧ Rdr w' b (tkL 2 l er) (tgE l er) ∧ Chg (only b) w w' := by
  have hlt : num (tkV 2 l er) < 65536 := Nat.lt_of_lt_of_le (num_lt _) (Nat.pow_le_pow_right (by omega) (tkV_len 2 l er))
  have HU := Lib.hid (u16_any h)
  obtain ⟨n, hn⟩ : ∃ n, num (tkV 2 l er) = n := ⟨_, rfl⟩
  have HE : Hid (tgE l er = if n / 4096 % 2 = 1 then bdE (tkE 2 l er) else tkE 2 l er) := Lib.hid (by unfold tgE; rw [hn])
  rw [hn] at hlt HU ⊢
  clear hn h
  go_enter Try.func25, Try.ntmps25
  go_wp2_with fail
  refine HU.out.mono ?_
  rintro r w1 ⟨rfl, hr1, hc1⟩
  have HR1 := Lib.hid hr1
  have HC1 := Lib.hid hc1
  clear hr1 hc1
  have hbit : (bits .and .u16 (n : Int) 4096 != 0) = decide (n / 4096 % 2 = 1) := by
    rw [show (4096 : Int) = ((4096 : Nat) : Int) from rfl, u16_and_nat n 4096 hlt (by omega), show (4096 : Nat) = 2 ^ 12 from rfl, nat_bit 12 n, show (2 : Nat) ^ 12 = 4096 from rfl]
    rcases Nat.mod_two_eq_zero_or_one (n / 4096) with e | e <;> rw [e] <;> rfl
  obtain ⟨q, hq⟩ : ∃ q, decide (n / 4096 % 2 = 1) = q := ⟨_, rfl⟩
  rw [hq] at hbit
  cases q
  · rw [if_neg (by simpa using hq)] at HE
    clear hq
    go_wp2
    exact bodyPost_ret (v := .tuple #[.int .u8 (n / 8192 : Nat), .int .u16 (n % 8192 : Nat)]) (by simp [results, Try.results25, go_sem]) rfl ⟨rfl, by rw [HE.out]; exact HR1.out, HC1.out⟩
  · rw [if_pos (by simpa using hq)] at HE
    clear hq
    go_wp2_with fail
    refine (bad_any HR1.out).mono ?_
    rintro r w2 ⟨rfl, hr2, hc2⟩
    have HR2 := Lib.hid hr2
    have HC2 := Lib.hid (HC1.out.trans hc2)
    clear hr2 hc2
    go_wp2
    exact bodyPost_ret (v := .tuple #[.int .u8 (n / 8192 : Nat), .int .u16 (n % 8192 : Nat)]) (by simp [results, Try.results25, go_sem]) rfl ⟨rfl, by rw [HE.out]; exact HR2.out, HC2.out⟩
end Go.Proofs.Ytlghibgljmpfoaa
