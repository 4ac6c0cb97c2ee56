/- Layer 18: package remote keeps its word. -/
import Derived.Test.YtkmdgpfaaniibaaZzPv18
import Derived.Test.YtkmdgpfaaniibaaZzPr18
import Derived.Test.YtkmdgpfaaniibaaZzTc18
namespace Go.Proofs.Ytkmdgpfaaniibaa
open Go.RowKit
set_option linter.unusedVariables false
set_option linter.unusedSimpArgs false
set_option maxRecDepth 100000

theorem rm_ticks : Ticks18C := fun i w => ccticks_impl i w
def rmr (w : World) (S : Nat → Prop) (b : Nat) (m : Rm) : Prop := ∃ mb L, Rmo w b mb L m ∧ S = rmS b mb
theorem hearN18 (w : World) (c : Ck) : Calls Try.prog 13 #[.pointer none, .agg #[.int .u8 c.l.toNat, .bool c.r, .int .u8 c.i.toNat, .int .u32 c.q.toNat, .int .u16 c.m.toNat, .string ⟨c.a.toArray⟩]] w fun e w' => e = .returned (.tuple #[]) ∧ Below w.heap.size w w' := by
  obtain ⟨W, hW⟩ : ∃ W, w.alloc (.cells #[.int .u8 c.l.toNat, .bool c.r, .int .u8 c.i.toNat, .int .u32 c.q.toNat, .int .u16 c.m.toNat, .string ⟨c.a.toArray⟩] 44) = W := ⟨_, rfl⟩
  have HB0 : Hid (Below w.heap.size w W) := Lib.hid (by rw [← hW]; exact (Below.refl _ _).alloc (Nat.le_refl _) _)
  go_enter Try.func13, Try.ntmps13
  go_wp2_with fail
  try rw [hW]
  clear hW
  go_quiet (fail)
  go_wp2
  refine bodyPost_ret (results_none rfl _ _ _) rfl ?_
  exact ⟨rfl, bel18 HB0.out nq⟩
theorem tickN18 (w : World) : Calls Try.prog 12 #[.pointer none] w fun e w' => e = .returned (.tuple #[]) ∧ Below w.heap.size w w' := by
  go_enter Try.func12, Try.ntmps12
  go_wp2
  refine bodyPost_ret (results_none rfl _ _ _) rfl ?_
  exact ⟨rfl, Below.refl _ _⟩
theorem risingN18 (f : Value) (w : World) : Calls Try.prog 32 #[.pointer none, f] w fun e w' => e = .returned (.slice none 0 0) ∧ Below w.heap.size w w' := by
  go_enter Try.func32, Try.ntmps32
  go_wp2
  go_ret
  exact ⟨rfl, Below.refl _ _⟩
theorem lostN18 (w : World) : Calls Try.prog 16 #[.pointer none] w fun e w' => ∃ A c, e = .returned (.slice A 0 c) ∧ Below w.heap.size w w' := by
  have K := Lib.hid (fun f => risingN18 f w)
  go_enter Try.func16, Try.ntmps16
  go_wp2_with fail
  refine (K.out _).mono ?_
  rintro e w1 ⟨rfl, hb⟩
  go_wp2
  go_ret
  exact ⟨none, 0, rfl, hb⟩
theorem rdisN18 (w : World) : Calls Try.prog 17 #[.pointer none] w fun e w' => ∃ A c, e = .returned (.slice A 0 c) ∧ Below w.heap.size w w' := by
  have K := Lib.hid (fun f => risingN18 f w)
  go_enter Try.func17, Try.ntmps17
  go_wp2_with fail
  refine (K.out _).mono ?_
  rintro e w1 ⟨rfl, hb⟩
  go_wp2
  go_ret
  exact ⟨none, 0, rfl, hb⟩
theorem worstN18 (w : World) : Calls Try.prog 19 #[.pointer none] w fun e w' => e = .returned (.int .u8 0) ∧ Below w.heap.size w w' := by
  go_enter Try.func19, Try.ntmps19
  go_wp2
  go_ret
  exact ⟨rfl, Below.refl _ _⟩
theorem defectsN18 (w : World) : Calls Try.prog 18 #[.pointer none] w fun e w' => e = .returned (.bool false) ∧ Below w.heap.size w w' := by
  have K := Lib.hid (worstN18 w)
  go_enter Try.func18, Try.ntmps18
  go_wp2_with fail
  refine K.out.mono ?_
  rintro e w1 ⟨rfl, hb⟩
  go_wp2
  go_ret
  exact ⟨rfl, hb⟩
theorem rm_impl : RmI rmr where
  new := fun o A c os w hm hE => by
    have h8 : os.length ≤ 8 := by
      unfold rmMay at hm
      simp only [Bool.and_eq_true, decide_eq_true_eq] at hm
      exact hm.1
    have hma : o.ma.length = 48 := by
      unfold rmMay at hm
      simp only [Bool.and_eq_true] at hm
      exact onC_M o hm.2.1
    refine (new18_any o A c os w (by omega) hE (by omega)).mono ?_
    rintro e w' (⟨_, b, mb, L, rfl, hR, h1, h2, hB⟩ | ⟨h0, _⟩)
    · exact ⟨b, rmS b mb, rfl, ⟨mb, L, hR, rfl⟩, by rintro k (rfl | rfl) <;> assumption, hB⟩
    · rw [hm] at h0; cases h0
  bad := fun o A c os w hm hma hos hE => by
    refine (new18_any o A c os w hma hE hos).mono ?_
    rintro e w' (⟨h0, _⟩ | ⟨_, he, hB⟩)
    · rw [hm] at h0; cases h0
    · exact ⟨he, hB⟩
  hear := fun w S b m c hR hc => by
    obtain ⟨mb, L, h, rfl⟩ := hR
    refine (hear18_any h c hc).mono ?_
    rintro e w' ⟨he, ⟨L', hL⟩, hC⟩
    exact ⟨he, ⟨mb, L', hL, rfl⟩, hC⟩
  tick := fun w S b m hR => by
    obtain ⟨mb, L, h, rfl⟩ := hR
    refine (tick18_any h).mono ?_
    rintro e w' ⟨he, hL, hC⟩
    exact ⟨he, ⟨mb, _, hL, rfl⟩, hC⟩
  lost := fun w S b m hR => by
    obtain ⟨mb, L, h, rfl⟩ := hR
    refine (losts18_any h).mono ?_
    rintro e w' ⟨A, c, he, hE, hf, hB⟩
    exact ⟨A, c, he, hE, hf, ⟨mb, L, h.next hB, rfl⟩, hB⟩
  rdis := fun w S b m hR => by
    obtain ⟨mb, L, h, rfl⟩ := hR
    refine (rdis18_any h).mono ?_
    rintro e w' ⟨A, c, he, hE, hf, hB⟩
    exact ⟨A, c, he, hE, hf, ⟨mb, L, h.next hB, rfl⟩, hB⟩
  defects := fun w S b m hR => by
    obtain ⟨mb, L, h, rfl⟩ := hR
    refine (defects18_any h).mono ?_
    rintro e w' ⟨he, hB⟩
    exact ⟨he, ⟨mb, L, h.next hB, rfl⟩, hB⟩
  worst := fun w S b m hR => by
    obtain ⟨mb, L, h, rfl⟩ := hR
    refine (worst18_any h).mono ?_
    rintro e w' ⟨he, hB⟩
    exact ⟨he, ⟨mb, L, h.next hB, rfl⟩, hB⟩
  hearN := fun w c _ => hearN18 w c
  tickN := tickN18
  lostN := lostN18
  rdisN := rdisN18
  defectsN := defectsN18
  worstN := worstN18
  lasts := lasts18_any
  inn := fun w S b m hR k hk => by
    obtain ⟨mb, L, h, rfl⟩ := hR
    exact h.lt k hk
  next := fun w w' S T b m hR hc hn => by
    obtain ⟨mb, L, h, rfl⟩ := hR
    exact ⟨mb, L, h.chg hc hn, rfl⟩
end Go.Proofs.Ytkmdgpfaaniibaa
