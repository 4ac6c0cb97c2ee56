/- The document's Num: a number's bytes as a text. -/
import Derived.Test.YtieopgmmjpmflaaStr
import Derived.Deep.RegionWith
import Derived.ChangeAlike
import Derived.Outline
namespace Go.Proofs.Ytieopgmmjpmflaa
open Go.RowKit
set_option linter.unusedVariables false
set_option linter.unusedSimpArgs false
set_option maxRecDepth 100000

theorem bcell {W w1 : World} (hb : Below W.heap.size W w1) : (∀ b o, b < W.heap.size → w1.cell? ⟨b, o, none⟩ = W.cell? ⟨b, o, none⟩) ∧ (∀ b o, b < W.heap.size → w1.frozen? ⟨b, o, none⟩ = W.frozen? ⟨b, o, none⟩) :=
  ⟨fun b o h => hb.cell (p := ⟨b, o, none⟩) h, fun b o h => hb.frozen (p := ⟨b, o, none⟩) h⟩
theorem u8_mod (n : Int) (h : 0 ≤ n) : IntKind.u8.wrap (n % 256) = ((UInt8.ofNat (n.toNat % 256)).toNat : Int) := by
  rw [IntWalk.u8_in _ (by omega)]
  simp
  omega
set_option maxHeartbeats 400000 in
theorem numstr_any (k : Nat) : ∀ (n : Int) (w : World), 0 ≤ n → n ≤ 18446744073709551615 → k ≤ 1000 →
    Calls Try.prog 21 #[.int .u64 n, .int .i64 k] w fun e w' => e = .returned (.string ⟨(dig k n.toNat).toArray⟩) ∧ Below w.heap.size w w' := by
  induction k with
  | zero =>
    intro n w h0 h1 hk
    go_enter Try.func21, Try.ntmps21
    go_wp2_with fail
    go_ret
    exact ⟨rfl, Below.refl _ _⟩
  | succ k ih =>
    intro n w h0 h1 hk
    have hne : (((k + 1 : Nat) : Int) == 0) = false := by simp; omega
    have IH := Lib.hid ih
    clear ih
    go_enter Try.func21, Try.ntmps21
    go_wp2_with fail
    have e1 : IntKind.u64.wrap (n.tdiv 256) = n / 256 := IntWalk.u64_quo n 256 (by omega)
    have e2 : IntKind.i64.wrap (k : Int) = (k : Int) := IntWalk.i64_in _ (by omega)
    have e3 : n.tmod 256 = n % 256 := IntWalk.rem_in n 256 h0
    have e4 : IntKind.u8.wrap (n % 256) = n % 256 := IntWalk.u8_in _ (by omega)
    have e5 : bval (UInt8.ofNat (n.toNat % 256)) = .int .u8 (n % 256) := by
      have := shr_byte n h0 0
      simp only [Nat.mul_zero, Int.pow_zero, Int.ediv_one, Nat.pow_zero, Nat.div_one] at this
      rw [this]; rfl
    have hcv : ∀ (W : World) (g : Nat), W.cell? ⟨g, 0, none⟩ = some (.int .u8 (n % 256)) → (convert 58 9 (.slice (some ⟨g, 0, none⟩) 1 1)).run Try.prog W = .ok (.string ⟨#[UInt8.ofNat (n.toNat % 256)]⟩) W := by
      intro W g hc
      rw [← e5] at hc
      exact run_convert_bytes_back W _ _ _ ⟨g, 0, none⟩ 1 [UInt8.ofNat (n.toNat % 256)] Try.underlying58 Try.underlying5 Try.underlying9 (fun j hj => by
        obtain rfl : j = 0 := by simpa using hj
        exact hc)
    have hadd : ∀ (W : World), (Op.stringOp .add ⟨(dig k (n / 256).toNat).toArray⟩ ⟨#[UInt8.ofNat (n.toNat % 256)]⟩).run Try.prog W = .ok (.string ⟨(dig (k + 1) n.toNat).toArray⟩) W := by
      intro W
      have h := run_string_add_lists (P := Try.prog) W (dig k (n / 256).toNat) [UInt8.ofNat (n.toNat % 256)] (by rw [dig_len]; omega) (by simp)
      have ed : dig (k + 1) n.toNat = dig k (n / 256).toNat ++ [UInt8.ofNat (n.toNat % 256)] := by
        rw [show (n / 256).toNat = n.toNat / 256 by omega]; rfl
      rw [ed]
      exact h
    clear e5
    go_region_with (go_at_call 21; refine (IH.out (n / 256) _ (by omega) (by omega) (by omega)).mono ?_; rintro e w1 ⟨rfl, hb1⟩; obtain ⟨hc1, hf1⟩ := bcell hb1; have hs1 := hb1.size)
    all_goals
      go_simp
      go_wp2
      go_ret
      refine ⟨rfl, ?_⟩
      first
        | exact (((Below.refl w.heap.size w).drew.trans hb1).alloc hb1.size _)
        | exact (((Below.refl w.heap.size w).drew.alloc (Nat.le_refl _) _).trans (hb1.mono (by simp)))
end Go.Proofs.Ytieopgmmjpmflaa
