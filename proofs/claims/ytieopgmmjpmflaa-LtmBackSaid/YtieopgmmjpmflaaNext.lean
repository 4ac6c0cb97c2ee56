/- wire.next: a number of so many bytes. -/
import Derived.Test.YtieopgmmjpmflaaReader
import Derived.Outline
import Derived.Laws.BitsAllLaws
namespace Go.Proofs.Ytieopgmmjpmflaa
open Go.RowKit
set_option linter.unusedVariables false
set_option linter.unusedSimpArgs false
set_option maxRecDepth 100000

def num (l : List UInt8) : Nat := l.foldl (fun n b => n * 256 + b.toNat) 0
theorem num_nil : num [] = 0 := rfl
theorem num_snoc (l : List UInt8) (b : UInt8) : num (l ++ [b]) = num l * 256 + b.toNat := by simp [num]
theorem num_lt (l : List UInt8) : num l < 256 ^ l.length := by
  have h : ∀ (l : List UInt8) (a k : Nat), a < 256 ^ k → l.foldl (fun n b => n * 256 + b.toNat) a < 256 ^ (k + l.length) := by
    intro l
    induction l with
    | nil => intro a k h; simpa using h
    | cons b l ih =>
      intro a k h
      have := b.toNat_lt
      have := ih (a * 256 + b.toNat) (k + 1) (by rw [Nat.pow_succ]; omega)
      simpa [Nat.add_assoc, Nat.add_comm 1] using this
  simpa [num] using h l 0 0 (by simp)
theorem num_take_lt (l : List UInt8) (k : Nat) (hk : k < l.length) : num (l.take (k+1)) = num (l.take k) * 256 + (l[k]).toNat := by
  rw [List.take_succ_eq_append_getElem hk, num_snoc]


theorem or_byte (x : Nat) (y : UInt8) (hx : x < 72057594037927936) :
    bits BinOp.or IntKind.u64 (IntKind.u64.wrap ((x : Int) * 256)) (IntKind.u64.wrap (y.toNat : Int)) = ((x * 256 + y.toNat : Nat) : Int) := by
  have hy := y.toNat_lt
  rw [IntWalk.u64_in _ (by omega), IntWalk.u64_in _ (by omega)]
  have e : ((x : Int) * 256) = ((x * 256 : Nat) : Int) := by omega
  rw [e, u64_or_nat _ _ (by omega) (by omega)]
  congr 1
  have := Nat.two_pow_add_eq_or_of_lt (i := 8) (b := y.toNat) (by omega) x
  rw [show x * 256 = 2 ^ 8 * x by omega, ← this]

theorem add_byte (x : Nat) (y : UInt8) (hx : x < 72057594037927936) :
    IntKind.u64.wrap (IntKind.u64.wrap ((x : Int) * 256) + IntKind.u64.wrap (y.toNat : Int)) = ((x * 256 + y.toNat : Nat) : Int) := by
  have hy := y.toNat_lt
  rw [IntWalk.u64_in ((x : Int) * 256) (by omega), IntWalk.u64_in (y.toNat : Int) (by omega), IntWalk.u64_in _ (by omega)]
  omega
theorem num_small {m : List UInt8} (k : Nat) (hm : m.length ≤ 8) (hk : k < m.length) : num (m.take k) < 72057594037927936 := by
  have h1 := num_lt (m.take k)
  rw [List.length_take] at h1
  exact Nat.lt_of_lt_of_le h1 (Nat.le_trans (Nat.pow_le_pow_right (by omega) (show min k m.length ≤ 7 by omega)) (by decide))

set_option maxHeartbeats 400000 in
/-- whatever take hands over, next reads it as a number -/
theorem next8_of {w : World} {p : Option Addr} (m : List UInt8) (P : World → Prop) (hl : m.length ≤ 1)
    (ht : Calls Try.prog 45 #[.pointer p, .int .i64 1] w fun e w' => e = .returned (.string ⟨m.toArray⟩) ∧ P w') :
    Calls Try.prog 43 #[.pointer p] w fun e w' => e = .returned (.int .u8 (num m)) ∧ P w' := by
  have HT := Lib.hid ht
  clear ht
  go_enter Try.func43, Try.ntmps43
  go_wp2_with fail
  refine (width8 _).mono ?_
  rintro e w' ⟨rfl, rfl⟩
  go_wp2_with fail
  refine HT.out.mono ?_
  rintro e w' ⟨rfl, h'⟩
  go_wp2
  go_loop [3, 11] (fun n i => ∃ k : Nat, k ≤ m.length ∧ i = .int .i64 k ∧ n = .int .u64 (num (m.take k))) (fun _ i => m.length - (intOf i).toNat)
  case atStart => exact ⟨0, Nat.zero_le _, rfl, rfl⟩
  case round =>
    obtain ⟨k, hk, rfl, rfl⟩ := hrel
    by_cases hlt : k < m.length
    · go_wp2
      go_round
      case rel =>
        refine ⟨k + 1, by omega, by go_num, ?_⟩
        have h1 := num_lt (m.take k)
        have h2 : num (m.take k) < 72057594037927936 := by
          rw [List.length_take] at h1
          exact Nat.lt_of_lt_of_le h1 (Nat.le_trans (Nat.pow_le_pow_right (by omega) (show min k m.length ≤ 7 by omega)) (by decide))
        have h3 := or_byte (num (m.take k)) (m[k]) h2
        have h4 := num_take_lt m k hlt
        rw [h4]
        exact congrArg (Value.int IntKind.u64) h3
      case measure => simp [intOf]; omega
    · go_wp2
      go_ret
      have h1 := num_lt m
      have h2 : num m < 256 ^ 1 := Nat.lt_of_lt_of_le h1 (Nat.pow_le_pow_right (by omega) hl)
      have h3 : m.take k = m := List.take_of_length_le (by omega)
      exact ⟨ret_ (by rw [h3]; show Value.int _ _ = _; exact congrArg (Value.int _) (by omega)), h'⟩

set_option maxHeartbeats 400000 in
/-- whatever take hands over, next reads it as a number -/
theorem next16_of {w : World} {p : Option Addr} (m : List UInt8) (P : World → Prop) (hl : m.length ≤ 2)
    (ht : Calls Try.prog 45 #[.pointer p, .int .i64 2] w fun e w' => e = .returned (.string ⟨m.toArray⟩) ∧ P w') :
    Calls Try.prog 57 #[.pointer p] w fun e w' => e = .returned (.int .u16 (num m)) ∧ P w' := by
  have HT := Lib.hid ht
  clear ht
  go_enter Try.func57, Try.ntmps57
  go_wp2_with fail
  refine (width16 _).mono ?_
  rintro e w' ⟨rfl, rfl⟩
  go_wp2_with fail
  refine HT.out.mono ?_
  rintro e w' ⟨rfl, h'⟩
  go_wp2
  go_loop [3, 11] (fun n i => ∃ k : Nat, k ≤ m.length ∧ i = .int .i64 k ∧ n = .int .u64 (num (m.take k))) (fun _ i => m.length - (intOf i).toNat)
  case atStart => exact ⟨0, Nat.zero_le _, rfl, rfl⟩
  case round =>
    obtain ⟨k, hk, rfl, rfl⟩ := hrel
    by_cases hlt : k < m.length
    · go_wp2
      go_round
      case rel =>
        refine ⟨k + 1, by omega, by go_num, ?_⟩
        have h1 := num_lt (m.take k)
        have h2 : num (m.take k) < 72057594037927936 := by
          rw [List.length_take] at h1
          exact Nat.lt_of_lt_of_le h1 (Nat.le_trans (Nat.pow_le_pow_right (by omega) (show min k m.length ≤ 7 by omega)) (by decide))
        have h3 := or_byte (num (m.take k)) (m[k]) h2
        have h4 := num_take_lt m k hlt
        rw [h4]
        exact congrArg (Value.int IntKind.u64) h3
      case measure => simp [intOf]; omega
    · go_wp2
      go_ret
      have h1 := num_lt m
      have h2 : num m < 256 ^ 2 := Nat.lt_of_lt_of_le h1 (Nat.pow_le_pow_right (by omega) hl)
      have h3 : m.take k = m := List.take_of_length_le (by omega)
      exact ⟨ret_ (by rw [h3]; show Value.int _ _ = _; rw [IntWalk.u16_in _ (by omega)]), h'⟩

set_option maxHeartbeats 400000 in
/-- whatever take hands over, next reads it as a number -/
theorem next32_of {w : World} {p : Option Addr} (m : List UInt8) (P : World → Prop) (hl : m.length ≤ 4)
    (ht : Calls Try.prog 45 #[.pointer p, .int .i64 4] w fun e w' => e = .returned (.string ⟨m.toArray⟩) ∧ P w') :
    Calls Try.prog 58 #[.pointer p] w fun e w' => e = .returned (.int .u32 (num m)) ∧ P w' := by
  have HT := Lib.hid ht
  clear ht
  go_enter Try.func58, Try.ntmps58
  go_wp2_with fail
  refine (width32 _).mono ?_
  rintro e w' ⟨rfl, rfl⟩
  go_wp2_with fail
  refine HT.out.mono ?_
  rintro e w' ⟨rfl, h'⟩
  go_wp2
  go_loop [3, 11] (fun n i => ∃ k : Nat, k ≤ m.length ∧ i = .int .i64 k ∧ n = .int .u64 (num (m.take k))) (fun _ i => m.length - (intOf i).toNat)
  case atStart => exact ⟨0, Nat.zero_le _, rfl, rfl⟩
  case round =>
    obtain ⟨k, hk, rfl, rfl⟩ := hrel
    by_cases hlt : k < m.length
    · go_wp2
      go_round
      case rel =>
        refine ⟨k + 1, by omega, by go_num, ?_⟩
        have h1 := num_lt (m.take k)
        have h2 : num (m.take k) < 72057594037927936 := by
          rw [List.length_take] at h1
          exact Nat.lt_of_lt_of_le h1 (Nat.le_trans (Nat.pow_le_pow_right (by omega) (show min k m.length ≤ 7 by omega)) (by decide))
        have h3 := or_byte (num (m.take k)) (m[k]) h2
        have h4 := num_take_lt m k hlt
        rw [h4]
        exact congrArg (Value.int IntKind.u64) h3
      case measure => simp [intOf]; omega
    · go_wp2
      go_ret
      have h1 := num_lt m
      have h2 : num m < 256 ^ 4 := Nat.lt_of_lt_of_le h1 (Nat.pow_le_pow_right (by omega) hl)
      have h3 : m.take k = m := List.take_of_length_le (by omega)
      exact ⟨ret_ (by rw [h3]; show Value.int _ _ = _; exact congrArg (Value.int _) (by omega)), h'⟩


theorem u8_any {w : World} {b : Nat} {l : List UInt8} {er : Int} (h : Rdr w b l er) :
    Calls Try.prog 29 #[.pointer (some ⟨b, 0, none⟩)] w fun e w' => e = .returned (.int .u8 (num (tkV 1 l er))) ∧ Rdr w' b (tkL 1 l er) (tkE 1 l er) ∧ Chg (only b) w w' := by
  go_enter Try.func29, Try.ntmps29
  go_wp2_with fail
  refine (next8_of (tkV 1 l er) (fun w' => Rdr w' b (tkL 1 l er) (tkE 1 l er) ∧ Chg (only b) w w') (tkV_len _ _ _) (take_any 1 (by omega) h)).mono ?_
  rintro e w' ⟨rfl, h', hc⟩
  go_wp2
  go_ret
  exact ⟨rfl, h', hc⟩
theorem u8_nil {w : World} :
    Calls Try.prog 29 #[.pointer none] w fun e w' => e = .returned (.int .u8 0) ∧ w = w' := by
  go_enter Try.func29, Try.ntmps29
  go_wp2_with fail
  refine (next8_of [] (fun w' => w = w') (by simp) (take_nil 1)).mono ?_
  rintro e w' ⟨rfl, rfl⟩
  go_wp2
  go_ret
  exact ⟨rfl, rfl⟩

theorem u16_any {w : World} {b : Nat} {l : List UInt8} {er : Int} (h : Rdr w b l er) :
    Calls Try.prog 47 #[.pointer (some ⟨b, 0, none⟩)] w fun e w' => e = .returned (.int .u16 (num (tkV 2 l er))) ∧ Rdr w' b (tkL 2 l er) (tkE 2 l er) ∧ Chg (only b) w w' := by
  go_enter Try.func47, Try.ntmps47
  go_wp2_with fail
  refine (next16_of (tkV 2 l er) (fun w' => Rdr w' b (tkL 2 l er) (tkE 2 l er) ∧ Chg (only b) w w') (tkV_len _ _ _) (take_any 2 (by omega) h)).mono ?_
  rintro e w' ⟨rfl, h', hc⟩
  go_wp2
  go_ret
  exact ⟨rfl, h', hc⟩
theorem u16_nil {w : World} :
    Calls Try.prog 47 #[.pointer none] w fun e w' => e = .returned (.int .u16 0) ∧ w = w' := by
  go_enter Try.func47, Try.ntmps47
  go_wp2_with fail
  refine (next16_of [] (fun w' => w = w') (by simp) (take_nil 2)).mono ?_
  rintro e w' ⟨rfl, rfl⟩
  go_wp2
  go_ret
  exact ⟨rfl, rfl⟩

theorem u32_any {w : World} {b : Nat} {l : List UInt8} {er : Int} (h : Rdr w b l er) :
    Calls Try.prog 49 #[.pointer (some ⟨b, 0, none⟩)] w fun e w' => e = .returned (.int .u32 (num (tkV 4 l er))) ∧ Rdr w' b (tkL 4 l er) (tkE 4 l er) ∧ Chg (only b) w w' := by
  go_enter Try.func49, Try.ntmps49
  go_wp2_with fail
  refine (next32_of (tkV 4 l er) (fun w' => Rdr w' b (tkL 4 l er) (tkE 4 l er) ∧ Chg (only b) w w') (tkV_len _ _ _) (take_any 4 (by omega) h)).mono ?_
  rintro e w' ⟨rfl, h', hc⟩
  go_wp2
  go_ret
  exact ⟨rfl, h', hc⟩
theorem u32_nil {w : World} :
    Calls Try.prog 49 #[.pointer none] w fun e w' => e = .returned (.int .u32 0) ∧ w = w' := by
  go_enter Try.func49, Try.ntmps49
  go_wp2_with fail
  refine (next32_of [] (fun w' => w = w') (by simp) (take_nil 4)).mono ?_
  rintro e w' ⟨rfl, rfl⟩
  go_wp2
  go_ret
  exact ⟨rfl, rfl⟩


end Go.Proofs.Ytieopgmmjpmflaa
