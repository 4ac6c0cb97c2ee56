/- cmp.Compare at unsigned numbers; cmp.Or of ints. -/
import Derived.Test.YtlpmilaofcakbaaVec
namespace Go.Proofs.Ytlpmilaofcakbaa
open Go.RowKit
set_option linter.unusedVariables false
set_option linter.unusedSimpArgs false
set_option maxRecDepth 100000

theorem cmpI_a {a b : Int} (h : a < b) : cmpI a b = -1 := by simp [cmpI, h]
theorem cmpI_b {a b : Int} (h : b < a) : cmpI a b = 1 := by unfold cmpI; rw [if_neg (by omega), if_pos h]
theorem ret_i64 {a b : Int} (h : a = b) : Ending.returned (.int .i64 a) = .returned (.int .i64 b) := by rw [h]


theorem nan64_any (w : World) (a : Int) : Calls Try.prog 70 #[.int .u64 a] w fun e w' => e = .returned (.bool false) ∧ w = w' := by
  go_enter Try.func70, Try.ntmps70
  go_wp2
  go_ret
  exact ⟨rfl, rfl⟩
theorem cmp64_any (w : World) (a b : Int) : Calls Try.prog 64 #[.int .u64 a, .int .u64 b] w fun e w' => e = .returned (.int .i64 (cmpI a b)) ∧ w = w' := by
  rcases Int.lt_trichotomy a b with h | h | h
  · have e := Lib.hid (cmpI_a h)
    have d1 : decide (a < b) = true := by simpa using h
    clear h
    go_enter Try.func64, Try.ntmps64
    go_wp2_with (go_at_call 70; refine (nan64_any _ _).mono ?_; rintro e w' ⟨rfl, rfl⟩)
    go_ret
    exact ⟨ret_i64 e.out.symm, rfl⟩
  · subst h
    have e := Lib.hid (cmpI_self a)
    go_enter Try.func64, Try.ntmps64
    go_wp2_with (go_at_call 70; refine (nan64_any _ _).mono ?_; rintro e w' ⟨rfl, rfl⟩)
    go_ret
    exact ⟨ret_i64 e.out.symm, rfl⟩
  · have e := Lib.hid (cmpI_b h)
    have d1 : decide (a < b) = false := by simp; omega
    have d2 : decide (b < a) = true := by simpa using h
    clear h
    go_enter Try.func64, Try.ntmps64
    go_wp2_with (go_at_call 70; refine (nan64_any _ _).mono ?_; rintro e w' ⟨rfl, rfl⟩)
    go_ret
    exact ⟨ret_i64 e.out.symm, rfl⟩

theorem nan32_any (w : World) (a : Int) : Calls Try.prog 71 #[.int .u32 a] w fun e w' => e = .returned (.bool false) ∧ w = w' := by
  go_enter Try.func71, Try.ntmps71
  go_wp2
  go_ret
  exact ⟨rfl, rfl⟩
theorem cmp32_any (w : World) (a b : Int) : Calls Try.prog 65 #[.int .u32 a, .int .u32 b] w fun e w' => e = .returned (.int .i64 (cmpI a b)) ∧ w = w' := by
  rcases Int.lt_trichotomy a b with h | h | h
  · have e := Lib.hid (cmpI_a h)
    have d1 : decide (a < b) = true := by simpa using h
    clear h
    go_enter Try.func65, Try.ntmps65
    go_wp2_with (go_at_call 71; refine (nan32_any _ _).mono ?_; rintro e w' ⟨rfl, rfl⟩)
    go_ret
    exact ⟨ret_i64 e.out.symm, rfl⟩
  · subst h
    have e := Lib.hid (cmpI_self a)
    go_enter Try.func65, Try.ntmps65
    go_wp2_with (go_at_call 71; refine (nan32_any _ _).mono ?_; rintro e w' ⟨rfl, rfl⟩)
    go_ret
    exact ⟨ret_i64 e.out.symm, rfl⟩
  · have e := Lib.hid (cmpI_b h)
    have d1 : decide (a < b) = false := by simp; omega
    have d2 : decide (b < a) = true := by simpa using h
    clear h
    go_enter Try.func65, Try.ntmps65
    go_wp2_with (go_at_call 71; refine (nan32_any _ _).mono ?_; rintro e w' ⟨rfl, rfl⟩)
    go_ret
    exact ⟨ret_i64 e.out.symm, rfl⟩

theorem nan8_any (w : World) (a : Int) : Calls Try.prog 72 #[.int .u8 a] w fun e w' => e = .returned (.bool false) ∧ w = w' := by
  go_enter Try.func72, Try.ntmps72
  go_wp2
  go_ret
  exact ⟨rfl, rfl⟩
theorem cmp8_any (w : World) (a b : Int) : Calls Try.prog 66 #[.int .u8 a, .int .u8 b] w fun e w' => e = .returned (.int .i64 (cmpI a b)) ∧ w = w' := by
  rcases Int.lt_trichotomy a b with h | h | h
  · have e := Lib.hid (cmpI_a h)
    have d1 : decide (a < b) = true := by simpa using h
    clear h
    go_enter Try.func66, Try.ntmps66
    go_wp2_with (go_at_call 72; refine (nan8_any _ _).mono ?_; rintro e w' ⟨rfl, rfl⟩)
    go_ret
    exact ⟨ret_i64 e.out.symm, rfl⟩
  · subst h
    have e := Lib.hid (cmpI_self a)
    go_enter Try.func66, Try.ntmps66
    go_wp2_with (go_at_call 72; refine (nan8_any _ _).mono ?_; rintro e w' ⟨rfl, rfl⟩)
    go_ret
    exact ⟨ret_i64 e.out.symm, rfl⟩
  · have e := Lib.hid (cmpI_b h)
    have d1 : decide (a < b) = false := by simp; omega
    have d2 : decide (b < a) = true := by simpa using h
    clear h
    go_enter Try.func66, Try.ntmps66
    go_wp2_with (go_at_call 72; refine (nan8_any _ _).mono ?_; rintro e w' ⟨rfl, rfl⟩)
    go_ret
    exact ⟨ret_i64 e.out.symm, rfl⟩

theorem orI_skip (l : List Int) (k : Nat) (hk : k < l.length) (h : l[k] = 0) : orI (l.drop k) = orI (l.drop (k + 1)) := by
  rw [List.drop_eq_getElem_cons hk]; simp [orI, h]
theorem orI_hit (l : List Int) (k : Nat) (hk : k < l.length) (h : l[k] ≠ 0) : orI (l.drop k) = l[k] := by
  rw [List.drop_eq_getElem_cons hk]; simp [orI, h]
set_option maxHeartbeats 1000000 in
/-- the first number of a row that is not nought -/
theorem or_any (w : World) (g c : Nat) (l : List Int) (hl : l.length < 1000) (hc : ∀ j (h : j < l.length), w.cell? ⟨g, j, none⟩ = some (.int .i64 l[j])) :
    Calls Try.prog 63 #[.slice (some ⟨g, 0, none⟩) l.length c] w fun e w' => e = .returned (.int .i64 (orI l)) ∧ w = w' := by
  have HC := Lib.hid hc
  clear hc
  obtain ⟨n, hn⟩ : ∃ n, l.length = n := ⟨_, rfl⟩
  have HN := Lib.hid hn
  rw [hn] at hl ⊢
  clear hn
  go_enter Try.func63, Try.ntmps63
  go_wp2
  go_loop [8] (fun i => ∃ k : Nat, k ≤ n ∧ i = .int .i64 k ∧ Hid (orI l = orI (l.drop k))) (fun i => n - (intOf i).toNat)
  case atStart => exact ⟨0, by omega, rfl, Lib.hid (by simp)⟩
  case round =>
    obtain ⟨k, hk, rfl, ho⟩ := hrel
    by_cases hlt : k < n
    · have hlt' : k < l.length := by rw [HN.out]; exact hlt
      have hcell := HC.out k hlt'
      obtain ⟨x, hx⟩ : ∃ x, l[k] = x := ⟨_, rfl⟩
      rw [hx] at hcell
      have HX := Lib.hid hx
      clear hx
      by_cases h0 : x = 0
      · subst h0
        go_wp2
        go_round
        case rel => exact ⟨k + 1, by omega, by go_num, Lib.hid (ho.out.trans (orI_skip l k hlt' HX.out))⟩
        case measure => simp [intOf]; omega
      · have d : (x == 0) = false := by simpa using h0
        have H0 : Hid (x ≠ 0) := Lib.hid h0
        clear h0
        go_wp2
        go_ret
        exact ⟨ret_i64 (by rw [ho.out, orI_hit l k hlt' (by rw [HX.out]; exact H0.out), HX.out]), rfl⟩
    · obtain rfl : k = n := by omega
      go_wp2
      go_ret
      exact ⟨ret_i64 (by rw [ho.out, ← HN.out]; simp [orI]), rfl⟩
end Go.Proofs.Ytlpmilaofcakbaa
