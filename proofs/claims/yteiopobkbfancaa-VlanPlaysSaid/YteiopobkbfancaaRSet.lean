/- Layer 7: the document's Set. -/
import Derived.Test.YteiopobkbfancaaRDrop
namespace Go.Proofs.Yteiopobkbfancaa
open Go.RowKit
set_option linter.unusedVariables false
set_option linter.unusedSimpArgs false
set_option maxRecDepth 100000

theorem le_int {N k : Nat} {b : Bool} (h : decide (N ≤ k) = b) : decide ((N : Int) ≤ (k : Int)) = b := by
  rw [← h, Bool.eq_iff_iff]
  simp
set_option maxRecDepth 100000 in
set_option maxHeartbeats 4000000 in
theorem dput_badv {w : World} {cs : Array Value} {N c : Nat} {A : Option Addr} {L : List Vn} {own : List UInt16} (hv : DTV cs N A c L own) (hE : Els 3 encN w A L) (h8 : L.length ≤ 8) (v : UInt16) (m u : UInt8) (hk : okV v = false) :
    Calls Try.prog 22 #[.agg cs, .int .u16 v.toNat, .int .u8 m.toNat, .int .u8 u.toNat] w fun e w' => DP w A L N (2) (L) (own) e w' := by
  obtain ⟨w1, hw1⟩ : ∃ w1, (w.alloc (.cells cs 36)).alloc (.cells #[.int .i64 0, .slice none 0 0, .int .u16 0, .int .u16 0, .int .u16 0, .int .u16 0, .int .u16 0, .int .u16 0, .int .u16 0, .int .u16 0] 36) = w1 := ⟨_, rfl⟩
  obtain ⟨g, hg⟩ : ∃ g, w.heap.size = g := ⟨_, rfl⟩
  have HB := Lib.hid (show Below w.heap.size w w1 by rw [← hw1]; exact ((Below.refl w.heap.size w).alloc (Nat.le_refl _) _).alloc (by simp) _)
  have HD := Lib.hid (show DT w1 g cs N A c L own from ⟨by rw [← hw1, ← hg]; exact (Blk.new w _ _).alloc _, hv⟩)
  have HZ := Lib.hid (show Blk w1 (g + 1) 36 #[.int .i64 0, .slice none 0 0, .int .u16 0, .int .u16 0, .int .u16 0, .int .u16 0, .int .u16 0, .int .u16 0, .int .u16 0, .int .u16 0] by rw [← hw1, ← hg]; have := Blk.new (w.alloc (.cells cs 36)) 36 #[.int .i64 0, .slice none 0 0, .int .u16 0, .int .u16 0, .int .u16 0, .int .u16 0, .int .u16 0, .int .u16 0, .int .u16 0, .int .u16 0]; simpa using this)
  have HE := Lib.hid (hE.next HB.out)
  have HG := Lib.hid hg
  have HA : Hid (∀ b off, A = some ⟨b, off, none⟩ → 0 < L.length → b < g) := Lib.hid (fun b off e h0 => by rw [← hg]; exact els_lt hE e h0)
  clear hv hE
  have hq := okV_no hk
  obtain ⟨q, hqv⟩ : ∃ q, v.toNat = q := ⟨_, rfl⟩
  rw [hqv] at hq ⊢
  clear hqv hk
  by_cases h1 : q < 1
  · clear hq
    go_enter Try.func22, Try.ntmps22
    go_upto_region 1 with fail
    clear hw1 hg
    go_wp2_with (first | refine wpList_load_dt 4 rfl (by kernel_rfl) g rfl _ HD.out.blk HD.out.v.sz ?_ | refine wpList_store_row rfl 36 (.tmp 8) _ rfl (g + 1) rfl (cs) rfl 36 _ HZ.out (by rw [HD.out.v.sz]; exact info_rt) (by first | rw [HD.out.v.sz]; rfl | (rw [HD.out.v.sz]; exact rfl)) HD.out.v.one ?_)
    have HR := Lib.hid (HZ.out.row (cs))
    refine bodyPost_ret (v := .tuple #[.agg (cs), .int .i64 2]) (results_cell_slot Try.results22 _ _ (g + 1) 36 _ _ rfl HR.out Try.underlying36 rfl (by rw [HD.out.v.sz]; exact info_rt) _ rfl) rfl ⟨_, _, _, rfl, HD.out.v, els_row HE.out HZ.out (fun b off e h0 => by have := HA.out b off e h0; show b ≠ g + 1; omega) _, ?_, below_row HB.out (by rw [HG.out]; omega) _⟩
    exact fun b off e => .inl ⟨rfl, rfl⟩
  · have h2 : 4094 < q := by omega
    clear hq
    go_enter Try.func22, Try.ntmps22
    go_upto_region 1 with fail
    clear hw1 hg
    go_wp2_with (first | refine wpList_load_dt 4 rfl (by kernel_rfl) g rfl _ HD.out.blk HD.out.v.sz ?_ | refine wpList_store_row rfl 36 (.tmp 8) _ rfl (g + 1) rfl (cs) rfl 36 _ HZ.out (by rw [HD.out.v.sz]; exact info_rt) (by first | rw [HD.out.v.sz]; rfl | (rw [HD.out.v.sz]; exact rfl)) HD.out.v.one ?_)
    have HR := Lib.hid (HZ.out.row (cs))
    refine bodyPost_ret (v := .tuple #[.agg (cs), .int .i64 2]) (results_cell_slot Try.results22 _ _ (g + 1) 36 _ _ rfl HR.out Try.underlying36 rfl (by rw [HD.out.v.sz]; exact info_rt) _ rfl) rfl ⟨_, _, _, rfl, HD.out.v, els_row HE.out HZ.out (fun b off e h0 => by have := HA.out b off e h0; show b ≠ g + 1; omega) _, ?_, below_row HB.out (by rw [HG.out]; omega) _⟩
    exact fun b off e => .inl ⟨rfl, rfl⟩

set_option maxRecDepth 100000 in
set_option maxHeartbeats 8000000 in
theorem dput_bad {w : World} {cs : Array Value} {N c : Nat} {A : Option Addr} {L : List Vn} {own : List UInt16} (hv : DTV cs N A c L own) (hE : Els 3 encN w A L) (h8 : L.length ≤ 8) (hN : N ≤ 8) (v : UInt16) (m u : UInt8) (hk : okV v = true) (hb : setBad N v m u = true) :
    Calls Try.prog 22 #[.agg cs, .int .u16 v.toNat, .int .u8 m.toNat, .int .u8 u.toNat] w fun e w' => DP w A L N (2) (L) (own) e w' := by
  obtain ⟨w1, hw1⟩ : ∃ w1, (w.alloc (.cells cs 36)).alloc (.cells #[.int .i64 0, .slice none 0 0, .int .u16 0, .int .u16 0, .int .u16 0, .int .u16 0, .int .u16 0, .int .u16 0, .int .u16 0, .int .u16 0] 36) = w1 := ⟨_, rfl⟩
  obtain ⟨g, hg⟩ : ∃ g, w.heap.size = g := ⟨_, rfl⟩
  have HB := Lib.hid (show Below w.heap.size w w1 by rw [← hw1]; exact ((Below.refl w.heap.size w).alloc (Nat.le_refl _) _).alloc (by simp) _)
  have HD := Lib.hid (show DT w1 g cs N A c L own from ⟨by rw [← hw1, ← hg]; exact (Blk.new w _ _).alloc _, hv⟩)
  have HZ := Lib.hid (show Blk w1 (g + 1) 36 #[.int .i64 0, .slice none 0 0, .int .u16 0, .int .u16 0, .int .u16 0, .int .u16 0, .int .u16 0, .int .u16 0, .int .u16 0, .int .u16 0] by rw [← hw1, ← hg]; have := Blk.new (w.alloc (.cells cs 36)) 36 #[.int .i64 0, .slice none 0 0, .int .u16 0, .int .u16 0, .int .u16 0, .int .u16 0, .int .u16 0, .int .u16 0, .int .u16 0, .int .u16 0]; simpa using this)
  have HE := Lib.hid (hE.next HB.out)
  have HG := Lib.hid hg
  have HA : Hid (∀ b off, A = some ⟨b, off, none⟩ → 0 < L.length → b < g) := Lib.hid (fun b off e h0 => by rw [← hg]; exact els_lt hE e h0)
  clear hv hE
  have hq := okV_yes hk
  have hk1 : ¬ ((v.toNat : Int) < 1) := by omega
  have hk2 : ¬ ((4094 : Int) < v.toNat) := by omega
  have HBAD : Hid (¬ ∀ k, k < 8 → bad1 N m u k = false) := Lib.hid (fun h => by
    have := (bad_all (u := u) (m := m) hN hk).2 h
    rw [this] at hb
    cases hb)
  have c0 := HD.out.c0
  clear hq hk h8 hb hN
  go_enter Try.func22, Try.ntmps22
  go_upto_region 1 with fail
  clear hw1 hg
  go_wp2_with fail
  go_loopw [10] (fun i wr => ∃ k : Nat, k ≤ 8 ∧ i = .int .u8 k ∧ Hid (∀ j, j < k → bad1 N m u j = false) ∧ w1 = wr) (fun i _ => 8 - (intOf i).toNat)
  case atStart => exact ⟨0, by omega, rfl, Lib.hid (fun j hj => by omega), rfl⟩
  case round =>
    obtain ⟨k, hk, rfl, HK, rfl⟩ := hrel
    by_cases hlt : k < 8
    · have hk256 : k < 256 := by omega
      have hwk : wrap64 (k : Int) = (k : Int) := by unfold wrap64; omega
      have hk8 : (k : Int) < 8 := by omega
      have HBV : Hid (bad1 N m u k = ((hasN m k && decide (N ≤ k)) || (hasN u k && !hasN m k))) := Lib.hid rfl
      cases hm : hasN m k <;> cases hu : hasN u k <;> cases hn : decide (N ≤ k)
      all_goals (
        have hn' := le_int hn
        have HM := Lib.hid hm
        have HU := Lib.hid hu
        have hbw := HBV.out
        rw [hm, hu, hn] at hbw
        simp only [Bool.true_and, Bool.and_true, Bool.false_and, Bool.and_false, Bool.or_true, Bool.true_or, Bool.or_false, Bool.false_or, Bool.not_true, Bool.not_false] at hbw
        have HBW := Lib.hid hbw
        clear hm hu HBV hbw
        first | (have hn2 := of_decide_eq_true hn) | (have hn2 := of_decide_eq_false hn)
        go_wp2_with (first
          | (go_at_call 29; with_reducible refine (has7_nat m hk256 HM).mono ?_; rintro e w2 ⟨rfl, rfl⟩)
          | (go_at_call 29; with_reducible refine (has7_nat u hk256 HU).mono ?_; rintro e w2 ⟨rfl, rfl⟩)
          | refine wpList_load_dt 4 rfl (by kernel_rfl) g rfl _ HD.out.blk HD.out.v.sz ?_
          | refine wpList_store_row rfl 36 (.tmp 8) _ rfl (g + 1) rfl (cs) rfl 36 _ HZ.out (by rw [HD.out.v.sz]; exact info_rt) (by first | rw [HD.out.v.sz]; rfl | (rw [HD.out.v.sz]; exact rfl)) HD.out.v.one ?_))
      all_goals first
        | (
          have HR := Lib.hid (HZ.out.row (cs))
          refine bodyPost_ret (v := .tuple #[.agg (cs), .int .i64 2]) (results_cell_slot Try.results22 _ _ (g + 1) 36 _ _ rfl HR.out Try.underlying36 rfl (by rw [HD.out.v.sz]; exact info_rt) _ rfl) rfl ⟨_, _, _, rfl, HD.out.v, els_row HE.out HZ.out (fun b off e h0 => by have := HA.out b off e h0; show b ≠ g + 1; omega) _, ?_, below_row HB.out (by rw [HG.out]; omega) _⟩
          exact fun b off e => .inl ⟨rfl, rfl⟩)
        | (
          have hfal : bad1 N m u k = false := HBW.out
          go_roundw
          case rel => exact ⟨k + 1, by omega, by go_num, Lib.hid (fun j hj => by
            by_cases e : j = k
            · rw [e]; exact HBW.out
            · exact HK.out j (by omega)), by first | rfl | trivial⟩
          case measure => simp [intOf]; omega)
        | (exfalso; omega)
    · obtain rfl : k = 8 := by omega
      exact absurd HK.out HBAD.out
end Go.Proofs.Yteiopobkbfancaa
