/- Layer 2: the document's own digit, Parse; that it tells as the program does. -/
import Derived.Test.YtabdhokcgedomaaMacParse
import Derived.Test.YtabdhokcgedomaaDig
namespace Go.Proofs.Ytabdhokcgedomaa
open Go.RowKit
set_option linter.unusedVariables false
set_option linter.unusedSimpArgs false

theorem dgt_hit (c : UInt8) (k : Nat) (hk : k < 16) (h : (hx k == c) = true) : dgt c = (k : Int) := by
  have e := eq_of_beq h
  subst e
  have : ∀ k : Fin 16, dgt (hx k.val) = (k.val : Int) := by decide +kernel
  exact this ⟨k, hk⟩
theorem dgt_none (c : UInt8) (h : ∀ j, j < 16 → (hx j == c) = false) : dgt c = -1 := by
  have all : ∀ n : Fin 256, dgt (UInt8.ofNat n.val) = -1 ∨ ∃ j : Fin 16, hx j.val = UInt8.ofNat n.val := by decide +kernel
  have e : UInt8.ofNat c.toNat = c := by simp
  rcases all ⟨c.toNat, c.toNat_lt⟩ with h1 | ⟨j, hj⟩
  · simp only [e] at h1; exact h1
  · simp only [e] at hj
    have := h j.val j.isLt
    rw [hj] at this
    simp at this
theorem dgt_back (c : UInt8) (h : 0 ≤ dgt c) : hx (dgt c).toNat = c := by
  have all : ∀ n : Fin 256, 0 ≤ dgt (UInt8.ofNat n.val) → hx (dgt (UInt8.ofNat n.val)).toNat = UInt8.ofNat n.val := by decide +kernel
  have e : UInt8.ofNat c.toNat = c := by simp
  have := all ⟨c.toNat, c.toNat_lt⟩
  simp only [e] at this
  exact this h
theorem dgt_hx (n : Nat) (h : n < 16) : dgt (hx n) = (n : Int) := dgt_hit _ n h (by simp)
theorem pby_ok (x y : Nat) (h1 : x < 16) (h2 : y < 16) : pby (x : Int) (y : Int) = UInt8.ofNat (16 * x + y) := by
  have : ∀ x y : Fin 16, pby (x.val : Int) (y.val : Int) = UInt8.ofNat (16 * x.val + y.val) := by decide +kernel
  exact this ⟨x, h1⟩ ⟨y, h2⟩

theorem refdigit_any (w : World) (c : UInt8) :
    Calls Try.prog 36 #[.int .u8 c.toNat] w fun e w' => e = .returned (.int .i64 (dgt c)) ∧ w = w' := by
  go_enter Try.func36, Try.ntmps36
  go_wp2
  go_loop [3] (fun i => ∃ k : Nat, k ≤ 16 ∧ i = .int .i64 k ∧ Hid (∀ j, j < k → (hx j == c) = false)) (fun i => 16 - (intOf i).toNat)
  case atStart => exact ⟨0, by omega, rfl, Lib.hid (fun j hj => by omega)⟩
  case round =>
    obtain ⟨k, hk, rfl, hno⟩ := hrel
    by_cases hlt : k < 16
    · have hb : 0 ≤ (k : Int) ∧ (k : Int) < 16 := by omega
      go_wp2
      · rename_i h _
        rw [digAt] at h
        have hq : (hx k == c) = true := by
          have := eq_of_beq h
          rw [beq_iff_eq]
          exact UInt8.toNat_inj.1 (by omega)
        go_ret
        rw [dgt_hit c k hlt hq]
        exact ⟨rfl, rfl⟩
      · rename_i h
        rw [digAt] at h
        have hq : (hx k == c) = false := by
          rw [beq_eq_false_iff_ne] at h ⊢
          intro e
          exact h (by rw [e])
        clear h
        go_round
        case rel => exact ⟨k + 1, by omega, by go_num, no_step hno hq⟩
        case measure => simp [intOf]; omega
    · obtain rfl : k = 16 := by omega
      go_wp2
      go_ret
      rw [dgt_none c hno.out]
      exact ⟨rfl, rfl⟩
theorem no_stepT {p : Nat → Bool} {k : Nat} (h : Hid (∀ j, j < k → p j = true)) (hk : p k = true) : Hid (∀ j, j < k + 1 → p j = true) := Lib.hid (fun j hj => by
  rcases Nat.lt_succ_iff_lt_or_eq.1 hj with h1 | h1
  · exact h.out j h1
  · subst h1; exact hk)
/-- that a byte's three places may stand in a text -/
def okAt (s : List UInt8) (k : Nat) : Bool := decide (0 ≤ dgt (s.getD (3 * k) 0)) && decide (0 ≤ dgt (s.getD (3 * k + 1) 0)) && (decide (5 ≤ k) || s.getD (3 * k + 2) 0 == 58)
theorem pm_ok (s : List UInt8) (k : Nat) (h : okAt s k = true) : (pm s k).toNat = 16 * (dgt (s.getD (3 * k) 0)).toNat + (dgt (s.getD (3 * k + 1) 0)).toNat ∧ hx ((pm s k).toNat / 16) = s.getD (3 * k) 0 ∧ hx ((pm s k).toNat % 16) = s.getD (3 * k + 1) 0 ∧ (k < 5 → s.getD (3 * k + 2) 0 = 58) := by
  unfold okAt at h
  simp only [Bool.and_eq_true, Bool.or_eq_true, decide_eq_true_eq, beq_iff_eq] at h
  obtain ⟨⟨h1, h2⟩, h3⟩ := h
  have b1 := dgt_back _ h1
  have b2 := dgt_back _ h2
  have c1 := (dgt_bounds (s.getD (3 * k) 0)).2
  have c2 := (dgt_bounds (s.getD (3 * k + 1) 0)).2
  unfold pm
  generalize s.getD (3 * k) 0 = u at *
  generalize s.getD (3 * k + 1) 0 = v at *
  obtain ⟨x, hx1⟩ := Int.eq_ofNat_of_zero_le h1
  obtain ⟨y, hy1⟩ := Int.eq_ofNat_of_zero_le h2
  rw [hx1] at b1 c1 ⊢
  rw [hy1] at b2 c2 ⊢
  rw [pby_ok x y (by omega) (by omega)]
  have e : (UInt8.ofNat (16 * x + y)).toNat = 16 * x + y := by simp; omega
  rw [e]
  refine ⟨by simp, ?_, ?_, fun hk => ?_⟩
  · rw [show (16 * x + y) / 16 = x by omega]; simpa using b1
  · rw [show (16 * x + y) % 16 = y by omega]; simpa using b2
  · rcases h3 with h3 | h3
    · omega
    · exact h3
theorem pt_ok (s : List UInt8) (hs : s.length = 17) (h : ∀ k, k < 6 → okAt s k = true) : pt s = s := by
  apply List.ext_getElem
  · rw [hs]; rfl
  · intro i h1 h2
    have g : s[i] = s.getD i 0 := by simp [List.getD, h2]
    rw [g]
    obtain ⟨_, a0, b0, c0⟩ := pm_ok s 0 (h 0 (by omega))
    obtain ⟨_, a1, b1, c1⟩ := pm_ok s 1 (h 1 (by omega))
    obtain ⟨_, a2, b2, c2⟩ := pm_ok s 2 (h 2 (by omega))
    obtain ⟨_, a3, b3, c3⟩ := pm_ok s 3 (h 3 (by omega))
    obtain ⟨_, a4, b4, c4⟩ := pm_ok s 4 (h 4 (by omega))
    obtain ⟨_, a5, b5, _⟩ := pm_ok s 5 (h 5 (by omega))
    have : i = 0 ∨ i = 1 ∨ i = 2 ∨ i = 3 ∨ i = 4 ∨ i = 5 ∨ i = 6 ∨ i = 7 ∨ i = 8 ∨ i = 9 ∨ i = 10 ∨ i = 11 ∨ i = 12 ∨ i = 13 ∨ i = 14 ∨ i = 15 ∨ i = 16 := by omega
    rcases this with rfl | rfl | rfl | rfl | rfl | rfl | rfl | rfl | rfl | rfl | rfl | rfl | rfl | rfl | rfl | rfl | rfl
    · exact a0
    · exact b0
    · exact (c0 (by omega)).symm
    · exact a1
    · exact b1
    · exact (c1 (by omega)).symm
    · exact a2
    · exact b2
    · exact (c2 (by omega)).symm
    · exact a3
    · exact b3
    · exact (c3 (by omega)).symm
    · exact a4
    · exact b4
    · exact (c4 (by omega)).symm
    · exact a5
    · exact b5
theorem hx_ok (n : Nat) (h : n < 16) : 0 ≤ dgt (hx n) := by rw [dgt_hx n h]; omega
theorem txt_ok (a b c d e f : UInt8) (k : Nat) (hk : k < 6) : okAt (txt a b c d e f) k = true := by
  have h : ∀ u v : UInt8, 0 ≤ dgt (hx (u.toNat / 16)) ∧ 0 ≤ dgt (hx (u.toNat % 16)) := fun u _ => by
    have := u.toNat_lt
    exact ⟨hx_ok _ (by omega), hx_ok _ (by omega)⟩
  have : k = 0 ∨ k = 1 ∨ k = 2 ∨ k = 3 ∨ k = 4 ∨ k = 5 := by omega
  unfold okAt
  rcases this with rfl | rfl | rfl | rfl | rfl | rfl <;> simp [txt, (h a a).1, (h a a).2, (h b a).1, (h b a).2, (h c a).1, (h c a).2, (h d a).1, (h d a).2, (h e a).1, (h e a).2, (h f a).1, (h f a).2]
theorem prsV_bad (s : List UInt8) (k : Nat) (hk : k < 6) (h : okAt s k = false) : prsV s = .tuple #[MZ, .bool false] := by
  have hn : (pt s == s) = false := by
    rw [beq_eq_false_iff_ne]
    intro e
    have := txt_ok (pm s 0) (pm s 1) (pm s 2) (pm s 3) (pm s 4) (pm s 5) k hk
    rw [show txt (pm s 0) (pm s 1) (pm s 2) (pm s 3) (pm s 4) (pm s 5) = s from e, h] at this
    cases this
  unfold prsV
  rw [hn]
  rfl
theorem prsV_ok (s : List UInt8) (hs : s.length = 17) (h : ∀ k, k < 6 → okAt s k = true) : prsV s = .tuple #[MA (pm s 0) (pm s 1) (pm s 2) (pm s 3) (pm s 4) (pm s 5), .bool true] := by
  unfold prsV
  rw [pt_ok s hs h, beq_self_eq_true]
  rfl
theorem prsV_txt (a b c d e f : UInt8) : prsV (txt a b c d e f) = .tuple #[MA a b c d e f, .bool true] := by
  rw [prsV_ok _ rfl (fun k hk => txt_ok a b c d e f k hk)]
  have h : ∀ u : UInt8, pby (dgt (hx (u.toNat / 16))) (dgt (hx (u.toNat % 16))) = u := fun u => by
    have hu := u.toNat_lt
    rw [dgt_hx _ (by omega), dgt_hx _ (by omega), pby_ok _ _ (by omega) (by omega)]
    rw [show 16 * (u.toNat / 16) + u.toNat % 16 = u.toNat by omega]
    simp
  have e0 : pm (txt a b c d e f) 0 = a := h a
  have e1 : pm (txt a b c d e f) 1 = b := h b
  have e2 : pm (txt a b c d e f) 2 = c := h c
  have e3 : pm (txt a b c d e f) 3 = d := h d
  have e4 : pm (txt a b c d e f) 4 = e := h e
  have e5 : pm (txt a b c d e f) 5 = f := h f
  rw [e0, e1, e2, e3, e4, e5]
theorem refparse_short (w : World) (s : List UInt8) (hs : s.length ≠ 17) :
    Calls Try.prog 26 #[.string ⟨s.toArray⟩] w fun r w' => r = .returned (prsV s) ∧ Below w.heap.size w w' := by
  have hv : prsV s = .tuple #[MZ, .bool false] := by unfold prsV; rw [pt_len s hs]; rfl
  rw [hv]
  clear hv
  have hn : ((s.length : Int) != 17) = true := by simp; omega
  go_enter Try.func26, Try.ntmps26
  go_wp2
  exact bodyPost_ret (v := .tuple #[MZ, .bool false]) (by simp [results, Try.results26, go_sem]) rfl ⟨rfl, (by repeat (first | exact Below.refl _ _ | (refine Below.drew ?_) | (refine Below.alloc ?_ (by simp; try omega) _) | (refine Below.setCell ?_ (by simp; try omega) _)))⟩

set_option maxRecDepth 100000 in
set_option maxHeartbeats 4000000 in
theorem refparse_long (w : World) (s : List UInt8) (hs : s.length = 17) :
    Calls Try.prog 26 #[.string ⟨s.toArray⟩] w fun r w' => r = .returned (prsV s) ∧ Below w.heap.size w w' := by
  have hn : ((s.length : Int) != 17) = false := by simp; omega
  go_enter Try.func26, Try.ntmps26
  go_wp2
  go_loopw [5] (fun i wr => ∃ k : Nat, k ≤ 6 ∧ i = .int .i64 k ∧ Hid (∀ j, j < k → okAt s j = true) ∧ Arr wr w.heap.size 0 0 0 0 0 0 ∧ Blk wr (w.heap.size + 1) 23 (laid (ml s) 6 k) ∧ Below w.heap.size w wr) (fun i _ => 6 - (intOf i).toNat)
  case atStart => exact ⟨0, by omega, rfl, Lib.hid (fun j hj => by omega), (Arr.zero w).alloc _, by rw [laid_6]; simpa using Blk.new (w.alloc (.cells #[.int .u8 0, .int .u8 0, .int .u8 0, .int .u8 0, .int .u8 0, .int .u8 0] 23)) _ _, ((Below.refl _ _).alloc (Nat.le_refl _) _).alloc (by simp) _⟩
  case round =>
    obtain ⟨k, hk, rfl, hno, ha, hbk, hb⟩ := hrel
    by_cases hlt : k < 6
    · have HA2 := Lib.hid ha
      have hce : wr.cell? ⟨w.heap.size + 1, k, none⟩ = some (.int .u8 0) := (Blk.cell hbk k).trans (laid_at _ _ _ hlt rfl)
      have hfr := Blk.frozen hbk k
      obtain ⟨f0, f1, f2, f3, f4, f5⟩ := ha.frozens
      obtain ⟨c0, c1, c2, c3, c4, c5⟩ := ha.cells
      have HBk := Lib.hid hbk
      have HB2 := Lib.hid hb
      clear ha hbk hb
      obtain ⟨x, hx⟩ : ∃ x, dgt (s.getD (3 * k) 0) = x := ⟨_, rfl⟩
      obtain ⟨y, hy⟩ : ∃ y, dgt (s.getD (3 * k + 1) 0) = y := ⟨_, rfl⟩
      have hxb := dgt_bounds (s.getD (3 * k) 0)
      have hyb := dgt_bounds (s.getD (3 * k + 1) 0)
      rw [hx] at hxb
      rw [hy] at hyb
      have HX := Lib.hid hx
      have HY := Lib.hid hy
      clear hx hy
      go_wp2_with fail
      rw [strAt]
      refine (refdigit_any _ _).mono ?_
      rw [HX.out]
      rintro r w1 ⟨rfl, rfl⟩
      go_wp2_with fail
      rw [strAt]
      refine (refdigit_any _ _).mono ?_
      rw [HY.out]
      rintro r w1 ⟨rfl, rfl⟩
      by_cases hx0 : x < 0
      · go_wp2
        have hok : okAt s k = false := by
          unfold okAt; rw [HX.out]; simp [show ¬ 0 ≤ x by omega]
        rw [prsV_bad s k hlt hok]
        exact bodyPost_ret (v := .tuple #[MZ, .bool false]) (by simp [results, Try.results26, go_sem, c0, c1, c2, c3, c4, c5]) rfl ⟨rfl, put6_below HB2.out (Nat.le_refl _) _ _ _ _ _ _⟩
      · by_cases hy0 : y < 0
        · go_wp2
          have hok : okAt s k = false := by
            unfold okAt; rw [HX.out, HY.out]; simp [show ¬ 0 ≤ y by omega]
          rw [prsV_bad s k hlt hok]
          exact bodyPost_ret (v := .tuple #[MZ, .bool false]) (by simp [results, Try.results26, go_sem, c0, c1, c2, c3, c4, c5]) rfl ⟨rfl, put6_below HB2.out (Nat.le_refl _) _ _ _ _ _ _⟩
        · go_wp2
          · rename_i h5 _ h
            rw [strAt] at h
            have hok : okAt s k = false := by
              unfold okAt; rw [HX.out, HY.out]; rcases h with h | h; · omega
              · have h2 : (s.getD (3 * k + 2) 0 == 58) = false := by
                  rw [beq_eq_false_iff_ne]; intro e; rw [e] at h; simp at h
                rw [h2]; simp; omega
            rw [prsV_bad s k hlt hok]
            exact bodyPost_ret (v := .tuple #[MZ, .bool false]) (by simp [results, Try.results26, go_sem, c0, c1, c2, c3, c4, c5]) rfl ⟨rfl, put6_below HB2.out (Nat.le_refl _) _ _ _ _ _ _⟩
          · rename_i h5 _ h
            rw [strAt] at h
            have hok : okAt s k = true := by
              unfold okAt; rw [HX.out, HY.out]
              have h2 : (s.getD (3 * k + 2) 0 == 58) = true := by
                rw [beq_iff_eq]; apply UInt8.toNat_inj.1; have := h.2; simp at this; simp; omega
              rw [h2]; simp; omega
            go_roundw
            case rel =>
              have hv : Value.int IntKind.u8 (16 * x + y) = Value.int IntKind.u8 (((ml s)[k]'hlt).toNat : Int) := by
                rw [ml_at s k hlt, (pm_ok s k hok).1, HX.out, HY.out]
                exact congrArg _ (by omega)
              rw [hv]
              have hq := HBk.out.put k (Value.int IntKind.u8 (((ml s)[k]'hlt).toNat : Int))
              rw [laid_step (ml s) 6 k hlt (Nat.le_refl 6)] at hq
              exact ⟨k + 1, by omega, by go_num, no_stepT hno hok, Blk.far HA2.out (by show w.heap.size ≠ w.heap.size + 1; omega) _, hq, HB2.out.setCell (by show w.heap.size ≤ w.heap.size + 1; omega) _⟩
            case measure => simp [intOf]; omega
          · rename_i h5 _
            have hok : okAt s k = true := by
              unfold okAt; rw [HX.out, HY.out]; simp; omega
            go_roundw
            case rel =>
              have hv : Value.int IntKind.u8 (16 * x + y) = Value.int IntKind.u8 (((ml s)[k]'hlt).toNat : Int) := by
                rw [ml_at s k hlt, (pm_ok s k hok).1, HX.out, HY.out]
                exact congrArg _ (by omega)
              rw [hv]
              have hq := HBk.out.put k (Value.int IntKind.u8 (((ml s)[k]'hlt).toNat : Int))
              rw [laid_step (ml s) 6 k hlt (Nat.le_refl 6)] at hq
              exact ⟨k + 1, by omega, by go_num, no_stepT hno hok, Blk.far HA2.out (by show w.heap.size ≠ w.heap.size + 1; omega) _, hq, HB2.out.setCell (by show w.heap.size ≤ w.heap.size + 1; omega) _⟩
            case measure => simp [intOf]; omega
    · obtain rfl : k = 6 := by omega
      rw [laid_all (ml s) 6 rfl] at hbk
      have hm : Arr wr (w.heap.size + 1) (pm s 0) (pm s 1) (pm s 2) (pm s 3) (pm s 4) (pm s 5) := hbk
      obtain ⟨d0, d1, d2, d3, d4, d5⟩ := hm.cells
      obtain ⟨f0, f1, f2, f3, f4, f5⟩ := ha.frozens
      obtain ⟨c0, c1, c2, c3, c4, c5⟩ := ha.cells
      have HB := Lib.hid hb
      clear ha hm hbk hb
      have HV := Lib.hid (prsV_ok s hs hno.out)
      go_wp2
      rw [HV.out]
      exact bodyPost_ret (v := .tuple #[MA (pm s 0) (pm s 1) (pm s 2) (pm s 3) (pm s 4) (pm s 5), .bool true]) (by simp [results, Try.results26, go_sem, c0, c1, c2, c3, c4, c5]) rfl ⟨rfl, put6_below HB.out (Nat.le_refl _) _ _ _ _ _ _⟩
theorem refparse_any (w : World) (s : List UInt8) :
    Calls Try.prog 26 #[.string ⟨s.toArray⟩] w fun r w' => r = .returned (prsV s) ∧ Below w.heap.size w w' := by
  by_cases h : s.length = 17
  · exact refparse_long w s h
  · exact refparse_short w s h
end Go.Proofs.Ytabdhokcgedomaa
