/- Layer 7: the document's Set, where it may be. -/
import Derived.Test.YteiopobkbfancaaRSet
namespace Go.Proofs.Yteiopobkbfancaa
open Go.RowKit
set_option linter.unusedVariables false
set_option linter.unusedSimpArgs false
set_option maxRecDepth 100000

theorem c1_of {w : World} {g N c n : Nat} {cs : Array Value} {A : Option Addr} {L : List Vn} {own : List UInt16} (h : DT w g cs N A c L own) (hn : L.length = n) : w.cell? ⟨g, 1, none⟩ = some (.slice A n c) := by
  rw [← hn]; exact h.c1
set_option maxRecDepth 100000 in
set_option maxHeartbeats 8000000 in
theorem dput_full {w : World} {cs : Array Value} {N c : Nat} {A : Option Addr} {L : List Vn} {own : List UInt16} (hv : DTV cs N A c L own) (hE : Els 3 encN w A L) (h8 : L.length ≤ 8) (hN : N ≤ 8) (v : UInt16) (m u : UInt8) (hk : okV v = true) (hb : setBad N v m u = false) (hh : vhas L v = false) (hL : L.length = 8) :
    Calls Try.prog 22 #[.agg cs, .int .u16 v.toNat, .int .u8 m.toNat, .int .u8 u.toNat] w fun e w' => DP w A L N (6) (L) (own) e w' := by
  have HH := Lib.hid hh
  have HL := Lib.hid hL
  clear hh hL
  obtain ⟨w1, hw1⟩ : ∃ w1, (w.alloc (.cells cs 36)).alloc (.cells #[.int .i64 0, .slice none 0 0, .int .u16 0, .int .u16 0, .int .u16 0, .int .u16 0, .int .u16 0, .int .u16 0, .int .u16 0, .int .u16 0] 36) = w1 := ⟨_, rfl⟩
  obtain ⟨g, hg⟩ : ∃ g, w.heap.size = g := ⟨_, rfl⟩
  have HB := Lib.hid (show Below w.heap.size w w1 by rw [← hw1]; exact ((Below.refl w.heap.size w).alloc (Nat.le_refl _) _).alloc (by simp) _)
  have HD := Lib.hid (show DT w1 g cs N A c L own from ⟨by rw [← hw1, ← hg]; exact (Blk.new w _ _).alloc _, hv⟩)
  have HZ := Lib.hid (show Blk w1 (g + 1) 36 #[.int .i64 0, .slice none 0 0, .int .u16 0, .int .u16 0, .int .u16 0, .int .u16 0, .int .u16 0, .int .u16 0, .int .u16 0, .int .u16 0] by rw [← hw1, ← hg]; have := Blk.new (w.alloc (.cells cs 36)) 36 #[.int .i64 0, .slice none 0 0, .int .u16 0, .int .u16 0, .int .u16 0, .int .u16 0, .int .u16 0, .int .u16 0, .int .u16 0, .int .u16 0]; simpa using this)
  have HE := Lib.hid (hE.next HB.out)
  have HG := Lib.hid hg
  have HA : Hid (∀ b off, A = some ⟨b, off, none⟩ → 0 < L.length → b < g) := Lib.hid (fun b off e h0 => by rw [← hg]; exact els_lt hE e h0)
  clear hv hE
  have hq := okV_yes hk
  have hk1 : ¬ ((v.toNat : Int) < 1) := by omega
  have hk2 : ¬ ((4094 : Int) < v.toNat) := by omega
  have HGOOD : Hid (∀ k, k < 8 → bad1 N m u k = false) := Lib.hid ((bad_all (u := u) (m := m) hN hk).1 hb)
  have c0 := HD.out.c0
  have H8 := Lib.hid h8
  clear hq hk h8 hb hN
  go_enter Try.func22, Try.ntmps22
  go_upto_region 1 with fail
  clear hw1 hg
  go_wp2_with fail
  go_loopw [10] (fun i wr => ∃ k : Nat, k ≤ 8 ∧ i = .int .u8 k ∧ w1 = wr) (fun i _ => 8 - (intOf i).toNat)
  case atStart => exact ⟨0, by omega, rfl, rfl⟩
  case round =>
    obtain ⟨k, hk, rfl, rfl⟩ := hrel
    by_cases hlt : k < 8
    · have hk256 : k < 256 := by omega
      have hwk : wrap64 (k : Int) = (k : Int) := by unfold wrap64; omega
      have hk8 : (k : Int) < 8 := by omega
      have HBV : Hid (((hasN m k && decide (N ≤ k)) || (hasN u k && !hasN m k)) = false) := Lib.hid (HGOOD.out k hlt)
      cases hm : hasN m k <;> cases hu : hasN u k <;> cases hn : decide (N ≤ k)
      all_goals (
        have hn' := le_int hn
        have HM := Lib.hid hm
        have HU := Lib.hid hu
        have hbw := HBV.out
        rw [hm, hu, hn] at hbw
        simp only [Bool.true_and, Bool.and_true, Bool.false_and, Bool.and_false, Bool.or_true, Bool.true_or, Bool.or_false, Bool.false_or, Bool.not_true, Bool.not_false] at hbw
        clear hm hu HBV
        first | (have hn2 := of_decide_eq_true hn) | (have hn2 := of_decide_eq_false hn)
        first | (cases hbw; done) | clear hbw)
      all_goals (
        go_wp2_with (first
          | (go_at_call 29; with_reducible refine (has7_nat m hk256 HM).mono ?_; rintro e w2 ⟨rfl, rfl⟩)
          | (go_at_call 29; with_reducible refine (has7_nat u hk256 HU).mono ?_; rintro e w2 ⟨rfl, rfl⟩)
          | fail))
      all_goals first
        | (
          go_roundw
          case rel => exact ⟨k + 1, by omega, by go_num, by first | rfl | trivial⟩
          case measure => simp [intOf]; omega)
        | (exfalso; omega)
    · obtain rfl : k = 8 := by omega
      go_wp2_with (refine wpList_load_dt 4 rfl (by kernel_rfl) g rfl _ HD.out.blk HD.out.v.sz ?_)
      refine (find_any HD.out.v HE.out (by have := H8.out; omega) v).mono ?_
      rintro e w2 ⟨z, rfl, hz, hb⟩
      have hz1 : z = -1 := by
        rcases hz with ⟨_, e⟩ | ⟨k, x, rfl, hx, hf⟩
        · exact e
        · have := vfind_none.2 HH.out
          rw [this] at hf
          cases hf
      subst hz1
      have HD2 := Lib.hid (HD.out.next hb)
      have HE2 := Lib.hid (HE.out.next hb)
      have HZ2 := Lib.hid (HZ.out.below hb HZ.out.lt)
      have HB2 : Hid (Below w.heap.size w w2) := Lib.hid (HB.out.trans (hb.mono HB.out.size))
      have c1 := HD2.out.c1
      rw [HL.out] at c1
      clear hb hz HD HE HZ HB c0
      go_wp2_with (first | refine wpList_load_dt 4 rfl (by kernel_rfl) g rfl _ HD2.out.blk HD2.out.v.sz ?_ | refine wpList_store_row rfl 36 (.tmp 8) _ rfl (g + 1) rfl (cs) rfl 36 _ HZ2.out (by rw [HD2.out.v.sz]; exact info_rt) (by first | rw [HD2.out.v.sz]; rfl | (rw [HD2.out.v.sz]; exact rfl)) HD2.out.v.one ?_)
      have HR := Lib.hid (HZ2.out.row (cs))
      refine bodyPost_ret (v := .tuple #[.agg (cs), .int .i64 6]) (results_cell_slot Try.results22 _ _ (g + 1) 36 _ _ rfl HR.out Try.underlying36 rfl (by rw [HD2.out.v.sz]; exact info_rt) _ rfl) rfl ⟨_, _, _, rfl, HD2.out.v, els_row HE2.out HZ2.out (fun b off e h0 => by have := HA.out b off e h0; show b ≠ g + 1; omega) _, ?_, below_row HB2.out (by rw [HG.out]; omega) _⟩
      exact fun b off e => .inl ⟨rfl, rfl⟩

set_option maxRecDepth 100000 in
set_option maxHeartbeats 8000000 in
theorem dput_ok {w : World} {cs : Array Value} {N c : Nat} {A : Option Addr} {L : List Vn} {own : List UInt16} (hv : DTV cs N A c L own) (hE : Els 3 encN w A L) (h8 : L.length ≤ 8) (hN : N ≤ 8) (v : UInt16) (m u : UInt8) (hk : okV v = true) (hb : setBad N v m u = false) (hh : vhas L v = true ∨ L.length < 8) :
    Calls Try.prog 22 #[.agg cs, .int .u16 v.toNat, .int .u8 m.toNat, .int .u8 u.toNat] w fun e w' => DP w A L N (0) (vput L ⟨v, m, u⟩) (own) e w' := by
  obtain ⟨i0, hi, hz0, hz1, hz2⟩ := info_parts infoN
  have HI := Lib.hid (And.intro hi (And.intro hz0 (And.intro hz1 hz2)))
  clear hi hz0 hz1 hz2
  have HH := Lib.hid hh
  clear hh
  obtain ⟨w1, hw1⟩ : ∃ w1, (w.alloc (.cells cs 36)).alloc (.cells #[.int .i64 0, .slice none 0 0, .int .u16 0, .int .u16 0, .int .u16 0, .int .u16 0, .int .u16 0, .int .u16 0, .int .u16 0, .int .u16 0] 36) = w1 := ⟨_, rfl⟩
  obtain ⟨g, hg⟩ : ∃ g, w.heap.size = g := ⟨_, rfl⟩
  have HB := Lib.hid (show Below w.heap.size w w1 by rw [← hw1]; exact ((Below.refl w.heap.size w).alloc (Nat.le_refl _) _).alloc (by simp) _)
  have HD := Lib.hid (show DT w1 g cs N A c L own from ⟨by rw [← hw1, ← hg]; exact (Blk.new w _ _).alloc _, hv⟩)
  have HZ := Lib.hid (show Blk w1 (g + 1) 36 #[.int .i64 0, .slice none 0 0, .int .u16 0, .int .u16 0, .int .u16 0, .int .u16 0, .int .u16 0, .int .u16 0, .int .u16 0, .int .u16 0] by rw [← hw1, ← hg]; have := Blk.new (w.alloc (.cells cs 36)) 36 #[.int .i64 0, .slice none 0 0, .int .u16 0, .int .u16 0, .int .u16 0, .int .u16 0, .int .u16 0, .int .u16 0, .int .u16 0, .int .u16 0]; simpa using this)
  have HE := Lib.hid (hE.next HB.out)
  have HG := Lib.hid hg
  have HA : Hid (∀ b off, A = some ⟨b, off, none⟩ → 0 < L.length → b < g) := Lib.hid (fun b off e h0 => by rw [← hg]; exact els_lt hE e h0)
  clear hv hE
  have hq := okV_yes hk
  have hk1 : ¬ ((v.toNat : Int) < 1) := by omega
  have hk2 : ¬ ((4094 : Int) < v.toNat) := by omega
  have HGOOD : Hid (∀ k, k < 8 → bad1 N m u k = false) := Lib.hid ((bad_all (u := u) (m := m) hN hk).1 hb)
  have c0 := HD.out.c0
  have H8 := Lib.hid h8
  clear hq hk h8 hb hN
  go_enter Try.func22, Try.ntmps22
  go_upto_region 1 with fail
  clear hw1 hg
  go_wp2_with fail
  go_loopw [10] (fun i wr => ∃ k : Nat, k ≤ 8 ∧ i = .int .u8 k ∧ w1 = wr) (fun i _ => 8 - (intOf i).toNat)
  case atStart => exact ⟨0, by omega, rfl, rfl⟩
  case round =>
    obtain ⟨k, hk, rfl, rfl⟩ := hrel
    by_cases hlt : k < 8
    · have hk256 : k < 256 := by omega
      have hwk : wrap64 (k : Int) = (k : Int) := by unfold wrap64; omega
      have hk8 : (k : Int) < 8 := by omega
      have HBV : Hid (((hasN m k && decide (N ≤ k)) || (hasN u k && !hasN m k)) = false) := Lib.hid (HGOOD.out k hlt)
      cases hm : hasN m k <;> cases hu : hasN u k <;> cases hn : decide (N ≤ k)
      all_goals (
        have hn' := le_int hn
        have HM := Lib.hid hm
        have HU := Lib.hid hu
        have hbw := HBV.out
        rw [hm, hu, hn] at hbw
        simp only [Bool.true_and, Bool.and_true, Bool.false_and, Bool.and_false, Bool.or_true, Bool.true_or, Bool.or_false, Bool.false_or, Bool.not_true, Bool.not_false] at hbw
        clear hm hu HBV
        first | (have hn2 := of_decide_eq_true hn) | (have hn2 := of_decide_eq_false hn)
        first | (cases hbw; done) | clear hbw)
      all_goals (
        go_wp2_with (first
          | (go_at_call 29; with_reducible refine (has7_nat m hk256 HM).mono ?_; rintro e w2 ⟨rfl, rfl⟩)
          | (go_at_call 29; with_reducible refine (has7_nat u hk256 HU).mono ?_; rintro e w2 ⟨rfl, rfl⟩)
          | fail))
      all_goals first
        | (
          go_roundw
          case rel => exact ⟨k + 1, by omega, by go_num, by first | rfl | trivial⟩
          case measure => simp [intOf]; omega)
        | (exfalso; omega)
    · obtain rfl : k = 8 := by omega
      clear c0 HGOOD
      go_upto_region 8 with fail
      go_cut [56] (fun t wx => t = .bool false ∧ Hid (Below w1.heap.size w1 wx))
      case first =>
        go_wp2_with (refine wpList_load_dt 4 rfl (by kernel_rfl) g rfl _ HD.out.blk HD.out.v.sz ?_)
        refine (find_any HD.out.v HE.out (by have := H8.out; omega) v).mono ?_
        rintro e w2 ⟨z, rfl, hz, hb⟩
        have c1 := (HD.out.next hb).c1
        have HB2 := Lib.hid hb
        rcases hz with ⟨hno, rfl⟩ | ⟨k, x, rfl, hx, hf⟩
        · have hl8 : L.length < 8 := by
            rcases HH.out with e | e
            · rw [hno] at e; cases e
            · exact e
          obtain ⟨n, hn⟩ : ∃ n, L.length = n := ⟨_, rfl⟩
          rw [hn] at c1 hl8
          have hl8' : (n : Int) < 8 := by omega
          clear hb hn hno
          go_wp2_with fail
          go_meet
          exact ⟨congrArg Value.bool (by simp; omega), HB2⟩
        · clear hb hx hf c1
          go_wp2_with fail
          go_meet
          exact ⟨rfl, HB2⟩
      case rest =>
        obtain ⟨rfl, HC⟩ := hcut
        have HDc := Lib.hid (HD.out.next HC.out)
        have HEc := Lib.hid (HE.out.next HC.out)
        have HZc := Lib.hid (HZ.out.below HC.out HZ.out.lt)
        have HBc : Hid (Below w.heap.size w wc) := Lib.hid (HB.out.trans (HC.out.mono HB.out.size))
        have HLc := Lib.hid HZc.out.lt
        clear HD HE HZ HB HC
        go_wp2_with (refine wpList_load_dt 4 rfl (by kernel_rfl) g rfl _ HDc.out.blk HDc.out.v.sz ?_)
        refine (without_any HDc.out.v HEc.out H8.out v).mono ?_
        rintro e w3 ⟨cs', A', c', rfl, hv', hE', hA', hb⟩
        have HZ3 := Lib.hid (HZc.out.below hb HZc.out.lt)
        have HB3 : Hid (Below w.heap.size w w3) := Lib.hid (HBc.out.trans (hb.mono HBc.out.size))
        have HK3 := Lib.hid (HDc.out.blk.below hb HDc.out.blk.lt)
        have HSZ := Lib.hid HDc.out.v.sz
        have HV3 := Lib.hid hv'
        have HEv := Lib.hid hE'
        have HA3 := Lib.hid hA'
        have HW : Hid (w.heap.size ≤ wc.heap.size) := Lib.hid HBc.out.size
        clear hb hv' hE' hA' HDc HEc HZc HBc
        obtain ⟨D, hD⟩ : ∃ D, vdel L v = D := ⟨_, rfl⟩
        obtain ⟨n, hn⟩ : ∃ n, D.length = n := ⟨_, rfl⟩
        have hn8 : n ≤ 8 := by rw [← hn, ← hD]; exact Nat.le_trans (vdel_le L v) H8.out
        have HDD := Lib.hid hD
        rw [hD] at HV3 HEv
        obtain ⟨w4, hw4⟩ : ∃ w4, w3.setRow g cs' = w4 := ⟨_, rfl⟩
        have HD4 := Lib.hid (show DT w4 g cs' N A' c' D own from ⟨by rw [← hw4]; exact HK3.out.row cs', HV3.out⟩)
        have HZ4 := Lib.hid (show Blk w4 (g + 1) 36 #[.int .i64 0, .slice none 0 0, .int .u16 0, .int .u16 0, .int .u16 0, .int .u16 0, .int .u16 0, .int .u16 0, .int .u16 0, .int .u16 0] by rw [← hw4]; exact HZ3.out.rowFar (by omega) _)
        have HB4 := Lib.hid (show Below w.heap.size w w4 by rw [← hw4]; exact below_row HB3.out (by rw [HG.out]; exact Nat.le_refl _) _)
        have HE4 := Lib.hid (show Els 3 encN w4 A' D by rw [← hw4]; exact els_row HEv.out HK3.out (fun b off e h0 => by have := HA3.out b off e; have := HLc.out; show b ≠ g; omega) _)
        clear HZ3 HB3 HEv hD
        have c14 := HD4.out.c1
        rw [hn] at c14
        have HN := Lib.hid hn
        clear hn
        go_upto_region 11 with (refine wpList_store_row rfl 36 (.tmp 4) _ rfl g rfl cs' rfl 36 _ HK3.out (by rw [HV3.out.sz]; exact info_rt) (by rw [HV3.out.sz, HSZ.out]) HV3.out.one ?_)
        rw [hw4]
        clear hw4 HK3
        go_wp2_with fail
        go_loopw [11, 12, 13] (fun l d i wr => ∃ k q : Nat, k ≤ n ∧ q ≤ 2 * k ∧ i = .int .i64 k ∧ d = .bool (dn ⟨v, m, u⟩ D k) ∧ Hid (q = (li ⟨v, m, u⟩ D k).length) ∧ Hid (wr.ownsRow w4.heap.size 43 3 l q ((li ⟨v, m, u⟩ D k).flatMap encN)) ∧ Hid (Below w4.heap.size w4 wr)) (fun _ _ i _ => n - (intOf i).toNat)
        case atStart =>
          have h0 := li_zero ⟨v, m, u⟩ D
          exact ⟨0, 0, Nat.zero_le _, by omega, rfl, by rw [h0.1], Lib.hid (by rw [h0.2]; rfl), Lib.hid (by rw [h0.2]; exact World.ownsRow_nil _ _ _ _), Lib.hid (Below.refl _ _)⟩
        case round =>
          obtain ⟨k, q, hk, hq, rfl, rfl, HM, HO, HBr⟩ := hrel
          have HDr := Lib.hid (HD4.out.next HBr.out)
          have c1r := HDr.out.c1
          rw [HN.out] at c1r
          have hsz := HBr.out.size
          by_cases hlt : k < n
          · obtain ⟨y, hy⟩ : ∃ y, D[k]? = some y := ⟨_, List.getElem?_eq_getElem (by rw [HN.out]; exact hlt)⟩
            obtain ⟨b, off, rfl, hb, e0, e1, e2⟩ := els_vn (HE4.out.next HBr.out) hy
            have hkn : (k : Int) < n := by omega
            have HX := Lib.hid hy
            have HP := Lib.hid (@li_past ⟨v, m, u⟩ y D k hy)
            have HHe := Lib.hid (@li_here ⟨v, m, u⟩ y D k hy)
            have HNo := Lib.hid (@li_not ⟨v, m, u⟩ y D k hy)
            clear hy c14
            obtain ⟨yv, hyv⟩ : ∃ z, y.v.toNat = z := ⟨_, rfl⟩
            have HYV := Lib.hid hyv
            rw [hyv] at e0
            obtain ⟨vn, hvn⟩ : ∃ z, v.toNat = z := ⟨_, rfl⟩
            have HVN := Lib.hid hvn
            rw [hvn]
            clear hvn
            cases hdn : dn ⟨v, m, u⟩ D k
            · by_cases hlt2 : v.toNat < y.v.toNat
              · have HF := Lib.hid (HHe.out hdn hlt2)
                rw [hyv, HVN.out] at hlt2
                have hcmp : (vn : Int) < (yv : Int) := by omega
                clear hyv hdn HP HHe HNo
                go_wp2_with (at_builtin; refine stop_ ?_)
                refine Stop.go ?_
                (at_builtin; refine wpl_append_own rfl (.tmp 80) (.tmp 85) 33 rfl w4.heap.size 43 i0 (.agg #[.int .u16 0, .int .u8 0, .int .u8 0]) 3 4 Try.underlying33 HI.out.1 HI.out.2.1 HI.out.2.2.1 HI.out.2.2.2 rfl (by decide) u11 q ((li (Vn.mk v m u) D k).flatMap encN) (by simp [Act.eval, Act.put]) (HO.out.alloc _) ⟨wr.heap.size, 0, none⟩ 1 1 (encN (Vn.mk v m u)) (by simp [Act.eval, Act.put]) rfl (by rw [← HVN.out]; exact newcells wr (encN (Vn.mk v m u)) _) (encN_one _) (by simp only [maxLen]; omega) (by omega) (by simp; omega) ?_; intro v6 w6 ho6 hg6; have HO6 : Hid (w6.ownsRow w4.heap.size 43 3 v6 (q + 1) (((li (Vn.mk v m u) D k) ++ [Vn.mk v m u]).flatMap encN)) := Lib.hid (by rw [vn_snoc]; exact ho6); have HB6 : Hid (Below w4.heap.size w4 w6) := Lib.hid (grown_below (HBr.out.alloc HBr.out.size _) (Nat.le_refl _) (HO.out.alloc _) hg6); have hsz6 := HB6.out.size; have c16 : w6.cell? ⟨g, 1, none⟩ = some (.slice (some ⟨b, off, none⟩) n c') := c1_of (HD4.out.next HB6.out) HN.out; obtain ⟨b', off', eA, hb', y0, y1, y2⟩ := els_vn (HE4.out.next HB6.out) HX.out; cases eA; rw [HYV.out] at y0; clear ho6 hg6 e0 e1 e2 c1r)
                go_wp2_with ((at_builtin; refine wpl_append_own rfl (.tmp 87) (.tmp 93) 33 rfl w4.heap.size 43 i0 (.agg #[.int .u16 0, .int .u8 0, .int .u8 0]) 3 4 Try.underlying33 HI.out.1 HI.out.2.1 HI.out.2.2.1 HI.out.2.2.2 rfl (by decide) v6 (q + 1) (((li (Vn.mk v m u) D k) ++ [Vn.mk v m u]).flatMap encN) (by simp [Act.eval, Act.put]) (HO6.out.alloc _) ⟨w6.heap.size, 0, none⟩ 1 1 (encN y) (by simp [Act.eval, Act.put]) rfl (by rw [← HYV.out]; exact newcells w6 (encN y) _) (encN_one _) (by simp only [maxLen]; omega) (by omega) (by simp; omega) ?_; intro v7 w7 ho7 hg7; have HO7 : Hid (w7.ownsRow w4.heap.size 43 3 v7 (q + 2) ((li (Vn.mk v m u) D (k + 1)).flatMap encN)) := Lib.hid (by rw [HF.out.2, vn_snoc]; exact ho7); have HB7 : Hid (Below w4.heap.size w4 w7) := Lib.hid (grown_below (HB6.out.alloc HB6.out.size _) (Nat.le_refl _) (HO6.out.alloc _) hg7); clear ho7 hg7))
                go_roundw
                case rel => exact ⟨k + 1, q + 2, by omega, by omega, by go_num, by rw [HF.out.1], Lib.hid (by rw [HF.out.2]; simp [HM.out]), HO7, HB7⟩
                case measure => simp [intOf]; omega
              · have HF := Lib.hid (HNo.out hdn hlt2)
                rw [hyv, HVN.out] at hlt2
                have hcmp : ¬ ((vn : Int) < (yv : Int)) := by omega
                clear hyv hdn HP HHe HNo
                go_wp2_with ((at_builtin; refine wpl_append_own rfl (.tmp 87) (.tmp 93) 33 rfl w4.heap.size 43 i0 (.agg #[.int .u16 0, .int .u8 0, .int .u8 0]) 3 4 Try.underlying33 HI.out.1 HI.out.2.1 HI.out.2.2.1 HI.out.2.2.2 rfl (by decide) u11 q ((li (Vn.mk v m u) D k).flatMap encN) (by simp [Act.eval, Act.put]) (HO.out.alloc _) ⟨wr.heap.size, 0, none⟩ 1 1 (encN y) (by simp [Act.eval, Act.put]) rfl (by rw [← HYV.out]; exact newcells wr (encN y) _) (encN_one _) (by simp only [maxLen]; omega) (by omega) (by simp; omega) ?_; intro v6 w6 ho6 hg6; have HO6 : Hid (w6.ownsRow w4.heap.size 43 3 v6 (q + 1) ((li (Vn.mk v m u) D (k + 1)).flatMap encN)) := Lib.hid (by rw [HF.out.2, vn_snoc]; exact ho6); have HB6 : Hid (Below w4.heap.size w4 w6) := Lib.hid (grown_below (HBr.out.alloc HBr.out.size _) (Nat.le_refl _) (HO.out.alloc _) hg6); clear ho6 hg6))
                go_roundw
                case rel => exact ⟨k + 1, q + 1, by omega, by omega, by go_num, by rw [HF.out.1], Lib.hid (by rw [HF.out.2]; simp [HM.out]), HO6, HB6⟩
                case measure => simp [intOf]; omega
            · have HF := Lib.hid (HP.out hdn)
              clear hyv hdn HP HHe HNo
              go_wp2_with ((at_builtin; refine wpl_append_own rfl (.tmp 87) (.tmp 93) 33 rfl w4.heap.size 43 i0 (.agg #[.int .u16 0, .int .u8 0, .int .u8 0]) 3 4 Try.underlying33 HI.out.1 HI.out.2.1 HI.out.2.2.1 HI.out.2.2.2 rfl (by decide) u11 q ((li (Vn.mk v m u) D k).flatMap encN) (by simp [Act.eval, Act.put]) (HO.out.alloc _) ⟨wr.heap.size, 0, none⟩ 1 1 (encN y) (by simp [Act.eval, Act.put]) rfl (by rw [← HYV.out]; exact newcells wr (encN y) _) (encN_one _) (by simp only [maxLen]; omega) (by omega) (by simp; omega) ?_; intro v6 w6 ho6 hg6; have HO6 : Hid (w6.ownsRow w4.heap.size 43 3 v6 (q + 1) ((li (Vn.mk v m u) D (k + 1)).flatMap encN)) := Lib.hid (by rw [HF.out.2, vn_snoc]; exact ho6); have HB6 : Hid (Below w4.heap.size w4 w6) := Lib.hid (grown_below (HBr.out.alloc HBr.out.size _) (Nat.le_refl _) (HO.out.alloc _) hg6); clear ho6 hg6))
              go_roundw
              case rel => exact ⟨k + 1, q + 1, by omega, by omega, by go_num, by rw [HF.out.1], Lib.hid (by rw [HF.out.2]; simp [HM.out]), HO6, HB6⟩
              case measure => simp [intOf]; omega
          · obtain rfl : k = n := by omega
            have HEnd : Hid ((dn (Vn.mk v m u) D k = true → li (Vn.mk v m u) D k = vput L (Vn.mk v m u)) ∧ (dn (Vn.mk v m u) D k = false → li (Vn.mk v m u) D k ++ [Vn.mk v m u] = vput L (Vn.mk v m u))) := Lib.hid (by
              have h := @li_end (Vn.mk v m u) D
              rw [HN.out] at h
              unfold vput
              rw [HDD.out]
              exact h)
            clear c14
            cases hdn : dn ⟨v, m, u⟩ D k
            · obtain ⟨vn, hvn⟩ : ∃ z, v.toNat = z := ⟨_, rfl⟩
              have HVN := Lib.hid hvn
              have HLL := Lib.hid (HEnd.out.2 hdn)
              have HML : Hid (q + 1 = (vput L (Vn.mk v m u)).length) := Lib.hid (by rw [← HLL.out]; simp [HM.out])
              rw [hvn]
              clear hvn hdn HEnd
              go_wp2_with (at_builtin; refine stop_ ?_)
              refine Stop.go ?_
              (at_builtin; refine wpl_append_own rfl (.tmp 97) (.tmp 102) 33 rfl w4.heap.size 43 i0 (.agg #[.int .u16 0, .int .u8 0, .int .u8 0]) 3 4 Try.underlying33 HI.out.1 HI.out.2.1 HI.out.2.2.1 HI.out.2.2.2 rfl (by decide) u11 q ((li (Vn.mk v m u) D k).flatMap encN) (by simp [Act.eval, Act.put]) (HO.out.alloc _) ⟨wr.heap.size, 0, none⟩ 1 1 (encN (Vn.mk v m u)) (by simp [Act.eval, Act.put]) rfl (by rw [← HVN.out]; exact newcells wr (encN (Vn.mk v m u)) _) (encN_one _) (by simp only [maxLen]; omega) (by omega) (by simp; omega) ?_; intro v6 w6 ho6 hg6; have HO6 : Hid (w6.ownsRow w4.heap.size 43 3 v6 (vput L (Vn.mk v m u)).length ((vput L (Vn.mk v m u)).flatMap encN)) := Lib.hid (by rw [← HML.out, ← HLL.out, vn_snoc]; exact ho6); have HB6 : Hid (Below w4.heap.size w4 w6) := Lib.hid (grown_below (HBr.out.alloc HBr.out.size _) (Nat.le_refl _) (HO.out.alloc _) hg6); clear ho6 hg6)
              obtain ⟨A5, c5, rfl, hE5, hA5⟩ := own_elsB (enc := encN) (k := 3) (fun _ => rfl) HO6.out
              have HD6 := Lib.hid (HD4.out.next HB6.out)
              have c16 := c1_of HD6.out HN.out
              have f16 : w6.frozen? ⟨g, 1, none⟩ = false := HD6.out.blk.frozen 1
              obtain ⟨w8, hw8⟩ : ∃ w8, w6.setCell ⟨g, 1, none⟩ (.slice A5 (vput L (Vn.mk v m u)).length c5) = w8 := ⟨_, rfl⟩
              have HD8 := Lib.hid (show DT w8 g (cs'.setIfInBounds 1 (.slice A5 (vput L (Vn.mk v m u)).length c5)) N A5 c5 (vput L (Vn.mk v m u)) own from ⟨by rw [← hw8]; exact HD6.out.blk.put 1 _, HD6.out.v.setL⟩)
              have HZ8 := Lib.hid (show Blk w8 (g + 1) 36 #[.int .i64 0, .slice none 0 0, .int .u16 0, .int .u16 0, .int .u16 0, .int .u16 0, .int .u16 0, .int .u16 0, .int .u16 0, .int .u16 0] by rw [← hw8]; exact ((HZ4.out.below HB6.out HZ4.out.lt).far (p := ⟨g, 1, none⟩) (by simp) _))
              have HB8 := Lib.hid (show Below w.heap.size w w8 by rw [← hw8]; exact (HB4.out.trans (HB6.out.mono HB4.out.size)).setCell (p := ⟨g, 1, none⟩) (by rw [HG.out]; exact Nat.le_refl _) _)
              have HA8 := Lib.hid hA5
              have HE8 := Lib.hid (show Els 3 encN w8 A5 (vput L (Vn.mk v m u)) by
                rw [← hw8]
                intro h0
                obtain ⟨b, off, e, hlt, hc⟩ := hE5 h0
                refine ⟨b, off, e, by simpa [World.setCell] using hlt, fun i hi j u hu => ?_⟩
                rw [World.cell?_of_block (w := w6) (a := ⟨b, off + i * 3 + j, none⟩) (Below.heap_setCell w6 ⟨g, 1, none⟩ _ b (by
                  have h1 := hA5 b off e
                  have h2 := HD4.out.blk.lt
                  show b ≠ g
                  omega))]
                exact hc i hi j u hu)
              clear hE5 hA5
              go_upto_region 23 with fail
              clear hw8 c16 f16
              go_wp2_with (first | refine wpList_load_dt 4 rfl (by kernel_rfl) g rfl _ HD8.out.blk HD8.out.v.sz ?_ | refine wpList_store_row rfl 36 (.tmp 8) _ rfl (g + 1) rfl ((cs'.setIfInBounds 1 (.slice A5 (vput L (Vn.mk v m u)).length c5))) rfl 36 _ HZ8.out (by rw [HD8.out.v.sz]; exact info_rt) (by first | rw [HD8.out.v.sz]; rfl | (rw [HD8.out.v.sz]; exact rfl)) HD8.out.v.one ?_)
              have HR := Lib.hid (HZ8.out.row ((cs'.setIfInBounds 1 (.slice A5 (vput L (Vn.mk v m u)).length c5))))
              refine bodyPost_ret (v := .tuple #[.agg ((cs'.setIfInBounds 1 (.slice A5 (vput L (Vn.mk v m u)).length c5))), .int .i64 0]) (results_cell_slot Try.results22 _ _ (g + 1) 36 _ _ rfl HR.out Try.underlying36 rfl (by rw [HD8.out.v.sz]; exact info_rt) _ rfl) rfl ⟨_, _, _, rfl, HD8.out.v, els_row HE8.out HZ8.out (fun b off e h0 => by have := HA8.out b off e; have := HZ4.out.lt; show b ≠ g + 1; omega) _, ?_, below_row HB8.out (by rw [HG.out]; omega) _⟩
              exact fun b off e => .inr (Nat.le_trans HB4.out.size (HA8.out b off e))
            · have HLL := Lib.hid (HEnd.out.1 hdn)
              have HO6 : Hid (wr.ownsRow w4.heap.size 43 3 u11 (vput L (Vn.mk v m u)).length ((vput L (Vn.mk v m u)).flatMap encN)) := Lib.hid (by rw [← HLL.out, ← HM.out]; exact HO.out)
              clear hdn HEnd
              obtain ⟨A5, c5, rfl, hE5, hA5⟩ := own_elsB (enc := encN) (k := 3) (fun _ => rfl) HO6.out
              have HD6 := Lib.hid (HD4.out.next HBr.out)
              have c16 := c1_of HD6.out HN.out
              have f16 : wr.frozen? ⟨g, 1, none⟩ = false := HD6.out.blk.frozen 1
              obtain ⟨w8, hw8⟩ : ∃ w8, wr.setCell ⟨g, 1, none⟩ (.slice A5 (vput L (Vn.mk v m u)).length c5) = w8 := ⟨_, rfl⟩
              have HD8 := Lib.hid (show DT w8 g (cs'.setIfInBounds 1 (.slice A5 (vput L (Vn.mk v m u)).length c5)) N A5 c5 (vput L (Vn.mk v m u)) own from ⟨by rw [← hw8]; exact HD6.out.blk.put 1 _, HD6.out.v.setL⟩)
              have HZ8 := Lib.hid (show Blk w8 (g + 1) 36 #[.int .i64 0, .slice none 0 0, .int .u16 0, .int .u16 0, .int .u16 0, .int .u16 0, .int .u16 0, .int .u16 0, .int .u16 0, .int .u16 0] by rw [← hw8]; exact ((HZ4.out.below HBr.out HZ4.out.lt).far (p := ⟨g, 1, none⟩) (by simp) _))
              have HB8 := Lib.hid (show Below w.heap.size w w8 by rw [← hw8]; exact (HB4.out.trans (HBr.out.mono HB4.out.size)).setCell (p := ⟨g, 1, none⟩) (by rw [HG.out]; exact Nat.le_refl _) _)
              have HA8 := Lib.hid hA5
              have HE8 := Lib.hid (show Els 3 encN w8 A5 (vput L (Vn.mk v m u)) by
                rw [← hw8]
                intro h0
                obtain ⟨b, off, e, hlt, hc⟩ := hE5 h0
                refine ⟨b, off, e, by simpa [World.setCell] using hlt, fun i hi j u hu => ?_⟩
                rw [World.cell?_of_block (w := wr) (a := ⟨b, off + i * 3 + j, none⟩) (Below.heap_setCell wr ⟨g, 1, none⟩ _ b (by
                  have h1 := hA5 b off e
                  have h2 := HD4.out.blk.lt
                  show b ≠ g
                  omega))]
                exact hc i hi j u hu)
              clear hE5 hA5
              go_upto_region 23 with fail
              clear hw8 c16 f16
              go_wp2_with (first | refine wpList_load_dt 4 rfl (by kernel_rfl) g rfl _ HD8.out.blk HD8.out.v.sz ?_ | refine wpList_store_row rfl 36 (.tmp 8) _ rfl (g + 1) rfl ((cs'.setIfInBounds 1 (.slice A5 (vput L (Vn.mk v m u)).length c5))) rfl 36 _ HZ8.out (by rw [HD8.out.v.sz]; exact info_rt) (by first | rw [HD8.out.v.sz]; rfl | (rw [HD8.out.v.sz]; exact rfl)) HD8.out.v.one ?_)
              have HR := Lib.hid (HZ8.out.row ((cs'.setIfInBounds 1 (.slice A5 (vput L (Vn.mk v m u)).length c5))))
              refine bodyPost_ret (v := .tuple #[.agg ((cs'.setIfInBounds 1 (.slice A5 (vput L (Vn.mk v m u)).length c5))), .int .i64 0]) (results_cell_slot Try.results22 _ _ (g + 1) 36 _ _ rfl HR.out Try.underlying36 rfl (by rw [HD8.out.v.sz]; exact info_rt) _ rfl) rfl ⟨_, _, _, rfl, HD8.out.v, els_row HE8.out HZ8.out (fun b off e h0 => by have := HA8.out b off e; have := HZ4.out.lt; show b ≠ g + 1; omega) _, ?_, below_row HB8.out (by rw [HG.out]; omega) _⟩
              exact fun b off e => .inr (Nat.le_trans HB4.out.size (HA8.out b off e))
end Go.Proofs.Yteiopobkbfancaa
