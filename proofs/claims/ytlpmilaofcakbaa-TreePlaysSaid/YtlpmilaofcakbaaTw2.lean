/- Layer 9: Role, Forwards, Root. -/
import Derived.Test.YtlpmilaofcakbaaTw1
import Derived.Shelf.SlSortCmp.QuietGrown
import Derived.BigQuiet
import Derived.Deep.QuietTactic
import Derived.StillTailTactics
namespace Go.Proofs.Ytlpmilaofcakbaa
open Go.RowKit Go.Shelf
open Go.Sort (grow)
set_option linter.unusedVariables false
set_option linter.unusedSimpArgs false
set_option maxRecDepth 100000

theorem cell_grT {w : World} {a : Addr} {v : Value} (h : w.cell? a = some v) (n : Nat) (os : Array Obj) : (grow (w.drewN n) os).cell? a = some v := cell_grown (World.block_lt_of_cell? w _ h) h n os
theorem calls_cast {P : Program} {f : FuncId} {args : Array Value} {w : World} {a b : Value} {K : World → Prop} (h : Calls P f args w fun e w' => e = .returned a ∧ K w') (hab : a = b) : Calls P f args w fun e w' => e = .returned b ∧ K w' := by rw [← hab]; exact h

set_option maxHeartbeats 2000000 in
theorem role_dis {w : World} {g i : Nat} {M : Mch} {p : Sd} (hM : MaP w g M) (h8 : M.ps.length ≤ 8) (hi : i < M.ps.length) (hp : M.port i = p) (hu : p.up = false) :
    Calls Try.prog 24 #[.pointer (some ⟨g, 0, none⟩), .int .u8 (i : Nat)] w fun e w' => e = .returned (.int .u8 0) ∧ Gro w w' := by
  have S := hM.sd h8 hi
  rw [hp] at S
  have HD := Lib.hid (hM.hd h8)
  have HS := Lib.hid S
  have hi8 : i < 8 := by omega
  have kH := has_any (i := i) HD.out.c1
  rw [decide_eq_true hi] at kH
  have HM := Lib.hid hM
  clear hp h8 hi hM
  have c1 := S.c1
  rw [hu] at c1
  clear hu
  clear S
  go_enter Try.func24, Try.ntmps24
  go_wp2_with fail
  refine kH.mono ?_
  rintro e w' ⟨rfl, rfl⟩
  go_wp2
  go_ret
  exact ⟨rfl, Gro.refl _⟩

set_option maxHeartbeats 2000000 in
theorem role_edge {w : World} {g i : Nat} {M : Mch} {p : Sd} (hM : MaP w g M) (h8 : M.ps.length ≤ 8) (hi : i < M.ps.length) (hp : M.port i = p) (hu : p.up = true) (hl : p.live = false) :
    Calls Try.prog 24 #[.pointer (some ⟨g, 0, none⟩), .int .u8 (i : Nat)] w fun e w' => e = .returned (.int .u8 5) ∧ Gro w w' := by
  have S := hM.sd h8 hi
  rw [hp] at S
  have HD := Lib.hid (hM.hd h8)
  have HS := Lib.hid S
  have hi8 : i < 8 := by omega
  have kH := has_any (i := i) HD.out.c1
  rw [decide_eq_true hi] at kH
  have HM := Lib.hid hM
  clear hp h8 hi hM
  have c1 := S.c1
  rw [hu] at c1
  clear hu
  have kL := isLink_any S
  rw [hl] at kL
  clear hl
  clear S
  go_enter Try.func24, Try.ntmps24
  go_wp2_with fail
  refine kH.mono ?_
  rintro e w' ⟨rfl, rfl⟩
  go_wp2_with fail
  refine kL.mono ?_
  rintro e w' ⟨rfl, rfl⟩
  go_wp2
  go_ret
  exact ⟨rfl, Gro.refl _⟩

set_option maxHeartbeats 2000000 in
theorem role_root {w : World} {g i : Nat} {M : Mch} {p : Sd} (hM : MaP w g M) (h8 : M.ps.length ≤ 8) (hi : i < M.ps.length) (hp : M.port i = p) (hu : p.up = true) (hl : p.live = true) (hn : ((i : Int) == M.inn) = true) :
    Calls Try.prog 24 #[.pointer (some ⟨g, 0, none⟩), .int .u8 (i : Nat)] w fun e w' => e = .returned (.int .u8 1) ∧ Gro w w' := by
  have S := hM.sd h8 hi
  rw [hp] at S
  have HD := Lib.hid (hM.hd h8)
  have HS := Lib.hid S
  have hi8 : i < 8 := by omega
  have kH := has_any (i := i) HD.out.c1
  rw [decide_eq_true hi] at kH
  have HM := Lib.hid hM
  clear hp h8 hi hM
  have c1 := S.c1
  rw [hu] at c1
  clear hu
  have kL := isLink_any S
  rw [hl] at kL
  clear hl
  have c132 := HD.out.c132
  clear S
  go_enter Try.func24, Try.ntmps24
  go_wp2_with fail
  refine kH.mono ?_
  rintro e w' ⟨rfl, rfl⟩
  go_wp2_with fail
  refine kL.mono ?_
  rintro e w' ⟨rfl, rfl⟩
  go_wp2
  go_ret
  exact ⟨rfl, Gro.refl _⟩

set_option maxHeartbeats 2000000 in
theorem role_des0 {w : World} {g i : Nat} {M : Mch} {p : Sd} (hM : MaP w g M) (h8 : M.ps.length ≤ 8) (hi : i < M.ps.length) (hp : M.port i = p) (hu : p.up = true) (hl : p.live = true) (hn : ((i : Int) == M.inn) = false) (h0 : (p.la == 0) = true) :
    Calls Try.prog 24 #[.pointer (some ⟨g, 0, none⟩), .int .u8 (i : Nat)] w fun e w' => e = .returned (.int .u8 2) ∧ Gro w w' := by
  have S := hM.sd h8 hi
  rw [hp] at S
  have HD := Lib.hid (hM.hd h8)
  have HS := Lib.hid S
  have hi8 : i < 8 := by omega
  have kH := has_any (i := i) HD.out.c1
  rw [decide_eq_true hi] at kH
  have HM := Lib.hid hM
  clear hp h8 hi hM
  have c1 := S.c1
  rw [hu] at c1
  clear hu
  have kL := isLink_any S
  rw [hl] at kL
  clear hl
  have c132 := HD.out.c132
  have c13 := S.c13
  clear S
  go_enter Try.func24, Try.ntmps24
  go_wp2_with fail
  refine kH.mono ?_
  rintro e w' ⟨rfl, rfl⟩
  go_wp2_with fail
  refine kL.mono ?_
  rintro e w' ⟨rfl, rfl⟩
  go_wp2
  go_ret
  exact ⟨rfl, Gro.refl _⟩

set_option maxHeartbeats 2000000 in
theorem role_des1 {w : World} {g i : Nat} {M : Mch} {p : Sd} (hM : MaP w g M) (h8 : M.ps.length ≤ 8) (hi : i < M.ps.length) (hp : M.port i = p) (hu : p.up = true) (hl : p.live = true) (hn : ((i : Int) == M.inn) = false) (h0 : (p.la == 0) = false) (hL : lessV (M.own i) p.b.v = true) :
    Calls Try.prog 24 #[.pointer (some ⟨g, 0, none⟩), .int .u8 (i : Nat)] w fun e w' => e = .returned (.int .u8 2) ∧ Gro w w' := by
  have S := hM.sd h8 hi
  rw [hp] at S
  have HD := Lib.hid (hM.hd h8)
  have HS := Lib.hid S
  have hi8 : i < 8 := by omega
  have kH := has_any (i := i) HD.out.c1
  rw [decide_eq_true hi] at kH
  have HM := Lib.hid hM
  clear hp h8 hi hM
  have c1 := S.c1
  rw [hu] at c1
  clear hu
  have kL := isLink_any S
  rw [hl] at kL
  clear hl
  have c132 := HD.out.c132
  have c13 := S.c13
  obtain ⟨q, hq⟩ : ∃ q, cmpV (M.own i) p.b.v = q := ⟨_, rfl⟩
  have kO : ∀ n os, Calls Try.prog 50 #[.pointer (some ⟨g, 0, none⟩), .int .u8 (i : Nat)] (grow (w.drewN n) os) fun e w' => e = .returned (VV (M.own i)) ∧ ∃ n' os', w' = grow ((grow (w.drewN n) os).drewN n') os' := fun n os =>
    (own_any (HD.out.next (Gro.of_grow n os).below)).mono fun _ _ ⟨he, hg⟩ => ⟨he, hg.out⟩
  have kC : ∀ W, Calls Try.prog 49 #[VV (M.own i), VV p.b.v] W fun e w' => e = .returned (.int .i64 q) ∧ ∃ n' os', w' = grow (W.drewN n') os' := fun W =>
    (compare_any W (M.own i) p.b.v).mono fun _ _ ⟨he, hg⟩ => ⟨by rw [he, hq], hg.out⟩
  have mixed : Try.prog.follows .mixedOrders = true := by kernel_rfl
  have g2 := fun n os => cell_grT S.c2 n os
  have g3 := fun n os => cell_grT S.c3 n os
  have g4 := fun n os => cell_grT S.c4 n os
  have g5 := fun n os => cell_grT S.c5 n os
  have hql : decide (q < 0) = true := by rw [← hq]; simpa using cmpV_lt.2 hL
  have HQ := Lib.hid hq
  clear hq
  clear hL
  clear S
  go_enter Try.func24, Try.ntmps24
  go_wp2_with fail
  refine kH.mono ?_
  rintro e w' ⟨rfl, rfl⟩
  go_wp2_with fail
  refine kL.mono ?_
  rintro e w' ⟨rfl, rfl⟩
  go_wp2_with fail
  refine wp_region_quiet_grown mixed (by kernel_rfl) ?_
  repeat (first | go_big_quiet_step ((first | (go_at_call 50; exact Calls.grown_of (kO _ _)) | (go_at_call 49; exact Calls.grown_of (kC _)))) | quiet_step ((first | (go_at_call 50; exact Calls.grown_of (kO _ _)) | (go_at_call 49; exact Calls.grown_of (kC _)))))
  refine wpQuiet_nil ?_
  intro _ hw'
  obtain ⟨⟨nq, osq⟩, hw''⟩ := hw'
  subst hw''
  have HG := Lib.hid (Gro.of_grow (w := w') nq osq)
  generalize grow (w'.drewN nq) osq = wg at *
  clear kO kC g2 g3 g4 g5 c1 c13 c132
  go_wp2
  go_ret
  exact ⟨rfl, HG.out⟩

set_option maxHeartbeats 2000000 in
theorem role_back {w : World} {g i : Nat} {M : Mch} {p : Sd} (hM : MaP w g M) (h8 : M.ps.length ≤ 8) (hi : i < M.ps.length) (hp : M.port i = p) (hu : p.up = true) (hl : p.live = true) (hn : ((i : Int) == M.inn) = false) (h0 : (p.la == 0) = false) (hL : lessV (M.own i) p.b.v = false) (hb : (p.b.v.b == M.id) = true) :
    Calls Try.prog 24 #[.pointer (some ⟨g, 0, none⟩), .int .u8 (i : Nat)] w fun e w' => e = .returned (.int .u8 4) ∧ Gro w w' := by
  have S := hM.sd h8 hi
  rw [hp] at S
  have HD := Lib.hid (hM.hd h8)
  have HS := Lib.hid S
  have hi8 : i < 8 := by omega
  have kH := has_any (i := i) HD.out.c1
  rw [decide_eq_true hi] at kH
  have HM := Lib.hid hM
  clear hp h8 hi hM
  have c1 := S.c1
  rw [hu] at c1
  clear hu
  have kL := isLink_any S
  rw [hl] at kL
  clear hl
  have c132 := HD.out.c132
  have c13 := S.c13
  obtain ⟨q, hq⟩ : ∃ q, cmpV (M.own i) p.b.v = q := ⟨_, rfl⟩
  have kO : ∀ n os, Calls Try.prog 50 #[.pointer (some ⟨g, 0, none⟩), .int .u8 (i : Nat)] (grow (w.drewN n) os) fun e w' => e = .returned (VV (M.own i)) ∧ ∃ n' os', w' = grow ((grow (w.drewN n) os).drewN n') os' := fun n os =>
    (own_any (HD.out.next (Gro.of_grow n os).below)).mono fun _ _ ⟨he, hg⟩ => ⟨he, hg.out⟩
  have kC : ∀ W, Calls Try.prog 49 #[VV (M.own i), VV p.b.v] W fun e w' => e = .returned (.int .i64 q) ∧ ∃ n' os', w' = grow (W.drewN n') os' := fun W =>
    (compare_any W (M.own i) p.b.v).mono fun _ _ ⟨he, hg⟩ => ⟨by rw [he, hq], hg.out⟩
  have mixed : Try.prog.follows .mixedOrders = true := by kernel_rfl
  have g2 := fun n os => cell_grT S.c2 n os
  have g3 := fun n os => cell_grT S.c3 n os
  have g4 := fun n os => cell_grT S.c4 n os
  have g5 := fun n os => cell_grT S.c5 n os
  have hql : decide (q < 0) = false := by rw [← hq]; simpa using (show ¬ cmpV (M.own i) p.b.v < 0 from fun h => by rw [cmpV_lt.1 h] at hL; cases hL)
  have HQ := Lib.hid hq
  clear hq
  clear hL
  clear S
  go_enter Try.func24, Try.ntmps24
  go_wp2_with fail
  refine kH.mono ?_
  rintro e w' ⟨rfl, rfl⟩
  go_wp2_with fail
  refine kL.mono ?_
  rintro e w' ⟨rfl, rfl⟩
  go_wp2_with fail
  refine wp_region_quiet_grown mixed (by kernel_rfl) ?_
  repeat (first | go_big_quiet_step ((first | (go_at_call 50; exact Calls.grown_of (kO _ _)) | (go_at_call 49; exact Calls.grown_of (kC _)))) | quiet_step ((first | (go_at_call 50; exact Calls.grown_of (kO _ _)) | (go_at_call 49; exact Calls.grown_of (kC _)))))
  refine wpQuiet_nil ?_
  intro _ hw'
  obtain ⟨⟨nq, osq⟩, hw''⟩ := hw'
  subst hw''
  have HG := Lib.hid (Gro.of_grow (w := w') nq osq)
  generalize grow (w'.drewN nq) osq = wg at *
  clear kO kC g2 g3 g4 g5 c1 c13 c132
  have c4 := (HS.out.next HG.out.below).c4
  have c0 := (HD.out.next HG.out.below).c0
  go_wp2_with fail
  go_quiet (fail)
  go_wp2
  go_ret
  exact ⟨rfl, HG.out.drewN _⟩

set_option maxHeartbeats 2000000 in
theorem role_alt {w : World} {g i : Nat} {M : Mch} {p : Sd} (hM : MaP w g M) (h8 : M.ps.length ≤ 8) (hi : i < M.ps.length) (hp : M.port i = p) (hu : p.up = true) (hl : p.live = true) (hn : ((i : Int) == M.inn) = false) (h0 : (p.la == 0) = false) (hL : lessV (M.own i) p.b.v = false) (hb : (p.b.v.b == M.id) = false) :
    Calls Try.prog 24 #[.pointer (some ⟨g, 0, none⟩), .int .u8 (i : Nat)] w fun e w' => e = .returned (.int .u8 3) ∧ Gro w w' := by
  have S := hM.sd h8 hi
  rw [hp] at S
  have HD := Lib.hid (hM.hd h8)
  have HS := Lib.hid S
  have hi8 : i < 8 := by omega
  have kH := has_any (i := i) HD.out.c1
  rw [decide_eq_true hi] at kH
  have HM := Lib.hid hM
  clear hp h8 hi hM
  have c1 := S.c1
  rw [hu] at c1
  clear hu
  have kL := isLink_any S
  rw [hl] at kL
  clear hl
  have c132 := HD.out.c132
  have c13 := S.c13
  obtain ⟨q, hq⟩ : ∃ q, cmpV (M.own i) p.b.v = q := ⟨_, rfl⟩
  have kO : ∀ n os, Calls Try.prog 50 #[.pointer (some ⟨g, 0, none⟩), .int .u8 (i : Nat)] (grow (w.drewN n) os) fun e w' => e = .returned (VV (M.own i)) ∧ ∃ n' os', w' = grow ((grow (w.drewN n) os).drewN n') os' := fun n os =>
    (own_any (HD.out.next (Gro.of_grow n os).below)).mono fun _ _ ⟨he, hg⟩ => ⟨he, hg.out⟩
  have kC : ∀ W, Calls Try.prog 49 #[VV (M.own i), VV p.b.v] W fun e w' => e = .returned (.int .i64 q) ∧ ∃ n' os', w' = grow (W.drewN n') os' := fun W =>
    (compare_any W (M.own i) p.b.v).mono fun _ _ ⟨he, hg⟩ => ⟨by rw [he, hq], hg.out⟩
  have mixed : Try.prog.follows .mixedOrders = true := by kernel_rfl
  have g2 := fun n os => cell_grT S.c2 n os
  have g3 := fun n os => cell_grT S.c3 n os
  have g4 := fun n os => cell_grT S.c4 n os
  have g5 := fun n os => cell_grT S.c5 n os
  have hql : decide (q < 0) = false := by rw [← hq]; simpa using (show ¬ cmpV (M.own i) p.b.v < 0 from fun h => by rw [cmpV_lt.1 h] at hL; cases hL)
  have HQ := Lib.hid hq
  clear hq
  clear hL
  clear S
  go_enter Try.func24, Try.ntmps24
  go_wp2_with fail
  refine kH.mono ?_
  rintro e w' ⟨rfl, rfl⟩
  go_wp2_with fail
  refine kL.mono ?_
  rintro e w' ⟨rfl, rfl⟩
  go_wp2_with fail
  refine wp_region_quiet_grown mixed (by kernel_rfl) ?_
  repeat (first | go_big_quiet_step ((first | (go_at_call 50; exact Calls.grown_of (kO _ _)) | (go_at_call 49; exact Calls.grown_of (kC _)))) | quiet_step ((first | (go_at_call 50; exact Calls.grown_of (kO _ _)) | (go_at_call 49; exact Calls.grown_of (kC _)))))
  refine wpQuiet_nil ?_
  intro _ hw'
  obtain ⟨⟨nq, osq⟩, hw''⟩ := hw'
  subst hw''
  have HG := Lib.hid (Gro.of_grow (w := w') nq osq)
  generalize grow (w'.drewN nq) osq = wg at *
  clear kO kC g2 g3 g4 g5 c1 c13 c132
  have c4 := (HS.out.next HG.out.below).c4
  have c0 := (HD.out.next HG.out.below).c0
  go_wp2_with fail
  go_quiet (fail)
  go_wp2
  go_ret
  exact ⟨rfl, HG.out.drewN _⟩

/-- Role -/
theorem role_any {w : World} {g i : Nat} {M : Mch} (hM : MaP w g M) (h8 : M.ps.length ≤ 8) :
    Calls Try.prog 24 #[.pointer (some ⟨g, 0, none⟩), .int .u8 (i : Nat)] w fun e w' => e = .returned (.int .u8 (M.role i : Nat)) ∧ Gro w w' := by
  by_cases hi : i < M.ps.length
  · have e1 : M.role i = M.roleOf i (M.port i) := by simp [Mch.role, hi]
    rw [e1]
    obtain ⟨p, hp⟩ : ∃ p, M.port i = p := ⟨_, rfl⟩
    rw [hp]
    unfold Mch.roleOf
    cases hu : p.up with
    | false => exact role_dis hM h8 hi hp hu
    | true =>
      cases hl : p.live with
      | false => exact role_edge hM h8 hi hp hu hl
      | true =>
        simp only [Bool.not_true, Bool.false_eq_true, if_false]
        by_cases hn : (i : Int) = M.inn
        · rw [if_pos hn]; exact role_root hM h8 hi hp hu hl (by simpa using hn)
        · rw [if_neg hn]
          have hn' : ((i : Int) == M.inn) = false := by simpa using hn
          by_cases h0 : p.la = 0
          · rw [if_pos (.inl h0)]; exact role_des0 hM h8 hi hp hu hl hn' (by simpa using h0)
          · have h0' : (p.la == 0) = false := by simpa using h0
            cases hL : lessV (M.own i) p.b.v with
            | true => rw [if_pos (.inr rfl)]; exact role_des1 hM h8 hi hp hu hl hn' h0' hL
            | false =>
              rw [if_neg (by rintro (h | h) <;> simp_all)]
              by_cases hb : p.b.v.b = M.id
              · rw [if_pos hb]; exact role_back hM h8 hi hp hu hl hn' h0' hL (by simpa using hb)
              · rw [if_neg hb]; exact role_alt hM h8 hi hp hu hl hn' h0' hL (by simpa using hb)
  · have e1 : M.role i = 0 := by simp [Mch.role, hi]
    rw [e1]
    have kH := has_any (i := i) (hM.hd h8).c1
    rw [decide_eq_false hi] at kH
    clear hi hM h8 e1
    go_enter Try.func24, Try.ntmps24
    go_wp2_with fail
    refine kH.mono ?_
    rintro e w' ⟨rfl, rfl⟩
    go_wp2
    go_ret
    exact ⟨rfl, Gro.refl _⟩
end Go.Proofs.Ytlpmilaofcakbaa
