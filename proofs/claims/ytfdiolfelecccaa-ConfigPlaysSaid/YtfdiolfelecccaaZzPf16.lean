/- Layer 16, the program: mepMayBe, areNumbers, mayBe; slices.IndexFunc, slices.ContainsFunc at associations. -/
import Derived.Test.YtfdiolfelecccaaZzPe16
import Derived.Test.YtfdiolfelecccaaZz
namespace Go.Proofs.Ytfdiolfelecccaa
open Go.RowKit
open Go.Sort (grow)
set_option linter.unusedVariables false
set_option linter.unusedSimpArgs false
set_option maxRecDepth 100000

section
variable {w : World} {b : Nat} {T : Tb} {X : PX}
set_option maxHeartbeats 4000000 in
theorem mepMay_any (h : Pt w b T X) (m : Mp) : Calls Try.prog 39 #[.pointer (some ⟨b, 0, none⟩), .agg #[.int .i64 m.a, .int .u16 m.m.toNat, .int .u8 m.p.toNat, .bool m.u]] w fun e w' => e = .returned (.bool (T.hasE m)) ∧ Gro w w' := by
  obtain ⟨W, hW⟩ : ∃ W, (w.alloc (.cells #[.int .i64 m.a, .int .u16 m.m.toNat, .int .u8 m.p.toNat, .bool m.u] 59)) = W := ⟨_, rfl⟩
  have HG : Hid (Gro w W) := Lib.hid (by rw [← hW]; exact (Gro.refl w).alloc _)
  have HX := Blk.new w 59 #[.int .i64 m.a, .int .u16 m.m.toNat, .int .u8 m.p.toNat, .bool m.u]
  rw [hW] at HX
  have HT := h.gro HG.out
  have x0 := HX.cell 0
  have x1 := HX.cell 1
  have x2 := HX.cell 2
  have x3 := HX.cell 3
  simp only [List.getElem?_toArray, List.getElem?_cons_succ, List.getElem?_cons_zero] at x0 x1 x2 x3
  have k1 : ∀ n os, Calls Try.prog 32 #[.pointer (some ⟨b, 0, none⟩), .int .i64 m.a] (grow (W.drewN n) os) fun e w' => e = .returned (.bool (decide (0 ≤ m.a) && decide (m.a < T.A.length))) ∧ ∃ q os', w' = grow ((grow (W.drewN n) os).drewN q) os' := fun n os => (isPlace_any (HT.gro (Gro.of_grow n os)) m.a).mono (fun _ _ hh => ⟨hh.1, hh.2.out⟩)
  have k2 : ∀ n os, Calls Try.prog 43 #[.pointer (some ⟨b, 0, none⟩), .int .u8 m.p.toNat] (grow (W.drewN n) os) fun e w' => e = .returned (.bool (decide (m.p.toNat < T.n))) ∧ ∃ q os', w' = grow ((grow (W.drewN n) os).drewN q) os' := fun n os => (isPort_any (HT.gro (Gro.of_grow n os)) m.p).mono (fun _ _ hh => ⟨hh.1, hh.2.out⟩)
  have c1 := HT.c1
  by_cases h1 : 0 ≤ m.a ∧ m.a < T.A.length
  · have q1 : (decide (0 ≤ m.a) && decide (m.a < T.A.length)) = true := by simp [h1.1, h1.2]
    rw [q1] at k1
    by_cases h2 : m.p.toNat < T.n
    · have q2 : decide (m.p.toNat < T.n) = true := by simp [h2]
      rw [q2] at k2
      obtain ⟨y, hy, hya, hyl⟩ := HT.at (j := m.a.toNat) (by omega)
      have hyo : y.a = T.of m := hya
      obtain ⟨bA, off, hA, hltA, a0, a1, a2, a3, a4, a5⟩ := as_at HT.elsA hy
      have hls := own_elsL (HT.lst y hyl)
      have hm8 : y.a.m.length ≤ 1000 := by
        have hmem : T.of m ∈ T.A := by
          unfold Tb.of
          rw [List.getD_eq_getElem?_getD, List.getElem?_eq_getElem (show m.a.toNat < T.A.length by omega)]
          exact List.getElem_mem _
        have := (asM_head (HT.inv.ass _ hmem)).2.2.2.2.2.2.1
        rw [← hyo] at this
        omega
      have hhas : T.hasE m = y.a.m.contains m.m := by
        unfold Tb.hasE
        rw [hyo, decide_eq_true h1.1, decide_eq_true h1.2, q2]
        simp
      rw [hhas]
      have k3 : ∀ n os, Calls Try.prog 53 #[.slice y.b y.a.m.length y.c, .int .u16 m.m.toNat] (grow (W.drewN n) os) fun e w' => e = .returned (.bool (y.a.m.contains m.m)) ∧ ∃ q os', w' = grow ((grow (W.drewN n) os).drewN q) os' := fun n os => ((contU_any _ y.a.m m.m y.b y.c hm8 (hls.1.groP (Gro.of_grow n os))).mono (fun e w_ hh => (⟨hh.1, by rw [hh.2]; exact Gro.refl _⟩ : e = _ ∧ Gro _ w_))).mono (fun _ _ hh => ⟨hh.1, hh.2.out⟩)
      generalize y.a.m.contains m.m = q3 at k3 ⊢
      obtain ⟨n3, hn3⟩ : ∃ n, T.A.length = n := ⟨_, rfl⟩
      rw [hA, hn3] at c1
      have p1 : ¬ m.a < 0 := by omega
      have p2 : m.a < (n3 : Int) := by omega
      have p2' : decide ((n3 : Int) ≤ m.a) = false := by simp; omega
      clear hhas hyo hya hyl hy hls hm8 h1 h2 q1 q2 hA hltA a0 a1 a2 a3 a4 HT h HX hn3
      go_enter Try.func39, Try.ntmps39
      go_wp2_with fail
      try rw [hW]
      clear hW
      have g0 := fun n os => cell_grP x0 n os
      have g1 := fun n os => cell_grP x1 n os
      have g2 := fun n os => cell_grP x2 n os
      have g3 := fun n os => cell_grP x3 n os
      have g4 := fun n os => cell_grP c1 n os
      have g5 := fun n os => cell_grP a5 n os
      have mixed : Try.prog.follows .mixedOrders = true := by kernel_rfl
      refine wp_region_quiet_grown mixed (by kernel_rfl) ?_
      repeat (first | go_big_quiet_step ((first | (go_at_call 32; exact Calls.grown_of (k1 _ _)) | (go_at_call 43; exact Calls.grown_of (k2 _ _)) | (go_at_call 53; exact Calls.grown_of (k3 _ _)))) | quiet_step ((first | (go_at_call 32; exact Calls.grown_of (k1 _ _)) | (go_at_call 43; exact Calls.grown_of (k2 _ _)) | (go_at_call 53; exact Calls.grown_of (k3 _ _)))))
      refine wpQuiet_nil ?_
      intro _ hw'
      obtain ⟨⟨nq, osq⟩, hw''⟩ := hw'
      subst hw''
      have hgr := Gro.of_grow (w := W) nq osq
      clear g0 g1 g2 g3 g4 g5
      generalize grow (W.drewN nq) osq = wq at *
      go_wp2
      go_ret
      exact ⟨rfl, HG.out.trans hgr⟩
    · have q2 : decide (m.p.toNat < T.n) = false := by simp [h2]
      rw [q2] at k2
      have hhas : T.hasE m = false := by
        unfold Tb.hasE
        rw [q2]
        simp
      rw [hhas]
      clear hhas h1 h2 q1 q2 HT h HX c1
      go_enter Try.func39, Try.ntmps39
      go_wp2_with fail
      try rw [hW]
      clear hW
      have g0 := fun n os => cell_grP x0 n os
      have g1 := fun n os => cell_grP x1 n os
      have g2 := fun n os => cell_grP x2 n os
      have g3 := fun n os => cell_grP x3 n os
      have mixed : Try.prog.follows .mixedOrders = true := by kernel_rfl
      refine wp_region_quiet_grown mixed (by kernel_rfl) ?_
      repeat (first | go_big_quiet_step ((first | (go_at_call 32; exact Calls.grown_of (k1 _ _)) | (go_at_call 43; exact Calls.grown_of (k2 _ _)))) | quiet_step ((first | (go_at_call 32; exact Calls.grown_of (k1 _ _)) | (go_at_call 43; exact Calls.grown_of (k2 _ _)))))
      refine wpQuiet_nil ?_
      intro _ hw'
      obtain ⟨⟨nq, osq⟩, hw''⟩ := hw'
      subst hw''
      have hgr := Gro.of_grow (w := W) nq osq
      clear g0 g1 g2 g3
      generalize grow (W.drewN nq) osq = wq at *
      go_wp2
      go_ret
      exact ⟨rfl, HG.out.trans hgr⟩
  · have q1 : (decide (0 ≤ m.a) && decide (m.a < T.A.length)) = false := by
      rw [← Bool.not_eq_true, Bool.and_eq_true]
      simpa using h1
    rw [q1] at k1
    have hhas : T.hasE m = false := by
      unfold Tb.hasE
      rw [← Bool.and_assoc, q1]
      rfl
    rw [hhas]
    clear hhas h1 q1 HT h HX c1 k2
    go_enter Try.func39, Try.ntmps39
    go_wp2_with fail
    try rw [hW]
    clear hW
    have g0 := fun n os => cell_grP x0 n os
    have g1 := fun n os => cell_grP x1 n os
    have g2 := fun n os => cell_grP x2 n os
    have g3 := fun n os => cell_grP x3 n os
    have mixed : Try.prog.follows .mixedOrders = true := by kernel_rfl
    refine wp_region_quiet_grown mixed (by kernel_rfl) ?_
    repeat (first | go_big_quiet_step ((first | (go_at_call 32; exact Calls.grown_of (k1 _ _)))) | quiet_step ((first | (go_at_call 32; exact Calls.grown_of (k1 _ _)))))
    refine wpQuiet_nil ?_
    intro _ hw'
    obtain ⟨⟨nq, osq⟩, hw''⟩ := hw'
    subst hw''
    have hgr := Gro.of_grow (w := W) nq osq
    clear g0 g1 g2 g3
    generalize grow (W.drewN nq) osq = wq at *
    go_wp2
    go_ret
    exact ⟨rfl, HG.out.trans hgr⟩
end
end Go.Proofs.Ytfdiolfelecccaa
