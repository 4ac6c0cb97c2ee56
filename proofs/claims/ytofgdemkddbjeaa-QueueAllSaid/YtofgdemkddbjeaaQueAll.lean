/- Package queue: New, Clear, All over the contracts of Push, Pop, Len. -/
import Derived.Test.YtofgdemkddbjeaaQue
import Derived.Test.YtofgdemkddbjeaaOwn
import Derived.Deep.DeepCutAuto
namespace Go.Proofs.Ytofgdemkddbjeaa
open Go.RowKit Go.Conc
set_option linter.unusedVariables false
set_option linter.unusedSimpArgs false
set_option maxRecDepth 100000

theorem rot_take {L : List Value} {k : Nat} {x : Value} (h : L[k]? = some x) : L.drop k ++ L.take k = x :: (L.drop (k + 1) ++ L.take k) ∧ L.take (k + 1) = L.take k ++ [x] := by
  obtain ⟨hk, rfl⟩ := List.getElem?_eq_some_iff.1 h
  exact ⟨by rw [List.drop_eq_getElem_cons hk]; rfl, List.take_succ_eq_append_getElem hk⟩

theorem infoI : (Try.prog.info? 3).map (fun i => (i.zero, i.size, i.bytes)) = some (some (.int .i64 0), 1, 8) := by kernel_rfl
theorem newI_ok {w : World} (n : Nat) (h0 : 0 < n) (h1 : n ≤ 1024) :
    Calls Try.prog 8 #[.int .i64 n] w fun e w' => ∃ p c, e = .returned (.tuple #[.pointer (some ⟨p, 0, none⟩), .int .i64 0]) ∧ Que w' p c 57 n [] ∧ w.heap.size ≤ p ∧ w.heap.size ≤ c ∧ Below w.heap.size w w' := by
  obtain ⟨i, hi, hz, hs, hb⟩ := info_parts infoI
  have hmk : ∀ w, (Instr.makeChan 55 (.int .i64 n)).run Try.prog w = .ok (.chan (some w.heap.size)) (w.alloc (.chan n #[] false 0 0 false)) := fun w => run_makeChan (P := Try.prog) (w := w) Try.underlying55 hi .i64 n (by omega) (by rw [hb]; omega)
  have d0 : decide ((n : Int) < 1) = false := by simp; omega
  have d1 : decide ((1024 : Int) < (n : Int)) = false := by simp; omega
  clear hi hz hs hb
  go_enter Try.func8, Try.ntmps8
  go_wp2
  exact bodyPost_ret (v := .tuple #[.pointer (some ⟨w.heap.size + 1, 0, none⟩), .int .i64 0]) (by simp [results, Try.results8, go_sem]) rfl ⟨_, w.heap.size, rfl, ⟨by have := Blk.new (w.alloc (.chan n #[] false 0 0 false)) 57 #[.chan (some w.heap.size)]; simpa using this, 0, 0, by rw [Below.heap_alloc _ _ _ (by simp)]; exact heap_alloc_new w _⟩, by omega, Nat.le_refl _, ((Below.refl _ w).alloc (Nat.le_refl _) _).alloc (by simp) _⟩
theorem newI_no {w : World} (n : Int) (h : n < 1 ∨ 1024 < n) :
    Calls Try.prog 8 #[.int .i64 n] w fun e w' => e = .returned (.tuple #[.pointer none, .int .i64 2]) ∧ w = w' := by
  rcases Decidable.em (n < 1) with h0 | h0
  · have d0 : decide (n < 1) = true := by simpa using h0
    go_enter Try.func8, Try.ntmps8
    go_wp2
    exact bodyPost_ret (v := .tuple #[.pointer none, .int .i64 2]) (by simp [results, Try.results8, go_sem]) rfl ⟨rfl, rfl⟩
  · have d0 : decide (n < 1) = false := by simpa using h0
    have d1 : decide (1024 < n) = true := by simp; omega
    go_enter Try.func8, Try.ntmps8
    go_wp2
    exact bodyPost_ret (v := .tuple #[.pointer none, .int .i64 2]) (by simp [results, Try.results8, go_sem]) rfl ⟨rfl, rfl⟩

set_option maxHeartbeats 1000000 in
theorem clearI_any {w : World} {p c cap : Nat} {L : List Value} (h : Que w p c 57 cap L) (hl : L.length ≤ 1024) :
    Calls Try.prog 12 #[.pointer (some ⟨p, 0, none⟩)] w fun e w' => e = .returned (.int .i64 L.length) ∧ Que w' p c 57 cap [] ∧ Chg (fun k => k = c) w w' := by
  obtain ⟨n, hn⟩ : ∃ n, L.length = n := ⟨_, rfl⟩
  have HN := Lib.hid hn
  have HQ := Lib.hid h
  rw [hn] at hl ⊢
  clear h hn
  go_enter Try.func12, Try.ntmps12
  go_wp2_with fail
  refine (lenI_any HQ.out).mono ?_
  rintro e w1 ⟨rfl, rfl⟩
  rw [HN.out]
  go_wp2_with fail
  go_loopw [7] (fun i wr => ∃ k : Nat, k ≤ n ∧ i = .int .i64 k ∧ Hid (Que wr p c 57 cap (L.drop k)) ∧ Hid (Chg (fun k => k = c) w wr)) (fun i _ => n - (intOf i).toNat)
  case atStart => exact ⟨0, Nat.zero_le _, rfl, HQ, Lib.hid (Chg.refl _ _)⟩
  case round =>
    obtain ⟨k, hk, rfl, HQ1, HC⟩ := hrel
    by_cases hlt : k < n
    · obtain ⟨x, hx⟩ : ∃ x, L.drop k = x :: L.drop (k + 1) := ⟨_, List.drop_eq_getElem_cons (by rw [HN.out]; exact hlt)⟩
      have HX := Lib.hid hx
      clear hx
      go_wp2_with fail
      refine (popI_some (x := x) (L := L.drop (k + 1)) (by rw [← HX.out]; exact HQ1.out)).mono ?_
      rintro e w2 ⟨rfl, hq, hc⟩
      have HQ2 := Lib.hid hq
      have HC2 := Lib.hid (HC.out.trans hc)
      clear hq hc
      go_wp2
      go_roundw
      case rel => exact ⟨k + 1, by omega, by go_num, HQ2, HC2⟩
      case measure => simp [intOf]; omega
    · obtain rfl : k = n := by omega
      go_wp2
      go_ret
      exact ⟨rfl, by have := HQ1.out; rw [List.drop_of_length_le (by rw [HN.out]; omega)] at this; exact this, HC.out⟩
theorem clearI_nil {w : World} :
    Calls Try.prog 12 #[.pointer none] w fun e w' => e = .returned (.int .i64 0) ∧ w = w' := by
  go_enter Try.func12, Try.ntmps12
  go_wp2_with fail
  refine lenI_nil.mono ?_
  rintro e w1 ⟨rfl, rfl⟩
  go_wp2
  go_loopw [7] (fun i wr => i = .int .i64 0 ∧ w = wr) (fun _ _ => 0)
  case atStart => exact ⟨rfl, rfl⟩
  case round =>
    obtain ⟨rfl, rfl⟩ := hrel
    go_wp2
    go_ret
    exact ⟨rfl, rfl⟩

set_option maxHeartbeats 2000000 in
theorem allI_any {w : World} {p c cap : Nat} {L : List Value} (h : Que w p c 57 cap L) (hl : L.length ≤ cap) (h1 : cap ≤ 1024) (ho : ∀ u ∈ L, ∃ m : Int, u = .int .i64 m) :
    Calls Try.prog 16 #[.pointer (some ⟨p, 0, none⟩)] w fun e w' => ∃ A k, e = .returned (.slice A L.length k) ∧ Els 1 one w' A L ∧ Que w' p c 57 cap L ∧ Chg (fun k => k = c) w w' := by
  obtain ⟨n, hn⟩ : ∃ n, L.length = n := ⟨_, rfl⟩
  have HN := Lib.hid hn
  have HQ := Lib.hid h
  obtain ⟨i0, hi0, hz0, hz1, hz2⟩ := info_parts infoI
  have HI : Hid (Try.prog.info? 3 = some i0 ∧ i0.zero = some (.int .i64 0) ∧ i0.size = 1 ∧ i0.bytes = 8) := Lib.hid ⟨hi0, hz0, hz1, hz2⟩
  have HO1 := Lib.hid ho
  have HCL : Hid (c < w.heap.size) := Lib.hid h.ch.lt
  have HPL : Hid (p < w.heap.size) := Lib.hid h.blk.lt
  rw [hn] at hl ⊢
  clear h hn hi0 hz0 hz1 hz2 ho
  go_enter Try.func16, Try.ntmps16
  go_wp2_with fail
  refine (lenI_any HQ.out).mono ?_
  rintro e w1 ⟨rfl, rfl⟩
  rw [HN.out]
  go_wp2_with (at_make; refine wpList_make_own _ rfl _ _ 29 rfl w.heap.size 3 i0 (.int .i64 0) 1 Try.underlying29 HI.out.1 HI.out.2.1 HI.out.2.2.1 _ _ _ n rfl rfl rfl (by rw [HI.out.2.2.2]; omega) (by simp only [maxLen]; omega) (Nat.le_refl _) ?_; intro w1 ho1 hg1; have HO1' : Hid (w1.ownsRow w.heap.size 3 1 (.slice (some ⟨w.heap.size, 0, none⟩) 0 n) 0 []) := Lib.hid ho1; have HC1 : Hid (Chg (fun k => k = c) w w1) := Lib.hid (chg_grown (Chg.refl _ _) (World.ownsRow_nil w w.heap.size 3 1) hg1); have HQ1' : Hid (Que w1 p c 57 cap L) := Lib.hid (que_grown HQ.out (World.ownsRow_nil w w.heap.size 3 1) HPL.out HCL.out hg1); clear ho1 hg1)
  refine (lenI_any HQ1'.out).mono ?_
  rintro e wz ⟨rfl, rfl⟩
  rw [HN.out]
  go_wp2_with fail
  go_loopw [3, 11] (fun v i wr => ∃ k : Nat, k ≤ n ∧ i = .int .i64 k ∧ Hid (wr.ownsRow w.heap.size 3 1 v k (L.take k)) ∧ Hid (Que wr p c 57 cap (L.drop k ++ L.take k)) ∧ Hid (Chg (fun k => k = c) w wr)) (fun _ i _ => n - (intOf i).toNat)
  case atStart => exact ⟨0, Nat.zero_le _, rfl, Lib.hid (by simpa using HO1'.out), Lib.hid (by simpa using HQ1'.out), HC1⟩
  case round =>
    obtain ⟨k, hk, rfl, HO, HQ1, HC⟩ := hrel
    by_cases hlt : k < n
    · obtain ⟨x, hx⟩ : ∃ x, L[k]? = some x := ⟨_, List.getElem?_eq_getElem (by rw [HN.out]; exact hlt)⟩
      have HX := Lib.hid hx
      obtain ⟨m, rfl⟩ := HO1.out x (List.mem_of_getElem? hx)
      obtain ⟨r1, r2⟩ := rot_take hx
      have R1 := Lib.hid r1
      have R2 := Lib.hid r2
      clear hx r1 r2
      go_wp2_with fail
      refine (popI_some (x := .int .i64 m) (L := L.drop (k + 1) ++ L.take k) (by rw [← R1.out]; exact HQ1.out)).mono ?_
      rintro e w2 ⟨rfl, hq, hc⟩
      have HQ2 := Lib.hid hq
      have HC2 := Lib.hid (HC.out.trans hc)
      have HO2 := Lib.hid (own_chan HO.out HCL.out hc)
      clear hq hc HO HC HQ1
      go_wp2_with fail
      refine (pushI_room (.int .i64 m) HQ2.out (by simp; have := HN.out; omega)).mono ?_
      rintro e w3 ⟨rfl, hq, hc⟩
      have HQ3 : Hid (Que w3 p c 57 cap (L.drop (k + 1) ++ L.take (k + 1))) := Lib.hid (by rw [R2.out, ← List.append_assoc]; exact hq)
      have HC3 := Lib.hid (HC2.out.trans hc)
      have HO3 := Lib.hid (own_chan HO2.out HCL.out hc)
      have HCN : Hid (∀ j u, [.int .i64 m][j]? = some u → (w3.alloc (.cells #[.int .i64 m] 3)).cell? ((⟨w3.heap.size, 0, none⟩ : Addr).add j) = some u) := Lib.hid (newcells w3 [.int .i64 m] 3)
      clear hq hc HQ2 HC2 HO2
      go_wp2_with (at_builtin; refine wpl_append_own rfl (.tmp 21) (.tmp 23) 29 rfl w.heap.size 3 i0 (.int .i64 0) 1 8 Try.underlying29 HI.out.1 HI.out.2.1 HI.out.2.2.1 HI.out.2.2.2 rfl (by decide) u3 k (L.take k) (by simp [Act.eval, Act.put]) (HO3.out.alloc _) ⟨w3.heap.size, 0, none⟩ 1 1 [.int .i64 m] (by simp [Act.eval, Act.put]) rfl HCN.out (by intro u hu; simp only [List.mem_cons, List.mem_nil_iff, or_false] at hu; subst hu; rfl) (by simp only [maxLen]; omega) (by omega) (by have := HC3.out.size; simp; omega) ?_; intro v6 w6 ho6 hg6; have HO6 : Hid (w6.ownsRow w.heap.size 3 1 v6 (k + 1) (L.take (k + 1))) := Lib.hid (by rw [R2.out]; exact ho6); have HC6 : Hid (Chg (fun k => k = c) w w6) := Lib.hid (chg_grown (HC3.out.alloc _) (HO3.out.alloc _) hg6); have HQ6 : Hid (Que w6 p c 57 cap (L.drop (k + 1) ++ L.take (k + 1))) := Lib.hid (que_grown (que_alloc HQ3.out _) (HO3.out.alloc _) HPL.out HCL.out hg6); clear ho6 hg6)
      go_roundw
      case rel => exact ⟨k + 1, by omega, by go_num, HO6, HQ6, HC6⟩
      case measure => simp [intOf]; omega
    · obtain rfl : k = n := by omega
      have hL : L.take k = L := List.take_of_length_le (by rw [HN.out]; omega)
      have hD : L.drop k = [] := List.drop_of_length_le (by rw [HN.out]; omega)
      have ho := HO.out
      have hq := HQ1.out
      rw [hL] at ho hq
      rw [hD, List.nil_append] at hq
      obtain ⟨A, cc, rfl, he⟩ := own_ones HN.out ho
      have HE := Lib.hid he
      have HQ2 := Lib.hid hq
      clear ho hq he hL hD HO
      go_wp2
      go_ret
      exact ⟨A, cc, rfl, HE.out, HQ2.out, HC.out⟩
theorem allI_nil {w : World} :
    Calls Try.prog 16 #[.pointer none] w fun e w' => (∃ A k, e = .returned (.slice A 0 k)) ∧ Below w.heap.size w w' := by
  have hmk : ∀ w, (Instr.makeSlice 29 (.int .i64 0) (.int .i64 0)).run Try.prog w = .ok (.slice (some ⟨w.heap.size, 0, none⟩) 0 0) (w.alloc (.cells #[] 3)) := fun w => by kernel_rfl
  have HB : Hid (Below w.heap.size w (w.alloc (.cells #[] 3))) := Lib.hid ((Below.refl _ w).alloc (Nat.le_refl _) _)
  go_enter Try.func16, Try.ntmps16
  go_wp2_with fail
  refine lenI_nil.mono ?_
  rintro e w1 ⟨rfl, rfl⟩
  go_wp2_with fail
  refine lenI_nil.mono ?_
  rintro e w2 ⟨rfl, hw2⟩
  go_wp2_with fail
  go_loopw [3, 11] (fun v i wr => v = .slice (some ⟨w.heap.size, 0, none⟩) 0 0 ∧ i = .int .i64 0 ∧ wr = w.alloc (.cells #[] 3)) (fun _ _ _ => 0)
  case atStart => exact ⟨rfl, rfl, hw2.symm⟩
  case round =>
    obtain ⟨rfl, rfl, rfl⟩ := hrel
    go_wp2
    go_ret
    exact ⟨⟨_, _, rfl⟩, by first | (rw [← hw2]; exact HB.out) | (rw [hw2]; exact HB.out)⟩

theorem infoS : (Try.prog.info? 9).map (fun i => (i.zero, i.size, i.bytes)) = some (some (.string ⟨#[]⟩), 1, 16) := by kernel_rfl
theorem newS_ok {w : World} (n : Nat) (h0 : 0 < n) (h1 : n ≤ 1024) :
    Calls Try.prog 19 #[.int .i64 n] w fun e w' => ∃ p c, e = .returned (.tuple #[.pointer (some ⟨p, 0, none⟩), .int .i64 0]) ∧ Que w' p c 60 n [] ∧ w.heap.size ≤ p ∧ w.heap.size ≤ c ∧ Below w.heap.size w w' := by
  obtain ⟨i, hi, hz, hs, hb⟩ := info_parts infoS
  have hmk : ∀ w, (Instr.makeChan 58 (.int .i64 n)).run Try.prog w = .ok (.chan (some w.heap.size)) (w.alloc (.chan n #[] false 0 0 false)) := fun w => run_makeChan (P := Try.prog) (w := w) Try.underlying58 hi .i64 n (by omega) (by rw [hb]; omega)
  have d0 : decide ((n : Int) < 1) = false := by simp; omega
  have d1 : decide ((1024 : Int) < (n : Int)) = false := by simp; omega
  clear hi hz hs hb
  go_enter Try.func19, Try.ntmps19
  go_wp2
  exact bodyPost_ret (v := .tuple #[.pointer (some ⟨w.heap.size + 1, 0, none⟩), .int .i64 0]) (by simp [results, Try.results19, go_sem]) rfl ⟨_, w.heap.size, rfl, ⟨by have := Blk.new (w.alloc (.chan n #[] false 0 0 false)) 60 #[.chan (some w.heap.size)]; simpa using this, 0, 0, by rw [Below.heap_alloc _ _ _ (by simp)]; exact heap_alloc_new w _⟩, by omega, Nat.le_refl _, ((Below.refl _ w).alloc (Nat.le_refl _) _).alloc (by simp) _⟩
theorem newS_no {w : World} (n : Int) (h : n < 1 ∨ 1024 < n) :
    Calls Try.prog 19 #[.int .i64 n] w fun e w' => e = .returned (.tuple #[.pointer none, .int .i64 2]) ∧ w = w' := by
  rcases Decidable.em (n < 1) with h0 | h0
  · have d0 : decide (n < 1) = true := by simpa using h0
    go_enter Try.func19, Try.ntmps19
    go_wp2
    exact bodyPost_ret (v := .tuple #[.pointer none, .int .i64 2]) (by simp [results, Try.results19, go_sem]) rfl ⟨rfl, rfl⟩
  · have d0 : decide (n < 1) = false := by simpa using h0
    have d1 : decide (1024 < n) = true := by simp; omega
    go_enter Try.func19, Try.ntmps19
    go_wp2
    exact bodyPost_ret (v := .tuple #[.pointer none, .int .i64 2]) (by simp [results, Try.results19, go_sem]) rfl ⟨rfl, rfl⟩


set_option maxHeartbeats 2000000 in
theorem allS_any {w : World} {p c cap : Nat} {L : List Value} (h : Que w p c 60 cap L) (hl : L.length ≤ cap) (h1 : cap ≤ 1024) (ho : ∀ u ∈ L, ∃ m : ByteArray, u = .string m) :
    Calls Try.prog 21 #[.pointer (some ⟨p, 0, none⟩)] w fun e w' => ∃ A k, e = .returned (.slice A L.length k) ∧ Els 1 one w' A L ∧ Que w' p c 60 cap L ∧ Chg (fun k => k = c) w w' := by
  obtain ⟨n, hn⟩ : ∃ n, L.length = n := ⟨_, rfl⟩
  have HN := Lib.hid hn
  have HQ := Lib.hid h
  obtain ⟨i0, hi0, hz0, hz1, hz2⟩ := info_parts infoS
  have HI : Hid (Try.prog.info? 9 = some i0 ∧ i0.zero = some (.string ⟨#[]⟩) ∧ i0.size = 1 ∧ i0.bytes = 16) := Lib.hid ⟨hi0, hz0, hz1, hz2⟩
  have HO1 := Lib.hid ho
  have HCL : Hid (c < w.heap.size) := Lib.hid h.ch.lt
  have HPL : Hid (p < w.heap.size) := Lib.hid h.blk.lt
  rw [hn] at hl ⊢
  clear h hn hi0 hz0 hz1 hz2 ho
  go_enter Try.func21, Try.ntmps21
  go_wp2_with fail
  refine (lenS_any HQ.out).mono ?_
  rintro e w1 ⟨rfl, rfl⟩
  rw [HN.out]
  go_wp2_with (at_make; refine wpList_make_own _ rfl _ _ 46 rfl w.heap.size 9 i0 (.string ⟨#[]⟩) 1 Try.underlying46 HI.out.1 HI.out.2.1 HI.out.2.2.1 _ _ _ n rfl rfl rfl (by rw [HI.out.2.2.2]; omega) (by simp only [maxLen]; omega) (Nat.le_refl _) ?_; intro w1 ho1 hg1; have HO1' : Hid (w1.ownsRow w.heap.size 9 1 (.slice (some ⟨w.heap.size, 0, none⟩) 0 n) 0 []) := Lib.hid ho1; have HC1 : Hid (Chg (fun k => k = c) w w1) := Lib.hid (chg_grown (Chg.refl _ _) (World.ownsRow_nil w w.heap.size 9 1) hg1); have HQ1' : Hid (Que w1 p c 60 cap L) := Lib.hid (que_grown HQ.out (World.ownsRow_nil w w.heap.size 9 1) HPL.out HCL.out hg1); clear ho1 hg1)
  refine (lenS_any HQ1'.out).mono ?_
  rintro e wz ⟨rfl, rfl⟩
  rw [HN.out]
  go_wp2_with fail
  go_loopw [3, 11] (fun v i wr => ∃ k : Nat, k ≤ n ∧ i = .int .i64 k ∧ Hid (wr.ownsRow w.heap.size 9 1 v k (L.take k)) ∧ Hid (Que wr p c 60 cap (L.drop k ++ L.take k)) ∧ Hid (Chg (fun k => k = c) w wr)) (fun _ i _ => n - (intOf i).toNat)
  case atStart => exact ⟨0, Nat.zero_le _, rfl, Lib.hid (by simpa using HO1'.out), Lib.hid (by simpa using HQ1'.out), HC1⟩
  case round =>
    obtain ⟨k, hk, rfl, HO, HQ1, HC⟩ := hrel
    by_cases hlt : k < n
    · obtain ⟨x, hx⟩ : ∃ x, L[k]? = some x := ⟨_, List.getElem?_eq_getElem (by rw [HN.out]; exact hlt)⟩
      have HX := Lib.hid hx
      obtain ⟨m, rfl⟩ := HO1.out x (List.mem_of_getElem? hx)
      obtain ⟨r1, r2⟩ := rot_take hx
      have R1 := Lib.hid r1
      have R2 := Lib.hid r2
      clear hx r1 r2
      go_wp2_with fail
      refine (popS_some (x := .string m) (L := L.drop (k + 1) ++ L.take k) (by rw [← R1.out]; exact HQ1.out)).mono ?_
      rintro e w2 ⟨rfl, hq, hc⟩
      have HQ2 := Lib.hid hq
      have HC2 := Lib.hid (HC.out.trans hc)
      have HO2 := Lib.hid (own_chan HO.out HCL.out hc)
      clear hq hc HO HC HQ1
      go_wp2_with fail
      refine (pushS_room (.string m) HQ2.out (by simp; have := HN.out; omega)).mono ?_
      rintro e w3 ⟨rfl, hq, hc⟩
      have HQ3 : Hid (Que w3 p c 60 cap (L.drop (k + 1) ++ L.take (k + 1))) := Lib.hid (by rw [R2.out, ← List.append_assoc]; exact hq)
      have HC3 := Lib.hid (HC2.out.trans hc)
      have HO3 := Lib.hid (own_chan HO2.out HCL.out hc)
      have HCN : Hid (∀ j u, [.string m][j]? = some u → (w3.alloc (.cells #[.string m] 9)).cell? ((⟨w3.heap.size, 0, none⟩ : Addr).add j) = some u) := Lib.hid (newcells w3 [.string m] 9)
      clear hq hc HQ2 HC2 HO2
      go_wp2_with (at_builtin; refine wpl_append_own rfl (.tmp 21) (.tmp 23) 46 rfl w.heap.size 9 i0 (.string ⟨#[]⟩) 1 16 Try.underlying46 HI.out.1 HI.out.2.1 HI.out.2.2.1 HI.out.2.2.2 rfl (by decide) u3 k (L.take k) (by simp [Act.eval, Act.put]) (HO3.out.alloc _) ⟨w3.heap.size, 0, none⟩ 1 1 [.string m] (by simp [Act.eval, Act.put]) rfl HCN.out (by intro u hu; simp only [List.mem_cons, List.mem_nil_iff, or_false] at hu; subst hu; rfl) (by simp only [maxLen]; omega) (by omega) (by have := HC3.out.size; simp; omega) ?_; intro v6 w6 ho6 hg6; have HO6 : Hid (w6.ownsRow w.heap.size 9 1 v6 (k + 1) (L.take (k + 1))) := Lib.hid (by rw [R2.out]; exact ho6); have HC6 : Hid (Chg (fun k => k = c) w w6) := Lib.hid (chg_grown (HC3.out.alloc _) (HO3.out.alloc _) hg6); have HQ6 : Hid (Que w6 p c 60 cap (L.drop (k + 1) ++ L.take (k + 1))) := Lib.hid (que_grown (que_alloc HQ3.out _) (HO3.out.alloc _) HPL.out HCL.out hg6); clear ho6 hg6)
      go_roundw
      case rel => exact ⟨k + 1, by omega, by go_num, HO6, HQ6, HC6⟩
      case measure => simp [intOf]; omega
    · obtain rfl : k = n := by omega
      have hL : L.take k = L := List.take_of_length_le (by rw [HN.out]; omega)
      have hD : L.drop k = [] := List.drop_of_length_le (by rw [HN.out]; omega)
      have ho := HO.out
      have hq := HQ1.out
      rw [hL] at ho hq
      rw [hD, List.nil_append] at hq
      obtain ⟨A, cc, rfl, he⟩ := own_ones HN.out ho
      have HE := Lib.hid he
      have HQ2 := Lib.hid hq
      clear ho hq he hL hD HO
      go_wp2
      go_ret
      exact ⟨A, cc, rfl, HE.out, HQ2.out, HC.out⟩
theorem allS_nil {w : World} :
    Calls Try.prog 21 #[.pointer none] w fun e w' => (∃ A k, e = .returned (.slice A 0 k)) ∧ Below w.heap.size w w' := by
  have hmk : ∀ w, (Instr.makeSlice 46 (.int .i64 0) (.int .i64 0)).run Try.prog w = .ok (.slice (some ⟨w.heap.size, 0, none⟩) 0 0) (w.alloc (.cells #[] 9)) := fun w => by kernel_rfl
  have HB : Hid (Below w.heap.size w (w.alloc (.cells #[] 9))) := Lib.hid ((Below.refl _ w).alloc (Nat.le_refl _) _)
  go_enter Try.func21, Try.ntmps21
  go_wp2_with fail
  refine lenS_nil.mono ?_
  rintro e w1 ⟨rfl, rfl⟩
  go_wp2_with fail
  refine lenS_nil.mono ?_
  rintro e w2 ⟨rfl, hw2⟩
  go_wp2_with fail
  go_loopw [3, 11] (fun v i wr => v = .slice (some ⟨w.heap.size, 0, none⟩) 0 0 ∧ i = .int .i64 0 ∧ wr = w.alloc (.cells #[] 9)) (fun _ _ _ => 0)
  case atStart => exact ⟨rfl, rfl, hw2.symm⟩
  case round =>
    obtain ⟨rfl, rfl, rfl⟩ := hrel
    go_wp2
    go_ret
    exact ⟨⟨_, _, rfl⟩, by first | (rw [← hw2]; exact HB.out) | (rw [hw2]; exact HB.out)⟩
end Go.Proofs.Ytofgdemkddbjeaa
