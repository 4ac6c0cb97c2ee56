/- Layer 9: the document's choose. -/
import Derived.Test.YtlpmilaofcakbaaR3b
namespace Go.Proofs.Ytlpmilaofcakbaa
open Go.RowKit Go.Shelf
open Go.Sort (grow)
set_option linter.unusedVariables false
set_option linter.unusedSimpArgs false
set_option maxRecDepth 100000

set_option maxRecDepth 100000 in
set_option maxHeartbeats 4000000 in
theorem choose_ref {w : World} {m pb fb c cf : Nat} {M : Mch} (hD : DmP w m pb fb c cf M) (hS : M.sane) :
    Calls Try.prog 37 #[.pointer (some ⟨m, 0, none⟩)] w fun e w' => e = .returned (.tuple #[]) ∧ DmP w' m pb fb c cf M.choose ∧ Chg (XD m pb fb) w w' := by
  obtain ⟨k, hn⟩ : ∃ n, M.ps.length = n := ⟨_, rfl⟩
  have h8 : k ≤ 8 := by rw [← hn]; exact hS.fits.n8
  have HF := Lib.hid hS
  have HD := Lib.hid hD
  have HN := Lib.hid hn
  have HFL : Hid (M.put.fl.length = M.put.ps.length) := Lib.hid hS.fits.fl
  have hle : M.paths.length ≤ 8 := Nat.le_trans (paths_len _ _ _) (by rw [hn]; exact h8)
  obtain ⟨x, hx⟩ : ∃ x, minP M.paths = x := ⟨_, rfl⟩
  obtain ⟨q, hq⟩ : ∃ q, (!M.paths.isEmpty) = q := ⟨_, rfl⟩
  obtain ⟨r, hr⟩ : ∃ r, M.paths.length = r := ⟨_, rfl⟩
  have HX := Lib.hid (And.intro hx hq)
  have HKL3 : Hid (∀ A' c' W', Els 5 encP W' A' M.paths → Calls Try.prog 59 #[.slice A' r c'] W' fun e w' => e = .returned (.tuple #[PV x, .bool q]) ∧ Below W'.heap.size W' w') := Lib.hid (fun A' c' W' h => by
    have := refleast_any W' A' c' M.paths (by omega) h
    rw [hx, hq, hr] at this
    exact this)
  have HRR := Lib.hid hr
  clear hS hD hn hle hx hq hr
  go_enter Try.func37, Try.ntmps37
  go_upto_block 0 with fail
  go_cut [2, 3, 4, 5, 6] from 15 to 88 (fun v i a4 a5 a6 wx => i = .int .i64 k ∧ ∃ A' c', v = .slice A' r c' ∧ Hid (Els 5 encP wx A' M.paths ∧ DmP wx m pb fb c cf M ∧ Below w.heap.size w wx))
  case first =>
    refine wp_swap (c' := ch1) (by kernel_rfl) ?_
    refine ch1_wp HD.out HF.out _ _ _ _ _ _ _ _ _ _ _ _ _ _ _ _ _ _ _ _ _ _ _ _ _ _ _ _ _ _ _ _ _ _ _ _ _ _ _ _ _ _ _ _ _ _ _ _ _ _ _ _ _ _ _ _ _ _ _ _ _ _ _ _ _ _ _ _ _ _ _ _ _ _ _ _ _ _ _ _ _ _ _ _ _ _ _ _ _ _ _ _ _ _ _ _ _ _ _ _ _ _ _ _ _ _ _ _ _ _ _ _ _ _ _ _ _ _ _ _ _ _ _ _ _ _ _ _ _ _ _ _ _ _ _ _ _ _ _ _ _ _ _ _ _ _ _ _ _ _ _ _ _ _ _ _ _ _ _ _ _ _ _ _ _ _ _ _ _ _ _ _ _ _ _ _ _ _ _ _ _ _ _ _ _ _ _ _ _ _ _ _ _ _ _ _ _ _ _ _ _ _ _ _ _ _ _ _ _ _ _ _ _ _ _ _ _ _ _ _ _ _ _ ?_
    intro t4 t5 t6 t15 t16 t17 t18 t19 t20 t21 t22 t23 t24 t25 t26 t27 t28 t29 t30 t31 t32 t33 t34 t35 t36 t37 t38 t39 t40 t41 t42 t43 t44 t45 t46 t47 t48 t49 t50 t51 t52 t53 t54 t55 t56 t57 t58 t59 t60 t61 t62 t63 t64 t65 t66 t67 t68 t69 t70 t71 t72 t73 t74 t75 t76 t77 t78 t79 t80 t81 t82 t83 t84 t85 t86 t87 t88 v w' hS
    obtain ⟨A', c', hv, hE, _⟩ := own_elsB (k := 5) (enc := encP) (fun _ => rfl) hS.out.row
    have hl : M.ps.take M.ps.length = M.ps := List.take_length
    rw [hl] at hv hE
    have hv' : v = .slice A' r c' := by rw [hv]; show Value.slice A' M.paths.length c' = _; rw [HRR.out]
    have HEx : Hid (Els 5 encP w' A' M.paths ∧ DmP w' m pb fb c cf M ∧ Below w.heap.size w w') := Lib.hid ⟨hE, hS.out.dm, hS.out.bel⟩
    rw [HN.out]
    subst hv'
    clear hv hE hl hS
    go_wp2_with fail
    go_meet
    exact ⟨rfl, A', c', rfl, HEx⟩
  obtain ⟨rfl, A', c', rfl, hS⟩ := hcut
  have HE : Hid (Els 5 encP wc A' M.paths) := Lib.hid hS.out.1
  have HS1 : Hid (DmP wc m pb fb c cf M ∧ Below w.heap.size w wc) := Lib.hid hS.out.2
  have c0 := HS1.out.1.hd.cell 0
  have HKL2 : Hid (∀ W', Els 5 encP W' A' M.paths → Calls Try.prog 59 #[.slice A' r c'] W' fun e w' => e = .returned (.tuple #[PV x, .bool q]) ∧ Below W'.heap.size W' w') := Lib.hid (HKL3.out A' c')
  clear hS HKL3
  go_wp2_with fail
  refine (HKL2.out _ HE.out).mono ?_
  rintro e w2 ⟨rfl, hbl⟩
  have HS2 : Hid (DmP w2 m pb fb c cf M ∧ Below w.heap.size w w2) := Lib.hid ⟨HS1.out.1.next hbl, HS1.out.2.trans (hbl.mono HS1.out.2.size)⟩
  clear hbl HS1 HE HKL2 c0
  go_upto_region 14 with fail
  obtain ⟨w3, hw3⟩ : ∃ w3, w2.alloc (.cells #[.int .u64 x.v.r, .int .u32 x.v.c, .int .u64 x.v.b, .int .u8 x.v.p, .int .u8 x.i] 131) = w3 := ⟨_, rfl⟩
  obtain ⟨b3, hb3⟩ : ∃ b3, w2.heap.size = b3 := ⟨_, rfl⟩
  have HS3 : Hid (DmP w3 m pb fb c cf M ∧ Below w.heap.size w w3) := Lib.hid (by
    have hbl := (Below.refl w2.heap.size w2).alloc (Nat.le_refl _) (.cells #[.int .u64 x.v.r, .int .u32 x.v.c, .int .u64 x.v.b, .int .u8 x.v.p, .int .u8 x.i] 131)
    rw [hw3] at hbl
    exact ⟨HS2.out.1.next hbl, HS2.out.2.trans (hbl.mono HS2.out.2.size)⟩)
  have HP3 : Hid (PR w3 b3 x) := Lib.hid (by rw [← hw3, ← hb3]; exact PR.new w2 x)
  have HWB := Lib.hid (And.intro hw3 hb3)
  clear hw3 hb3
  rw [HWB.out.1, HWB.out.2]
  clear HS2 HWB
  obtain ⟨ft, hft⟩ : ∃ b, M.fit = b := ⟨_, rfl⟩
  have HFT : Hid (M.fit = ft ∧ ft = (q && decide (x.v.r < M.id))) := Lib.hid ⟨hft, by rw [← hft]; unfold Mch.fit; rw [HX.out.1, HX.out.2]⟩
  clear hft
  go_cut [108] from 98 to 108 (fun s wx => s = .bool ft ∧ ∃ n, wx = w3.drewN n)
  case first =>
    have m0 := HS3.out.1.hd.cell 0
    obtain ⟨p0, p1, p2, p3, p4⟩ := HP3.out.cells
    clear p1 p2 p3 p4
    cases q with
    | false =>
      go_wp2_with fail
      go_quiet (fail)
      go_wp2_with fail
      go_meet
      exact ⟨by rw [HFT.out.2]; rfl, _, rfl⟩
    | true =>
      cases hlt : decide (x.v.r < M.id) with
      | false =>
        go_wp2_with fail
        go_quiet (fail)
        go_wp2_with fail
        go_meet
        exact ⟨by rw [HFT.out.2, hlt]; rfl, _, rfl⟩
      | true =>
        go_wp2_with fail
        go_quiet (fail)
        go_wp2_with fail
        go_meet
        exact ⟨by rw [HFT.out.2, hlt]; rfl, _, rfl⟩
  obtain ⟨rfl, nd, rfl⟩ := hcut
  have HS4 : Hid (DmP (w3.drewN nd) m pb fb c cf M ∧ Below w.heap.size w (w3.drewN nd)) := Lib.hid ⟨HS3.out.1.drewN nd, Below.drewN' HS3.out.2 nd⟩
  have HP4 : Hid (PR (w3.drewN nd) b3 x) := HP3
  clear HS3 HP3
  generalize w3.drewN nd = w4 at *
  obtain ⟨R, hR⟩ : ∃ z, M.bRoot = z := ⟨_, rfl⟩
  obtain ⟨C, hC⟩ : ∃ z, M.bCost = z := ⟨_, rfl⟩
  obtain ⟨I, hI⟩ : ∃ z, M.bIn = z := ⟨_, rfl⟩
  obtain ⟨H, hH⟩ : ∃ z, M.bHops = z := ⟨_, rfl⟩
  have HB := Lib.hid (And.intro hR (And.intro hC (And.intro hI hH)))
  clear hR hC hI hH
  go_upto_if 108 with fail
  go_cut [7, 8, 9, 10] from 109 to 127 (fun a b c d wx => a = .int .u64 R ∧ b = .int .u32 C ∧ c = .int .i64 (dport I) ∧ d = .int .u8 H ∧ wx = w4)
  case first =>
    obtain ⟨p0, p1, p2, p3, p4⟩ := HP4.out.cells
    cases ft with
    | false =>
      have HV : Hid (R = M.id ∧ C = 0 ∧ I = 8 ∧ H = 0) := Lib.hid (by
        have h := HB.out
        unfold Mch.bRoot Mch.bCost Mch.bIn Mch.bHops at h
        rw [HFT.out.1] at h
        simp only [Bool.false_eq_true, if_false] at h
        exact ⟨h.1.symm, h.2.1.symm, h.2.2.1.symm, h.2.2.2.symm⟩)
      clear p0 p1 p2 p3 p4
      go_wp2_with fail
      go_meet
      exact ⟨by rw [HV.out.1], by rw [HV.out.2.1], by rw [HV.out.2.2.1]; rfl, by rw [HV.out.2.2.2], rfl⟩
    | true =>
      have hqt : q = true := by
        cases hqq : q with
        | true => rfl
        | false => (have h := HFT.out.2; rw [hqq] at h; cases h)
      obtain ⟨i, hi, hxi, hok, hxv⟩ := Mch.best_port (M := M) (by intro e; have := HX.out.2; rw [e, hqt] at this; cases this)
      rw [HX.out.1] at hxi hxv
      have hi8 : i < 8 := by have := HN.out; omega
      have hi8' : (i : Int) < 8 := by omega
      have hik : i < k := by have := HN.out; omega
      have hh := HF.out.fits.hops _ (Mch.port_mem hi)
      have hh2 : (M.port i).b.h < 20 := by
        unfold Sd.okFar at hok
        simp only [Bool.and_eq_true, Bool.not_eq_true', Bool.or_eq_false_iff, decide_eq_false_iff_not] at hok
        omega
      have HV : Hid (R = x.v.r ∧ C = x.v.c ∧ I = (i : Int) ∧ H = ((M.port i).b.h + 1) % 256 ∧ (i : Int) ≠ 8) := Lib.hid (by
        have h := HB.out
        unfold Mch.bRoot Mch.bCost Mch.bIn Mch.bHops at h
        rw [HFT.out.1, HX.out.1] at h
        simp only [if_true] at h
        rw [hxi] at h
        simp only [Int.toNat_natCast] at h
        exact ⟨h.1.symm, h.2.1.symm, h.2.2.1.symm, by rw [← h.2.2.2]; omega, by omega⟩)
      have s6 := (HS4.out.1.sd hi).c6
      have m1 : w4.cell? ⟨m, 1, none⟩ = some (.slice (some ⟨pb, 0, none⟩) k c) := by have := HS4.out.1.hd.cell 1; rw [HN.out] at this; exact this
      rw [hxi] at p4
      clear hqt hi hxi hok hxv hh hh2 p2 p3
      go_wp2_with fail
      go_meet
      exact ⟨by rw [HV.out.1], by rw [HV.out.2.1], by rw [HV.out.2.2.1]; unfold dport; rw [if_neg HV.out.2.2.2.2], by rw [HV.out.2.2.2.1], rfl⟩
  obtain ⟨rfl, rfl, rfl, rfl, rfl⟩ := hcut
  clear HP4 HX HFT
  have HD5 : Hid (DmP (wc.setCell ⟨m, 5, none⟩ (.int .u8 H)) m pb fb c cf { M with hops := H }) := Lib.hid (HS4.out.1.putH 5 _ _ rfl rfl rfl)
  have HC5 : Hid (Chg (XD m pb fb) w (wc.setCell ⟨m, 5, none⟩ (.int .u8 H))) := Lib.hid ((Chg.of_below HS4.out.2).setCell (p := ⟨m, 5, none⟩) (.inr XD.m) _)
  have m5 := HS4.out.1.hd.cell 5
  have f5 := HS4.out.1.fz 5
  go_upto_region 20 with fail
  obtain ⟨w5, hw5⟩ : ∃ w5, wc.setCell ⟨m, 5, none⟩ (.int .u8 H) = w5 := ⟨_, rfl⟩
  rw [hw5] at HD5 HC5
  rw [hw5]
  clear hw5 m5 f5 HS4
  obtain ⟨sw, hsw⟩ : ∃ b, M.sameWay = b := ⟨_, rfl⟩
  obtain ⟨nsw, hns⟩ : ∃ b, (!sw) = b := ⟨_, rfl⟩
  have HSW : Hid (M.sameWay = sw ∧ sw = decide (R = M.root ∧ C = M.cost ∧ I = M.inn) ∧ nsw = !sw) := Lib.hid ⟨hsw, by rw [← hsw, ← HB.out.1, ← HB.out.2.1, ← HB.out.2.2.1]; rfl, hns.symm⟩
  have HII : Hid (dport I = dport M.inn ↔ I = M.inn) := Lib.hid (by
    have h1 := HF.out.inn
    have h2 : -1 < I := by
      rw [← HB.out.2.2.1]
      unfold Mch.bIn
      split
      · rename_i hf
        obtain ⟨i, hi, hxi, _⟩ := Mch.best_port (M := M) (by intro e; unfold Mch.fit at hf; rw [e] at hf; cases hf)
        rw [hxi]; omega
      · decide
    unfold dport
    split <;> split <;> omega)
  clear hsw hns
  go_cut [153] from 132 to 153 (fun s wx => s = .bool nsw ∧ wx = w5)
  case first =>
    have m2 := HD5.out.hd.cell 2
    have m3 := HD5.out.hd.cell 3
    have m4 := HD5.out.hd.cell 4
    by_cases h1 : R = M.root
    · have e1 : (R != M.root) = false := by simp [h1]
      have H1 := Lib.hid h1
      clear h1
      by_cases h2 : C = M.cost
      · have e2 : (C != M.cost) = false := by simp [h2]
        have H2 := Lib.hid h2
        clear h2
        by_cases h3 : dport I = dport M.inn
        · have e3 : (dport I != dport M.inn) = false := by simp [h3]
          have HE : Hid (nsw = false) := Lib.hid (by rw [HSW.out.2.2, HSW.out.2.1]; simp only [Bool.not_eq_false', decide_eq_true_eq]; exact ⟨H1.out, H2.out, HII.out.1 h3⟩)
          clear h3
          go_wp2_with fail
          go_meet
          exact ⟨by rw [HE.out], rfl⟩
        · have e3 : (dport I != dport M.inn) = true := by simp [h3]
          have HE : Hid (nsw = true) := Lib.hid (by rw [HSW.out.2.2, HSW.out.2.1]; simp only [Bool.not_eq_true', decide_eq_false_iff_not]; rintro ⟨_, _, h⟩; exact h3 (HII.out.2 h))
          clear h3
          go_wp2_with fail
          go_meet
          exact ⟨by rw [HE.out], rfl⟩
      · have e2 : (C != M.cost) = true := by simp [h2]
        have HE : Hid (nsw = true) := Lib.hid (by rw [HSW.out.2.2, HSW.out.2.1]; simp only [Bool.not_eq_true', decide_eq_false_iff_not]; rintro ⟨_, h, _⟩; exact h2 h)
        clear h2
        go_wp2_with fail
        go_meet
        exact ⟨by rw [HE.out], rfl⟩
    · have e1 : (R != M.root) = true := by simp [h1]
      have HE : Hid (nsw = true) := Lib.hid (by rw [HSW.out.2.2, HSW.out.2.1]; simp only [Bool.not_eq_true', decide_eq_false_iff_not]; rintro ⟨h, _⟩; exact h1 h)
      clear h1
      go_wp2_with fail
      go_meet
      exact ⟨by rw [HE.out], rfl⟩
  obtain ⟨rfl, rfl⟩ := hcut
  have hkN : M.put.ps.length = k := HN.out
  have hcN : ∀ p ∈ M.put.ps, 0 ≤ p.cost := fun p hp => (HF.out.fits.cost p hp).1
  have hiN : M.put.inn ≠ -1 := by
    show M.bIn ≠ -1
    rw [HB.out.2.2.1]
    rw [← HB.out.2.2.1]
    unfold Mch.bIn
    split
    · rename_i hf
      obtain ⟨i, hi, hxi, _⟩ := Mch.best_port (M := M) (by intro e; unfold Mch.fit at hf; rw [e] at hf; cases hf)
      rw [hxi]; omega
    · decide
  have HNP := Lib.hid (And.intro hkN (And.intro hcN hiN))
  clear hkN hcN hiN
  cases nsw with
  | false =>
    obtain ⟨N, hN⟩ : ∃ N, M.put = N := ⟨_, rfl⟩
    have hsw : sw = true := by
      cases hq2 : sw with
      | true => rfl
      | false => (have h := HSW.out.2.2; rw [hq2] at h; cases h)
    have HNN : Hid (N.ps.length = k ∧ N.settle = M.choose ∧ (∀ p ∈ N.ps, 0 ≤ p.cost) ∧ N.inn ≠ -1) := Lib.hid ⟨by rw [← hN]; exact HNP.out.1, by rw [← hN]; unfold Mch.choose; rw [HSW.out.1, hsw]; rfl, by rw [← hN]; exact HNP.out.2.1, by rw [← hN]; exact HNP.out.2.2⟩
    have HN3 : Hid (DmP wc m pb fb c cf N) := Lib.hid (by
      have e : ({ M with hops := H } : Mch) = N := by
        have h := HSW.out.2.1
        rw [hsw] at h
        simp only [eq_comm (a := true), decide_eq_true_eq] at h
        rw [← hN]
        unfold Mch.put
        rw [HB.out.1, HB.out.2.1, HB.out.2.2.1, HB.out.2.2.2, h.1, h.2.1, h.2.2]
      rw [← e]
      exact HD5.out)
    have HC3 := HC5
    clear hN HD5 HC5 hsw
    go_upto_block 4 with fail
    refine wp_swap (c' := ch3) (by kernel_rfl) ?_
    refine ch3_wp HN3.out (by rw [HNN.out.1]; exact h8) HNN.out.2.2.1 HNN.out.2.2.2 _ _ _ _ _ _ _ _ _ _ _ _ _ _ _ _ _ _ _ _ _ _ _ _ _ _ _ _ _ _ _ _ _ _ _ _ _ _ _ _ _ _ _ _ _ _ _ _ _ _ _ _ _ _ _ _ _ _ _ _ _ _ _ _ _ _ _ _ _ _ _ _ _ _ _ _ _ _ _ _ _ _ _ _ _ _ _ _ _ _ _ _ _ _ _ _ _ _ _ _ _ _ _ _ _ _ _ _ _ _ _ _ _ _ _ _ _ _ _ _ _ _ _ _ _ _ _ _ _ _ _ _ _ _ _ _ _ _ _ _ _ _ _ _ _ _ _ _ _ _ _ _ _ _ _ _ _ _ _ _ _ _ _ _ _ _ _ _ _ _ _ _ _ _ _ _ _ _ _ _ _ _ _ _ _ _ _ _ _ _ _ _ _ _ _ _ _ _ _ _ _ _ _ _ _ _ _ _ _ _ _ _ _ _ _ _ _ _ _ _ _ _ _ _ ?_
    intro t205 t206 t207 t208 t209 t210 t211 t212 t213 t214 t215 t216 t217 t218 t219 t220 t221 t222 t223 t224 w' hD' hC'
    have HDx : Hid (DmP w' m pb fb c cf M.choose) := Lib.hid (by rw [← HNN.out.2.1]; exact hD'.out)
    have HCx : Hid (Chg (XD m pb fb) w w') := Lib.hid (HC3.out.trans hC'.out)
    clear hD' hC' HN3 HC3
    go_wp2_with fail
    go_end0
    exact ⟨rfl, HDx.out, HCx.out⟩
  | true =>
    obtain ⟨N, hN⟩ : ∃ N, M.put.change = N := ⟨_, rfl⟩
    have hsw : sw = false := by
      cases hq2 : sw with
      | false => rfl
      | true => (have h := HSW.out.2.2; rw [hq2] at h; cases h)
    have HNN : Hid (N.ps.length = k ∧ N.settle = M.choose ∧ (∀ p ∈ N.ps, 0 ≤ p.cost) ∧ N.inn ≠ -1) := Lib.hid ⟨by rw [← hN]; unfold Mch.change; rw [List.length_map]; exact HNP.out.1, by rw [← hN]; unfold Mch.choose; rw [HSW.out.1, hsw]; rfl, by rw [← hN]; intro p hp; obtain ⟨x, hx, rfl⟩ := List.mem_map.1 hp; exact HNP.out.2.1 x hx, by rw [← hN]; exact HNP.out.2.2⟩
    have HNC := Lib.hid hN
    have HN2 : Hid (DmP ((((wc.setCell ⟨m, 2, none⟩ (.int .u64 R)).setCell ⟨m, 3, none⟩ (.int .u32 C)).setCell ⟨m, 4, none⟩ (.int .i64 (dport I))).setCell ⟨m, 6, none⟩ (.int .u64 (IntKind.u64.wrap (M.ver + 1)))) m pb fb c cf (M.put.changeTo 0)) := Lib.hid (by
      have h := (((HD5.out.putH 2 (.int .u64 R) { M with hops := H, root := R } rfl rfl rfl).putH 3 (.int .u32 C) { M with hops := H, root := R, cost := C } rfl rfl rfl).putH 4 (.int .i64 (dport I)) { M with hops := H, root := R, cost := C, inn := I } rfl rfl rfl).putH 6 (.int .u64 (IntKind.u64.wrap (M.ver + 1))) { M with hops := H, root := R, cost := C, inn := I, ver := wrap64 (M.ver + 1) } rfl rfl rfl
      have e : ({ M with hops := H, root := R, cost := C, inn := I, ver := wrap64 (M.ver + 1) } : Mch) = M.put.changeTo 0 := by
        rw [Mch.changeTo_zero]
        unfold Mch.put
        rw [HB.out.1, HB.out.2.1, HB.out.2.2.1, HB.out.2.2.2]
      rw [← e]
      exact h)
    have HC2 : Hid (Chg (XD m pb fb) w ((((wc.setCell ⟨m, 2, none⟩ (.int .u64 R)).setCell ⟨m, 3, none⟩ (.int .u32 C)).setCell ⟨m, 4, none⟩ (.int .i64 (dport I))).setCell ⟨m, 6, none⟩ (.int .u64 (IntKind.u64.wrap (M.ver + 1))))) := Lib.hid ((((HC5.out.setCell (p := ⟨m, 2, none⟩) (.inr XD.m) _).setCell (p := ⟨m, 3, none⟩) (.inr XD.m) _).setCell (p := ⟨m, 4, none⟩) (.inr XD.m) _).setCell (p := ⟨m, 6, none⟩) (.inr XD.m) _)
    have m2 := HD5.out.hd.cell 2
    have m3 := HD5.out.hd.cell 3
    have m4 := HD5.out.hd.cell 4
    have m6 := HD5.out.hd.cell 6
    have mf := HD5.out.fz
    clear hN hsw
    go_upto_block 2 with fail
    obtain ⟨w6, hw6⟩ : ∃ w6, (((wc.setCell ⟨m, 2, none⟩ (.int .u64 R)).setCell ⟨m, 3, none⟩ (.int .u32 C)).setCell ⟨m, 4, none⟩ (.int .i64 (dport I))).setCell ⟨m, 6, none⟩ (.int .u64 (IntKind.u64.wrap (M.ver + 1))) = w6 := ⟨_, rfl⟩
    rw [hw6] at HN2 HC2
    rw [hw6]
    clear hw6 m2 m3 m4 m6 mf HD5 HC5
    go_cut [13] from 173 to 204 (fun i wx => Hid (DmP wx m pb fb c cf N) ∧ Hid (Chg (XD m pb fb) w wx))
    case first =>
      refine wp_swap (c' := ch2) (by kernel_rfl) ?_
      refine ch2_wp HN2.out (by rw [HNP.out.1]; exact h8) HFL.out _ _ _ _ _ _ _ _ _ _ _ _ _ _ _ _ _ _ _ _ _ _ _ _ _ _ _ _ _ _ _ _ _ _ _ _ _ _ _ _ _ _ _ _ _ _ _ _ _ _ _ _ _ _ _ _ _ _ _ _ _ _ _ _ _ _ _ _ _ _ _ _ _ _ _ _ _ _ _ _ _ _ _ _ _ _ _ _ _ _ _ _ _ _ _ _ _ _ _ _ _ _ _ _ _ _ _ _ _ _ _ _ _ _ _ _ _ _ _ _ _ _ _ _ _ _ _ _ _ _ _ _ _ _ _ _ _ _ _ _ _ _ _ _ _ _ _ _ _ _ _ _ _ _ _ _ _ _ _ _ _ _ _ _ _ _ _ _ _ _ _ _ _ _ _ _ _ _ _ _ _ _ _ _ _ _ _ _ _ _ _ _ _ _ _ _ _ _ _ _ _ _ _ _ _ _ _ _ _ _ _ _ _ _ _ _ _ _ _ _ _ _ _ _ ?_
      intro t173 t174 t175 t176 t177 t178 t179 t180 t181 t182 t183 t184 t185 t186 t187 t188 t189 t190 t191 t192 t193 t194 t195 t196 t197 t198 t199 t200 t201 t202 t203 t204 w' hD' hC'
      have HDx : Hid (DmP w' m pb fb c cf N) := Lib.hid (by rw [← HNC.out]; exact hD'.out)
      have HCx : Hid (Chg (XD m pb fb) w w') := Lib.hid (HC2.out.trans hC'.out)
      clear hD' hC'
      go_wp2_with fail
      go_meet
      exact ⟨HDx, HCx⟩
    obtain ⟨HN3, HC3⟩ := hcut
    clear HN2 HC2
    go_upto_block 4 with fail
    refine wp_swap (c' := ch3) (by kernel_rfl) ?_
    refine ch3_wp HN3.out (by rw [HNN.out.1]; exact h8) HNN.out.2.2.1 HNN.out.2.2.2 _ _ _ _ _ _ _ _ _ _ _ _ _ _ _ _ _ _ _ _ _ _ _ _ _ _ _ _ _ _ _ _ _ _ _ _ _ _ _ _ _ _ _ _ _ _ _ _ _ _ _ _ _ _ _ _ _ _ _ _ _ _ _ _ _ _ _ _ _ _ _ _ _ _ _ _ _ _ _ _ _ _ _ _ _ _ _ _ _ _ _ _ _ _ _ _ _ _ _ _ _ _ _ _ _ _ _ _ _ _ _ _ _ _ _ _ _ _ _ _ _ _ _ _ _ _ _ _ _ _ _ _ _ _ _ _ _ _ _ _ _ _ _ _ _ _ _ _ _ _ _ _ _ _ _ _ _ _ _ _ _ _ _ _ _ _ _ _ _ _ _ _ _ _ _ _ _ _ _ _ _ _ _ _ _ _ _ _ _ _ _ _ _ _ _ _ _ _ _ _ _ _ _ _ _ _ _ _ _ _ _ _ _ _ _ _ _ _ _ _ _ _ _ _ ?_
    intro t205 t206 t207 t208 t209 t210 t211 t212 t213 t214 t215 t216 t217 t218 t219 t220 t221 t222 t223 t224 w' hD' hC'
    have HDx : Hid (DmP w' m pb fb c cf M.choose) := Lib.hid (by rw [← HNN.out.2.1]; exact hD'.out)
    have HCx : Hid (Chg (XD m pb fb) w w') := Lib.hid (HC3.out.trans hC'.out)
    clear hD' hC' HN3 HC3
    go_wp2_with fail
    go_end0
    exact ⟨rfl, HDx.out, HCx.out⟩
end Go.Proofs.Ytlpmilaofcakbaa
