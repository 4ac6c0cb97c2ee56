/- Layer 9: Up, Down, Tick. -/
import Derived.Test.YtlpmilaofcakbaaTw9
namespace Go.Proofs.Ytlpmilaofcakbaa
open Go.RowKit Go.Shelf
open Go.Sort (grow)
set_option linter.unusedVariables false
set_option linter.unusedSimpArgs false
set_option maxRecDepth 100000

theorem up_nil {w : World} {i : Nat} : Calls Try.prog 11 #[.pointer none, .int .u8 (i : Nat)] w fun e w' => e = .returned (.slice none 0 0) ∧ Gro w w' := by
  have kH := has_nil (w := w) (i := i)
  go_enter Try.func11, Try.ntmps11
  go_wp2_with fail
  refine kH.mono ?_
  rintro e w' ⟨rfl, rfl⟩
  go_wp2
  go_ret
  exact ⟨rfl, Gro.refl _⟩
theorem down_nil {w : World} {i : Nat} : Calls Try.prog 13 #[.pointer none, .int .u8 (i : Nat)] w fun e w' => e = .returned (.slice none 0 0) ∧ Gro w w' := by
  have kH := has_nil (w := w) (i := i)
  go_enter Try.func13, Try.ntmps13
  go_wp2_with fail
  refine kH.mono ?_
  rintro e w' ⟨rfl, rfl⟩
  go_wp2
  go_ret
  exact ⟨rfl, Gro.refl _⟩
set_option maxHeartbeats 2000000 in
theorem up_none {w : World} {g i : Nat} {M : Mch} (hM : MaP w g M) (hF : M.fits) (hi : ¬ i < M.ps.length) : Calls Try.prog 11 #[.pointer (some ⟨g, 0, none⟩), .int .u8 (i : Nat)] w fun e w' => e = .returned (.slice none 0 0) ∧ MaP w' g M ∧ Chg (· = g) w w' := by
  have kH := has_any (i := i) (hM.hd hF.n8).c1
  rw [decide_eq_false hi] at kH
  have HM := Lib.hid hM
  clear hM hF hi
  go_enter Try.func11, Try.ntmps11
  go_wp2_with fail
  refine kH.mono ?_
  rintro e w' ⟨rfl, rfl⟩
  clear kH
  go_wp2
  go_ret
  exact ⟨rfl, HM.out, Chg.refl _ _⟩
set_option maxHeartbeats 2000000 in
theorem up_as {w : World} {g i : Nat} {M : Mch} (hM : MaP w g M) (hF : M.fits) (hi : i < M.ps.length) (hu : (M.port i).up = true) : Calls Try.prog 11 #[.pointer (some ⟨g, 0, none⟩), .int .u8 (i : Nat)] w fun e w' => e = .returned (.slice none 0 0) ∧ MaP w' g M ∧ Chg (· = g) w w' := by
  have kH := has_any (i := i) (hM.hd hF.n8).c1
  rw [decide_eq_true hi] at kH
  have hi8 : i < 8 := by have := hF.n8; omega
  have hi8' : (i : Int) < 8 := by omega
  have c1 := (hM.sd hF.n8 hi).c1
  rw [hu] at c1
  have HM := Lib.hid hM
  clear hM hF hi hu
  go_enter Try.func11, Try.ntmps11
  go_wp2_with fail
  refine kH.mono ?_
  rintro e w' ⟨rfl, rfl⟩
  clear kH
  go_wp2
  go_ret
  exact ⟨rfl, HM.out, Chg.refl _ _⟩
set_option maxHeartbeats 4000000 in
theorem up_go {w : World} {g i : Nat} {M : Mch} (hM : MaP w g M) (hF : M.fits) (hi : i < M.ps.length) (hu : (M.port i).up = false) : Calls Try.prog 11 #[.pointer (some ⟨g, 0, none⟩), .int .u8 (i : Nat)] w fun e w' => e = .returned (.slice none 0 0) ∧ MaP w' g (M.setP i ((M.port i).reset true)).choose ∧ Chg (· = g) w w' := by
  have kH := has_any (i := i) (hM.hd hF.n8).c1
  rw [decide_eq_true hi] at kH
  have hi8 : i < 8 := by have := hF.n8; omega
  have hi8' : (i : Int) < 8 := by omega
  have c1 := (hM.sd hF.n8 hi).c1
  rw [hu] at c1
  have kR := reset_any (u := true) hM hF.n8 hi rfl
  have HM := Lib.hid hM
  have HF1 := Lib.hid (Mch.setP_fits hF (i := i) (Sd.reset_fit (hF.port _ (Mch.port_mem hi)) true))
  have HF := Lib.hid hF
  have HI := Lib.hid hi
  clear hM hF hi hu
  go_enter Try.func11, Try.ntmps11
  go_wp2_with fail
  refine kH.mono ?_
  rintro e w' ⟨rfl, rfl⟩
  clear kH
  go_wp2_with fail
  refine kR.mono ?_
  rintro e w1 ⟨rfl, hM1, hc1⟩
  have HM1 := Lib.hid hM1
  have HC1 := Lib.hid hc1
  clear kR hM1 hc1 c1
  have HM2 := HM1
  have HF2 := HF1
  have HC2 := HC1
  go_wp2_with fail
  refine (choose_any HM2.out HF2.out).mono ?_
  rintro e w2 ⟨rfl, hM2, hc2⟩
  have HM3 := Lib.hid hM2
  have HC3 := Lib.hid (HC2.out.trans hc2)
  clear hM2 hc2
  go_wp2
  go_ret
  exact ⟨rfl, HM3.out, HC3.out⟩
set_option maxHeartbeats 2000000 in
theorem down_none {w : World} {g i : Nat} {M : Mch} (hM : MaP w g M) (hF : M.fits) (hi : ¬ i < M.ps.length) : Calls Try.prog 13 #[.pointer (some ⟨g, 0, none⟩), .int .u8 (i : Nat)] w fun e w' => e = .returned (.slice none 0 0) ∧ MaP w' g M ∧ Chg (· = g) w w' := by
  have kH := has_any (i := i) (hM.hd hF.n8).c1
  rw [decide_eq_false hi] at kH
  have HM := Lib.hid hM
  clear hM hF hi
  go_enter Try.func13, Try.ntmps13
  go_wp2_with fail
  refine kH.mono ?_
  rintro e w' ⟨rfl, rfl⟩
  clear kH
  go_wp2
  go_ret
  exact ⟨rfl, HM.out, Chg.refl _ _⟩
set_option maxHeartbeats 2000000 in
theorem down_as {w : World} {g i : Nat} {M : Mch} (hM : MaP w g M) (hF : M.fits) (hi : i < M.ps.length) (hu : (M.port i).up = false) : Calls Try.prog 13 #[.pointer (some ⟨g, 0, none⟩), .int .u8 (i : Nat)] w fun e w' => e = .returned (.slice none 0 0) ∧ MaP w' g M ∧ Chg (· = g) w w' := by
  have kH := has_any (i := i) (hM.hd hF.n8).c1
  rw [decide_eq_true hi] at kH
  have hi8 : i < 8 := by have := hF.n8; omega
  have hi8' : (i : Int) < 8 := by omega
  have c1 := (hM.sd hF.n8 hi).c1
  rw [hu] at c1
  have HM := Lib.hid hM
  clear hM hF hi hu
  go_enter Try.func13, Try.ntmps13
  go_wp2_with fail
  refine kH.mono ?_
  rintro e w' ⟨rfl, rfl⟩
  clear kH
  go_wp2
  go_ret
  exact ⟨rfl, HM.out, Chg.refl _ _⟩
set_option maxHeartbeats 4000000 in
theorem down_go {w : World} {g i : Nat} {M : Mch} (hM : MaP w g M) (hF : M.fits) (hi : i < M.ps.length) (hu : (M.port i).up = true) : Calls Try.prog 13 #[.pointer (some ⟨g, 0, none⟩), .int .u8 (i : Nat)] w fun e w' => e = .returned (.slice none 0 0) ∧ MaP w' g ({ M.setP i ((M.port i).reset false) with fl := M.fl.set i true } : Mch).choose ∧ Chg (· = g) w w' := by
  have kH := has_any (i := i) (hM.hd hF.n8).c1
  rw [decide_eq_true hi] at kH
  have hi8 : i < 8 := by have := hF.n8; omega
  have hi8' : (i : Int) < 8 := by omega
  have c1 := (hM.sd hF.n8 hi).c1
  rw [hu] at c1
  have kR := reset_any (u := false) hM hF.n8 hi rfl
  have HM := Lib.hid hM
  have HF1 := Lib.hid (Mch.setP_fits hF (i := i) (Sd.reset_fit (hF.port _ (Mch.port_mem hi)) false))
  have HF := Lib.hid hF
  have HI := Lib.hid hi
  clear hM hF hi hu
  go_enter Try.func13, Try.ntmps13
  go_wp2_with fail
  refine kH.mono ?_
  rintro e w' ⟨rfl, rfl⟩
  clear kH
  go_wp2_with fail
  refine kR.mono ?_
  rintro e w1 ⟨rfl, hM1, hc1⟩
  have HM1 := Lib.hid hM1
  have HC1 := Lib.hid hc1
  clear kR hM1 hc1 c1
  obtain ⟨F, hF⟩ : ∃ F, flN M.fl = F := ⟨_, rfl⟩
  have h8' : (M.setP i ((M.port i).reset false)).ps.length ≤ 8 := by rw [Mch.setP_len]; exact HF.out.n8
  have hfl : (M.setP i ((M.port i).reset false)).fl = M.fl := rfl
  have c135 := (HM1.out.hd h8').c135
  rw [hfl, hF] at c135
  have f135 := HM1.out.fz 135
  have HBIT : Hid (bits BinOp.or IntKind.u8 (F : Int) (2 ^ i % 256) = ((flN (M.fl.set i true) : Nat) : Int)) := Lib.hid (by
    rw [← hF]
    exact fl_or _ i (by rw [HF.out.fl]; exact HI.out) (by rw [HF.out.fl]; exact HF.out.n8))
  have HM2 : Hid (MaP (w1.setCell ⟨g, 135, none⟩ (.int .u8 (bits BinOp.or IntKind.u8 (F : Int) (2 ^ i % 256)))) g { M.setP i ((M.port i).reset false) with fl := M.fl.set i true }) := Lib.hid (by
    rw [HBIT.out]
    exact HM1.out.putT h8' 5 _ _ rfl rfl rfl)
  have HC2 := Lib.hid (HC1.out.setCell (p := ⟨g, 135, none⟩) (.inr rfl) (.int .u8 (bits BinOp.or IntKind.u8 (F : Int) (2 ^ i % 256))))
  have HF2 : Hid (({ M.setP i ((M.port i).reset false) with fl := M.fl.set i true } : Mch).fits) := Lib.hid (Mch.fits_of (M := M.setP i ((M.port i).reset false)) HF1.out rfl HF1.out.port (by simp [Mch.setP, HF.out.fl]))
  clear hF h8' hfl HBIT
  go_upto_region 5 with fail
  obtain ⟨w3, hw3⟩ : ∃ w3, w1.setCell ⟨g, 135, none⟩ (.int .u8 (bits BinOp.or IntKind.u8 (F : Int) (2 ^ i % 256))) = w3 := ⟨_, rfl⟩
  rw [hw3] at HM2 HC2
  rw [hw3]
  clear hw3 c135 f135
  go_wp2_with fail
  refine (choose_any HM2.out HF2.out).mono ?_
  rintro e w2 ⟨rfl, hM2, hc2⟩
  have HM3 := Lib.hid hM2
  have HC3 := Lib.hid (HC2.out.trans hc2)
  clear hM2 hc2
  go_wp2
  go_ret
  exact ⟨rfl, HM3.out, HC3.out⟩
/-- up -/
theorem up_any {w : World} {g i : Nat} {M : Mch} (hM : MaP w g M) (hF : M.fits) : Calls Try.prog 11 #[.pointer (some ⟨g, 0, none⟩), .int .u8 (i : Nat)] w fun e w' => e = .returned (.slice none 0 0) ∧ MaP w' g (M.upP i) ∧ Chg (· = g) w w' := by
  unfold Mch.upP
  by_cases hi : i < M.ps.length
  · cases hu : (M.port i).up with
    | true => rw [if_neg (by simp)]; exact up_as hM hF hi hu
    | false => rw [if_pos ⟨hi, rfl⟩]; exact up_go hM hF hi hu
  · rw [if_neg (fun h => hi h.1)]; exact up_none hM hF hi
/-- down -/
theorem down_any {w : World} {g i : Nat} {M : Mch} (hM : MaP w g M) (hF : M.fits) : Calls Try.prog 13 #[.pointer (some ⟨g, 0, none⟩), .int .u8 (i : Nat)] w fun e w' => e = .returned (.slice none 0 0) ∧ MaP w' g (M.downP i) ∧ Chg (· = g) w w' := by
  unfold Mch.downP
  by_cases hi : i < M.ps.length
  · cases hu : (M.port i).up with
    | false => rw [if_neg (by simp)]; exact down_as hM hF hi hu
    | true => rw [if_pos ⟨hi, rfl⟩]; exact down_go hM hF hi hu
  · rw [if_neg (fun h => hi h.1)]; exact down_none hM hF hi
theorem els_set {α : Type} {k : Nat} {enc : α → List Value} {w : World} {A : Option Addr} {l : List α} {g : Nat} (h : Els k enc w A l) (hn : ∀ b off, A = some ⟨b, off, none⟩ → b ≠ g) (o : Nat) (v : Value) : Els k enc (w.setCell ⟨g, o, none⟩ v) A l := by
  intro h0
  obtain ⟨b, off, e, hlt, hc⟩ := h h0
  exact ⟨b, off, e, by simpa [World.setCell] using hlt, fun i hi j u hu => (World.cell?_of_block (w := w) (Below.heap_setCell w ⟨g, o, none⟩ v b (hn b off e))).trans (hc i hi j u hu)⟩
/-- less, of the first k ports -/
def Mch.mapTo (M : Mch) (f : Sd → Sd) (k : Nat) : Mch := { M with ps := M.ps.mapIdx fun i p => if i < k then f p else p }
theorem Mch.mapTo_zero (M : Mch) (f : Sd → Sd) : M.mapTo f 0 = M := by
  unfold Mch.mapTo
  rw [mapIdx_if_zero M.ps f]
theorem Mch.mapTo_all (M : Mch) (f : Sd → Sd) : M.mapTo f M.ps.length = { M with ps := M.ps.map f } := by
  unfold Mch.mapTo
  rw [mapIdx_if_all M.ps f _ (Nat.le_refl _)]
theorem Mch.mapTo_len (M : Mch) (f : Sd → Sd) (k : Nat) : (M.mapTo f k).ps.length = M.ps.length := by simp [Mch.mapTo]
theorem Mch.mapTo_port (M : Mch) (f : Sd → Sd) (k : Nat) (hk : k < M.ps.length) : (M.mapTo f k).port k = M.port k := by
  simp [Mch.mapTo, Mch.port, List.getD_eq_getElem?_getD, List.getElem?_mapIdx, hk]
theorem Mch.mapTo_succ (M : Mch) (f : Sd → Sd) (k : Nat) (hk : k < M.ps.length) : M.mapTo f (k + 1) = (M.mapTo f k).setP k (f (M.port k)) := by
  have h1 := mapIdx_if_succ M.ps f k hk
  rw [Mch.port_at hk] at h1
  unfold Mch.mapTo Mch.setP
  simp only [h1]
theorem tick_nil {w : World} : Calls Try.prog 14 #[.pointer none] w fun e w' => e = .returned (.slice none 0 0) ∧ Gro w w' := by
  go_enter Try.func14, Try.ntmps14
  go_wp2
  go_ret
  exact ⟨rfl, Gro.refl _⟩
theorem tick1_any {w : World} {i : Nat} : Calls Try.prog 40 #[.int .u8 (i : Nat)] w fun e w' => e = .returned (.bool true) ∧ w = w' := by
  go_enter Try.func40, Try.ntmps40
  go_wp2
  go_ret
  exact ⟨rfl, rfl⟩
set_option maxRecDepth 100000 in
set_option maxHeartbeats 4000000 in
theorem tick_any {w : World} {g : Nat} {M : Mch} (hM : MaP w g M) (hF : M.fits) :
    Calls Try.prog 14 #[.pointer (some ⟨g, 0, none⟩)] w fun e w' => ∃ A c, e = .returned (.slice A M.tickS.length c) ∧ Els 12 encS w' A M.tickS ∧ MaP w' g M.tick ∧ Chg (· = g) w w' ∧ ∀ b off, A = some ⟨b, off, none⟩ → w.heap.size ≤ b := by
  obtain ⟨n, hn⟩ : ∃ n, M.ps.length = n := ⟨_, rfl⟩
  have c1 := (hM.hd hF.n8).c1
  rw [hn] at c1
  have h8 : n ≤ 8 := by rw [← hn]; exact hF.n8
  have HM := Lib.hid hM
  have HF := Lib.hid hF
  have HN := Lib.hid hn
  clear hM hF hn
  go_enter Try.func14, Try.ntmps14
  go_wp2_with fail
  clear c1
  go_loopw [12] (fun i wr => ∃ k : Nat, k ≤ n ∧ i = .int .u8 k ∧ Hid (MaP wr g (M.mapTo Sd.less k)) ∧ Hid (Chg (· = g) w wr)) (fun i _ => n - (intOf i).toNat)
  case atStart => exact ⟨0, Nat.zero_le _, rfl, Lib.hid (by rw [Mch.mapTo_zero]; exact HM.out), Lib.hid (Chg.refl _ _)⟩
  case round =>
    obtain ⟨k, hk, rfl, hS, hC⟩ := hrel
    by_cases hlt : k < n
    · have hlt' : k < M.ps.length := by rw [HN.out]; exact hlt
      have hk8 : k < 8 := by omega
      have hk8' : (k : Int) < 8 := by omega
      have h8' : (M.mapTo Sd.less k).ps.length ≤ 8 := by rw [Mch.mapTo_len]; rw [HN.out]; exact h8
      have hpk := Mch.mapTo_port M Sd.less k hlt'
      have S := hS.out.sd (i := k) h8' (by rw [Mch.mapTo_len]; exact hlt')
      rw [hpk] at S
      have hb := HF.out.port _ (Mch.port_mem hlt')
      have kL := less_any hb.la.1 (by have := hb.la.2; omega) S.c13 (hS.out.fz (2 + k * 16 + 13))
      have HP : Hid (MaP (wr.setCell ⟨g, 2 + k * 16 + 13, none⟩ (.int .i64 (max 0 ((M.port k).la - 1)))) g (M.mapTo Sd.less (k + 1))) := Lib.hid (by
        rw [Mch.mapTo_succ _ _ _ hlt']
        exact hS.out.put h8' (by rw [Mch.mapTo_len]; exact hlt') 13 (by omega) _ _ (by rw [hpk]; rfl))
      have HC3 : Hid (Chg (· = g) w (wr.setCell ⟨g, 2 + k * 16 + 13, none⟩ (.int .i64 (max 0 ((M.port k).la - 1))))) := Lib.hid (hC.out.setCell (p := ⟨g, 2 + k * 16 + 13, none⟩) (.inr rfl) _)
      skip
      clear h8' hpk S hb hS hC hlt'
      go_wp2_with fail
      refine kL.mono ?_
      rintro e w4 ⟨rfl, rfl⟩
      clear kL
      go_wp2_with fail
      go_roundw
      case rel => exact ⟨k + 1, by omega, by go_num, HP, HC3⟩
      case measure => simp [intOf]; omega
    · obtain rfl : k = n := by omega
      obtain ⟨N, hN⟩ : ∃ N, ({ M with ps := M.ps.map Sd.less } : Mch) = N := ⟨_, rfl⟩
      have HNN := Lib.hid hN
      have HS : Hid (MaP wr g N) := Lib.hid (by
        have := hS.out
        rw [← HN.out, Mch.mapTo_all, hN] at this
        exact this)
      have HFN : Hid N.fits := Lib.hid (by rw [← hN]; exact Mch.map_fits HF.out fun _ => Sd.less_fit)
      clear hS hlt hN
      go_wp2_with fail
      refine (choose_any HS.out HFN.out).mono ?_
      rintro e w1 ⟨rfl, hM1, hc1⟩
      obtain ⟨T, hT⟩ : ∃ T, N.choose = T := ⟨_, rfl⟩
      have HTT : Hid (M.tick1 = T) := Lib.hid (by unfold Mch.tick1; rw [HNN.out, hT])
      have HFT : Hid T.fits := Lib.hid (by rw [← hT]; exact Mch.choose_fits HFN.out)
      have HLT : Hid (T.ps.length = k) := Lib.hid (by rw [← hT, Mch.choose_len, ← HNN.out]; simpa using HN.out)
      rw [hT] at hM1
      have HM1 := Lib.hid hM1
      have HC1 : Hid (Chg (· = g) w w1) := Lib.hid (hC.out.trans hc1)
      clear hM1 hc1 hT hC HS HFN
      go_wp2_with fail
      refine (send_tick HM1.out HFT.out.n8 (fun _ => true) (fun i _ W _ => tick1_any)).mono ?_
      rintro e w2 ⟨A, c, rfl, hE, hb, hbn⟩
      have HM2 := Lib.hid (HM1.out.next hb)
      have HC2 : Hid (Chg (· = g) w w2) := Lib.hid (HC1.out.trans (Chg.of_below hb))
      have hsz := hb.size
      obtain ⟨L, hL⟩ : ∃ L, T.send (fun _ => true) = L := ⟨_, rfl⟩
      have HLL : Hid (M.tickS = L) := Lib.hid (by unfold Mch.tickS; rw [HTT.out, hL])
      rw [hL] at hE
      have HNE : Hid (∀ b off, A = some ⟨b, off, none⟩ → w.heap.size ≤ b ∧ b ≠ g) := Lib.hid (fun b off e => ⟨Nat.le_trans HC1.out.size (hbn b off e), by have := hbn b off e; have := HM1.out.lt; omega⟩)
      have HE := Lib.hid hE
      clear hE hb hbn
      have HLLt : Hid (T.send (fun _ => true) = L) := Lib.hid hL
      rw [hL]
      clear hL
      obtain ⟨l, hl⟩ : ∃ l, L.length = l := ⟨_, rfl⟩
      have HLen := Lib.hid hl
      rw [hl]
      clear hl HM1 HC1 hsz
      have c1 := (HM2.out.hd HFT.out.n8).c1
      rw [HLT.out] at c1
      go_wp2_with fail
      clear c1
      go_loopw [31] (fun i wr => ∃ m : Nat, m ≤ k ∧ i = .int .u8 m ∧ Hid (MaP wr g (T.mapTo Sd.lessS m)) ∧ Hid (Chg (· = g) w wr) ∧ Hid (Els 12 encS wr A L)) (fun i _ => k - (intOf i).toNat)
      case atStart => exact ⟨0, Nat.zero_le _, rfl, Lib.hid (by rw [Mch.mapTo_zero]; exact HM2.out), HC2, HE⟩
      case round =>
        obtain ⟨j, hj, rfl, hS, hC, HE4⟩ := hrel
        by_cases hlt : j < k
        · have hlt' : j < T.ps.length := by rw [HLT.out]; exact hlt
          have hk8 : j < 8 := by omega
          have hk8' : (j : Int) < 8 := by omega
          have h8' : (T.mapTo Sd.lessS j).ps.length ≤ 8 := by rw [Mch.mapTo_len]; rw [HLT.out]; exact h8
          have hpk := Mch.mapTo_port T Sd.lessS j hlt'
          have S := hS.out.sd (i := j) h8' (by rw [Mch.mapTo_len]; exact hlt')
          rw [hpk] at S
          have hb := HFT.out.port _ (Mch.port_mem hlt')
          have kL := less_any hb.sp.1 (by have := hb.sp.2; omega) S.c15 (hS.out.fz (2 + j * 16 + 15))
          have HP : Hid (MaP (wr.setCell ⟨g, 2 + j * 16 + 15, none⟩ (.int .i64 (max 0 ((T.port j).sp - 1)))) g (T.mapTo Sd.lessS (j + 1))) := Lib.hid (by
            rw [Mch.mapTo_succ _ _ _ hlt']
            exact hS.out.put h8' (by rw [Mch.mapTo_len]; exact hlt') 15 (by omega) _ _ (by rw [hpk]; rfl))
          have HC3 : Hid (Chg (· = g) w (wr.setCell ⟨g, 2 + j * 16 + 15, none⟩ (.int .i64 (max 0 ((T.port j).sp - 1))))) := Lib.hid (hC.out.setCell (p := ⟨g, 2 + j * 16 + 15, none⟩) (.inr rfl) _)
          have HE5 := Lib.hid (els_set HE4.out (fun b off e => (HNE.out b off e).2) (2 + j * 16 + 15) (.int .i64 (max 0 ((T.port j).sp - 1))))
          clear h8' hpk S hb hS hC hlt' HE4
          go_wp2_with fail
          refine kL.mono ?_
          rintro e w4 ⟨rfl, rfl⟩
          clear kL
          go_wp2_with fail
          go_roundw
          case rel => exact ⟨j + 1, by omega, by go_num, HP, HC3, HE5⟩
          case measure => simp [intOf]; omega
        · obtain rfl : j = k := by omega
          have HE6 : Hid (MaP wr g M.tick) := Lib.hid (by
            have := hS.out
            rw [← HLT.out, Mch.mapTo_all] at this
            unfold Mch.tick
            rw [HTT.out]
            exact this)
          clear hS hlt
          go_wp2
          go_ret
          rw [HLL.out, HLen.out]
          exact ⟨A, c, rfl, HE4.out, HE6.out, hC.out, fun b off e => (HNE.out b off e).1⟩
end Go.Proofs.Ytlpmilaofcakbaa
