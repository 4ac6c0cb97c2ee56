/- Layer 9: change. -/
import Derived.Test.YtlpmilaofcakbaaTw4
namespace Go.Proofs.Ytlpmilaofcakbaa
open Go.RowKit Go.Shelf
open Go.Sort (grow)
set_option linter.unusedVariables false
set_option linter.unusedSimpArgs false
set_option maxRecDepth 100000

theorem or_all : ∀ k : Fin 8, ∀ F : Fin 256, bits BinOp.or IntKind.u8 ((F.1 : Nat) : Int) (2 ^ k.1 % 256) = ((F.1 ||| (1 <<< k.1) : Nat) : Int) := by decide +kernel
theorem fl_or (l : List Bool) (k : Nat) (hk : k < l.length) (h8 : l.length ≤ 8) : bits BinOp.or IntKind.u8 ((flN l : Nat) : Int) (2 ^ k % 256) = ((flN (l.set k true) : Nat) : Int) := by
  have hF : flN l < 256 := Nat.lt_of_lt_of_le (flN_lt l) (by have := Nat.pow_le_pow_right (n := 2) (by omega) h8; simpa using this)
  have := or_all ⟨k, by omega⟩ ⟨flN l, hF⟩
  simp only at this
  rw [this, flN_set l k hk]
/-- changed, of the first k ports -/
def Mch.changeTo (M : Mch) (k : Nat) : Mch := { M with ver := wrap64 (M.ver + 1), ps := M.ps.mapIdx (fun i p => if i < k then p.chg else p), fl := M.fl.mapIdx (fun i x => if i < k then true else x) }
theorem mapIdx_if_succ {α : Type} (l : List α) (f : α → α) (k : Nat) (hk : k < l.length) : (l.mapIdx fun i p => if i < k + 1 then f p else p) = (l.mapIdx fun i p => if i < k then f p else p).set k (f l[k]) := by
  apply List.ext_getElem?
  intro j
  rw [List.getElem?_set, List.getElem?_mapIdx, List.getElem?_mapIdx]
  by_cases e : k = j
  · subst e
    simp [hk]
  · rw [if_neg e]
    cases l[j]? with
    | none => rfl
    | some x =>
      simp only [Option.map_some, Option.some.injEq]
      by_cases h : j < k
      · rw [if_pos h, if_pos (by omega)]
      · rw [if_neg h, if_neg (by omega)]
theorem mapIdx_if_zero {α : Type} (l : List α) (f : α → α) : (l.mapIdx fun i p => if i < 0 then f p else p) = l := by
  apply List.ext_getElem?
  intro j
  rw [List.getElem?_mapIdx]
  cases l[j]? <;> simp
theorem mapIdx_if_all {α : Type} (l : List α) (f : α → α) (k : Nat) (hk : l.length ≤ k) : (l.mapIdx fun i p => if i < k then f p else p) = l.map f := by
  apply List.ext_getElem?
  intro j
  rw [List.getElem?_mapIdx, List.getElem?_map]
  cases h : l[j]? with
  | none => rfl
  | some x =>
    have := (List.getElem?_eq_some_iff.1 h).1
    simp only [Option.map_some, Option.some.injEq]
    rw [if_pos (by omega)]
theorem Mch.changeTo_zero (M : Mch) : M.changeTo 0 = { M with ver := wrap64 (M.ver + 1) } := by
  unfold Mch.changeTo
  rw [mapIdx_if_zero M.ps Sd.chg, mapIdx_if_zero M.fl (fun _ => true)]
theorem Mch.changeTo_all (M : Mch) (hf : M.fl.length = M.ps.length) : M.changeTo M.ps.length = M.change := by
  unfold Mch.changeTo Mch.change
  rw [mapIdx_if_all M.ps Sd.chg _ (Nat.le_refl _), mapIdx_if_all M.fl (fun _ => true) _ (by omega)]
theorem Mch.changeTo_len (M : Mch) (k : Nat) : (M.changeTo k).ps.length = M.ps.length := by simp [Mch.changeTo]
theorem Mch.changeTo_port (M : Mch) (k : Nat) (hk : k < M.ps.length) : (M.changeTo k).port k = M.port k := by
  simp [Mch.changeTo, Mch.port, List.getD_eq_getElem?_getD, List.getElem?_mapIdx, hk]
theorem Mch.changeTo_succ (M : Mch) (k : Nat) (hk : k < M.ps.length) (hf : M.fl.length = M.ps.length) : M.changeTo (k + 1) = { (M.changeTo k).setP k (M.port k).chg with fl := (M.changeTo k).fl.set k true } := by
  have h1 := mapIdx_if_succ M.ps Sd.chg k hk
  have h2 := mapIdx_if_succ M.fl (fun _ => true) k (by omega)
  rw [Mch.port_at hk] at h1
  unfold Mch.changeTo Mch.setP
  simp only [h1, h2]
set_option maxRecDepth 100000 in
set_option maxHeartbeats 4000000 in
theorem change_any {w : World} {g : Nat} {M : Mch} (hM : MaP w g M) (h8 : M.ps.length ≤ 8) (hf : M.fl.length = M.ps.length) :
    Calls Try.prog 57 #[.pointer (some ⟨g, 0, none⟩)] w fun e w' => e = .returned (.tuple #[]) ∧ MaP w' g M.change ∧ Chg (· = g) w w' := by
  obtain ⟨n, hn⟩ : ∃ n, M.ps.length = n := ⟨_, rfl⟩
  have c1 := (hM.hd h8).c1
  have c134 := (hM.hd h8).c134
  have f := fun i => hM.fz i
  rw [hn] at c1 h8
  have HM := Lib.hid hM
  have HN := Lib.hid (And.intro hn hf)
  have hg : g < w.heap.size := hM.lt
  clear hM hn hf
  go_enter Try.func57, Try.ntmps57
  go_wp2_with fail
  go_loopw [15] (fun i wr => ∃ k : Nat, k ≤ n ∧ i = .int .u8 k ∧ Hid (MaP wr g (M.changeTo k)) ∧ Hid (Chg (· = g) w wr)) (fun i _ => n - (intOf i).toNat)
  case atStart =>
    refine ⟨0, Nat.zero_le _, rfl, Lib.hid ?_, Lib.hid ((Chg.refl (· = g) w).setCell (p := ⟨g, 134, none⟩) (.inr rfl) _)⟩
    rw [Mch.changeTo_zero]
    exact HM.out.putT (by rw [HN.out.1]; exact h8) 4 _ _ rfl rfl rfl
  case round =>
    obtain ⟨k, hk, rfl, hS, hC⟩ := hrel
    by_cases hlt : k < n
    · have hlt' : k < M.ps.length := by rw [HN.out.1]; exact hlt
      have hk8 : k < 8 := by omega
      have hk8' : (k : Int) < 8 := by omega
      obtain ⟨p, hp⟩ : ∃ p, M.port k = p := ⟨_, rfl⟩
      have hpk : (M.changeTo k).port k = p := by rw [Mch.changeTo_port _ _ hlt', hp]
      have h8' : (M.changeTo k).ps.length ≤ 8 := by rw [Mch.changeTo_len, HN.out.1]; exact h8
      have s14 := (hS.out.sd (i := k) h8' (by rw [Mch.changeTo_len]; exact hlt')).c14
      have f14 := hS.out.fz (2 + k * 16 + 14)
      have HP1 : Hid (MaP (wr.setCell ⟨g, 2 + k * 16 + 14, none⟩ (.bool false)) g ((M.changeTo k).setP k { p with ag := false })) := Lib.hid (hS.out.put h8' (by rw [Mch.changeTo_len]; exact hlt') 14 (by omega) (.bool false) _ (by rw [hpk]; rfl))
      have HC1 : Hid (Chg (· = g) w (wr.setCell ⟨g, 2 + k * 16 + 14, none⟩ (.bool false))) := Lib.hid (hC.out.setCell (p := ⟨g, 2 + k * 16 + 14, none⟩) (.inr rfl) _)
      obtain ⟨w1, hw1⟩ : ∃ w1, wr.setCell ⟨g, 2 + k * 16 + 14, none⟩ (.bool false) = w1 := ⟨_, rfl⟩
      have HW1 := Lib.hid hw1
      rw [hw1] at HP1 HC1
      have kL := isLink_any (HP1.out.sd (i := k) (by rw [Mch.setP_len]; exact h8') (by rw [Mch.setP_len, Mch.changeTo_len]; exact hlt'))
      rw [Mch.setP_port _ (by rw [Mch.changeTo_len]; exact hlt')] at kL
      have hlv : ({ p with ag := false } : Sd).live = p.live := rfl
      rw [hlv] at kL
      have HPP := Lib.hid (And.intro hp hpk)
      clear hw1 hp hpk hlv h8' hS hC
      go_upto_region 6 with fail
      rw [HW1.out]
      clear HW1 s14 f14
      cases hl : p.live with
      | true =>
        rw [hl] at kL
        have HP2 : Hid (MaP (w1.setCell ⟨g, 2 + k * 16 + 15, none⟩ (.int .i64 4)) g ((M.changeTo k).setP k p.chg)) := Lib.hid (by
          have := HP1.out.put (i := k) (by rw [Mch.setP_len, Mch.changeTo_len, HN.out.1]; exact h8) (by rw [Mch.setP_len, Mch.changeTo_len]; exact hlt') 15 (by omega) (.int .i64 4) p.chg (by rw [Mch.setP_port _ (by rw [Mch.changeTo_len]; exact hlt')]; unfold Sd.chg; rw [hl, if_pos rfl]; rfl)
          rw [Mch.setP_setP] at this
          exact this)
        have HC2 : Hid (Chg (· = g) w (w1.setCell ⟨g, 2 + k * 16 + 15, none⟩ (.int .i64 4))) := Lib.hid (HC1.out.setCell (p := ⟨g, 2 + k * 16 + 15, none⟩) (.inr rfl) _)
        obtain ⟨w2, hw2⟩ : ∃ w2, w1.setCell ⟨g, 2 + k * 16 + 15, none⟩ (.int .i64 4) = w2 := ⟨_, rfl⟩
        have HW2 := Lib.hid hw2
        rw [hw2] at HP2 HC2
        have s15 := (HP1.out.sd (i := k) (by rw [Mch.setP_len, Mch.changeTo_len, HN.out.1]; exact h8) (by rw [Mch.setP_len, Mch.changeTo_len]; exact hlt')).c15
        have f15 := HP1.out.fz (2 + k * 16 + 15)
        clear hw2 hl
        clear HP1 HC1
        obtain ⟨F, hF⟩ : ∃ F, flN (M.changeTo k).fl = F := ⟨_, rfl⟩
        have c135 := (HP2.out.hd (by rw [Mch.setP_len, Mch.changeTo_len, HN.out.1]; exact h8)).c135
        have hfs : ((M.changeTo k).setP k p.chg).fl = (M.changeTo k).fl := rfl
        rw [hfs, hF] at c135
        have f135 := HP2.out.fz 135
        have HBIT : Hid (bits BinOp.or IntKind.u8 (F : Int) (2 ^ k % 256) = ((flN ((M.changeTo k).fl.set k true) : Nat) : Int)) := Lib.hid (by
          have hlen : (M.changeTo k).fl.length = n := by unfold Mch.changeTo; rw [List.length_mapIdx, HN.out.2, HN.out.1]
          rw [← hF]
          exact fl_or _ k (by rw [hlen]; rw [← HN.out.1]; exact hlt') (by rw [hlen]; exact h8))
        clear hF hfs
        go_wp2_with fail
        refine (kL).mono ?_
        rintro e w' ⟨rfl, rfl⟩
        clear kL
        go_upto_region 8 with fail
        rw [HW2.out]
        clear HW2 s15 f15
        go_wp2_with fail
        go_roundw
        case rel =>
          rw [HBIT.out]
          refine ⟨k + 1, by omega, by go_num, Lib.hid ?_, Lib.hid (HC2.out.setCell (p := ⟨g, 135, none⟩) (.inr rfl) _)⟩
          rw [Mch.changeTo_succ M k hlt' HN.out.2, HPP.out.1]
          exact HP2.out.putT (by rw [Mch.setP_len, Mch.changeTo_len, HN.out.1]; exact h8) 5 _ _ rfl rfl rfl
        case measure => simp [intOf]; omega
      | false =>
        rw [hl] at kL
        have HP2 : Hid (MaP w1 g ((M.changeTo k).setP k p.chg)) := Lib.hid (by
          have e : p.chg = { p with ag := false } := by unfold Sd.chg; rw [hl]; rfl
          rw [e]; exact HP1.out)
        have HC2 := HC1
        clear hl
        clear HP1 HC1
        obtain ⟨F, hF⟩ : ∃ F, flN (M.changeTo k).fl = F := ⟨_, rfl⟩
        have c135 := (HP2.out.hd (by rw [Mch.setP_len, Mch.changeTo_len, HN.out.1]; exact h8)).c135
        have hfs : ((M.changeTo k).setP k p.chg).fl = (M.changeTo k).fl := rfl
        rw [hfs, hF] at c135
        have f135 := HP2.out.fz 135
        have HBIT : Hid (bits BinOp.or IntKind.u8 (F : Int) (2 ^ k % 256) = ((flN ((M.changeTo k).fl.set k true) : Nat) : Int)) := Lib.hid (by
          have hlen : (M.changeTo k).fl.length = n := by unfold Mch.changeTo; rw [List.length_mapIdx, HN.out.2, HN.out.1]
          rw [← hF]
          exact fl_or _ k (by rw [hlen]; rw [← HN.out.1]; exact hlt') (by rw [hlen]; exact h8))
        clear hF hfs
        go_wp2_with fail
        refine (kL).mono ?_
        rintro e w' ⟨rfl, rfl⟩
        clear kL
        go_upto_region 8 with fail
        go_wp2_with fail
        go_roundw
        case rel =>
          rw [HBIT.out]
          refine ⟨k + 1, by omega, by go_num, Lib.hid ?_, Lib.hid (HC2.out.setCell (p := ⟨g, 135, none⟩) (.inr rfl) _)⟩
          rw [Mch.changeTo_succ M k hlt' HN.out.2, HPP.out.1]
          exact HP2.out.putT (by rw [Mch.setP_len, Mch.changeTo_len, HN.out.1]; exact h8) 5 _ _ rfl rfl rfl
        case measure => simp [intOf]; omega
    · obtain rfl : k = n := by omega
      have HE : Hid (MaP wr g M.change) := Lib.hid (by
        have := hS.out
        rw [← HN.out.1, Mch.changeTo_all M HN.out.2] at this
        exact this)
      clear hS hlt
      go_wp2
      go_end0
      exact ⟨rfl, HE.out, hC.out⟩
end Go.Proofs.Ytlpmilaofcakbaa
