/- Layer 9: the document's May, Flushed. -/
import Derived.Test.YtlpmilaofcakbaaR4
import Derived.Test.YtlpmilaofcakbaaTwc
namespace Go.Proofs.Ytlpmilaofcakbaa
open Go.RowKit Go.Shelf
open Go.Sort (grow)
set_option linter.unusedVariables false
set_option linter.unusedSimpArgs false
set_option maxRecDepth 100000

set_option maxHeartbeats 1000000 in
theorem may_ref {w : World} {A : Option Addr} {c : Nat} {cs : List Int} (hE : Els 1 encC w A cs) (h63 : cs.length ≤ 1000) :
    Calls Try.prog 9 #[.slice A cs.length c] w fun e w' => e = .returned (.bool (mayC cs)) ∧ w = w' := by
  obtain ⟨n, hn⟩ : ∃ n, cs.length = n := ⟨_, rfl⟩
  have HE := Lib.hid hE
  have HN := Lib.hid hn
  rw [hn] at h63
  rw [hn]
  clear hE hn
  go_enter Try.func9, Try.ntmps9
  go_wp2_with fail
  go_loopw [3] (fun i wr => ∃ k : Nat, k ≤ n ∧ i = .int .i64 k ∧ w = wr ∧ Hid (∀ x ∈ cs.take k, x ≤ 65535)) (fun i _ => n - (intOf i).toNat)
  case atStart => exact ⟨0, Nat.zero_le _, rfl, rfl, Lib.hid (by simp)⟩
  case round =>
    obtain ⟨k, hk, rfl, rfl, hA⟩ := hrel
    by_cases hlt : k < n
    · have hlt' : k < cs.length := by rw [HN.out]; exact hlt
      obtain ⟨ba, off, rfl, hba, hc⟩ := HE.out (by omega)
      obtain ⟨x, hx⟩ : ∃ x, cs[k] = x := ⟨_, rfl⟩
      have cx : w.cell? ⟨ba, off + k, none⟩ = some (.int .u32 x) := by
        have := hc k hlt' 0 _ rfl
        simp only [Nat.mul_one, Nat.add_zero] at this
        rw [this, hx]
      have HKL : Hid (k < cs.length) := Lib.hid hlt'
      have HXX : Hid (∀ h : k < cs.length, cs[k]'h = x) := Lib.hid (fun _ => hx)
      clear hx hlt' hc hba
      by_cases h6 : 65535 < x
      · have d6 : decide ((65535 : Int) < x) = true := by simpa using h6
        have HNO : Hid (mayC cs = false) := Lib.hid (by
          unfold mayC
          rw [Bool.and_eq_false_iff]
          right
          rw [List.all_eq_false]
          exact ⟨x, by have := List.getElem_mem HKL.out; rw [HXX.out HKL.out] at this; exact this, by simpa using h6⟩)
        clear h6 hA
        go_wp2_with fail
        go_ret
        exact ⟨by rw [HNO.out]; rfl, rfl⟩
      · have d6 : decide ((65535 : Int) < x) = false := by simpa using h6
        have h6' : x ≤ 65535 := by omega
        have HA2 : Hid (∀ x ∈ cs.take (k + 1), x ≤ 65535) := Lib.hid (fun y hy => by
          rw [List.take_succ_eq_append_getElem HKL.out, HXX.out HKL.out] at hy
          rcases List.mem_append.1 hy with h | h
          · exact hA.out y h
          · rw [List.mem_singleton.1 h]; exact h6')
        clear h6 h6' hA
        go_wp2_with fail
        go_roundw
        case rel => exact ⟨k + 1, by omega, by go_num, trivial, HA2⟩
        case measure => simp [intOf]; omega
    · obtain rfl : k = n := by omega
      have HM : Hid (mayC cs = (decide (0 < k) && decide (k < 9))) := Lib.hid (by
        have h1 : cs.all (fun x => decide (x ≤ 65535)) = true := by
          rw [List.all_eq_true]
          intro x hx
          have := hA.out
          rw [← HN.out, List.take_length] at this
          simpa using this x hx
        unfold mayC
        rw [h1, HN.out, Bool.and_true]
        congr 1
        exact decide_eq_decide.2 (by omega))
      clear hA hlt HE HN
      by_cases h0 : 0 < k
      · by_cases h9 : k < 9
        · have d0 : decide ((0 : Int) < (k : Int)) = true := by simpa using h0
          have d9 : decide ((k : Int) < 9) = true := by simp; omega
          have HR : Hid (mayC cs = true) := Lib.hid (by rw [HM.out]; simp [h0, h9])
          clear HM
          go_wp2_with fail
          go_ret
          exact ⟨by rw [HR.out]; rfl, rfl⟩
        · have d0 : decide ((0 : Int) < (k : Int)) = true := by simpa using h0
          have d9 : decide ((k : Int) < 9) = false := by simp; omega
          have HR : Hid (mayC cs = false) := Lib.hid (by rw [HM.out]; simp [h9])
          clear HM
          go_wp2_with fail
          go_ret
          exact ⟨by rw [HR.out]; rfl, rfl⟩
      · obtain rfl : k = 0 := by omega
        have HR : Hid (mayC cs = false) := Lib.hid (by rw [HM.out]; rfl)
        clear HM
        go_wp2_with fail
        go_ret
        exact ⟨by rw [HR.out]; rfl, rfl⟩
theorem flN_drop (l : List Bool) (k : Nat) (hk : k < l.length) : flN (l.drop k) = 2 * flN (l.drop (k + 1)) + (l.getD k false).toNat := by
  rw [List.drop_eq_getElem_cons hk, flN, List.getD_eq_getElem?_getD, List.getElem?_eq_getElem hk]
  rfl
theorem flN_all (n : Nat) : flN (List.replicate n false) = 0 := flN_rep n
theorem bool_info9 : (Try.prog.info? 4).map (fun i => (i.zero, i.size, i.bytes)) = some (some (.bool false), 1, 1) := by kernel_rfl
theorem made_false (n : Nat) : (madeCells #[Value.bool false] n).toList = (List.replicate n false).map Value.bool := by
  rw [toList_madeCells_one]
  simp
set_option maxHeartbeats 4000000 in
theorem flushed_ref {w : World} {m pb fb c cf : Nat} {M : Mch} (hD : DmP w m pb fb c cf M) (h8 : M.ps.length ≤ 8) :
    Calls Try.prog 17 #[.pointer (some ⟨m, 0, none⟩)] w fun e w' => e = .returned (.int .u8 (flN M.fl : Nat)) ∧ ∃ fb' cf', DmP w' m pb fb' c cf' { M with fl := M.fl.map fun _ => false } ∧ Chg (XD m pb fb) w w' ∧ w.heap.size ≤ fb' := by
  obtain ⟨n, hn⟩ : ∃ n, M.ps.length = n := ⟨_, rfl⟩
  have HD := Lib.hid hD
  have HN := Lib.hid hn
  have c1 := hD.hd.cell 1
  have c7 := hD.hd.cell 7
  rw [hn] at h8 c1 c7
  have HNF : Hid (M.fl.length = n) := Lib.hid (by rw [hD.nf]; exact hn)
  have HSZ := Lib.hid hD.lt
  clear hD hn
  go_enter Try.func17, Try.ntmps17
  go_wp2_with fail
  go_loopw [3, 4] (fun v i wr => ∃ k : Nat, k ≤ n ∧ i = .int .i64 ((k : Int) - 1) ∧ v = .int .u8 (flN (M.fl.drop k) : Nat) ∧ w = wr) (fun _ i _ => (intOf i + 1).toNat)
  case atStart => exact ⟨n, Nat.le_refl _, rfl, by rw [← HNF.out, List.drop_length]; rfl, rfl⟩
  case round =>
    obtain ⟨k, hk, rfl, rfl, rfl⟩ := hrel
    by_cases hlt : 0 < k
    · obtain ⟨j, rfl⟩ : ∃ j, k = j + 1 := ⟨k - 1, by omega⟩
      have hj : ((j + 1 : Nat) : Int) - 1 = (j : Int) := by omega
      rw [hj]
      have cx := HD.out.fc (i := j) (by rw [HN.out]; omega)
      obtain ⟨x, hx⟩ : ∃ x, M.fl.getD j false = x := ⟨_, rfl⟩
      obtain ⟨F, hF⟩ : ∃ F, flN (M.fl.drop (j + 1)) = F := ⟨_, rfl⟩
      have HF : Hid (flN (M.fl.drop j) = 2 * F + x.toNat) := Lib.hid (by rw [flN_drop _ _ (by rw [HNF.out]; omega), hx, hF])
      have hF7 : F < 128 := by
        rw [← hF]
        have h1 := flN_lt (M.fl.drop (j + 1))
        have h2 : (2 : Nat) ^ (M.fl.drop (j + 1)).length ≤ 2 ^ 7 := Nat.pow_le_pow_right (by omega) (by rw [List.length_drop, HNF.out]; omega)
        omega
      rw [hx] at cx
      rw [hF]
      have g0 : decide ((0 : Int) ≤ (j : Int)) = true := by simp
      have hw2 : IntKind.u8.wrap ((F : Int) * 2) = ((2 * F : Nat) : Int) := by
        simp [IntKind.wrap, IntKind.signed, IntKind.bits]; omega
      clear hx hF
      cases x with
      | true =>
        have hw3 : IntKind.u8.wrap (((2 * F : Nat) : Int) + 1) = ((2 * F + 1 : Nat) : Int) := by
          simp [IntKind.wrap, IntKind.signed, IntKind.bits]; omega
        go_wp2_with fail
        go_roundw
        case rel => exact ⟨j, by omega, by go_num, by rw [HF.out]; rfl, trivial⟩
        case measure => simp [intOf]
      | false =>
        go_wp2_with fail
        go_roundw
        case rel => exact ⟨j, by omega, by go_num, by rw [HF.out]; rfl, trivial⟩
        case measure => simp [intOf]
    · obtain rfl : k = 0 := by omega
      have e0 : M.fl.drop 0 = M.fl := rfl
      rw [e0]
      obtain ⟨F, hF⟩ : ∃ F, flN M.fl = F := ⟨_, rfl⟩
      rw [hF]
      have HFF := Lib.hid hF
      clear hF hlt hk e0
      have hj : ((0 : Nat) : Int) - 1 = -1 := rfl
      rw [hj]
      obtain ⟨i, hi, hz0, hz1, hz2⟩ := info_parts bool_info9
      have ff := HD.out.fz 7
      go_wp2_with (at_make; refine wpList_make_full _ rfl _ _ 48 rfl w.heap.size 4 i _ 1 Try.underlying48 hi hz0 hz1 _ _ _ _ n rfl rfl rfl rfl (by rw [hz2]; omega) (by simp only [maxLen]; omega) (Nat.le_refl _) ?_)
      intro u2 hown2 hg2
      have HC2 : Hid (Chg (XD m pb fb) w u2) := Lib.hid (Chg.of_grown hg2 (fun k hk => by cases hk))
      have HD2 := HD.out.chg (Chg.of_grown (S := fun _ => False) hg2 (fun k hk => by cases hk)) id id id
      have HDN : Hid (DmP (u2.setCell ⟨m, 7, none⟩ (.slice (some ⟨w.heap.size, 0, none⟩) n n)) m pb w.heap.size c n { M with fl := M.fl.map fun _ => false }) := Lib.hid (by
        obtain ⟨a1, ⟨cs, a2, a3⟩, ⟨ds, a4, a5⟩, a6, a7⟩ := HD2
        have hsz := HSZ.out
        have hmf : (M.fl.map fun _ => false) = List.replicate n false := by rw [← HNF.out, List.map_const']
        obtain ⟨hl, hr⟩ := hown2
        rcases hr with ⟨hr, _⟩ | ⟨g, cap, cur, hv, hg1, hg3, hcap, _, _, hcur⟩
        · cases hr
        · injection hv with hv1 hv2 hv3
          injection hv1 with hv1
          injection hv1 with hv1
          subst hv1
          refine ⟨?_, ⟨cs, a2.far (p := ⟨m, 7, none⟩) (Ne.symm a6.1) _, a3⟩, ⟨cur, Blk.far (p := ⟨m, 7, none⟩) hg3 (by show w.heap.size ≠ m; omega) _, ?_⟩, ⟨a6.1, by omega, by omega⟩, by simp [a7]⟩
          · have := a1.put 7 (.slice (some ⟨w.heap.size, 0, none⟩) n n)
            rw [HN.out] at this
            rw [HN.out]
            exact this
          · have := hcur
            rw [made_false] at this
            rw [hmf, HN.out]
            simpa using this)
      have HCN : Hid (Chg (XD m pb fb) w (u2.setCell ⟨m, 7, none⟩ (.slice (some ⟨w.heap.size, 0, none⟩) n n))) := Lib.hid (HC2.out.setCell (p := ⟨m, 7, none⟩) (.inr XD.m) _)
      have k7 := HD2.hd.cell 7
      have f7 := HD2.fz 7
      clear hown2 hg2 HD2 hz0 hz1 hz2 hi c1 c7
      go_wp2_with fail
      go_ret
      exact ⟨by rw [HFF.out]; rfl, w.heap.size, n, HDN.out, HCN.out, Nat.le_refl _⟩
end Go.Proofs.Ytlpmilaofcakbaa
