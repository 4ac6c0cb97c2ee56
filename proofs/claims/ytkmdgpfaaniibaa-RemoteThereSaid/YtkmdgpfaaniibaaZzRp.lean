/- Layer 10: the document's own Put. -/
import Derived.Test.YtkmdgpfaaniibaaZz
namespace Go.Proofs.Ytkmdgpfaaniibaa
open Go.RowKit
set_option linter.unusedVariables false
set_option linter.unusedSimpArgs false
set_option maxRecDepth 100000

theorem mdE_alt (a b : List UInt8) : mdE a b = if !(a.all nmB) || !isn b then 2 else if 44 < a.length + b.length then 5 else 0 := by
  unfold mdE
  have e : (!a.isEmpty && !isn a) = !(a.all nmB) := by
    unfold isn
    cases a with
    | nil => rfl
    | cons x a => simp
  rw [e]
theorem conv_one (W : World) (n : Nat) (h : n ≤ 255) :
    (convert 53 9 (.slice (some ⟨W.heap.size, 0, none⟩) 1 1)).run Try.prog (W.alloc (.cells #[.int .u8 (n : Int)] 5)) = .ok (.string ⟨[UInt8.ofNat n].toArray⟩) (W.alloc (.cells #[.int .u8 (n : Int)] 5)) := by
  have hv : (Value.int .u8 (n : Int)) = bval (UInt8.ofNat n) := by
    unfold bval
    rw [ofNat_toNat_small n (by omega)]
  exact Str.conv (l := [UInt8.ofNat n]) ⟨some ⟨W.heap.size, 0, none⟩, 1, rfl, (fun h => nomatch h), Byt.one W 5 _ _ hv⟩
def lenP (v : Value) : Nat := match v with | .string b => b.size | _ => 0
def pad (M : List UInt8) (k : Nat) : List UInt8 := M ++ List.replicate k 0
theorem pad_len (M : List UInt8) (k : Nat) : (pad M k).length = M.length + k := by simp [pad]
theorem pad_next (M : List UInt8) (k : Nat) : pad M k ++ [0] = pad M (k + 1) := by
  unfold pad
  rw [List.append_assoc, List.replicate_succ']
set_option maxHeartbeats 2000000 in
theorem refput_any (a b : List UInt8) (w : World) (hal : a.length ≤ 1000000) (hbl : b.length ≤ 1000000) :
    Calls Try.prog 35 #[.string ⟨a.toArray⟩, .string ⟨b.toArray⟩] w fun e w' => e = .returned (.tuple #[.string ⟨(mdV a b).toArray⟩, .int .i64 (mdE a b)]) ∧ Below w.heap.size w w' := by
  obtain ⟨na, hna⟩ : ∃ q, a.all nmB = q := ⟨_, rfl⟩
  obtain ⟨nb, hnb⟩ : ∃ q, isn b = q := ⟨_, rfl⟩
  have KA := Lib.hid (fun w => refname_any a true w hal)
  have KB := Lib.hid (fun w => refname_any b false w hbl)
  have ha2 : (a.all nmB && (true || !a.isEmpty)) = na := by rw [hna]; cases na <;> rfl
  have hb2 : (b.all nmB && (false || !b.isEmpty)) = nb := by rw [← hnb]; rfl
  rw [ha2] at KA
  rw [hb2] at KB
  have hE : mdE a b = if !na || !nb then 2 else if 44 < a.length + b.length then 5 else 0 := by rw [mdE_alt, hna, hnb]
  have HE := Lib.hid hE
  have HB0 := Lib.hid (Below.refl w.heap.size w)
  have hez : (a == []) = a.isEmpty := by cases a <;> rfl
  clear hna hnb ha2 hb2 hE
  have T2 : Hid (mdE a b = 2 → Ending.returned (.tuple #[.string ⟨#[]⟩, .int .i64 2]) = Ending.returned (.tuple #[.string ⟨(mdV a b).toArray⟩, .int .i64 (mdE a b)])) := Lib.hid (fun h => by rw [mdV_ne (by omega), h])
  have T5 : Hid (mdE a b = 5 → Ending.returned (.tuple #[.string ⟨#[]⟩, .int .i64 5]) = Ending.returned (.tuple #[.string ⟨(mdV a b).toArray⟩, .int .i64 (mdE a b)])) := Lib.hid (fun h => by rw [mdV_ne (by omega), h])
  cases na
  · have H2 : Hid (mdE a b = 2) := Lib.hid (by rw [HE.out]; rfl)
    clear hez
    go_enter Try.func35, Try.ntmps35
    go_wp2_with fail
    refine (KA.out _).mono ?_
    rintro e w1 ⟨rfl, rfl⟩
    go_wp2
    go_ret2
    exact ⟨T2.out H2.out, HB0.out⟩
  cases nb
  · have H2 : Hid (mdE a b = 2) := Lib.hid (by rw [HE.out]; rfl)
    clear hez
    go_enter Try.func35, Try.ntmps35
    go_wp2_with fail
    refine (KA.out _).mono ?_
    rintro e w1 ⟨rfl, rfl⟩
    go_wp2_with fail
    refine (KB.out _).mono ?_
    rintro e w1 ⟨rfl, rfl⟩
    go_wp2
    go_ret2
    exact ⟨T2.out H2.out, HB0.out⟩
  by_cases hlen : 44 < a.length + b.length
  · have H5 : Hid (mdE a b = 5) := Lib.hid (by rw [HE.out]; simp [hlen])
    clear hez
    by_cases h1 : 44 < a.length
    · have d1 : (44 : Int) < (a.length : Int) := by omega
      go_enter Try.func35, Try.ntmps35
      go_wp2_with fail
      refine (KA.out _).mono ?_
      rintro e w1 ⟨rfl, rfl⟩
      go_wp2_with fail
      refine (KB.out _).mono ?_
      rintro e w1 ⟨rfl, rfl⟩
      go_wp2
      go_ret2
      exact ⟨T5.out H5.out, HB0.out⟩
    by_cases h2 : 44 < b.length
    · have d1 : ¬ (44 : Int) < (a.length : Int) := by omega
      have d2 : (44 : Int) < (b.length : Int) := by omega
      go_enter Try.func35, Try.ntmps35
      go_wp2_with fail
      refine (KA.out _).mono ?_
      rintro e w1 ⟨rfl, rfl⟩
      go_wp2_with fail
      refine (KB.out _).mono ?_
      rintro e w1 ⟨rfl, rfl⟩
      go_wp2
      go_ret2
      exact ⟨T5.out H5.out, HB0.out⟩
    · have d1 : ¬ (44 : Int) < (a.length : Int) := by omega
      have d2 : ¬ (44 : Int) < (b.length : Int) := by omega
      have d3 : (44 : Int) < (a.length : Int) + (b.length : Int) := by omega
      go_enter Try.func35, Try.ntmps35
      go_wp2_with fail
      refine (KA.out _).mono ?_
      rintro e w1 ⟨rfl, rfl⟩
      go_wp2_with fail
      refine (KB.out _).mono ?_
      rintro e w1 ⟨rfl, rfl⟩
      go_wp2
      go_ret2
      exact ⟨T5.out H5.out, HB0.out⟩
  have h0 : mdE a b = 0 := by rw [HE.out]; simp [hlen]
  have hml := mdB_le h0
  have H0 := Lib.hid h0
  obtain ⟨D, hD⟩ : ∃ D, mdH a = D := ⟨_, rfl⟩
  obtain ⟨M, hM⟩ : ∃ M, mdB a b = M := ⟨_, rfl⟩
  have hMD : M = (D ++ [2]) ++ [UInt8.ofNat b.length] ++ b := by rw [← hM, ← hD]; unfold mdB; simp
  rw [hM] at hml
  have hdl : D.length ≤ 46 := by rw [hMD] at hml; simp at hml; omega
  have hV : mdV a b = pad M (48 - M.length) := by unfold mdV mdW pad; rw [if_pos h0, hM]
  have HV := Lib.hid hV
  obtain ⟨Y1, hY1⟩ : ∃ Y, [UInt8.ofNat b.length] = Y := ⟨_, rfl⟩
  obtain ⟨B1, hB1⟩ : ∃ B, D ++ [2] = B := ⟨_, rfl⟩
  obtain ⟨B2, hB2⟩ : ∃ B, B1 ++ Y1 = B := ⟨_, rfl⟩
  have hM2 : B2 ++ b = M := by rw [hMD, ← hB2, ← hB1, ← hY1]
  have l1 : B1.length ≤ 47 := by rw [← hB1]; simp; omega
  have l2 : Y1.length = 1 := by rw [← hY1]; rfl
  have l3 : B2.length ≤ 48 := by rw [← hB2]; simp; omega
  have a1 : ∀ W : World, (Op.stringOp .add ⟨D.toArray⟩ ⟨#[2]⟩).run Try.prog W = .ok (.string ⟨B1.toArray⟩) W := fun W => by rw [← hB1]; exact run_string_add_lists W D [2] (by omega) (by decide)
  have a2 : ∀ W : World, (Op.stringOp .add ⟨B1.toArray⟩ ⟨Y1.toArray⟩).run Try.prog W = .ok (.string ⟨B2.toArray⟩) W := fun W => by rw [← hB2]; exact run_string_add_lists W B1 Y1 (by omega) (by omega)
  have a3 : ∀ W : World, (Op.stringOp .add ⟨B2.toArray⟩ ⟨b.toArray⟩).run Try.prog W = .ok (.string ⟨M.toArray⟩) W := fun W => by rw [← hM2]; exact run_string_add_lists W B2 b (by omega) (by omega)
  have a4 : ∀ (k : Nat) (W : World), k ≤ 48 → (Op.stringOp .add ⟨(pad M k).toArray⟩ ⟨#[0]⟩).run Try.prog W = .ok (.string ⟨(pad M (k + 1)).toArray⟩) W := fun k W hk => by rw [← pad_next]; exact run_string_add_lists W (pad M k) [0] (by rw [pad_len]; omega) (by decide)
  have A4 := Lib.hid a4
  have cv : ∀ W : World, (convert 53 9 (.slice (some ⟨W.heap.size, 0, none⟩) 1 1)).run Try.prog (W.alloc (.cells #[.int .u8 (b.length : Int)] 5)) = .ok (.string ⟨Y1.toArray⟩) (W.alloc (.cells #[.int .u8 (b.length : Int)] 5)) := fun W => by rw [← hY1]; exact conv_one W b.length (by omega)
  have hwb : IntKind.u8.wrap (b.length : Int) = (b.length : Int) := by simp [IntKind.wrap, IntKind.signed, IntKind.bits]; omega
  have hwa : IntKind.u8.wrap (a.length : Int) = (a.length : Int) := by simp [IntKind.wrap, IntKind.signed, IntKind.bits]; omega
  have d1 : ¬ (44 : Int) < (a.length : Int) := by omega
  have d2 : ¬ (44 : Int) < (b.length : Int) := by omega
  have d3 : ¬ (44 : Int) < (a.length : Int) + (b.length : Int) := by omega
  have HCV := Lib.hid cv
  have HM := Lib.hid hml
  by_cases hz : a = []
  · have hD1 : D = [1] := by rw [← hD, hz]; rfl
    have hz1 : (a == []) = true := by rw [hz]; rfl
    have hz0 : a.isEmpty = true := by rw [hz]; rfl
    rw [hD1] at a1
    have cv0 := cv w
    clear hM hMD hD hdl hV hY1 hB1 hB2 hM2 l1 l2 l3 a4 cv hml h0 hlen hD1 hez hz
    go_enter Try.func35, Try.ntmps35
    go_wp2_with fail
    refine (KA.out _).mono ?_
    rintro e w1 ⟨rfl, rfl⟩
    go_wp2_with fail
    refine (KB.out _).mono ?_
    rintro e w1 ⟨rfl, rfl⟩
    go_wp2
    go_loop [6] (fun v => ∃ (j : Nat) (P : List UInt8), v = .string ⟨P.toArray⟩ ∧ Hid (P = pad M j ∧ P.length ≤ 48)) (fun v => 48 - lenP v)
    case atStart => exact ⟨0, M, rfl, Lib.hid ⟨by simp [pad], HM.out⟩⟩
    case round =>
      obtain ⟨j, P, rfl, HP⟩ := hrel
      by_cases hp : P.length < 48
      · have hj : j ≤ 48 := by have := HP.out.2; rw [HP.out.1, pad_len] at this; omega
        have e4 := fun W => A4.out j W hj
        rw [← HP.out.1] at e4
        obtain ⟨P2, hP2⟩ : ∃ P2, pad M (j + 1) = P2 := ⟨_, rfl⟩
        simp only [hP2] at e4
        have HQ : Hid (P2 = pad M (j + 1) ∧ P2.length ≤ 48) := Lib.hid ⟨hP2.symm, by rw [← hP2, pad_len]; rw [HP.out.1, pad_len] at hp; omega⟩
        have hl2 : P2.length = P.length + 1 := by rw [← hP2, pad_len, HP.out.1, pad_len]; omega
        have d5 : (P.length : Int) < 48 := by omega
        clear hP2 hj
        go_wp2
        exact ⟨⟨j + 1, P2, rfl, HQ⟩, by simp [lenP, ByteArray.size]; omega⟩
      · have d5 : ¬ (P.length : Int) < 48 := by omega
        have he : mdV a b = P := by
          have h1 := HP.out.2
          have h2 := HP.out.1
          rw [HV.out, h2]
          rw [h2, pad_len] at h1 hp
          congr 1
          omega
        have HEQ := Lib.hid he
        clear he hp
        go_wp2
        go_ret2
        exact ⟨by rw [HEQ.out, H0.out]; rfl, HB0.out.alloc (Nat.le_refl _) _⟩
  · have hD1 : D = (([4] : List UInt8) ++ [UInt8.ofNat a.length]) ++ a := by rw [← hD]; unfold mdH; rw [if_neg hz]; rfl
    have hz1 : (a == []) = false := by simpa using hz
    have hz0 : a.isEmpty = false := by simpa using hz
    obtain ⟨X1, hX1⟩ : ∃ X, [UInt8.ofNat a.length] = X := ⟨_, rfl⟩
    obtain ⟨C1, hC1⟩ : ∃ C, ([4] : List UInt8) ++ X1 = C := ⟨_, rfl⟩
    have hD2 : C1 ++ a = D := by rw [hD1, ← hC1, ← hX1]
    have k1 : X1.length = 1 := by rw [← hX1]; rfl
    have k2 : C1.length = 2 := by rw [← hC1]; simp [k1]
    have b1 : ∀ W : World, (Op.stringOp .add ⟨#[4]⟩ ⟨X1.toArray⟩).run Try.prog W = .ok (.string ⟨C1.toArray⟩) W := fun W => by rw [← hC1]; exact run_string_add_lists W [4] X1 (by decide) (by omega)
    have b2 : ∀ W : World, (Op.stringOp .add ⟨C1.toArray⟩ ⟨a.toArray⟩).run Try.prog W = .ok (.string ⟨D.toArray⟩) W := fun W => by rw [← hD2]; exact run_string_add_lists W C1 a (by omega) (by omega)
    have cx : (convert 53 9 (.slice (some ⟨w.heap.size, 0, none⟩) 1 1)).run Try.prog (w.alloc (.cells #[.int .u8 (a.length : Int)] 5)) = .ok (.string ⟨X1.toArray⟩) (w.alloc (.cells #[.int .u8 (a.length : Int)] 5)) := by rw [← hX1]; exact conv_one w a.length (by omega)
    have cv0 := cv (w.alloc (.cells #[.int .u8 (a.length : Int)] 5))
    simp only [World.size_alloc] at cv0
    clear hM hMD hD hdl hV hY1 hB1 hB2 hM2 l1 l2 l3 a4 cv hml h0 hlen hD1 hez hz hX1 hC1 hD2 k1 k2
    go_enter Try.func35, Try.ntmps35
    go_wp2_with fail
    refine (KA.out _).mono ?_
    rintro e w1 ⟨rfl, rfl⟩
    go_wp2_with fail
    refine (KB.out _).mono ?_
    rintro e w1 ⟨rfl, rfl⟩
    go_wp2
    go_loop [6] (fun v => ∃ (j : Nat) (P : List UInt8), v = .string ⟨P.toArray⟩ ∧ Hid (P = pad M j ∧ P.length ≤ 48)) (fun v => 48 - lenP v)
    case atStart => exact ⟨0, M, rfl, Lib.hid ⟨by simp [pad], HM.out⟩⟩
    case round =>
      obtain ⟨j, P, rfl, HP⟩ := hrel
      by_cases hp : P.length < 48
      · have hj : j ≤ 48 := by have := HP.out.2; rw [HP.out.1, pad_len] at this; omega
        have e4 := fun W => A4.out j W hj
        rw [← HP.out.1] at e4
        obtain ⟨P2, hP2⟩ : ∃ P2, pad M (j + 1) = P2 := ⟨_, rfl⟩
        simp only [hP2] at e4
        have HQ : Hid (P2 = pad M (j + 1) ∧ P2.length ≤ 48) := Lib.hid ⟨hP2.symm, by rw [← hP2, pad_len]; rw [HP.out.1, pad_len] at hp; omega⟩
        have hl2 : P2.length = P.length + 1 := by rw [← hP2, pad_len, HP.out.1, pad_len]; omega
        have d5 : (P.length : Int) < 48 := by omega
        clear hP2 hj
        go_wp2
        exact ⟨⟨j + 1, P2, rfl, HQ⟩, by simp [lenP, ByteArray.size]; omega⟩
      · have d5 : ¬ (P.length : Int) < 48 := by omega
        have he : mdV a b = P := by
          have h1 := HP.out.2
          have h2 := HP.out.1
          rw [HV.out, h2]
          rw [h2, pad_len] at h1 hp
          congr 1
          omega
        have HEQ := Lib.hid he
        clear he hp
        go_wp2
        go_ret2
        exact ⟨by rw [HEQ.out, H0.out]; rfl, (HB0.out.alloc (Nat.le_refl _) _).alloc (by simp) _⟩
end Go.Proofs.Ytkmdgpfaaniibaa
