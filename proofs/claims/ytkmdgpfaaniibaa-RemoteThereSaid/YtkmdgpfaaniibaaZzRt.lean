/- Layer 10: the document's own Take. -/
import Derived.Test.YtkmdgpfaaniibaaZzRp
import Derived.Test.YtkmdgpfaaniibaaZz
namespace Go.Proofs.Ytkmdgpfaaniibaa
open Go.RowKit
set_option linter.unusedVariables false
set_option linter.unusedSimpArgs false
set_option maxRecDepth 100000

/-- where the own name's mark is; its end; the names -/
def atR (s : List UInt8) : Nat := if s.getD 0 0 = 4 then 2 + (s.getD 1 0).toNat else 1
def enR (s : List UInt8) : Nat := atR s + 2 + (s.getD (atR s + 1) 0).toNat
def doR (s : List UInt8) : List UInt8 := if s.getD 0 0 = 4 then (s.take (atR s)).drop 2 else []
def owR (s : List UInt8) : List UInt8 := (s.take (enR s)).drop (atR s + 2)
theorem getD_at (l m : List UInt8) (x : UInt8) (k : Nat) (h : k = l.length) : (l ++ x :: m).getD k 0 = x := by
  subst h
  simp [List.getD]
theorem drop_at (l m r : List UInt8) (k j : Nat) (h : k = l.length) (h' : j = l.length + m.length) : ((l ++ (m ++ r)).take j).drop k = m := by
  subst h; subst h'
  rw [List.take_append, List.take_of_length_le (by omega)]
  rw [show l.length + m.length - l.length = m.length by omega, List.take_left, List.drop_left]
theorem rt_put {c d : List UInt8} (h : mdE c d = 0) : atR (mdV c d) ≤ 45 ∧ enR (mdV c d) ≤ 48 ∧ doR (mdV c d) = c ∧ owR (mdV c d) = d := by
  obtain ⟨h1, h2, h3⟩ := mdE0 h
  have hd := List.length_pos_iff.2 (isn_ne h2)
  unfold mdV mdW
  rw [if_pos h]
  generalize 48 - (mdB c d).length = k
  unfold mdB mdH
  generalize hZ : List.replicate k (0 : UInt8) = Z
  by_cases hc : c = []
  · subst hc
    have hat : atR ([1] ++ 2 :: UInt8.ofNat d.length :: d ++ Z) = 1 := by
      unfold atR
      rw [if_neg (by simp [List.getD])]
    rw [if_pos rfl]
    have hen : enR ([1] ++ 2 :: UInt8.ofNat d.length :: d ++ Z) = 3 + d.length := by
      unfold enR
      rw [hat, show ([1] ++ 2 :: UInt8.ofNat d.length :: d ++ Z : List UInt8) = [1, 2] ++ UInt8.ofNat d.length :: (d ++ Z) by simp, getD_at [1, 2] (d ++ Z) _ (1 + 1) rfl, ofNat_toNat_small _ (by simp at h3; omega)]
    refine ⟨by omega, by simp at h3; omega, ?_, ?_⟩
    · unfold doR
      rw [if_neg (by simp [List.getD])]
    · unfold owR
      rw [hen, hat, show ([1] ++ 2 :: UInt8.ofNat d.length :: d ++ Z : List UInt8) = [1, 2, UInt8.ofNat d.length] ++ (d ++ Z) by simp]
      exact drop_at _ _ _ _ _ rfl (by simp)
  · rw [if_neg hc]
    have hcl := List.length_pos_iff.2 hc
    have h0 : ((4 :: UInt8.ofNat c.length :: c) ++ 2 :: UInt8.ofNat d.length :: d ++ Z : List UInt8).getD 0 0 = 4 := by simp [List.getD]
    have h1' : ((4 :: UInt8.ofNat c.length :: c) ++ 2 :: UInt8.ofNat d.length :: d ++ Z : List UInt8).getD 1 0 = UInt8.ofNat c.length := by simp [List.getD]
    have hat : atR ((4 :: UInt8.ofNat c.length :: c) ++ 2 :: UInt8.ofNat d.length :: d ++ Z) = 2 + c.length := by
      unfold atR
      rw [if_pos h0, h1', ofNat_toNat_small _ (by omega)]
    have hen : enR ((4 :: UInt8.ofNat c.length :: c) ++ 2 :: UInt8.ofNat d.length :: d ++ Z) = 4 + c.length + d.length := by
      unfold enR
      rw [hat, show ((4 :: UInt8.ofNat c.length :: c) ++ 2 :: UInt8.ofNat d.length :: d ++ Z : List UInt8) = (4 :: UInt8.ofNat c.length :: (c ++ [2])) ++ UInt8.ofNat d.length :: (d ++ Z) by simp, getD_at _ _ _ _ (by simp; omega), ofNat_toNat_small _ (by omega)]
      omega
    refine ⟨by omega, by omega, ?_, ?_⟩
    · unfold doR
      rw [if_pos h0, hat, show ((4 :: UInt8.ofNat c.length :: c) ++ 2 :: UInt8.ofNat d.length :: d ++ Z : List UInt8) = [4, UInt8.ofNat c.length] ++ (c ++ (2 :: UInt8.ofNat d.length :: d ++ Z)) by simp]
      exact drop_at _ _ _ _ _ rfl (by simp)
    · unfold owR
      rw [hen, hat, show ((4 :: UInt8.ofNat c.length :: c) ++ 2 :: UInt8.ofNat d.length :: d ++ Z : List UInt8) = (4 :: UInt8.ofNat c.length :: (c ++ [2, UInt8.ofNat d.length])) ++ (d ++ Z) by simp]
      exact drop_at _ _ _ _ _ (by simp; omega) (by simp; omega)
theorem tk_none {s : List UInt8} (h : ¬ (s.length = 48 ∧ atR s ≤ 45 ∧ enR s ≤ 48)) : Tk s [] [] 4 :=
  .inr ⟨rfl, rfl, rfl, fun c d hc e => h (by obtain ⟨h1, h2, _, _⟩ := rt_put hc; rw [e] at h1 h2; exact ⟨by rw [← e]; exact mdV_len hc, h1, h2⟩)⟩
theorem tk_other {s : List UInt8} (h : ¬ (mdE (doR s) (owR s) = 0 ∧ mdV (doR s) (owR s) = s)) : Tk s [] [] 4 :=
  .inr ⟨rfl, rfl, rfl, fun c d hc e => h (by obtain ⟨_, _, h3, h4⟩ := rt_put hc; rw [e] at h3 h4; rw [h3, h4]; exact ⟨hc, e⟩)⟩
theorem cut_str (s d : List UInt8) (i j : Nat) (hij : i ≤ j) (hj : j ≤ s.length) (hd : (s.take j).drop i = d) (w : World) :
    (Instr.slice 9 (.string ⟨s.toArray⟩) (some (.int .i64 (i : Int))) (some (.int .i64 (j : Int))) none).run Try.prog w = .ok (.string ⟨d.toArray⟩) w := by
  rw [run_slice_string (w := w) 9 ⟨s.toArray⟩ _ _ _ _ Try.underlying9 (by omega) (by omega) (by show (j : Int) ≤ (s.length : Int); omega)]
  have e : (⟨s.toArray⟩ : ByteArray).extract i j = ⟨d.toArray⟩ := by
    rw [← hd]
    apply ByteArray.ext
    simp [ByteArray.data_extract, List.drop_take]
  simp only [Int.toNat_natCast, e]
set_option maxHeartbeats 2000000 in
theorem reftake_any (s : List UInt8) (w : World) (hs : s.length ≤ 1000000) :
    Calls Try.prog 37 #[.string ⟨s.toArray⟩] w fun e w' => (∃ a b q, Tk s a b q ∧ e = .returned (.tuple #[.string ⟨a.toArray⟩, .string ⟨b.toArray⟩, .int .i64 q])) ∧ Below w.heap.size w w' := by
  have HB0 := Lib.hid (Below.refl w.heap.size w)
  have TN := Lib.hid (@tk_none s)
  by_cases h48 : s.length = 48
  · obtain ⟨S, hS⟩ : ∃ S : ByteArray, S = ⟨s.toArray⟩ := ⟨_, rfl⟩
    have hsz : S.size = 48 := by rw [hS]; exact h48
    have hat : ∀ i (h : i < S.size), S[i]'h = s.getD i 0 := by subst hS; exact byteM s
    have HAT := Lib.hid hat
    have TO := Lib.hid (@tk_other s)
    have CUT := Lib.hid (fun d i j hij hj hd w => cut_str s d i j hij hj hd w)
    simp only [← hS] at CUT
    obtain ⟨A, hA⟩ : ∃ A, doR s = A := ⟨_, rfl⟩
    obtain ⟨O, hO⟩ : ∃ O, owR s = O := ⟨_, rfl⟩
    have hol : O.length ≤ 1000000 := by rw [← hO]; unfold owR; simp; omega
    have hal : A.length ≤ 1000000 := by rw [← hA]; unfold doR; split <;> simp; omega
    have KP := Lib.hid (fun w => refput_any A O w hal hol)
    rw [hA, hO] at TO
    have HSS := Lib.hid hS
    obtain ⟨y0, hy0⟩ : ∃ y, s.getD 0 0 = y := ⟨_, rfl⟩
    obtain ⟨at_, hat_⟩ : ∃ y, atR s = y := ⟨_, rfl⟩
    obtain ⟨en, hen⟩ : ∃ y, enR s = y := ⟨_, rfl⟩
    have b0 := hat 0 (by omega)
    rw [hy0] at b0
    have hle : 1 ≤ at_ := by rw [← hat_]; unfold atR; split <;> omega
    have h255 := (s.getD 1 0).toNat_lt
    rw [← hS]
    by_cases h4 : y0 = 4
    · obtain ⟨y1, hy1⟩ : ∃ y, s.getD 1 0 = y := ⟨_, rfl⟩
      have b1 := hat 1 (by omega)
      rw [hy1] at b1
      have e0 : ((y0.toNat : Int) == 4) = true := by rw [h4]; rfl
      have h1lt : y1.toNat ≤ 255 := by have := y1.toNat_lt; omega
      have hatv : at_ = 2 + y1.toNat := by rw [← hat_]; unfold atR; rw [hy0, if_pos h4, hy1]
      have eat : (2 : Int) + (y1.toNat : Int) = (at_ : Int) := by omega
      by_cases h45 : 45 < at_
      · have d45 : (45 : Int) < (at_ : Int) := by omega
        have T1 := Lib.hid (TN.out (fun h => by have := h.2.1; omega))
        clear hat hS hA hO hol hal hy0 hat_ hen h4 hatv hy1 h48 h255 hle
        go_enter Try.func37, Try.ntmps37
        go_wp2
        go_ret3
        exact ⟨⟨[], [], 4, T1.out, rfl⟩, HB0.out⟩
      · have d45 : ¬ (45 : Int) < (at_ : Int) := by omega
        obtain ⟨y2, hy2⟩ : ∃ y, s.getD (at_ + 1) 0 = y := ⟨_, rfl⟩
        have hi2 : at_ + 1 < S.size := by omega
        have b2 := hat (at_ + 1) hi2
        rw [hy2] at b2
        have henv : en = at_ + 2 + y2.toNat := by rw [← hen]; unfold enR; rw [hat_, hy2]
        have een : (at_ : Int) + 2 + (y2.toNat : Int) = (en : Int) := by omega
        have cA : ∀ w, (Instr.slice 9 (.string S) (some (.int .i64 2)) (some (.int .i64 (at_ : Int))) none).run Try.prog w = .ok (.string ⟨A.toArray⟩) w := fun w => CUT.out A 2 at_ (by omega) (by omega) (by rw [← hA]; unfold doR; rw [hy0, if_pos h4, hat_]) w
        have h2lt : y2.toNat ≤ 255 := by have := y2.toNat_lt; omega
        by_cases h48' : 48 < en
        · have d48 : (48 : Int) < (en : Int) := by omega
          have T1 := Lib.hid (TN.out (fun h => by have := h.2.2; omega))
          clear hat hS hA hO hol hal hy0 hat_ hen h4 hy1 h48 hy2 hatv henv
          go_enter Try.func37, Try.ntmps37
          go_wp2
          go_ret3
          exact ⟨⟨[], [], 4, T1.out, rfl⟩, HB0.out⟩
        · have d48 : ¬ (48 : Int) < (en : Int) := by omega
          have cO : ∀ w, (Instr.slice 9 (.string S) (some (.int .i64 ((at_ : Int) + 2))) (some (.int .i64 (en : Int))) none).run Try.prog w = .ok (.string ⟨O.toArray⟩) w := fun w => CUT.out O (at_ + 2) en (by omega) (by omega) (by rw [← hO]; unfold owR; rw [hen, hat_]) w
          clear hat hS hA hO hol hal hy0 hat_ hen h4 hy1 h48 hy2 hatv henv
          go_enter Try.func37, Try.ntmps37
          go_wp2_with fail
          refine (KP.out _).mono ?_
          obtain ⟨V, hV⟩ : ∃ V, mdV A O = V := ⟨_, rfl⟩
          obtain ⟨E, hE⟩ : ∃ E, mdE A O = E := ⟨_, rfl⟩
          rw [hV, hE]
          have HVE := Lib.hid (And.intro hV hE)
          rintro e w3 ⟨rfl, hb3⟩
          have HB3 := Lib.hid hb3
          clear hb3 hV hE KP
          by_cases h0 : E = 0
          · subst h0
            by_cases hv : V = s
            · have hq : (V == S.toList) = true := by rw [HSS.out, ByteArray.toList_eq]; simpa using hv
              have hq2 : ((⟨V.toArray⟩ : ByteArray).toList == S.toList) = true := by rw [HSS.out, ByteArray.toList_eq, ByteArray.toList_eq]; simpa using hv
              have T1 : Hid (Tk s A O 0) := Lib.hid (.inl ⟨rfl, HVE.out.2, by rw [HVE.out.1, hv]⟩)
              clear hv
              go_wp2
              go_ret3
              exact ⟨⟨A, O, 0, T1.out, rfl⟩, HB3.out⟩
            · have hq : (V == S.toList) = false := by rw [HSS.out, ByteArray.toList_eq]; simpa using hv
              have hq2 : ((⟨V.toArray⟩ : ByteArray).toList == S.toList) = false := by rw [HSS.out, ByteArray.toList_eq, ByteArray.toList_eq]; simpa using hv
              have T1 : Hid (Tk s [] [] 4) := Lib.hid (TO.out (fun h => hv (by rw [← HVE.out.1]; exact h.2)))
              clear hv
              go_wp2
              go_ret3
              exact ⟨⟨[], [], 4, T1.out, rfl⟩, HB3.out⟩
          · have hq : (E != 0) = true := by simpa using h0
            have T1 : Hid (Tk s [] [] 4) := Lib.hid (TO.out (fun h => h0 (by rw [← HVE.out.2]; exact h.1)))
            have HE0 := Lib.hid h0
            clear h0
            go_wp2
            all_goals (first | (exfalso; exact HE0.out (by assumption)) | skip)
            go_ret3
            exact ⟨⟨[], [], 4, T1.out, rfl⟩, HB3.out⟩
    · have e0 : ((y0.toNat : Int) == 4) = false := by
        rw [beq_eq_false_iff_ne]
        intro h
        exact h4 (UInt8.toNat_inj.1 (by show y0.toNat = 4; omega))
      have hatv : at_ = 1 := by rw [← hat_]; unfold atR; rw [hy0, if_neg h4]
      have hAn : A = [] := by rw [← hA]; unfold doR; rw [hy0, if_neg h4]
      obtain ⟨y2, hy2⟩ : ∃ y, s.getD 2 0 = y := ⟨_, rfl⟩
      have b2 := hat 2 (by omega)
      rw [hy2] at b2
      have henv : en = 3 + y2.toNat := by rw [← hen]; unfold enR; rw [hat_, hatv, show 1 + 1 = 2 from rfl, hy2]
      have een : (3 : Int) + (y2.toNat : Int) = (en : Int) := by omega
      have h2lt : y2.toNat ≤ 255 := by have := y2.toNat_lt; omega
      subst hAn
      by_cases h48' : 48 < en
      · have d48 : (48 : Int) < (en : Int) := by omega
        have T1 := Lib.hid (TN.out (fun h => by have := h.2.2; omega))
        clear hat hS hA hO hol hal hy0 hat_ hen h4 hatv h48 hy2 henv
        go_enter Try.func37, Try.ntmps37
        go_wp2
        go_ret3
        exact ⟨⟨[], [], 4, T1.out, rfl⟩, HB0.out⟩
      · have d48 : ¬ (48 : Int) < (en : Int) := by omega
        have cO : ∀ w, (Instr.slice 9 (.string S) (some (.int .i64 3)) (some (.int .i64 (en : Int))) none).run Try.prog w = .ok (.string ⟨O.toArray⟩) w := fun w => CUT.out O 3 en (by omega) (by omega) (by rw [← hO]; unfold owR; rw [hen, hat_, hatv]) w
        clear hat hS hA hO hol hal hy0 hat_ hen h4 hatv h48 hy2 henv
        go_enter Try.func37, Try.ntmps37
        go_wp2_with fail
        refine (KP.out _).mono ?_
        obtain ⟨V, hV⟩ : ∃ V, mdV [] O = V := ⟨_, rfl⟩
        obtain ⟨E, hE⟩ : ∃ E, mdE [] O = E := ⟨_, rfl⟩
        rw [hV, hE]
        have HVE := Lib.hid (And.intro hV hE)
        rintro e w3 ⟨rfl, hb3⟩
        have HB3 := Lib.hid hb3
        clear hb3 hV hE KP
        by_cases h0 : E = 0
        · subst h0
          by_cases hv : V = s
          · have hq : (V == S.toList) = true := by rw [HSS.out, ByteArray.toList_eq]; simpa using hv
            have hq2 : ((⟨V.toArray⟩ : ByteArray).toList == S.toList) = true := by rw [HSS.out, ByteArray.toList_eq, ByteArray.toList_eq]; simpa using hv
            have T1 : Hid (Tk s [] O 0) := Lib.hid (.inl ⟨rfl, HVE.out.2, by rw [HVE.out.1, hv]⟩)
            clear hv
            go_wp2
            go_ret3
            exact ⟨⟨[], O, 0, T1.out, rfl⟩, HB3.out⟩
          · have hq : (V == S.toList) = false := by rw [HSS.out, ByteArray.toList_eq]; simpa using hv
            have hq2 : ((⟨V.toArray⟩ : ByteArray).toList == S.toList) = false := by rw [HSS.out, ByteArray.toList_eq, ByteArray.toList_eq]; simpa using hv
            have T1 : Hid (Tk s [] [] 4) := Lib.hid (TO.out (fun h => hv (by rw [← HVE.out.1]; exact h.2)))
            clear hv
            go_wp2
            go_ret3
            exact ⟨⟨[], [], 4, T1.out, rfl⟩, HB3.out⟩
        · have hq : (E != 0) = true := by simpa using h0
          have T1 : Hid (Tk s [] [] 4) := Lib.hid (TO.out (fun h => h0 (by rw [← HVE.out.2]; exact h.1)))
          have HE0 := Lib.hid h0
          clear h0
          go_wp2
          all_goals (first | (exfalso; exact HE0.out (by assumption)) | skip)
          go_ret3
          exact ⟨⟨[], [], 4, T1.out, rfl⟩, HB3.out⟩
  · have hq : ((s.length : Int) == 48) = false := by rw [beq_eq_false_iff_ne]; omega
    have hq2 : ((s.length : Int) != 48) = true := by simp; omega
    have T1 := Lib.hid (TN.out (fun h => h48 h.1))
    go_enter Try.func37, Try.ntmps37
    go_wp2
    go_ret3
    exact ⟨⟨[], [], 4, T1.out, rfl⟩, HB0.out⟩
end Go.Proofs.Ytkmdgpfaaniibaa
