/- package maid's Put. -/
import Derived.Test.YtkmdgpfaaniibaaZz
import Derived.Lib.AppendStr
import Derived.Deep.DeepCutAuto
import Derived.Deep.RegionLaw
namespace Go.Proofs.Ytkmdgpfaaniibaa
open Go.RowKit
set_option linter.unusedVariables false
set_option linter.unusedSimpArgs false
set_option maxRecDepth 100000

theorem OwnB.low {w : World} {base base' : Nat} {v : Value} {l : List UInt8} (h : OwnB w base v l) (hb : base' ≤ base) : OwnB w base' v l := by
  refine ⟨h.1, ?_⟩
  rcases h.2 with hn | ⟨g, cap, cur, hv, hbg, rest⟩
  · exact .inl hn
  · exact .inr ⟨g, cap, cur, hv, Nat.le_trans hb hbg, rest⟩
theorem strCells_bvals (l : List UInt8) : Lib.strCells ⟨l.toArray⟩ = bvals l := rfl
/-- append of a text onto a slice of the call's own -/
theorem append_text {w : World} {ops : Array Oper} {rest : List Oper} {o : Oper} {a : Act} {Q : Exit → Act → World → Prop} (hgd : o.guard = none) (s x : Operand)
    (ho : o.op = .call { callee := .builtin .append, args := #[s, x], argTypes := #[53, 9] })
    (base : Nat) (v : Value) (l : List UInt8) (hs : a.eval s = v) (hown : OwnB w base v l) (r : List UInt8) (hx : a.eval x = .string ⟨r.toArray⟩)
    (hlen : l.length + r.length ≤ 140737488355328) (hbase : base ≤ w.heap.size)
    (h : ∀ v' w', OwnB w' base v' (l ++ r) → w.grownBy w' v.ownBlock → wpList Try.prog ops Q rest (a.put o.dst v') w') : wpList Try.prog ops Q (o :: rest) a w := by
  obtain ⟨i, hi, hz0, hz1, hz2⟩ := info_parts u8_info
  have hsz : (⟨r.toArray⟩ : ByteArray).size = r.length := rfl
  refine Lib.wpList_append_own_string w hgd s x _ _ ho base 5 i Try.underlying53 Try.underlying9 hi hz0 hz1 hz2 v l.length (bvals l) hs hown ⟨r.toArray⟩ hx (by rw [hsz]; simp only [maxLen]; omega) (by rw [hsz]; exact hlen) hbase ?_
  intro v' w' h1 h2 _
  exact h v' w' (by unfold OwnB; rw [List.length_append, bvals_app]; exact h1) h2
theorem dig1 (n : Nat) (h : n < 256) : dig 1 n = [UInt8.ofNat n] := by
  simp only [dig]
  rw [Nat.mod_eq_of_lt h]
  rfl
theorem own_len {w : World} {base : Nat} {v : Value} {l : List UInt8} (h : OwnB w base v l) : ∃ A c, v = .slice A l.length c ∧ (A = none → c = 0) ∧ Byt w A l := h.str
set_option maxHeartbeats 1000000 in
theorem putname_any (A : Option Addr) (c : Nat) (l : List UInt8) (m : Nat) (n : List UInt8) (w : World) (hA : Byt w A l) (hz : A = none → c = 0) (hl : l.length ≤ 1000) (hm : m < 256) (hn : n.length ≤ 44) :
    Calls Try.prog 82 #[.slice A l.length c, .int .u8 (m : Int), .string ⟨n.toArray⟩] w fun e w' => ∃ v, e = .returned v ∧ OwnB w' w.heap.size v (l ++ [UInt8.ofNat m, UInt8.ofNat n.length] ++ n) ∧ Below w.heap.size w w' := by
  have HA := Lib.hid hA
  have HZ := Lib.hid hz
  have HM := Lib.hid hm
  have HN := Lib.hid hn
  obtain ⟨i, hi, hz0, hz1, hz2⟩ := info_parts u8_info
  clear hA hz
  go_enter Try.func82, Try.ntmps82
  go_wp2_with fail
  refine (put8_any A c l (m : Int) HA.out HZ.out (by omega) (by omega) (by omega)).mono ?_
  rw [show ((m : Int)).toNat = m by omega, dig1 m hm]
  obtain ⟨L1, hL1⟩ : ∃ L1, l ++ [UInt8.ofNat m] = L1 := ⟨_, rfl⟩
  have hLl : L1.length ≤ 1001 := by rw [← hL1]; simp; omega
  rw [hL1]
  have HL1 := Lib.hid hL1
  have HLL := Lib.hid hLl
  clear hL1 hLl
  rintro e w1 ⟨v1, rfl, ho1, hb1⟩
  obtain ⟨A1, c1, rfl, hz1', hB1⟩ := own_len ho1
  have hw1 : IntKind.u8.wrap (n.length : Int) = (n.length : Int) := by simp [IntKind.wrap, IntKind.signed, IntKind.bits]; omega
  have HO1 := Lib.hid ho1
  have HZ1 := Lib.hid hz1'
  have HY1 := Lib.hid hB1
  have HB1 := Lib.hid hb1
  clear ho1 hz1' hB1 hb1
  go_wp2_with fail
  refine (put8_any A1 c1 L1 (n.length : Int) HY1.out HZ1.out (by have := HLL.out; omega) (by omega) (by omega)).mono ?_
  rw [show ((n.length : Int)).toNat = n.length by omega, dig1 n.length (by omega)]
  rintro e w2 ⟨v2, rfl, ho2, hb2⟩
  have HO2 : Hid (OwnB w2 w.heap.size v2 (l ++ [UInt8.ofNat m, UInt8.ofNat n.length])) := Lib.hid (by have := OwnB.low ho2 HB1.out.size; rw [← HL1.out, List.append_assoc] at this; exact this)
  have HB2 : Hid (Below w.heap.size w w2) := Lib.hid (HB1.out.trans (hb2.mono HB1.out.size))
  clear ho2 hb2 hm hn
  go_wp2_with (at_builtin; refine append_text rfl (.tmp 15) (.tmp 16) rfl w.heap.size _ (l ++ [UInt8.ofNat m, UInt8.ofNat n.length]) rfl HO2.out n rfl (by have := HN.out; simp; omega) HB2.out.size ?_)
  intro v3 w3 ho3 hg3
  have hb3 : Below w.heap.size w w3 := HB2.out.grown hg3 HB2.out.size (fun k hk => (HO2.out.lt k hk).1)
  go_wp2
  go_ret
  exact ⟨v3, rfl, by simpa using ho3, hb3⟩
set_option maxHeartbeats 1000000 in
theorem putdomain_any (a : List UInt8) (w : World) (ha : a.length ≤ 44) :
    Calls Try.prog 83 #[.string ⟨a.toArray⟩] w fun e w' => ∃ v, e = .returned v ∧ OwnB w' w.heap.size v (mdH a) ∧ Below w.heap.size w w' := by
  by_cases h : a = []
  · subst h
    go_enter Try.func83, Try.ntmps83
    go_wp2_with fail
    refine (put8_any none 0 [] 1 (Byt.nil_ _ _) (fun _ => rfl) (by simp) (by omega) (by omega)).mono ?_
    rintro e w1 ⟨v1, rfl, ho1, hb1⟩
    go_wp2
    go_ret
    exact ⟨v1, rfl, ho1, hb1⟩
  · have hne : ((⟨a.toArray⟩ : ByteArray).toList == (⟨#[]⟩ : ByteArray).toList) = false := by
      rw [ByteArray.toList_eq, ByteArray.toList_eq]
      simpa using h
    have hne2 : (a == []) = false := by simpa using h
    have hne3 : a.isEmpty = false := by simpa using h
    have HH := Lib.hid h
    clear h
    go_enter Try.func83, Try.ntmps83
    go_wp2_with fail
    refine (putname_any none 0 [] 4 a _ (Byt.nil_ _ _) (fun _ => rfl) (by simp) (by omega) ha).mono ?_
    rintro e w1 ⟨v1, rfl, ho1, hb1⟩
    go_wp2
    go_ret
    refine ⟨v1, rfl, ?_, hb1⟩
    unfold mdH
    rw [if_neg HH.out]
    simpa using ho1

/-- strings.Repeat at noughts -/
def RepC : Prop := ∀ (c : Nat) (w : World), c ≤ 48 → Calls Try.prog 52 #[.string ⟨#[0]⟩, .int .i64 (c : Int)] w fun e w' => e = .returned (.string ⟨(List.replicate c (0 : UInt8)).toArray⟩) ∧ Below w.heap.size w w'
theorem below_it {B : Nat} {a w w' : World} {s : ByteArray} (h : Below B a w) (hs : B ≤ w.heap.size) (h' : ∃ pos, w' = w.iter s pos) : Below B a w' := by
  obtain ⟨pos, rfl⟩ := h'
  exact h.trans ((below_iter w s pos).mono hs)
set_option maxRecDepth 20000 in
set_option maxHeartbeats 2000000 in
theorem mdput_any (KR : RepC) (a b : List UInt8) (w : World) (hal : a.length ≤ 1000000) (hbl : b.length ≤ 1000000) :
    Calls Try.prog 58 #[.string ⟨a.toArray⟩, .string ⟨b.toArray⟩] w fun e w' => e = .returned (.tuple #[.string ⟨(mdV a b).toArray⟩, .int .i64 (mdE a b)]) ∧ Below w.heap.size w w' := by
  obtain ⟨ea, hea⟩ : ∃ q, isn a = q := ⟨_, rfl⟩
  obtain ⟨eb, heb⟩ : ∃ q, isn b = q := ⟨_, rfl⟩
  obtain ⟨ez, hez⟩ : ∃ q, a.isEmpty = q := ⟨_, rfl⟩
  have hz1 : (a == []) = ez := by rw [← hez]; cases a <;> rfl
  have KA := Lib.hid (fun w => isname_any a w)
  have KB := Lib.hid (fun w => isname_any b w)
  rw [hea] at KA
  rw [heb] at KB
  have HEA := Lib.hid hea
  have HEB := Lib.hid heb
  have HEZ := Lib.hid hez
  have HB0 := Lib.hid (Below.refl w.heap.size w)
  clear hea heb hez
  have tail2 : mdE a b = 2 → Ending.returned (.tuple #[.string ⟨#[]⟩, .int .i64 2]) = Ending.returned (.tuple #[.string ⟨(mdV a b).toArray⟩, .int .i64 (mdE a b)]) := fun h => by rw [mdV_ne (by omega), h]
  have tail5 : mdE a b = 5 → Ending.returned (.tuple #[.string ⟨#[]⟩, .int .i64 5]) = Ending.returned (.tuple #[.string ⟨(mdV a b).toArray⟩, .int .i64 (mdE a b)]) := fun h => by rw [mdV_ne (by omega), h]
  have T2 := Lib.hid tail2
  have T5 := Lib.hid tail5
  clear tail2 tail5
  cases ez
  · cases ea
    · have h2 : mdE a b = 2 := by unfold mdE; rw [HEZ.out, HEA.out]; rfl
      have H2 := Lib.hid h2
      clear h2
      go_enter Try.func58, Try.ntmps58
      go_wp2_with fail
      refine (KA.out _).mono ?_
      rintro e w1 ⟨rfl, hb1⟩
      have HB1 : Hid (Below w.heap.size w w1) := Lib.hid (below_it HB0.out (Nat.le_refl _) hb1)
      clear hb1
      go_wp2
      go_ret2
      exact ⟨T2.out H2.out, HB1.out⟩
    · cases eb
      · have h2 : mdE a b = 2 := by unfold mdE; rw [HEZ.out, HEA.out, HEB.out]; rfl
        have H2 := Lib.hid h2
        clear h2
        go_enter Try.func58, Try.ntmps58
        go_wp2_with fail
        refine (KA.out _).mono ?_
        rintro e w1 ⟨rfl, hb1⟩
        have HB1 : Hid (Below w.heap.size w w1) := Lib.hid (below_it HB0.out (Nat.le_refl _) hb1)
        clear hb1
        go_wp2_with fail
        refine (KB.out _).mono ?_
        rintro e w2 ⟨rfl, hb2⟩
        have HB2 : Hid (Below w.heap.size w w2) := Lib.hid (below_it HB1.out HB1.out.size hb2)
        clear hb2
        go_wp2
        go_ret2
        exact ⟨T2.out H2.out, HB2.out⟩
      · have hE : mdE a b = if 44 < a.length + b.length then 5 else 0 := by unfold mdE; rw [HEZ.out, HEA.out, HEB.out]; rfl
        have HE := Lib.hid hE
        clear hE
        go_enter Try.func58, Try.ntmps58
        go_wp2_with fail
        refine (KA.out _).mono ?_
        rintro e w1 ⟨rfl, hb1⟩
        have HB1 : Hid (Below w.heap.size w w1) := Lib.hid (below_it HB0.out (Nat.le_refl _) hb1)
        clear hb1
        go_wp2_with fail
        refine (KB.out _).mono ?_
        rintro e w2 ⟨rfl, hb2⟩
        have HB2 : Hid (Below w.heap.size w w2) := Lib.hid (below_it HB1.out HB1.out.size hb2)
        clear hb2
        by_cases hlen : 44 < a.length + b.length
        · have h5 : mdE a b = 5 := by rw [HE.out, if_pos hlen]
          have H5 := Lib.hid h5
          have d1 : (44 : Int) < (a.length : Int) + (b.length : Int) := by omega
          clear h5 hlen
          go_wp2
          go_ret2
          exact ⟨T5.out H5.out, HB2.out⟩
        · have h0 : mdE a b = 0 := by rw [HE.out, if_neg hlen]
          have H0 := Lib.hid h0
          have HL : Hid (a.length + b.length ≤ 44) := Lib.hid (by omega)
          have d1 : decide ((44 : Int) < (a.length : Int) + (b.length : Int)) = false := by simp; omega
          clear h0
          go_wp2_with fail
          refine (putdomain_any a _ (by have := HL.out; omega)).mono ?_
          rintro e w3 ⟨v3, rfl, ho3, hb3⟩
          obtain ⟨D, hD⟩ : ∃ D, mdH a = D := ⟨_, rfl⟩
          have hdl : D.length ≤ 46 := by rw [← hD, mdH_len]; have := HL.out; split <;> omega
          rw [hD] at ho3
          obtain ⟨A3, c3, rfl, hz3, hy3⟩ := own_len ho3
          have HZ3 := Lib.hid hz3
          have HY3 := Lib.hid hy3
          have HD := Lib.hid hD
          have HDL := Lib.hid hdl
          have HB3 : Hid (Below w.heap.size w w3) := Lib.hid (HB2.out.trans (hb3.mono HB2.out.size))
          clear hb3 hz3 hy3 ho3 hlen d1 hD hdl
          go_wp2_with fail
          refine (putname_any A3 c3 D 2 b w3 HY3.out HZ3.out (by have := HDL.out; omega) (by omega) (by have := HL.out; omega)).mono ?_
          rintro e w4 ⟨v4, rfl, ho4, hb4⟩
          obtain ⟨M, hM⟩ : ∃ M, mdB a b = M := ⟨_, rfl⟩
          have ho5 : OwnB w4 w3.heap.size v4 M := by
            have e : D ++ [UInt8.ofNat 2, UInt8.ofNat b.length] ++ b = mdB a b := by unfold mdB; rw [← HD.out]; simp
            rw [e, hM] at ho4; exact ho4
          have hst := ho5.str
          obtain ⟨A4, c4, rfl, hz4, hy4⟩ := own_len ho5
          have hcv := hst.conv
          have HB4 : Hid (Below w.heap.size w w4) := Lib.hid (HB3.out.trans (hb4.mono HB3.out.size))
          have hml : M.length ≤ 48 := by rw [← hM]; exact mdB_le H0.out
          have hvv : mdV a b = M ++ List.replicate (48 - M.length) 0 := by unfold mdV mdW; rw [if_pos H0.out, hM]
          obtain ⟨k, hk⟩ : ∃ k, 48 - M.length = k := ⟨_, rfl⟩
          have hk2 : (48 : Int) - (M.length : Int) = (k : Int) := by omega
          have hkl : k ≤ 48 := by omega
          have hadd : ∀ W : World, (Op.stringOp .add ⟨M.toArray⟩ ⟨(List.replicate k (0 : UInt8)).toArray⟩).run Try.prog W = .ok (.string ⟨(M ++ List.replicate k 0).toArray⟩) W := fun W => run_string_add_lists W M (List.replicate k 0) (by omega) (by simp; omega)
          have HVV := Lib.hid hvv
          have HK := Lib.hid hk
          have hcvd : (convert 53 9 (.slice A4 M.length c4)).run Try.prog w4.drew = .ok (.string ⟨M.toArray⟩) w4.drew := Str.conv (w := w4.drew) hst
          have HST : Hid (Str w4.drew (.slice A4 M.length c4) M) := Lib.hid hst
          have hk3 : IntKind.i64.wrap ((48 : Int) - (M.length : Int)) = (k : Int) := by rw [hk2]; simp [IntKind.wrap, IntKind.signed, IntKind.bits]; omega
          have KR' : Hid (∀ W : World, Calls Try.prog 52 #[.string ⟨#[0]⟩, .int .i64 (k : Int)] W fun e w' => e = .returned (.string ⟨(List.replicate k (0 : UInt8)).toArray⟩) ∧ Below W.heap.size W w') := Lib.hid (fun W => KR k W hkl)
          obtain ⟨R, hR⟩ : ∃ R, List.replicate k (0 : UInt8) = R := ⟨_, rfl⟩
          rw [hR] at KR'
          simp only [hR] at hadd
          have HR := Lib.hid hR
          have HBd : Hid (Below w.heap.size w w4.drew) := Lib.hid (Below.drew HB4.out)
          clear hb4 hz4 hy4 ho4 ho5 hst hM hvv hml hk hkl hk2 hcv hR
          go_wp2_with fail
          go_region_law ((go_simp; go_at_call 52; refine (KR'.out _).mono ?_; rintro r w_ ⟨rfl, hb_⟩; have hcv_ := (HST.out.below hb_).conv; have kB := Lib.hid (HBd.out.trans (hb_.mono HBd.out.size)); clear hb_))
          all_goals (
            clear hadd
            go_wp2
            go_ret2
            exact ⟨by rw [HVV.out, HK.out, H0.out, HR.out]; rfl, kB.out⟩)
  · cases eb
    · have h2 : mdE a b = 2 := by unfold mdE; rw [HEZ.out, HEB.out]; rfl
      have H2 := Lib.hid h2
      clear h2
      go_enter Try.func58, Try.ntmps58
      go_wp2_with fail
      refine (KB.out _).mono ?_
      rintro e w2 ⟨rfl, hb2⟩
      have HB2 : Hid (Below w.heap.size w w2) := Lib.hid (below_it HB0.out (Nat.le_refl _) hb2)
      clear hb2
      go_wp2
      go_ret2
      exact ⟨T2.out H2.out, HB2.out⟩
    · have hE : mdE a b = if 44 < a.length + b.length then 5 else 0 := by unfold mdE; rw [HEZ.out, HEB.out]; rfl
      have HE := Lib.hid hE
      clear hE
      go_enter Try.func58, Try.ntmps58
      go_wp2_with fail
      refine (KB.out _).mono ?_
      rintro e w2 ⟨rfl, hb2⟩
      have HB2 : Hid (Below w.heap.size w w2) := Lib.hid (below_it HB0.out (Nat.le_refl _) hb2)
      clear hb2
      by_cases hlen : 44 < a.length + b.length
      · have h5 : mdE a b = 5 := by rw [HE.out, if_pos hlen]
        have H5 := Lib.hid h5
        have d1 : (44 : Int) < (a.length : Int) + (b.length : Int) := by omega
        clear h5 hlen
        go_wp2
        go_ret2
        exact ⟨T5.out H5.out, HB2.out⟩
      · have h0 : mdE a b = 0 := by rw [HE.out, if_neg hlen]
        have H0 := Lib.hid h0
        have HL : Hid (a.length + b.length ≤ 44) := Lib.hid (by omega)
        have d1 : decide ((44 : Int) < (a.length : Int) + (b.length : Int)) = false := by simp; omega
        clear h0
        go_wp2_with fail
        refine (putdomain_any a _ (by have := HL.out; omega)).mono ?_
        rintro e w3 ⟨v3, rfl, ho3, hb3⟩
        obtain ⟨D, hD⟩ : ∃ D, mdH a = D := ⟨_, rfl⟩
        have hdl : D.length ≤ 46 := by rw [← hD, mdH_len]; have := HL.out; split <;> omega
        rw [hD] at ho3
        obtain ⟨A3, c3, rfl, hz3, hy3⟩ := own_len ho3
        have HZ3 := Lib.hid hz3
        have HY3 := Lib.hid hy3
        have HD := Lib.hid hD
        have HDL := Lib.hid hdl
        have HB3 : Hid (Below w.heap.size w w3) := Lib.hid (HB2.out.trans (hb3.mono HB2.out.size))
        clear hb3 hz3 hy3 ho3 hlen d1 hD hdl
        go_wp2_with fail
        refine (putname_any A3 c3 D 2 b w3 HY3.out HZ3.out (by have := HDL.out; omega) (by omega) (by have := HL.out; omega)).mono ?_
        rintro e w4 ⟨v4, rfl, ho4, hb4⟩
        obtain ⟨M, hM⟩ : ∃ M, mdB a b = M := ⟨_, rfl⟩
        have ho5 : OwnB w4 w3.heap.size v4 M := by
          have e : D ++ [UInt8.ofNat 2, UInt8.ofNat b.length] ++ b = mdB a b := by unfold mdB; rw [← HD.out]; simp
          rw [e, hM] at ho4; exact ho4
        have hst := ho5.str
        obtain ⟨A4, c4, rfl, hz4, hy4⟩ := own_len ho5
        have hcv := hst.conv
        have HB4 : Hid (Below w.heap.size w w4) := Lib.hid (HB3.out.trans (hb4.mono HB3.out.size))
        have hml : M.length ≤ 48 := by rw [← hM]; exact mdB_le H0.out
        have hvv : mdV a b = M ++ List.replicate (48 - M.length) 0 := by unfold mdV mdW; rw [if_pos H0.out, hM]
        obtain ⟨k, hk⟩ : ∃ k, 48 - M.length = k := ⟨_, rfl⟩
        have hk2 : (48 : Int) - (M.length : Int) = (k : Int) := by omega
        have hkl : k ≤ 48 := by omega
        have hadd : ∀ W : World, (Op.stringOp .add ⟨M.toArray⟩ ⟨(List.replicate k (0 : UInt8)).toArray⟩).run Try.prog W = .ok (.string ⟨(M ++ List.replicate k 0).toArray⟩) W := fun W => run_string_add_lists W M (List.replicate k 0) (by omega) (by simp; omega)
        have HVV := Lib.hid hvv
        have HK := Lib.hid hk
        have hcvd : (convert 53 9 (.slice A4 M.length c4)).run Try.prog w4.drew = .ok (.string ⟨M.toArray⟩) w4.drew := Str.conv (w := w4.drew) hst
        have HST : Hid (Str w4.drew (.slice A4 M.length c4) M) := Lib.hid hst
        have hk3 : IntKind.i64.wrap ((48 : Int) - (M.length : Int)) = (k : Int) := by rw [hk2]; simp [IntKind.wrap, IntKind.signed, IntKind.bits]; omega
        have KR' : Hid (∀ W : World, Calls Try.prog 52 #[.string ⟨#[0]⟩, .int .i64 (k : Int)] W fun e w' => e = .returned (.string ⟨(List.replicate k (0 : UInt8)).toArray⟩) ∧ Below W.heap.size W w') := Lib.hid (fun W => KR k W hkl)
        obtain ⟨R, hR⟩ : ∃ R, List.replicate k (0 : UInt8) = R := ⟨_, rfl⟩
        rw [hR] at KR'
        simp only [hR] at hadd
        have HR := Lib.hid hR
        have HBd : Hid (Below w.heap.size w w4.drew) := Lib.hid (Below.drew HB4.out)
        clear hb4 hz4 hy4 ho4 ho5 hst hM hvv hml hk hkl hk2 hcv hR
        go_wp2_with fail
        go_region_law ((go_simp; go_at_call 52; refine (KR'.out _).mono ?_; rintro r w_ ⟨rfl, hb_⟩; have hcv_ := (HST.out.below hb_).conv; have kB := Lib.hid (HBd.out.trans (hb_.mono HBd.out.size)); clear hb_))
        all_goals (
          clear hadd
          go_wp2
          go_ret2
          exact ⟨by rw [HVV.out, HK.out, H0.out, HR.out]; rfl, kB.out⟩)
end Go.Proofs.Ytkmdgpfaaniibaa
