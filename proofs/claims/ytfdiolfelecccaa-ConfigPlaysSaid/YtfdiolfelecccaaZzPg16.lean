/- Layer 16, the program: areNumbers, mayBe; slices.IndexFunc, slices.ContainsFunc at associations. -/
import Derived.Test.YtfdiolfelecccaaZzPf16
namespace Go.Proofs.Ytfdiolfelecccaa
open Go.RowKit
open Go.Sort (grow)
set_option linter.unusedVariables false
set_option linter.unusedSimpArgs false
set_option maxRecDepth 100000

theorem str_eqP (a b : List UInt8) : ((⟨a.toArray⟩ : ByteArray).toList == (⟨b.toArray⟩ : ByteArray).toList) = (a == b) := by
  rw [ByteArray.toList_eq, ByteArray.toList_eq]
theorem ris_bad {l : List UInt16} {k : Nat} {x : UInt16} (hx : l[k]? = some x) (h : x.toNat ≤ lst16 0 (l.take k) ∨ 8191 < x.toNat) : ris 0 l = false := by
  obtain ⟨hk, he⟩ := List.getElem?_eq_some_iff.1 hx
  have e : l = l.take k ++ (x :: l.drop (k + 1)) := by rw [← he, ← List.drop_eq_getElem_cons hk, List.take_append_drop]
  rw [e, ris_app]
  have : ris (lst16 0 (l.take k)) (x :: l.drop (k + 1)) = false := by
    unfold ris
    rcases h with h | h
    · rw [decide_eq_false (show ¬ lst16 0 (l.take k) < x.toNat by omega)]; rfl
    · rw [decide_eq_false (show ¬ x.toNat < 8192 by omega)]; simp
  rw [this, Bool.and_false]
theorem ris_next {l : List UInt16} {k : Nat} {x : UInt16} (hx : l[k]? = some x) (hr : ris 0 (l.take k) = true) (h1 : lst16 0 (l.take k) < x.toNat) (h2 : x.toNat ≤ 8191) : ris 0 (l.take (k + 1)) = true := by
  obtain ⟨hk, he⟩ := List.getElem?_eq_some_iff.1 hx
  rw [List.take_succ_eq_append_getElem hk, ris_app, hr, he]
  simp [ris, h1]
  omega
def nums (l : List UInt16) : Bool := (decide (0 < l.length) && decide (l.length ≤ 8)) && ris 0 l
set_option maxHeartbeats 4000000 in
theorem nums_any (w : World) (l : List UInt16) (A : Option Addr) (c : Nat) (hl : l.length ≤ 1000) (hE : Els 1 u16c w A l) :
    Calls Try.prog 51 #[.slice A l.length c] w fun e w' => e = .returned (.bool (nums l)) ∧ w' = w := by
  have HE := Lib.hid hE
  obtain ⟨n, hn⟩ : ∃ n, l.length = n := ⟨_, rfl⟩
  have HN := Lib.hid hn
  rw [hn] at hl
  rw [hn]
  obtain ⟨r, hr⟩ : ∃ r, nums l = r := ⟨_, rfl⟩
  rw [hr]
  have HR := Lib.hid hr
  clear hr
  by_cases h0 : n = 0
  · have HV : Hid (r = false) := Lib.hid (by rw [← HR.out]; unfold nums; rw [HN.out, h0]; rfl)
    have p : (n : Int) < 1 := by omega
    rw [HV.out]
    clear h0 hn hE
    go_enter Try.func51, Try.ntmps51
    go_wp2
    go_ret
    exact ⟨rfl, by first | exact rfl | trivial⟩
  · by_cases h8 : n ≤ 8
    · have p : ¬ (n : Int) < 1 := by omega
      have p8 : ¬ (8 : Int) < (n : Int) := by omega
      have HV : Hid (r = ris 0 l) := Lib.hid (by rw [← HR.out]; unfold nums; rw [HN.out, decide_eq_true (show 0 < n by omega), decide_eq_true h8]; rfl)
      rw [HV.out]
      clear h0 h8 hn hE HR HV
      go_enter Try.func51, Try.ntmps51
      go_wp2
      go_loopw [3, 5, 16] (fun v _ i wr => ∃ k : Nat, k ≤ n ∧ i = .int .i64 k ∧ v = .int .u16 (lst16 0 (l.take k) : Nat) ∧ Hid (ris 0 (l.take k) = true) ∧ wr = w) (fun _ _ i _ => n - (intOf i).toNat)
      case atStart => exact ⟨0, Nat.zero_le _, rfl, rfl, Lib.hid rfl, by first | exact rfl | trivial⟩
      case round =>
        obtain ⟨k, hk, rfl, rfl, HF, rfl⟩ := hrel
        by_cases hlt : k < n
        · have hkd : k < l.length := by rw [HN.out]; exact hlt
          have hltz : (k : Int) < (n : Int) := by omega
          obtain ⟨x, hx⟩ : ∃ x, l[k]? = some x := ⟨_, List.getElem?_eq_getElem hkd⟩
          obtain ⟨b, off, rfl, _, e0⟩ := u16c_at HE.out hx
          obtain ⟨L, hL⟩ : ∃ L, lst16 0 (l.take k) = L := ⟨_, rfl⟩
          have HX := Lib.hid hx
          have HL := Lib.hid hL
          rw [hL]
          clear hx hL
          by_cases h1 : x.toNat ≤ L
          · have p1 : (x.toNat : Int) ≤ (L : Int) := by omega
            have HV : Hid (ris 0 l = false) := Lib.hid (ris_bad HX.out (.inl (by rw [HL.out]; exact h1)))
            clear h1
            go_wp2
            go_ret
            exact ⟨by rw [HV.out]; rfl, by first | exact rfl | trivial⟩
          · have p1 : ¬ (x.toNat : Int) ≤ (L : Int) := by omega
            by_cases h2 : 8191 < x.toNat
            · have p2 : (8191 : Int) < (x.toNat : Int) := by omega
              have HV : Hid (ris 0 l = false) := Lib.hid (ris_bad HX.out (.inr h2))
              clear h1 h2
              go_wp2
              go_ret
              exact ⟨by rw [HV.out]; rfl, by first | exact rfl | trivial⟩
            · have p2 : ¬ (8191 : Int) < (x.toNat : Int) := by omega
              have HF1 : Hid (ris 0 (l.take (k + 1)) = true) := Lib.hid (ris_next HX.out HF.out (by rw [HL.out]; omega) (by omega))
              have HL1 : Hid (lst16 0 (l.take (k + 1)) = x.toNat) := Lib.hid (lst16_at l k x HX.out)
              clear h1 h2
              go_wp2
              go_roundw
              case rel => exact ⟨k + 1, by omega, by go_num, by rw [HL1.out], HF1, by first | exact rfl | trivial⟩
              case measure => simp [intOf]; omega
        · obtain rfl : k = n := by omega
          have HV : Hid (ris 0 l = true) := Lib.hid (by
            have := HF.out
            rwa [List.take_of_length_le (by rw [HN.out]; exact Nat.le_refl _)] at this)
          clear hk hlt
          go_wp2
          go_ret
          exact ⟨by rw [HV.out]; rfl, by first | exact rfl | trivial⟩
    · have HV : Hid (r = false) := Lib.hid (by rw [← HR.out]; unfold nums; rw [HN.out, decide_eq_false h8]; simp)
      have p : ¬ (n : Int) < 1 := by omega
      have p8 : (8 : Int) < (n : Int) := by omega
      rw [HV.out]
      clear h0 hn hE h8
      go_enter Try.func51, Try.ntmps51
      go_wp2
      go_ret
      exact ⟨rfl, by first | exact rfl | trivial⟩
theorem ticks_any (i : UInt8) (w : World) : Calls Try.prog 50 #[.int .u8 i.toNat] w fun e w' => (∃ n : Int, e = .returned (.int .i64 n) ∧ decide (0 < n) = (i == 4 || i == 5)) ∧ w' = w := by
  by_cases h4 : i = 4
  · subst h4
    go_enter Try.func50, Try.ntmps50
    go_wp2
    go_ret
    exact ⟨⟨_, rfl, by decide⟩, by first | exact rfl | trivial⟩
  · by_cases h5 : i = 5
    · subst h5
      go_enter Try.func50, Try.ntmps50
      go_wp2
      go_ret
      exact ⟨⟨_, rfl, by decide⟩, by first | exact rfl | trivial⟩
    · have e4 : ((i.toNat : Int) == 4) = false := u8_ne (b := 4) h4
      have e5 : ((i.toNat : Int) == 5) = false := u8_ne (b := 5) h5
      have hq : (i == 4 || i == 5) = false := by simp [h4, h5]
      rw [hq]
      clear h4 h5 hq
      go_enter Try.func50, Try.ntmps50
      go_wp2
      go_ret
      exact ⟨⟨_, rfl, by decide⟩, by first | exact rfl | trivial⟩
theorem asM_split (a : As) : asM a = (mdE a.d a.n == 0 && (decide (a.l.toNat < 8) && (okV16 a.v && ((a.i == 4 || a.i == 5) && nums a.m)))) := rfl
set_option maxHeartbeats 8000000 in
theorem mayBe_any (w : World) (a : As) (B : Option Addr) (c : Nat) (hE : Els 1 u16c w B a.m) (hd : a.d.length ≤ 1000) (hn : a.n.length ≤ 1000) (hm : a.m.length ≤ 1000) :
    Calls Try.prog 37 #[.agg #[.int .u8 a.l.toNat, .string ⟨a.d.toArray⟩, .string ⟨a.n.toArray⟩, .int .u16 a.v.toNat, .int .u8 a.i.toNat, .slice B a.m.length c]] w fun e w' => e = .returned (.bool (asM a)) ∧ Below w.heap.size w w' := by
  obtain ⟨W, hW⟩ : ∃ W, (w.alloc (.cells #[.int .u8 a.l.toNat, .string ⟨a.d.toArray⟩, .string ⟨a.n.toArray⟩, .int .u16 a.v.toNat, .int .u8 a.i.toNat, .slice B a.m.length c] 50)) = W := ⟨_, rfl⟩
  have HG : Hid (Below w.heap.size w W) := Lib.hid (by rw [← hW]; exact (Below.refl _ _).alloc (Nat.le_refl _) _)
  have HK := Blk.new w 50 #[.int .u8 a.l.toNat, .string ⟨a.d.toArray⟩, .string ⟨a.n.toArray⟩, .int .u16 a.v.toNat, .int .u8 a.i.toNat, .slice B a.m.length c]
  rw [hW] at HK
  have HKH := Lib.hid HK
  have HEM := Lib.hid (hE.next HG.out)
  have KP := Lib.hid (mdput a.d a.n W (by omega) (by omega))
  have HDM := Lib.hid hm
  rw [asM_split]
  have k0 := HK.cell 0
  have k1 := HK.cell 1
  have k2 := HK.cell 2
  have k3 := HK.cell 3
  have k4 := HK.cell 4
  have k5 := HK.cell 5
  simp only [List.getElem?_toArray, List.getElem?_cons_succ, List.getElem?_cons_zero] at k0 k1 k2 k3 k4 k5
  obtain ⟨me, hme⟩ : ∃ me, mdE a.d a.n = me := ⟨_, rfl⟩
  obtain ⟨mv, hmv⟩ : ∃ mv, mdV a.d a.n = mv := ⟨_, rfl⟩
  rw [hme, hmv] at KP
  rw [hme]
  clear hme hmv HK hE hd hn hm
  obtain ⟨qm, hqm⟩ : ∃ q, (me == 0) = q := ⟨_, rfl⟩
  obtain ⟨ql, hql⟩ : ∃ q, decide (a.l.toNat < 8) = q := ⟨_, rfl⟩
  have hql' : decide ((a.l.toNat : Int) ≤ 7) = ql := by rw [← hql, Bool.eq_iff_iff]; simp; omega
  obtain ⟨qv, hqv⟩ : ∃ q, okV16 a.v = q := ⟨_, rfl⟩
  obtain ⟨qi, hqi⟩ : ∃ q, (a.i == 4 || a.i == 5) = q := ⟨_, rfl⟩
  obtain ⟨qn, hqn⟩ : ∃ q, nums a.m = q := ⟨_, rfl⟩
  rw [hqm, hql, hqv, hqi, hqn]
  have HQ := Lib.hid (And.intro hqv (And.intro hqi hqn))
  clear hql hqv hqi hqn
  go_enter Try.func37, Try.ntmps37
  go_wp2_with fail
  try rw [hW]
  clear hW
  refine KP.out.mono ?_
  rintro e w1 ⟨rfl, hb1⟩
  have HG1 : Hid (Below w.heap.size w w1) := Lib.hid (HG.out.trans (hb1.mono HG.out.size))
  have HK1 := HKH.out.below hb1 HKH.out.lt
  have HE1 := Lib.hid (HEM.out.next hb1)
  clear hb1 KP k0 k1 k2 k3 k4 k5
  have k0 := HK1.cell 0
  have k1 := HK1.cell 1
  have k2 := HK1.cell 2
  have k3 := HK1.cell 3
  have k4 := HK1.cell 4
  have k5 := HK1.cell 5
  simp only [List.getElem?_toArray, List.getElem?_cons_succ, List.getElem?_cons_zero] at k0 k1 k2 k3 k4 k5
  have HK1H := Lib.hid HK1
  clear HK1
  cases qm
  · go_wp2
    go_ret
    exact ⟨rfl, HG1.out⟩
  cases ql
  · go_wp2
    go_ret
    exact ⟨rfl, HG1.out⟩
  go_wp2_with fail
  refine (isVlan_any a.v w1).mono ?_
  rw [HQ.out.1]
  rintro e w2 ⟨rfl, hg2⟩
  have HG2 : Hid (Below w.heap.size w w2) := Lib.hid (HG1.out.trans (hg2.below.mono HG1.out.size))
  have HK2 := HK1H.out.below hg2.below HK1H.out.lt
  have HE2 := Lib.hid (HE1.out.groP hg2)
  clear hg2 k0 k1 k2 k3 k4 k5 HG1 HE1
  have k0 := HK2.cell 0
  have k1 := HK2.cell 1
  have k2 := HK2.cell 2
  have k3 := HK2.cell 3
  have k4 := HK2.cell 4
  have k5 := HK2.cell 5
  simp only [List.getElem?_toArray, List.getElem?_cons_succ, List.getElem?_cons_zero] at k0 k1 k2 k3 k4 k5
  have HK2H := Lib.hid HK2
  clear HK2 HK1H
  cases qv
  · go_wp2
    go_ret
    exact ⟨rfl, HG2.out⟩
  go_wp2_with fail
  refine (ticks_any a.i w2).mono ?_
  rw [HQ.out.2.1]
  rintro e w3 ⟨⟨n3, rfl, hn3⟩, rfl⟩
  cases qi
  · go_wp2
    go_ret
    exact ⟨rfl, HG2.out⟩
  go_wp2_with fail
  refine (nums_any _ a.m B c HDM.out HE2.out).mono ?_
  rw [HQ.out.2.2]
  rintro e w4 ⟨rfl, rfl⟩
  go_wp2
  go_ret
  exact ⟨rfl, HG2.out⟩
end Go.Proofs.Ytfdiolfelecccaa
