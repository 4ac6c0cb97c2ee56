/- VlanBack: what goes out in a VLAN comes in in it again. -/
import Derived.Test.YteiopobkbfancaaNums
import Derived.Test.YteiopobkbfancaaRAll
import Derived.OpenShut
import Derived.ShutString
import Derived.ChangeOld
namespace Go.Proofs.Yteiopobkbfancaa.vlanBack
open Go.ChangeShapes Go.WideShapes Go.ChangeAt Go.RowKit
open Go.ChangeMaps (open_string shut_string)
set_option linter.unusedVariables false
set_option linter.unusedSimpArgs false
set_option maxRecDepth 100000


theorem vm1 (v : UInt16) (m u : UInt8) : vm [⟨v, m, u⟩] v = m ∧ vu [⟨v, m, u⟩] v = u := by simp [vm, vu, vfind]
theorem bad8 (v : UInt16) (m u : UInt8) : setBad 8 v m (u &&& m) = !okV v := by
  have a : ∀ s : UInt8, allIn 8 s = true := by
    intro s
    unfold allIn
    rw [andnot_zero s.toNat_lt (mask_lt (by omega))]
    intro q hq _
    unfold mask
    rw [Nat.testBit_two_pow_sub_one]
    simpa using hq
  have b : within (u &&& m) m = true := by
    unfold within
    rw [andnot_zero (UInt8.toNat_lt _) m.toNat_lt]
    intro q _ h
    rw [UInt8.toNat_and, Nat.testBit_and] at h
    simp at h
    exact h.2
  unfold setBad
  rw [a, a, b]
  simp
theorem and_run (u m : UInt8) : bits BinOp.and IntKind.u8 (u.toNat : Int) (m.toNat : Int) = ((u &&& m).toNat : Int) := by
  rw [u8_and_nat _ _ u.toNat_lt m.toNat_lt, UInt8.toNat_and]
theorem has8_run0 (s p : UInt8) : (bits BinOp.and IntKind.u8 ((s.toNat : Int) / 2 ^ min p.toNat 8) 1 == 0) = !has8 s p := by
  have h := has8_run s p
  have hs : s.toNat < 256 := s.toNat_lt
  have e : ((s.toNat : Int) / 2 ^ min p.toNat 8) = ((s.toNat / 2 ^ min p.toNat 8 : Nat) : Int) := by simp
  have hlt : s.toNat / 2 ^ min p.toNat 8 < 256 := Nat.lt_of_le_of_lt (Nat.div_le_self _ _) hs
  rw [← h, e]
  have := u8_and_nat (s.toNat / 2 ^ min p.toNat 8) 1 hlt (by decide)
  rw [show ((1 : Nat) : Int) = 1 from rfl] at this
  rw [this, nat_mask1]
  rcases Nat.mod_two_eq_zero_or_one (s.toNat / 2 ^ min p.toNat 8) with h0 | h0 <;> rw [h0] <;> rfl
theorem new8 {w : World} : Calls Try.prog 8 #[.int .i64 8] w fun e w' => ∃ t, e = .returned (.tuple #[.pointer (some ⟨t, 0, none⟩), .int .i64 0]) ∧ Tbl w' t none 8 [] own0 ∧ w.heap.size ≤ t ∧ Below w.heap.size w w' := new_any 8 (by decide) (by decide)
set_option maxRecDepth 100000 in
theorem eq_mac (a0 a1 a2 a3 a4 a5 : UInt8) (W : World) : (Op.equalIn 10000 25 (.agg #[.int .u8 a0.toNat, .int .u8 a1.toNat, .int .u8 a2.toNat, .int .u8 a3.toNat, .int .u8 a4.toNat, .int .u8 a5.toNat]) (.agg #[.int .u8 a0.toNat, .int .u8 a1.toNat, .int .u8 a2.toNat, .int .u8 a3.toNat, .int .u8 a4.toNat, .int .u8 a5.toNat])).run Try.prog W = .ok true W := by
  have hd := run_equalIn_bytes (P := Try.prog) W 9998 25 5 6 Try.underlying25 Try.underlying5 (fun w => by have := Try.sizeOf5; exact this w) [a0, a1, a2, a3, a4, a5] [a0, a1, a2, a3, a4, a5] rfl rfl
  rw [beq_self_eq_true] at hd
  exact hd

/-- two tables and the frame's box -/
structure Bk (W : World) (a b g : Nat) (ma mb : Option Nat) (La Lb : List Vn) (ob : List UInt16) (f : Fr) (w : World) : Prop where
  ta : Tbl w a ma 8 La own0
  tb : Tbl w b mb 8 Lb ob
  fr : FrA w g f
  ab : ∀ k, tset a ma k → ¬ tset b mb k
  ga : ¬ tset a ma g
  gb : ¬ tset b mb g
  la : ∀ k, tset a ma k → W.heap.size ≤ k
  lb : ∀ k, tset b mb k → W.heap.size ≤ k
  bl : Below W.heap.size W w
section
variable {W w w' : World} {a b g : Nat} {ma mb : Option Nat} {La Lb : List Vn} {ob : List UInt16} {f : Fr}
theorem Bk.calm (h : Bk W a b g ma mb La Lb ob f w) (hb : Below w.heap.size w w') : Bk W a b g ma mb La Lb ob f w' :=
  ⟨h.ta.next hb, h.tb.next hb, h.fr.next hb, h.ab, h.ga, h.gb, h.la, h.lb, h.bl.trans (hb.mono h.bl.size)⟩
theorem Bk.actA (h : Bk W a b g ma mb La Lb ob f w) {L2 : List Vn} {ma2 : Option Nat} (ht : Tbl w' a ma2 8 L2 own0) (hc : Chg (tset a ma) w w') (hk : ∀ k, tset a ma2 k → tset a ma k ∨ w.heap.size ≤ k) : Bk W a b g ma2 mb L2 Lb ob f w' := by
  refine ⟨ht, h.tb.chg hc (fun k e e' => h.ab k e' e), h.fr.lt |> fun hl => (show Blk w' g _ _ from Blk.chg h.fr hc h.ga), ?_, ?_, h.gb, ?_, h.lb, h.bl.trans (hc.below h.bl.size (fun k hk' e => by have := h.la k e; omega))⟩
  · intro k e e'
    rcases hk k e with h1 | h1
    · exact h.ab k h1 e'
    · have := h.tb.lt k e'; omega
  · intro e
    rcases hk g e with h1 | h1
    · exact h.ga h1
    · have := h.fr.lt; omega
  · intro k e
    rcases hk k e with h1 | h1
    · exact h.la k h1
    · exact Nat.le_trans h.bl.size h1
theorem Bk.actB (h : Bk W a b g ma mb La Lb ob f w) {L2 : List Vn} {mb2 : Option Nat} {o2 : List UInt16} (ht : Tbl w' b mb2 8 L2 o2) (hc : Chg (tset b mb) w w') (hk : ∀ k, tset b mb2 k → tset b mb k ∨ w.heap.size ≤ k) : Bk W a b g ma mb2 La L2 o2 f w' := by
  refine ⟨h.ta.chg hc (fun k e e' => h.ab k e e'), ht, (show Blk w' g _ _ from Blk.chg h.fr hc h.gb), ?_, h.ga, ?_, h.la, ?_, h.bl.trans (hc.below h.bl.size (fun k hk' e => by have := h.lb k e; omega))⟩
  · intro k e e'
    rcases hk k e' with h1 | h1
    · exact h.ab k e h1
    · have := h.ta.lt k e; omega
  · intro e
    rcases hk g e with h1 | h1
    · exact h.gb h1
    · have := h.fr.lt; omega
  · intro k e
    rcases hk k e with h1 | h1
    · exact h.lb k h1
    · exact Nat.le_trans h.bl.size h1
end
set_option maxRecDepth 100000 in
set_option maxHeartbeats 1600000 in
theorem back_law (W : World) (v : UInt16) (m u p : UInt8) (f : Fr) : Calls Try.prog 5 #[.int .u16 v.toNat, .int .u8 m.toNat, .int .u8 u.toNat, .int .u8 p.toNat, FV f] W fun e w' => e = .returned (.bool true) ∧ Below W.heap.size W w' := by
  obtain ⟨w1, hw1⟩ : ∃ w1, W.alloc (.cells #[.int .u8 f.d0.toNat, .int .u8 f.d1.toNat, .int .u8 f.d2.toNat, .int .u8 f.d3.toNat, .int .u8 f.d4.toNat, .int .u8 f.d5.toNat, .int .u8 f.s0.toNat, .int .u8 f.s1.toNat, .int .u8 f.s2.toNat, .int .u8 f.s3.toNat, .int .u8 f.s4.toNat, .int .u8 f.s5.toNat, .bool f.tag, .int .u8 f.pri.toNat, .int .u16 f.vid.toNat, .int .u16 f.ty.toNat, .string ⟨f.data.toArray⟩] 27) = w1 := ⟨_, rfl⟩
  obtain ⟨g, hg⟩ : ∃ g, W.heap.size = g := ⟨_, rfl⟩
  have HF1 := Lib.hid (show FrA w1 g f by rw [← hw1, ← hg]; exact FrA.new W f)
  have HB1 := Lib.hid (show Below W.heap.size W w1 by rw [← hw1]; exact (Below.refl W.heap.size W).alloc (Nat.le_refl _) _)
  have HG := Lib.hid hg
  have c16 := HF1.out.cells.c16
  go_enter Try.func5, Try.ntmps5
  go_upto_region 1 with fail
  clear hw1 hg
  by_cases hd : 2000 < f.data.length
  · have hdd : (2000 : Int) < ((⟨f.data.toArray⟩ : ByteArray).size : Int) := by
      rw [show (⟨f.data.toArray⟩ : ByteArray).size = f.data.length by simp [ByteArray.size]]
      omega
    obtain ⟨D, hD⟩ : ∃ D : ByteArray, (⟨f.data.toArray⟩ : ByteArray) = D := ⟨_, rfl⟩
    rw [hD] at c16 hdd
    clear hd hD
    go_wp2_with fail
    refine (wakes_any _).mono ?_
    rintro e w2 ⟨rfl, hb⟩
    have HB2 : Hid (Below W.heap.size W w2) := Lib.hid (HB1.out.trans (hb.mono HB1.out.size))
    clear hb
    go_wp2
    go_ret
    exact ⟨rfl, HB2.out⟩
  · have hdd : ¬ (2000 : Int) < ((⟨f.data.toArray⟩ : ByteArray).size : Int) := by
      rw [show (⟨f.data.toArray⟩ : ByteArray).size = f.data.length by simp [ByteArray.size]]
      omega
    have HDL : Hid (f.data.length ≤ 8388000) := Lib.hid (by omega)
    obtain ⟨D, hD⟩ : ∃ D : ByteArray, (⟨f.data.toArray⟩ : ByteArray) = D := ⟨_, rfl⟩
    rw [hD] at c16 hdd
    clear hd hD
    go_wp2_with fail
    refine new8.mono ?_
    rintro e w2 ⟨a, rfl, hTa, hla, hb⟩
    have HTa := Lib.hid hTa
    have HLa := Lib.hid hla
    have HF2 := Lib.hid (HF1.out.next hb)
    have HB2 : Hid (Below W.heap.size W w2) := Lib.hid (HB1.out.trans (hb.mono HB1.out.size))
    have HL1 := Lib.hid HF1.out.lt
    clear hb hTa hla HF1 HB1 c16 hdd
    go_wp2_with fail
    refine new8.mono ?_
    rintro e w3 ⟨b, rfl, hTb, hlb, hb⟩
    have hK : Bk W a b g none none [] [] own0 f w3 := by
      have e1 := HTa.out.lt0
      have e2 := HL1.out
      have e3 := HLa.out
      have e4 := HF2.out.lt
      have e5 := HG.out
      have e6 := HB2.out.size
      refine ⟨HTa.out.next hb, hTb, HF2.out.next hb, ?_, ?_, ?_, ?_, ?_, HB2.out.trans (hb.mono HB2.out.size)⟩
      · intro k e e'
        rcases e with e | e
        · rcases e' with e' | e'
          · have h1 : k = a := e
            have h2 : k = b := e'
            omega
          · cases e'
        · cases e
      · rintro (e | e)
        · have h1 : g = a := e
          omega
        · cases e
      · rintro (e | e)
        · have h1 : g = b := e
          omega
        · cases e
      · rintro k (e | e)
        · have h1 : k = a := e
          omega
        · cases e
      · rintro k (e | e)
        · have h1 : k = b := e
          omega
        · cases e
    have HK := Lib.hid hK
    clear hK
    clear hb hTb hlb HTa HLa HF2 HB2 HL1
    have hand := and_run u m
    have hbad := bad8 v m u
    obtain ⟨x, hx⟩ : ∃ x, u &&& m = x := ⟨_, rfl⟩
    rw [hx] at hand hbad
    have HBAD := Lib.hid hbad
    clear hx hbad
    cases hok : okV v
    · have hE : Hid (setE 8 [] v m x = 2) := Lib.hid (by unfold setE; rw [HBAD.out, hok]; rfl)
      have hv := okV_no hok
      have hc := set_all HK.out.ta v m x
      rw [hE.out] at hc
      have HC := Lib.hid hc
      clear hc
      have hv' : ((v.toNat : Int) < 1) ∨ (¬ ((v.toNat : Int) < 1) ∧ (4094 : Int) < (v.toNat : Int)) := by omega
      clear hok hv
      go_wp2_with fail
      refine HC.out.mono ?_
      intro e w4 hp
      obtain ⟨rfl, ma2, hTa, hC, hk⟩ := hp
      have HB4 := Lib.hid (HK.out.actA hTa hC hk).bl
      clear hTa hC hk HK HC
      rcases hv' with h1 | ⟨h1, h2⟩
      · go_wp2_with fail
        refine (wakes_any _).mono ?_
        rintro e w5 ⟨rfl, hb⟩
        have HB5 : Hid (Below W.heap.size W w5) := Lib.hid (HB4.out.trans (hb.mono HB4.out.size))
        clear hb HB4
        go_wp2
        go_ret
        exact ⟨rfl, HB5.out⟩
      · go_wp2_with fail
        refine (wakes_any _).mono ?_
        rintro e w5 ⟨rfl, hb⟩
        have HB5 : Hid (Below W.heap.size W w5) := Lib.hid (HB4.out.trans (hb.mono HB4.out.size))
        clear hb HB4
        go_wp2
        go_ret
        exact ⟨rfl, HB5.out⟩
    · have hE : setE 8 [] v m x = 0 := by unfold setE; rw [HBAD.out, hok]; rfl
      have hL : setL 8 [] v m x = [⟨v, m, x⟩] := by unfold setL; rw [if_pos hE]; rfl
      have hc := set_all HK.out.ta v m x
      rw [hE, hL] at hc
      have HC := Lib.hid hc
      have HEL := Lib.hid (And.intro hE hL)
      have HV := Lib.hid (okV_yes hok)
      clear hc hE hL hok
      go_wp2_with fail
      refine HC.out.mono ?_
      intro e w4 hp
      obtain ⟨rfl, ma2, hTa, hC, hk⟩ := hp
      have HK4 := Lib.hid (HK.out.actA hTa hC hk)
      clear hTa hC hk HK HC
      have hc := set_all HK4.out.tb v m x
      rw [HEL.out.1, HEL.out.2] at hc
      have HC := Lib.hid hc
      clear hc
      go_wp2_with fail
      refine HC.out.mono ?_
      intro e w5 hp
      obtain ⟨rfl, mb2, hTb, hC, hk⟩ := hp
      have HK5 := Lib.hid (HK4.out.actB hTb hC hk)
      clear hTb hC hk HK4 HC HEL
      obtain ⟨q, hq⟩ : ∃ q : UInt8, p % 8 = q := ⟨_, rfl⟩
      have hqn : p.toNat % 8 = q.toNat := by rw [← hq]; rfl
      have hq8 : q.toNat < 8 := by rw [← hqn]; omega
      have hrem : ((p.toNat : Int) % 8) = (q.toNat : Int) := by omega
      have hrem2 : ((p.toNat : Int).tmod 8) = (q.toNat : Int) := by rw [Int.tmod_eq_emod_of_nonneg (by omega)]; exact hrem
      have hO : sownE 8 q v = 0 := by unfold sownE; rw [if_pos ⟨hq8, HV.out.2⟩]
      have hO2 : sownO 8 own0 q v = own0.set q.toNat v := by unfold sownO; rw [if_pos hO]
      have hc := own_all HK5.out.tb q v
      rw [hO, hO2] at hc
      have HC := Lib.hid hc
      have HQ8 := Lib.hid hq8
      clear hc hO hO2 hq hqn hq8
      go_wp2_with fail
      refine HC.out.mono ?_
      intro e w6 hp
      obtain ⟨rfl, mb3, hTb, hC, hk⟩ := hp
      have HK6 := Lib.hid (HK5.out.actB hTb hC hk)
      clear hTb hC hk HK5 HC hand
      go_wp2_with (refine wpList_load_frame 9 rfl (by kernel_rfl) g f rfl HK6.out.fr ?_)
      refine (out_any HK6.out.ta q v f HDL.out).mono ?_
      obtain ⟨fo, hfo⟩ : ∃ fo, voutF [⟨v, m, x⟩] q v f = fo := ⟨_, rfl⟩
      obtain ⟨bo, hbo⟩ : ∃ bo, voutB [⟨v, m, x⟩] q v f = bo := ⟨_, rfl⟩
      have HFB := Lib.hid (And.intro hfo hbo)
      rw [hfo, hbo]
      rintro e w7 ⟨rfl, hb⟩
      have HK7 := Lib.hid (HK6.out.calm hb)
      clear hb HK6 hfo hbo hrem hrem2
      have st := stores_new w7 (.int .u8 fo.d0.toNat) (.int .u8 fo.d1.toNat) (.int .u8 fo.d2.toNat) (.int .u8 fo.d3.toNat) (.int .u8 fo.d4.toNat) (.int .u8 fo.d5.toNat) (.int .u8 fo.s0.toNat) (.int .u8 fo.s1.toNat) (.int .u8 fo.s2.toNat) (.int .u8 fo.s3.toNat) (.int .u8 fo.s4.toNat) (.int .u8 fo.s5.toNat) (.bool fo.tag) (.int .u8 fo.pri.toNat) (.int .u16 fo.vid.toNat) (.int .u16 fo.ty.toNat) (.string ⟨fo.data.toArray⟩) (by kernel_rfl)
      obtain ⟨w8, hw⟩ : ∃ y, w7.alloc (.cells #[.int .u8 fo.d0.toNat, .int .u8 fo.d1.toNat, .int .u8 fo.d2.toNat, .int .u8 fo.d3.toNat, .int .u8 fo.d4.toNat, .int .u8 fo.d5.toNat, .int .u8 fo.s0.toNat, .int .u8 fo.s1.toNat, .int .u8 fo.s2.toNat, .int .u8 fo.s3.toNat, .int .u8 fo.s4.toNat, .int .u8 fo.s5.toNat, .bool fo.tag, .int .u8 fo.pri.toNat, .int .u16 fo.vid.toNat, .int .u16 fo.ty.toNat, .string ⟨fo.data.toArray⟩] 27) = y := ⟨_, rfl⟩
      obtain ⟨gx, hgx⟩ : ∃ y, w7.heap.size = y := ⟨_, rfl⟩
      have HX := Lib.hid (show FrA w8 gx fo by rw [← hw, ← hgx]; exact FrA.new w7 fo)
      have HK8 := Lib.hid (show Bk W a b g ma2 mb3 [⟨v, m, x⟩] [⟨v, m, x⟩] (own0.set q.toNat v) f w8 from HK7.out.calm (by rw [← hw]; exact (Below.refl _ _).alloc (Nat.le_refl _) _))
      clear HK7
      rw [hw, hgx] at st
      have hmem := has8_run0 m q
      go_upto_region 14 with fail
      clear st hw hgx
      cases hq : has8 m q
      · have hV := vout_no (f := f) (show has8 (vm [⟨v, m, x⟩] v) q = false by rw [(vm1 v m x).1]; exact hq)
        rw [HFB.out.1, HFB.out.2] at hV
        obtain ⟨hfz, rfl⟩ := hV
        have eZ := fun W => eqZZ hfz W
        rw [hq] at hmem
        simp only [Bool.not_false] at hmem
        clear hfz hq
        go_wp2_with (refine wpList_load_frame 15 rfl (by kernel_rfl) gx fo rfl HX.out ?_)
        refine (wakes_any _).mono ?_
        rintro e w9 ⟨rfl, hb⟩
        have HB9 : Hid (Below W.heap.size W w9) := Lib.hid (HK8.out.bl.trans (hb.mono HK8.out.bl.size))
        clear hb
        go_wp2
        go_ret
        exact ⟨rfl, HB9.out⟩
      · have hqm : has8 (vm [⟨v, m, x⟩] v) q = true := by rw [(vm1 v m x).1]; exact hq
        rw [hq] at hmem
        simp only [Bool.not_true] at hmem
        cases bo with
        | false =>
          have hfz : fo = Fr.zero := by
            rw [← HFB.out.1]
            unfold voutF
            rw [HFB.out.2]
            rfl
          have eZ := fun W => eqZZ hfz W
          clear hfz hq hqm
          go_wp2_with (refine wpList_load_frame 15 rfl (by kernel_rfl) gx fo rfl HX.out ?_)
          refine (wakes_any _).mono ?_
          rintro e w9 ⟨rfl, hb⟩
          have HB9 : Hid (Below W.heap.size W w9) := Lib.hid (HK8.out.bl.trans (hb.mono HK8.out.bl.size))
          clear hb
          go_wp2
          go_ret
          exact ⟨rfl, HB9.out⟩
        | true =>
          have hfv : fo = vfr [⟨v, m, x⟩] q v f := by
            rw [← HFB.out.1]
            unfold voutF
            rw [HFB.out.2]
            rfl
          have hv0 : v ≠ 0 := fun e => by have := HV.out.1; rw [e] at this; exact absurd this (by decide)
          have hin : vinV 8 [⟨v, m, x⟩] (own0.set q.toNat v) q fo = v ∧ vinB 8 [⟨v, m, x⟩] (own0.set q.toNat v) q fo = true := by
            have ht : vtold 8 (own0.set q.toNat v) q fo = v := by
              unfold vtold
              rw [hfv]
              unfold vfr
              rw [(vm1 v m x).2]
              cases hu : has8 x q
              · simp [hv0]
              · have h8 := HQ8.out
                have hg : (own0.set q.toNat v).getD q.toNat 0 = v := by
                  rw [List.getD_eq_getElem?_getD, List.getElem?_set, if_pos rfl, if_pos (by simpa [own0] using h8)]
                  rfl
                show (if (false && _) = true then _ else if q.toNat < 8 then (own0.set q.toNat v).getD q.toNat 0 else 0) = v
                rw [if_neg (by simp), if_pos h8]
                exact hg
            unfold vinV vinB
            rw [ht, hqm]
            exact ⟨rfl, rfl⟩
          have HIN := Lib.hid hin
          have HFV := Lib.hid hfv
          clear hin hfv hv0 hqm hq
          go_upto_region 18 with fail
          clear hmem
          go_wp2_with (refine wpList_load_frame 15 rfl (by kernel_rfl) gx fo rfl HX.out ?_)
          refine (in_impl HK8.out.tb q fo).mono ?_
          rw [HIN.out.1, HIN.out.2]
          rintro e w9 ⟨rfl, hb⟩
          have HK9 := Lib.hid (HK8.out.calm hb)
          have HX9 := Lib.hid (HX.out.next hb)
          clear hb HK8 HX HFB HIN
          have hq1 := HK9.out.fr.cells
          have hun := has8_run0 x q
          cases hu : has8 x q
          · have hf2 : fo = { f with tag := true, vid := v } := by rw [HFV.out]; unfold vfr; rw [(vm1 v m x).2, hu]; rfl
            subst hf2
            rw [hu] at hun
            simp only [Bool.not_false] at hun
            have hq2 := HX9.out.cells
            have k0 := hq1.c0
            have l0 := hq2.c0
            have k1 := hq1.c1
            have l1 := hq2.c1
            have k2 := hq1.c2
            have l2 := hq2.c2
            have k3 := hq1.c3
            have l3 := hq2.c3
            have k4 := hq1.c4
            have l4 := hq2.c4
            have k5 := hq1.c5
            have l5 := hq2.c5
            have k6 := hq1.c6
            have l6 := hq2.c6
            have k7 := hq1.c7
            have l7 := hq2.c7
            have k8 := hq1.c8
            have l8 := hq2.c8
            have k9 := hq1.c9
            have l9 := hq2.c9
            have k10 := hq1.c10
            have l10 := hq2.c10
            have k11 := hq1.c11
            have l11 := hq2.c11
            have k12 := hq1.c12
            have l12 := hq2.c12
            have k13 := hq1.c13
            have l13 := hq2.c13
            have k14 := hq1.c14
            have l14 := hq2.c14
            have k15 := hq1.c15
            have l15 := hq2.c15
            have k16 := hq1.c16
            have l16 := hq2.c16
            dsimp only at k0 l0 k1 l1 k2 l2 k3 l3 k4 l4 k5 l5 k6 l6 k7 l7 k8 l8 k9 l9 k10 l10 k11 l11 k12 l12 k13 l13 k14 l14 k15 l15 k16 l16
            clear hq1 hq2 hu
            have em := eq_mac f.d0 f.d1 f.d2 f.d3 f.d4 f.d5
            have es := eq_mac f.s0 f.s1 f.s2 f.s3 f.s4 f.s5
            go_wp2_with fail
            all_goals (
              refine (wakes_any _).mono ?_
              rintro e w10 ⟨rfl, hb⟩
              have HB9 : Hid (Below W.heap.size W w10) := Lib.hid (HK9.out.bl.trans (hb.mono HK9.out.bl.size))
              clear hb
              go_wp2
              go_ret
              exact ⟨rfl, HB9.out⟩)
          · have hf2 : fo = { f with tag := false, pri := 0, vid := 0 } := by rw [HFV.out]; unfold vfr; rw [(vm1 v m x).2, hu]; rfl
            subst hf2
            rw [hu] at hun
            simp only [Bool.not_true] at hun
            have hq2 := HX9.out.cells
            have k0 := hq1.c0
            have l0 := hq2.c0
            have k1 := hq1.c1
            have l1 := hq2.c1
            have k2 := hq1.c2
            have l2 := hq2.c2
            have k3 := hq1.c3
            have l3 := hq2.c3
            have k4 := hq1.c4
            have l4 := hq2.c4
            have k5 := hq1.c5
            have l5 := hq2.c5
            have k6 := hq1.c6
            have l6 := hq2.c6
            have k7 := hq1.c7
            have l7 := hq2.c7
            have k8 := hq1.c8
            have l8 := hq2.c8
            have k9 := hq1.c9
            have l9 := hq2.c9
            have k10 := hq1.c10
            have l10 := hq2.c10
            have k11 := hq1.c11
            have l11 := hq2.c11
            have k12 := hq1.c12
            have l12 := hq2.c12
            have k13 := hq1.c13
            have l13 := hq2.c13
            have k14 := hq1.c14
            have l14 := hq2.c14
            have k15 := hq1.c15
            have l15 := hq2.c15
            have k16 := hq1.c16
            have l16 := hq2.c16
            dsimp only at k0 l0 k1 l1 k2 l2 k3 l3 k4 l4 k5 l5 k6 l6 k7 l7 k8 l8 k9 l9 k10 l10 k11 l11 k12 l12 k13 l13 k14 l14 k15 l15 k16 l16
            clear hq1 hq2 hu
            have em := eq_mac f.d0 f.d1 f.d2 f.d3 f.d4 f.d5
            have es := eq_mac f.s0 f.s1 f.s2 f.s3 f.s4 f.s5
            go_wp2_with fail
            all_goals (
              refine (wakes_any _).mono ?_
              rintro e w10 ⟨rfl, hb⟩
              have HB9 : Hid (Below W.heap.size W w10) := Lib.hid (HK9.out.bl.trans (hb.mono HK9.out.bl.size))
              clear hb
              go_wp2
              go_ret
              exact ⟨rfl, HB9.out⟩)

set_option maxRecDepth 100000 in
set_option maxHeartbeats 4000000 in
theorem walk {H : Type} {enc : TypeId × Value → H} (W : World) (base : Nat) {v0 v1 v2 v3 v4 : Value} {d0 d1 d2 d3 d4 : DataW H} {p0 p1 p2 p3 p4 : List MemPlace}
    (o0 : Value.okWide Try.prog W .any base 23 v0) (h0 : DataW.Trod enc Try.prog W 0 (fun _ => true) true 23 v0 d0 p0) (o1 : Value.okWide Try.prog W .any base 5 v1) (h1 : DataW.Trod enc Try.prog W 0 (fun _ => true) true 5 v1 d1 p1) (o2 : Value.okWide Try.prog W .any base 5 v2) (h2 : DataW.Trod enc Try.prog W 0 (fun _ => true) true 5 v2 d2 p2) (o3 : Value.okWide Try.prog W .any base 5 v3) (h3 : DataW.Trod enc Try.prog W 0 (fun _ => true) true 5 v3 d3 p3) (o4 : Value.okWide Try.prog W .any base 27 v4) (h4 : DataW.Trod enc Try.prog W 0 (fun _ => true) true 27 v4 d4 p4) :
    Calls Try.prog 5 #[v0, v1, v2, v3, v4] W fun e w' => e = .returned (.bool true) ∧ Below W.heap.size W w' := by
  obtain ⟨a, rfl, ha⟩ := open_num Try.underlying23 o0 h0
  obtain ⟨b, rfl, hb⟩ := open_num Try.underlying5 o1 h1
  obtain ⟨c, rfl, hc⟩ := open_num Try.underlying5 o2 h2
  obtain ⟨d, rfl, hd⟩ := open_num Try.underlying5 o3 h3
  obtain ⟨f, rfl⟩ := open_frame o4
  obtain ⟨v, rfl⟩ := u16_of ha
  obtain ⟨m, rfl⟩ := u8_of hb
  obtain ⟨u, rfl⟩ := u8_of hc
  obtain ⟨p, rfl⟩ := u8_of hd
  exact back_law W v m u p f

theorem own : ownKnob Try.prog.godebug = none := by kernel_rfl
theorem laidOut : laidOutB Try.prog = true := by kernel_rfl
set_option maxRecDepth 100000 in
theorem lifted (os : Os) (started : os.Started) (H : Type) (enc : TypeId × Value → H) :
    ReturnsInHanded {} Try.checked os 5 .any (Rows.vlanBackSpec.pre6 enc Try.prog Try.f5 Rows.vlanBackRow.domain false) (Rows.vlanBackSpec.post enc Try.prog Try.f5 false true false false) := by
  refine returnsInHanded_of_change (C := Try.checked) own started (by kernel_rfl) Try.func5
    (ChangeSpec.witness6 (enc := enc) (C := Try.checked) false ⟨#[], #[.int .u16 0, .int .u8 0, .int .u8 0, .int .u8 0, .agg #[.int .u8 0, .int .u8 0, .int .u8 0, .int .u8 0, .int .u8 0, .int .u8 0, .int .u8 0, .int .u8 0, .int .u8 0, .int .u8 0, .int .u8 0, .int .u8 0, .bool false, .int .u8 0, .int .u16 0, .int .u16 0, .string ⟨#[]⟩]], []⟩ 8 (by kernel_rfl) (by kernel_rfl) (by kernel_rfl) (by kernel_rfl)) ?_
  intro W base args ds gs before hval0 hW hcnd _
  have hval : ∀ (j : Nat) t v, Try.f5.params[j]? = some t → args[j]? = some v → Value.okWide Try.prog W .any base t v := hval0
  have hW' := hW
  obtain ⟨p, q, hA0, hV, rfl, hfz, hnd⟩ := hW
  have hA : DataW.TrodAll enc Try.prog W 0 (fun _ => true) true Try.f5.params.toList args.toList ds p := hA0
  rw [Try.params5] at hA hval
  obtain ⟨v0, vs0, d0, ds0, p0, q0, hargs, rfl, rfl, h0, r0⟩ := trodAll_cons hA
  obtain ⟨v1, vs1, d1, ds1, p1, q1, rfl, rfl, rfl, h1, r1⟩ := trodAll_cons r0
  obtain ⟨v2, vs2, d2, ds2, p2, q2, rfl, rfl, rfl, h2, r2⟩ := trodAll_cons r1
  obtain ⟨v3, vs3, d3, ds3, p3, q3, rfl, rfl, rfl, h3, r3⟩ := trodAll_cons r2
  obtain ⟨v4, vs4, d4, ds4, p4, q4, rfl, rfl, rfl, h4, r4⟩ := trodAll_cons r3
  obtain ⟨rfl, rfl, rfl⟩ := trodAll_nil r4
  obtain rfl : args = #[v0, v1, v2, v3, v4] := by cases args; simp_all
  obtain ⟨rfl, rfl⟩ := trodVars_none hV
  have o0 := hval 0 23 v0 rfl rfl
  have lt0 : ∀ x ∈ p0, x.block < W.heap.size := by obtain ⟨m, hm⟩ := h0; exact DataW.trod_lt m _ _ _ hm
  have o1 := hval 1 5 v1 rfl rfl
  have lt1 : ∀ x ∈ p1, x.block < W.heap.size := by obtain ⟨m, hm⟩ := h1; exact DataW.trod_lt m _ _ _ hm
  have o2 := hval 2 5 v2 rfl rfl
  have lt2 : ∀ x ∈ p2, x.block < W.heap.size := by obtain ⟨m, hm⟩ := h2; exact DataW.trod_lt m _ _ _ hm
  have o3 := hval 3 5 v3 rfl rfl
  have lt3 : ∀ x ∈ p3, x.block < W.heap.size := by obtain ⟨m, hm⟩ := h3; exact DataW.trod_lt m _ _ _ hm
  have o4 := hval 4 27 v4 rfl rfl
  have lt4 : ∀ x ∈ p4, x.block < W.heap.size := by obtain ⟨m, hm⟩ := h4; exact DataW.trod_lt m _ _ _ hm
  clear hA0 hval0
  refine (walk W base o0 h0 o1 h1 o2 h2 o3 h3 o4 h4).mono fun e W' ⟨he, bel⟩ => ?_
  subst he
  exact ⟨_, rfl, _, _, _, [], _, [], hW', trodAll_mk1 (shut_bool Try.underlying4 _), (trodAll_cons_mk (Below.trod laidOut (by kernel_rfl) (of_decide_eq_true (by kernel_rfl)) h0 bel lt0) (trodAll_cons_mk (Below.trod laidOut (by kernel_rfl) (of_decide_eq_true (by kernel_rfl)) h1 bel lt1) (trodAll_cons_mk (Below.trod laidOut (by kernel_rfl) (of_decide_eq_true (by kernel_rfl)) h2 bel lt2) (trodAll_cons_mk (Below.trod laidOut (by kernel_rfl) (of_decide_eq_true (by kernel_rfl)) h3 bel lt3) (trodAll_cons_mk (Below.trod laidOut (by kernel_rfl) (of_decide_eq_true (by kernel_rfl)) h4 bel lt4) trodAll_mk0))))), rfl, bel.frame _, fun h => by cases h⟩

theorem over : Rows.vlanBackRow.holds Try.pinned (OpenSpec.ofChange Rows.vlanBackSpec) :=
  OpenClaim.holds_of_wide 5 Try.f5 rfl rfl rfl rfl rfl rfl rfl ⟨rfl, rfl, rfl, rfl, rfl⟩ rfl rfl rfl rfl rfl (by kernel_rfl) Try.func5 (by kernel_rfl)
    (of_decide_eq_true (by kernel_rfl)) (by unfold Func.isWrapper; first | (rw [if_pos (by decide +kernel)]; kernel_rfl) | (rw [if_neg (by decide +kernel)]; exact ⟨rfl, rfl⟩))
    (fun os started H enc _ => lifted os started H enc)

/-- THE STATEMENT -/
theorem proved : Rows.VlanBackSaid := over
end Go.Proofs.Yteiopobkbfancaa.vlanBack
