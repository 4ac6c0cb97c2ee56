/- Layer 18: RemoteThere's walk. -/
import Derived.Test.YtkmdgpfaaniibaaZzTc18
import Derived.Deep.DeepCutAuto
namespace Go.Proofs.Ytkmdgpfaaniibaa
open Go.RowKit
set_option linter.unusedVariables false
set_option linter.unusedSimpArgs false
set_option maxRecDepth 100000

set_option maxHeartbeats 8000000 in
theorem there18_51 {R : World → (Nat → Prop) → Nat → Rm → Prop} (HI : RmI R) (HT : Ticks18C) (W : World) (l0 lv wr0 : UInt8) (A : Option Addr) (c : Nat) (rows : List UInt8) (hlv : lv.toNat = l0.toNat % 8) (hw0 : wr0.toNat % 4 = 1) (hrl : rows.length ≤ 40) (hE : Els 1 u8c18 W A rows) :
    Calls Try.prog 5 #[.int .u8 l0.toNat, .bool true, .slice A rows.length c, .int .u8 wr0.toNat] W fun e w' => e = .returned (.bool true) ∧ Below W.heap.size W w' := by
  have hl : lv.toNat < 8 := by omega
  have hi5 : (5 : UInt8) = 4 ∨ (5 : UInt8) = 5 := by decide
  have H := Lib.hid HI
  have e3 : IntKind.u8.wrap ((lv.toNat : Int) + 1) = ((lv + 1).toNat : Int) := by
    have : (lv + 1).toNat = lv.toNat + 1 := by rw [UInt8.toNat_add]; simp; omega
    rw [this]
    simp [IntKind.wrap, IntKind.signed, IntKind.bits]
    omega
  obtain ⟨lv1, hlv1⟩ : ∃ x, lv + 1 = x := ⟨_, rfl⟩
  rw [hlv1] at e3
  have e3' : ((lv.toNat : Int) + 1) % 256 = (lv1.toNat : Int) := by rw [← e3]; simp [IntKind.wrap, IntKind.signed, IntKind.bits]
  have KWK := Lib.hid (fun w => wakes18 HI w)
  have KV := Lib.hid (fun w => maid18_any w)
  have KLs : Hid (∀ w, Calls Try.prog 20 #[.int .u8 5] w fun e w' => e = .returned (.int .i64 35) ∧ Below w.heap.size w w') := Lib.hid (fun w => HI.lasts 5 w)
  have KTk : Hid (∀ w, Calls Try.prog 23 #[.int .u8 5] w fun e w' => e = .returned (.int .i64 10) ∧ Below w.heap.size w w') := Lib.hid (fun w => HT 5 w)
  have KN : Hid (∀ (X : Option Addr) (w : World), Els 1 u16c w X [9, 8] → Calls Try.prog 8 #[.agg #[.int .u8 lv.toNat, .int .u16 7, .int .u8 5, .string ⟨wk18a.toArray⟩], .slice X 2 2] w fun e w' => ∃ b S, e = .returned (.tuple #[.pointer (some ⟨b, 0, none⟩), .int .i64 0]) ∧ R w' S b (rmNew (to18 lv 5) [8, 9]) ∧ (∀ k, S k → w.heap.size ≤ k) ∧ Below w.heap.size w w') := Lib.hid (fun X w h => by
    have := HI.new (to18 lv 5) X 2 [9, 8] w (to18_may lv 5 hl hi5) h
    rw [ris98] at this
    exact this)
  have KB : Hid (∀ (w : World) S b m, R w S b m → Calls Try.prog 13 #[.pointer (some ⟨b, 0, none⟩), .agg #[.int .u8 lv.toNat, .bool false, .int .u8 4, .int .u32 0, .int .u16 8, .string ⟨wk18a.toArray⟩]] w fun e w' => e = .returned (.tuple #[]) ∧ R w' S b (rmHear m ⟨lv, false, 4, 0, 8, wk18a⟩) ∧ Chg S w w') := Lib.hid (fun w S b m h => HI.hear w S b m ⟨lv, false, 4, 0, 8, wk18a⟩ h (by rw [wa18]; decide))
  have KG : Hid (∀ (w : World) S b m, R w S b m → Calls Try.prog 13 #[.pointer (some ⟨b, 0, none⟩), .agg #[.int .u8 lv.toNat, .bool false, .int .u8 5, .int .u32 0, .int .u16 8, .string ⟨wk18a.toArray⟩]] w fun e w' => e = .returned (.tuple #[]) ∧ R w' S b (rmHear m ⟨lv, false, 5, 0, 8, wk18a⟩) ∧ Chg S w w') := Lib.hid (fun w S b m h => HI.hear w S b m ⟨lv, false, 5, 0, 8, wk18a⟩ h (by rw [wa18]; decide))
  have HKB := Lib.hid (kind_i lv 5 4 hl (by decide) (by decide))
  have HKG := Lib.hid (kind_ok lv 5 hl hi5)
  have HE := Lib.hid hE
  have e1 : (l0.toNat : Int) % 8 = (lv.toNat : Int) := by omega
  have e1' : (l0.toNat : Int).tmod 8 = (lv.toNat : Int) := by rw [Int.tmod_eq_emod_of_nonneg (by omega)]; omega
  have e2 : (wr0.toNat : Int) % 4 = 1 := by omega
  have e2' : (wr0.toNat : Int).tmod 4 = 1 := by rw [Int.tmod_eq_emod_of_nonneg (by omega)]; omega
  obtain ⟨V, hV⟩ : ∃ V, wk18a = V := ⟨_, rfl⟩
  rw [hV] at KV KN KB KG
  obtain ⟨b1, hb1⟩ : ∃ c : Ck, ⟨lv, false, 4, 0, 8, wk18a⟩ = c := ⟨_, rfl⟩
  obtain ⟨b2, hb2⟩ : ∃ c : Ck, (⟨lv, false, 5, 0, 8, wk18a⟩ : Ck) = c := ⟨_, rfl⟩
  have HBG : Hid (rmKind (to18 lv 5) [8, 9] b1 ≠ 1 ∧ rmKind (to18 lv 5) [8, 9] b2 = 1 ∧ b2.m = 8 ∧ lsN b2.i = 35) := Lib.hid ⟨by rw [← hb1]; exact HKB.out, by rw [← hb2]; exact HKG.out, by rw [← hb2], by rw [← hb2]; rfl⟩
  rw [← hV, hb1, hV] at KB
  rw [← hV, hb2, hV] at KG
  have HTN : Hid (Ti (to18 lv 5) 35 (rmNew (to18 lv 5) [8, 9])) := Lib.hid (Ti.new (to18 lv 5))
  obtain ⟨oz, hto⟩ : ∃ x, to18 lv 5 = x := ⟨_, rfl⟩
  rw [hto] at HBG HTN KN
  obtain ⟨n, hn⟩ : ∃ n, rows.length = n := ⟨_, rfl⟩
  have HN := Lib.hid hn
  rw [hn] at hrl ⊢
  have hrli : (n : Int) ≤ 40 := by omega
  have HB0 := Lib.hid (Below.refl W.heap.size W)
  clear hlv1 hV hb1 hb2 HKB HKG hto HI HT hlv hw0 hE hn hi5
  go_enter Try.func5, Try.ntmps5
  go_wp2_with fail
  refine (KV.out _).mono ?_
  rintro r w1 ⟨rfl, hb⟩
  have HB1 : Hid (Below W.heap.size W w1) := Lib.hid hb
  clear hb HB0
  have HO1 : Hid (Blk (w1.alloc (.cells #[.int .u8 lv.toNat, .int .u16 7, .int .u8 4, .string ⟨V.toArray⟩] 33)) w1.heap.size 33 #[.int .u8 lv.toNat, .int .u16 7, .int .u8 4, .string ⟨V.toArray⟩]) := Lib.hid (Blk.new _ _ _)
  have HO2 : Hid (Blk (w1.alloc (.cells #[.int .u8 lv.toNat, .int .u16 7, .int .u8 5, .string ⟨V.toArray⟩] 33)) w1.heap.size 33 #[.int .u8 lv.toNat, .int .u16 7, .int .u8 5, .string ⟨V.toArray⟩]) := Lib.hid (Blk.new _ _ _)
  have k0 := HO2.out.cell 0
  have k1 := HO2.out.cell 1
  have k2 := HO2.out.cell 2
  have k3 := HO2.out.cell 3
  simp only [List.getElem?_toArray, List.getElem?_cons_succ, List.getElem?_cons_zero] at k0 k1 k2 k3
  go_wp2_with fail
  refine (KLs.out _).mono ?_
  rintro r w2 ⟨rfl, hb⟩
  have HBa : Hid (Below W.heap.size W (w1.alloc (.cells #[.int .u8 lv.toNat, .int .u16 7, .int .u8 5, .string ⟨V.toArray⟩] 33))) := Lib.hid (HB1.out.alloc HB1.out.size _)
  have HB2 : Hid (Below W.heap.size W w2) := Lib.hid (HBa.out.trans (hb.mono HBa.out.size))
  have HO3 := Lib.hid (HO2.out.below hb HO2.out.lt)
  have HGO : Hid (W.heap.size ≤ w1.heap.size) := Lib.hid HB1.out.size
  clear hb HB1 HO1 HO2 HBa k0 k1 k2 k3 KLs
  obtain ⟨gO, hgO⟩ : ∃ g, w1.heap.size = g := ⟨_, rfl⟩
  rw [hgO] at HO3 HGO ⊢
  clear hgO
  have k0 := HO3.out.cell 0
  have k1 := HO3.out.cell 1
  have k2 := HO3.out.cell 2
  have k3 := HO3.out.cell 3
  simp only [List.getElem?_toArray, List.getElem?_cons_succ, List.getElem?_cons_zero] at k0 k1 k2 k3
  go_wp2_with fail
  refine (KN.out _ _ (fun _ => ⟨w2.heap.size, 0, rfl, by simp, fun i hi j v hv => by
    have := (Blk.new w2 22 #[.int .u16 9, .int .u16 8]).cell i
    rw [show 0 + i * 1 + j = i by (have : j = 0 := by have := (List.getElem?_eq_some_iff.1 hv).1; simp [u16c] at this; omega); omega]
    have hj : j = 0 := by have := (List.getElem?_eq_some_iff.1 hv).1; simp [u16c] at this; omega
    subst hj
    rw [this]
    match i, hi with
    | 0, _ => exact hv
    | 1, _ => exact hv⟩)).mono ?_
  rintro r w3 ⟨b, S, rfl, hR, hS, hb⟩
  have hb' : Below w2.heap.size w2 w3 := ((Below.refl w2.heap.size w2).alloc (Nat.le_refl _) (.cells #[.int .u16 9, .int .u16 8] 22)).trans (hb.mono (by simp))
  have HB3 : Hid (Below W.heap.size W w3) := Lib.hid (HB2.out.trans (hb'.mono HB2.out.size))
  have HO4 := Lib.hid (HO3.out.below hb' HO3.out.lt)
  have HS : Hid (∀ k, S k → gO < k ∧ W.heap.size ≤ k) := Lib.hid (fun k hk => by have := hS k hk; have := HB2.out.size; have := HO3.out.lt; simp at *; omega)
  have HR3 := Lib.hid hR
  clear hb hb' hR hS HB2 HO3 k0 k1 k2 k3 KN
  have k0 := HO4.out.cell 0
  have k1 := HO4.out.cell 1
  have k2 := HO4.out.cell 2
  have k3 := HO4.out.cell 3
  simp only [List.getElem?_toArray, List.getElem?_cons_succ, List.getElem?_cons_zero] at k0 k1 k2 k3
  go_wp2_with fail
  refine (KTk.out _).mono ?_
  rintro r w4 ⟨rfl, hb⟩
  have HB4 : Hid (Below W.heap.size W w4) := Lib.hid (HB3.out.trans (hb.mono HB3.out.size))
  have HO5 := Lib.hid (HO4.out.below hb HO4.out.lt)
  have HR4 := Lib.hid (H.out.after HR3.out hb)
  clear hb HB3 HO4 HR3 k0 k1 k2 k3
  have k0 := HO5.out.cell 0
  have k1 := HO5.out.cell 1
  have k2 := HO5.out.cell 2
  have k3 := HO5.out.cell 3
  simp only [List.getElem?_toArray, List.getElem?_cons_succ, List.getElem?_cons_zero] at k0 k1 k2 k3
  go_wp2_with fail
  refine (KTk.out _).mono ?_
  rintro r w5 ⟨rfl, hb⟩
  have HB5 : Hid (Below W.heap.size W w5) := Lib.hid (HB4.out.trans (hb.mono HB4.out.size))
  have HO6 := Lib.hid (HO5.out.below hb HO5.out.lt)
  have HR5 := Lib.hid (H.out.after HR4.out hb)
  clear hb HB4 HO5 HR4 k0 k1 k2 k3 KTk
  have k0 := HO6.out.cell 0
  have k1 := HO6.out.cell 1
  have k2 := HO6.out.cell 2
  have k3 := HO6.out.cell 3
  simp only [List.getElem?_toArray, List.getElem?_cons_succ, List.getElem?_cons_zero] at k0 k1 k2 k3
  obtain ⟨wz, hwz⟩ : ∃ z, w5.alloc (.cells #[.int .u8 lv.toNat, .bool false, .int .u8 5, .int .u32 0, .int .u16 8, .string ⟨V.toArray⟩] 44) = z := ⟨_, rfl⟩
  have HBz : Hid (Below W.heap.size W wz) := Lib.hid (by rw [← hwz]; exact HB5.out.alloc HB5.out.size _)
  have HCz : Hid (Blk wz w5.heap.size 44 #[.int .u8 lv.toNat, .bool false, .int .u8 5, .int .u32 0, .int .u16 8, .string ⟨V.toArray⟩]) := Lib.hid (by rw [← hwz]; exact Blk.new _ _ _)
  have HRz : Hid (R wz S b (rmNew oz [8, 9])) := Lib.hid (by rw [← hwz]; exact H.out.after HR5.out ((Below.refl _ _).alloc (Nat.le_refl _) _))
  have HSC : Hid (¬ S w5.heap.size) := Lib.hid (fun hs => by have := H.out.inn _ _ _ _ HR5.out _ hs; omega)
  have HSW : Hid (∀ k, S k → W.heap.size ≤ k) := Lib.hid (fun k hk => (HS.out k hk).2)
  obtain ⟨gC, hgC⟩ : ∃ g, w5.heap.size = g := ⟨_, rfl⟩
  rw [hgC] at HCz HSC
  go_upto_region 11 with (fail)
  try rw [hwz]
  try rw [hgC]
  clear hwz hgC HB5 HO6 HR5 k0 k1 k2 k3 HS HGO
  go_wp2
  go_loopw [14] (fun i wr => ∃ (k : Nat) (m : Rm), k ≤ n ∧ i = .int .i64 k ∧ Hid (Ti oz 35 m) ∧ Hid (R wr S b m) ∧ Hid (Chg S wz wr)) (fun i _ => n - (intOf i).toNat)
  case atStart => exact ⟨0, _, Nat.zero_le _, rfl, HTN, HRz, Lib.hid (Chg.refl _ _)⟩
  case round =>
    obtain ⟨k, m, hk, rfl, HTI, HR, HC⟩ := hrel
    clear HRz HTN
    have HB : Hid (Below W.heap.size W wr) := Lib.hid (chg_from18 HBz.out HSW.out HC.out)
    obtain ⟨wo, rfl⟩ : ∃ wo, wo = wr := ⟨_, rfl⟩
    by_cases hlt : k < n
    · obtain ⟨x, hx⟩ : ∃ x, rows[k]? = some x := ⟨_, List.getElem?_eq_getElem (by rw [HN.out]; exact hlt)⟩
      have hki : (k : Int) < n := by omega
      obtain ⟨bb, off, rfl, hbb, c0⟩ := u8c18_at (HE.out.next HB.out) hx
      have HLT := Lib.hid hlt
      obtain ⟨r, hr⟩ : ∃ r, x.toNat % 41 = r := ⟨_, rfl⟩
      have hr41 : r < 41 := by omega
      have e4 : IntKind.i64.wrap (x.toNat : Int) = (x.toNat : Int) := by have := x.toNat_lt; simp [IntKind.wrap, IntKind.signed, IntKind.bits]; omega
      have e5 : (x.toNat : Int) % 41 = (r : Int) := by omega
      have e5' : (x.toNat : Int).tmod 41 = (r : Int) := by rw [Int.tmod_eq_emod_of_nonneg (by omega)]; omega
      clear hx hlt hr
      go_wp2
      clear c0 e4 e5 e5'
      go_loopw [16] (fun i wr => ∃ (t : Nat) (m : Rm), t ≤ r ∧ i = .int .i64 t ∧ Hid (Ti oz (35 - t) m) ∧ Hid (R wr S b m) ∧ Hid (Chg S wz wr)) (fun i _ => r - (intOf i).toNat)
      case atStart => exact ⟨0, m, Nat.zero_le _, rfl, HTI, HR, HC⟩
      case round =>
        obtain ⟨t, m2, ht, rfl, HT2, HR2, HC2⟩ := hrel
        clear HTI HR HC HB
        by_cases htt : t < r
        · have hti : (t : Int) < r := by omega
          have HTT := Lib.hid htt
          clear htt
          go_wp2_with fail
          refine (H.out.tick _ _ _ _ HR2.out).mono ?_
          rintro r_ w6 ⟨rfl, hR, hc⟩
          have HR6 := Lib.hid hR
          have HC6 := Lib.hid (HC2.out.trans hc)
          have HT6 := Lib.hid HT2.out.tick
          have HK6 := Lib.hid (HCz.out.chg HC6.out HSC.out)
          clear hR hc HR2 HC2 HT2
          have k0 := HK6.out.cell 0
          have k1 := HK6.out.cell 1
          have k2 := HK6.out.cell 2
          have k3 := HK6.out.cell 3
          have k4 := HK6.out.cell 4
          have k5 := HK6.out.cell 5
          simp only [List.getElem?_toArray, List.getElem?_cons_succ, List.getElem?_cons_zero] at k0 k1 k2 k3 k4 k5
          go_wp2_with fail
          have HR6a := Lib.hid (H.out.after HR6.out ((Below.refl w6.heap.size w6).alloc (Nat.le_refl _) (.cells #[.int .u8 lv.toNat, .bool false, .int .u8 4, .int .u32 0, .int .u16 8, .string ⟨V.toArray⟩] 44)))
          refine (KB.out _ _ _ _ HR6a.out).mono ?_
          rintro r_ w7 ⟨rfl, hR, hc⟩
          have HR7 := Lib.hid hR
          have HC7 := Lib.hid ((HC6.out.alloc (.cells #[.int .u8 lv.toNat, .bool false, .int .u8 4, .int .u32 0, .int .u16 8, .string ⟨V.toArray⟩] 44)).trans hc)
          have HT7 := Lib.hid (HT6.out.bad HBG.out.1)
          clear hR hc HR6 HR6a HC6 HT6 HK6 k0 k1 k2 k3 k4 k5
          obtain ⟨m7, hm7⟩ : ∃ x, rmHear (rmTick m2) b1 = x := ⟨_, rfl⟩
          rw [hm7] at HR7 HT7
          clear hm7
          have KL := Lib.hid (H.out.lost _ _ _ _ HR7.out)
          by_cases hv : 35 - t - 1 = 0
          · have HT8 : Hid (Ti oz 0 m7) := Lib.hid (hv ▸ HT7.out)
            have hge : decide ((35 : Int) ≤ (t : Int) + 1) = true := decide_eq_true (by omega)
            have hge' : (35 : Int) ≤ (t : Int) + 1 := by omega
            rw [HT8.out.lost0] at KL
            obtain ⟨q, hq⟩ : ∃ q, ([9].filter (fun x => m7.la x == 0)) = q := ⟨_, rfl⟩
            rw [hq] at KL
            clear hq hv
            go_wp2_with fail
            refine KL.out.mono ?_
            rintro r_ w8 ⟨A8, d8, rfl, hE8, _, hR, hb⟩
            obtain ⟨b8, o8, rfl, hb8, c8⟩ := u16c_at (i := 0) (x := 8) hE8 rfl
            simp only [Nat.add_zero] at c8
            have hql : (0 : Int) < ((8 :: q : List UInt16).length : Int) := by rw [List.length_cons]; omega
            have hqn : 0 < (8 :: q : List UInt16).length := by simp
            obtain ⟨z, hz⟩ : ∃ z, (8 :: q : List UInt16).length = z := ⟨_, rfl⟩
            rw [hz] at hql hqn ⊢
            have HR8 := Lib.hid hR
            have HC8 := Lib.hid (HC7.out.trans (Chg.of_below hb))
            clear hE8 hR hb hz HR7 HC7 KL
            go_wp2
            go_roundw
            case rel => exact ⟨t + 1, m7, by have := HTT.out; omega, by go_num, Lib.hid (by rw [show 35 - (t + 1) = 35 - t - 1 by omega]; exact HT7.out), HR8, HC8⟩
            case measure => have := HTT.out; simp [intOf]; omega
          · have hge : decide ((35 : Int) ≤ (t : Int) + 1) = false := decide_eq_false (by omega)
            have hge' : ¬ (35 : Int) ≤ (t : Int) + 1 := by omega
            by_cases h9 : m7.la 9 = 0
            · rw [HT7.out.lost2 hv h9] at KL
              clear h9 hv
              go_wp2_with fail
              refine KL.out.mono ?_
              rintro r_ w8 ⟨A8, d8, rfl, hE8, _, hR, hb⟩
              obtain ⟨b8, o8, rfl, hb8, c8⟩ := u16c_at (i := 0) (x := 9) hE8 rfl
              simp only [Nat.add_zero] at c8
              have HR8 := Lib.hid hR
              have HC8 := Lib.hid (HC7.out.trans (Chg.of_below hb))
              clear hE8 hR hb HR7 HC7 KL
              go_wp2
              go_roundw
              case rel => exact ⟨t + 1, m7, by have := HTT.out; omega, by go_num, Lib.hid (by rw [show 35 - (t + 1) = 35 - t - 1 by omega]; exact HT7.out), HR8, HC8⟩
              case measure => have := HTT.out; simp [intOf]; omega
            · rw [HT7.out.lost1 hv h9] at KL
              clear h9 hv
              go_wp2_with fail
              refine KL.out.mono ?_
              rintro r_ w8 ⟨A8, d8, rfl, _, _, hR, hb⟩
              have HR8 := Lib.hid hR
              have HC8 := Lib.hid (HC7.out.trans (Chg.of_below hb))
              clear hR hb HR7 HC7 KL
              go_wp2
              go_roundw
              case rel => exact ⟨t + 1, m7, by have := HTT.out; omega, by go_num, Lib.hid (by rw [show 35 - (t + 1) = 35 - t - 1 by omega]; exact HT7.out), HR8, HC8⟩
              case measure => have := HTT.out; simp [intOf]; omega
        · obtain rfl : t = r := by omega
          have HK6 := Lib.hid (HCz.out.chg HC2.out HSC.out)
          have k0 := HK6.out.cell 0
          have k1 := HK6.out.cell 1
          have k2 := HK6.out.cell 2
          have k3 := HK6.out.cell 3
          have k4 := HK6.out.cell 4
          have k5 := HK6.out.cell 5
          simp only [List.getElem?_toArray, List.getElem?_cons_succ, List.getElem?_cons_zero] at k0 k1 k2 k3 k4 k5
          go_wp2_with fail
          refine (KG.out _ _ _ _ HR2.out).mono ?_
          rintro r_ w7 ⟨rfl, hR, hc⟩
          have HR7 := Lib.hid hR
          have HC7 := Lib.hid (HC2.out.trans hc)
          have HT7 : Hid (Ti oz 35 (rmHear m2 b2)) := Lib.hid (by have := HT2.out.good HBG.out.2.1 HBG.out.2.2.1; rw [HBG.out.2.2.2] at this; exact this)
          clear hR hc HR2 HC2 HT2 HK6 k0 k1 k2 k3 k4 k5
          obtain ⟨m7, hm7⟩ : ∃ x, rmHear m2 b2 = x := ⟨_, rfl⟩
          rw [hm7] at HR7 HT7
          clear hm7
          have KL := Lib.hid (H.out.lost _ _ _ _ HR7.out)
          by_cases h9 : m7.la 9 = 0
          · rw [HT7.out.lost2 (by decide) h9] at KL
            clear h9
            go_wp2_with fail
            refine KL.out.mono ?_
            rintro r_ w8 ⟨A8, d8, rfl, hE8, _, hR, hb⟩
            obtain ⟨b8, o8, rfl, hb8, c8⟩ := u16c_at (i := 0) (x := 9) hE8 rfl
            simp only [Nat.add_zero] at c8
            have HR8 := Lib.hid hR
            have HC8 := Lib.hid (HC7.out.trans (Chg.of_below hb))
            clear hE8 hR hb HR7 HC7 KL
            go_wp2
            go_roundw
            case rel => exact ⟨k + 1, m7, by have := HLT.out; omega, by go_num, HT7, HR8, HC8⟩
            case measure => have := HLT.out; simp [intOf]; omega
          · rw [HT7.out.lost1 (by decide) h9] at KL
            clear h9
            go_wp2_with fail
            refine KL.out.mono ?_
            rintro r_ w8 ⟨A8, d8, rfl, _, _, hR, hb⟩
            have HR8 := Lib.hid hR
            have HC8 := Lib.hid (HC7.out.trans (Chg.of_below hb))
            clear hR hb HR7 HC7 KL
            go_wp2
            go_roundw
            case rel => exact ⟨k + 1, m7, by have := HLT.out; omega, by go_num, HT7, HR8, HC8⟩
            case measure => have := HLT.out; simp [intOf]; omega
    · obtain rfl : k = n := by omega
      go_wp2_with fail
      refine (KWK.out _).mono ?_
      rintro r_ w8 ⟨rfl, hb⟩
      have HB8 : Hid (Below W.heap.size W w8) := Lib.hid (HB.out.trans (hb.mono HB.out.size))
      go_wp2
      go_ret
      exact ⟨rfl, HB8.out⟩
end Go.Proofs.Ytkmdgpfaaniibaa
