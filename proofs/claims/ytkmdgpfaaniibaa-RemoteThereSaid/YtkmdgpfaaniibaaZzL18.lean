/- Layer 18: the document's Left, Rdi. -/
import Derived.Test.YtkmdgpfaaniibaaZzK18
import Derived.Test.YtkmdgpfaaniibaaZz
namespace Go.Proofs.Ytkmdgpfaaniibaa
open Go.RowKit
set_option linter.unusedVariables false
set_option linter.unusedSimpArgs false
set_option maxRecDepth 100000

theorem lfM_take {o : On} {os : List UInt16} {l : List Hd} {kd : Nat} {x : UInt16} {now k : Nat} {e : Hd} (he : l[k]? = some e) : lfM o os (l.take (k + 1)) kd x now = lfG o os kd x now (lfM o os (l.take k) kd x now) e := by
  obtain ⟨hk, hx⟩ := List.getElem?_eq_some_iff.1 he
  rw [List.take_succ_eq_append_getElem hk, hx, lfM_snoc]
theorem lfM_le (o : On) (os : List UInt16) (kd : Nat) (x : UInt16) (now : Nat) : ∀ (l : List Hd) (a : Nat), a ≤ 35 → l.foldl (lfG o os kd x now) a ≤ 35 := by
  intro l
  induction l with
  | nil => intro a h; exact h
  | cons e l ih =>
    intro a h
    rw [List.foldl_cons]
    refine ih _ ?_
    unfold lfG
    split
    · have : lsN e.2.i ≤ 35 := by unfold lsN; split; omega; split <;> omega
      omega
    · exact h
theorem lsN_le (i : UInt8) : lsN i ≤ 35 := by unfold lsN; split; omega; split <;> omega
set_option maxHeartbeats 8000000 in
theorem left18_any (o : On) (A B : Option Addr) (ca cb : Nat) (os : List UInt16) (l : List Hd) (kd : Nat) (y : UInt16) (now : Nat) (w : World) (hos : os.length ≤ 1000000) (hll : l.length ≤ 1000000) (hkd : kd ≤ 3) (hnow : now ≤ 1000000)
    (hat : ∀ e ∈ l, e.1 ≤ now ∧ e.2.a.length ≤ 1000000) (hE : Els 1 u16c w A os) (hEl : Els 7 hdE w B l) :
    Calls Try.prog 29 #[.agg #[.int .u8 o.lv.toNat, .int .u16 o.me.toNat, .int .u8 o.iv.toNat, .string ⟨o.ma.toArray⟩], .slice A os.length ca, .slice B l.length cb, .int .i64 kd, .int .u16 y.toNat, .int .i64 now] w fun e w' => e = .returned (.int .i64 (lf o os l kd y now : Nat)) ∧ Below w.heap.size w w' := by
  have HBA : Hid (Below w.heap.size w (w.alloc (.cells #[.int .u8 o.lv.toNat, .int .u16 o.me.toNat, .int .u8 o.iv.toNat, .string ⟨o.ma.toArray⟩] 24))) := Lib.hid ((Below.refl _ _).alloc (Nat.le_refl _) _)
  have HKA : Hid (Blk (w.alloc (.cells #[.int .u8 o.lv.toNat, .int .u16 o.me.toNat, .int .u8 o.iv.toNat, .string ⟨o.ma.toArray⟩] 24)) w.heap.size 24 #[.int .u8 o.lv.toNat, .int .u16 o.me.toNat, .int .u8 o.iv.toNat, .string ⟨o.ma.toArray⟩]) := Lib.hid (Blk.new _ _ _)
  have HO := Lib.hid hE
  have HE := Lib.hid hEl
  obtain ⟨n, hn⟩ : ∃ n, l.length = n := ⟨_, rfl⟩
  have HN := Lib.hid hn
  have HATT := Lib.hid hat
  have HKD := Lib.hid hkd
  have hol : Hid (os.length ≤ 1000000) := Lib.hid hos
  rw [hn] at hll ⊢
  clear hE hEl hn hat hos hkd
  go_enter Try.func29, Try.ntmps29
  go_wp2
  go_loopw [14, 13] (fun i a13 wr => ∃ k mo : Nat, k ≤ n ∧ i = .int .i64 k ∧ a13 = .int .i64 mo ∧ Hid (lfM o os (l.take k) kd y now = mo) ∧ Hid (Blk wr w.heap.size 24 #[.int .u8 o.lv.toNat, .int .u16 o.me.toNat, .int .u8 o.iv.toNat, .string ⟨o.ma.toArray⟩]) ∧ Hid (Below w.heap.size w wr)) (fun i _ _ => n - (intOf i).toNat)
  case atStart => exact ⟨0, 0, Nat.zero_le _, rfl, rfl, Lib.hid rfl, HKA, HBA⟩
  case round =>
    obtain ⟨j, mo, hj, rfl, rfl, HMO, HK, HB⟩ := hrel
    clear HKA HBA
    by_cases hlt : j < n
    · obtain ⟨x, hx⟩ : ∃ x, l[j]? = some x := ⟨_, List.getElem?_eq_getElem (by rw [HN.out]; exact hlt)⟩
      have hki : (j : Int) < (n : Int) := by omega
      obtain ⟨bb, off, rfl, hbb, c0, c1, c2, c3, c4, c5, c6⟩ := hd_at (HE.out.next HB.out) hx
      have hax := HATT.out x (List.mem_of_getElem? hx)
      have HX := Lib.hid hx
      have HLT := Lib.hid hlt
      have HAT := Lib.hid hax.1
      have hmo : mo ≤ 35 := by rw [← HMO.out]; exact lfM_le _ _ _ _ _ _ _ (by omega)
      have KK := Lib.hid (fun p : BelW wr => kind18_any o A ca os x.2 p.to hax.2 hol.out (HO.out.next (HB.out.trans (p.h.mono HB.out.size))))
      have KL := Lib.hid (fun (W : World) (p : BelW W) => lasts_any x.2.i p.to)
      obtain ⟨LN, hLN⟩ : ∃ LN, lsN x.2.i = LN := ⟨_, rfl⟩
      have hl35 : LN ≤ 35 := hLN ▸ lsN_le _
      obtain ⟨K, hK⟩ : ∃ K, rmKind o os x.2 = K := ⟨_, rfl⟩
      rw [hLN] at KL
      rw [hK] at KK
      have HLN := Lib.hid hLN
      have HKK := Lib.hid hK
      have hat2 : x.1 ≤ now := hax.1
      clear hx hlt hLN hK hax
      have k0 := HK.out.cell 0
      have k1 := HK.out.cell 1
      have k2 := HK.out.cell 2
      have k3 := HK.out.cell 3
      simp only [List.getElem?_toArray, List.getElem?_cons_succ, List.getElem?_cons_zero] at k0 k1 k2 k3
      have g0 := fun p : BelW wr => p.cell c0
      have g1 := fun p : BelW wr => p.cell c1
      have g2 := fun p : BelW wr => p.cell c2
      have g3 := fun p : BelW wr => p.cell c3
      have g4 := fun p : BelW wr => p.cell c4
      have g5 := fun p : BelW wr => p.cell c5
      have g6 := fun p : BelW wr => p.cell c6
      have gk0 := fun p : BelW wr => p.cell k0
      have gk1 := fun p : BelW wr => p.cell k1
      have gk2 := fun p : BelW wr => p.cell k2
      have gk3 := fun p : BelW wr => p.cell k3
      by_cases q1 : K = kd
      · have d1 : ((K : Int) != (kd : Int)) = false := by rw [q1]; simp
        have d1' : decide ((K : Int) = (kd : Int)) = true := decide_eq_true (by rw [q1])
        by_cases q2 : kd = 1
        · have d2 : ((kd : Int) == 1) = true := by rw [q2]; rfl
          by_cases q3 : x.2.m = y
          · have d3 : ((x.2.m.toNat : Int) != (y.toNat : Int)) = false := by rw [q3]; simp
            have HQ3 := Lib.hid (And.intro q1 (And.intro q2 q3))
            clear q1 q2 q3
            go_wp2_with fail
            refine wp_region_quiet_below (by kernel_rfl) (by kernel_rfl) ?_
            repeat (first | go_big_quiet_step ((go_at_call 38; exact BelW.calls (KK.out _))) | quiet_step ((go_at_call 38; exact BelW.calls (KK.out _))))
            refine wpQuiet_nil ?_
            intro wq hq
            have hq := belw_out hq
            have HQ := Lib.hid hq
            obtain ⟨b3, off3, hA3, hb3, f0, f1, f2, f3, f4, f5, f6⟩ := hd_at (HE.out.next (HB.out.trans (hq.mono HB.out.size))) HX.out
            cases hA3
            clear hq c0 c1 c2 c3 c4 c5 c6 g0 g1 g2 g3 g4 g5 g6 k0 k1 k2 k3
            have g0 := fun p : BelW wq => p.cell f0
            have g3 := fun p : BelW wq => p.cell f3
            have HHIT : Hid (rmHit o os kd y x = true) := Lib.hid (by unfold rmHit; simp only [HKK.out, HQ3.out.1, HQ3.out.2.2]; simp)
            go_wp2_with fail
            refine wp_region_quiet_below (by kernel_rfl) (by kernel_rfl) ?_
            repeat (first | go_big_quiet_step ((go_at_call 21; exact BelW.callsE (KL.out _ _))) | quiet_step ((go_at_call 21; exact BelW.callsE (KL.out _ _))))
            refine wpQuiet_nil ?_
            intro wv hv
            have hv := belw_out hv
            have HW : Hid (Below wr.heap.size wr wv) := Lib.hid (HQ.out.trans (hv.mono HQ.out.size))
            clear hv g0 g3 f0 f1 f2 f3 f4 f5 f6
            by_cases hm : mo < LN - (now - x.1)
            · have pm : (mo : Int) < (LN : Int) - ((now : Int) - (x.1 : Int)) := by have := HAT.out; omega
              have HM := Lib.hid hm
              clear hm
              go_wp2
              go_roundw
              case rel => exact ⟨j + 1, LN - (now - x.1), by have := HLT.out; omega, by go_num, by have := HAT.out; have := HM.out; congr 1; omega, Lib.hid (by rw [lfM_take HX.out, HMO.out]; unfold lfG; rw [HHIT.out, HLN.out]; have := HM.out; simp only [if_true]; omega), Lib.hid (HK.out.below HW.out HK.out.lt), Lib.hid (HB.out.trans (HW.out.mono HB.out.size))⟩
              case measure => have := HLT.out; simp [intOf]; omega
            · have pm : ¬ (mo : Int) < (LN : Int) - ((now : Int) - (x.1 : Int)) := by have := HAT.out; omega
              have HM := Lib.hid hm
              clear hm
              go_wp2
              go_roundw
              case rel => exact ⟨j + 1, mo, by have := HLT.out; omega, by go_num, rfl, Lib.hid (by rw [lfM_take HX.out, HMO.out]; unfold lfG; rw [HHIT.out, HLN.out]; have := HM.out; simp only [if_true]; omega), Lib.hid (HK.out.below HW.out HK.out.lt), Lib.hid (HB.out.trans (HW.out.mono HB.out.size))⟩
              case measure => have := HLT.out; simp [intOf]; omega
          · have d3 : ((x.2.m.toNat : Int) != (y.toNat : Int)) = true := by
              rw [bne_iff_ne]
              intro e
              exact q3 (UInt16.toNat_inj.1 (by omega))
            have HQ3 := Lib.hid (And.intro q1 (And.intro q2 q3))
            clear q1 q2 q3
            go_wp2_with fail
            refine wp_region_quiet_below (by kernel_rfl) (by kernel_rfl) ?_
            repeat (first | go_big_quiet_step ((go_at_call 38; exact BelW.calls (KK.out _))) | quiet_step ((go_at_call 38; exact BelW.calls (KK.out _))))
            refine wpQuiet_nil ?_
            intro wq hq
            have hq := belw_out hq
            go_wp2
            go_roundw
            case rel => exact ⟨j + 1, mo, by have := HLT.out; omega, by go_num, rfl, Lib.hid (by rw [lfM_take HX.out, HMO.out]; unfold lfG; rw [show rmHit o os kd y x = false by unfold rmHit; simp only [HKK.out, HQ3.out.2.1]; simp [HQ3.out.2.2]]; rfl), Lib.hid (HK.out.below hq HK.out.lt), Lib.hid (HB.out.trans (hq.mono HB.out.size))⟩
            case measure => have := HLT.out; simp [intOf]; omega
        · have d2 : ((kd : Int) == 1) = false := by rw [beq_eq_false_iff_ne]; omega
          have HQ3 := Lib.hid (And.intro q1 q2)
          clear q1 q2
          go_wp2_with fail
          refine wp_region_quiet_below (by kernel_rfl) (by kernel_rfl) ?_
          repeat (first | go_big_quiet_step ((go_at_call 38; exact BelW.calls (KK.out _))) | quiet_step ((go_at_call 38; exact BelW.calls (KK.out _))))
          refine wpQuiet_nil ?_
          intro wq hq
          have hq := belw_out hq
          have HQ := Lib.hid hq
          obtain ⟨b3, off3, hA3, hb3, f0, f1, f2, f3, f4, f5, f6⟩ := hd_at (HE.out.next (HB.out.trans (hq.mono HB.out.size))) HX.out
          cases hA3
          clear hq c0 c1 c2 c3 c4 c5 c6 g0 g1 g2 g3 g4 g5 g6 k0 k1 k2 k3
          have g0 := fun p : BelW wq => p.cell f0
          have g3 := fun p : BelW wq => p.cell f3
          have HHIT : Hid (rmHit o os kd y x = true) := Lib.hid (by unfold rmHit; simp only [HKK.out, HQ3.out.1]; simp [HQ3.out.2])
          go_wp2_with fail
          refine wp_region_quiet_below (by kernel_rfl) (by kernel_rfl) ?_
          repeat (first | go_big_quiet_step ((go_at_call 21; exact BelW.callsE (KL.out _ _))) | quiet_step ((go_at_call 21; exact BelW.callsE (KL.out _ _))))
          refine wpQuiet_nil ?_
          intro wv hv
          have hv := belw_out hv
          have HW : Hid (Below wr.heap.size wr wv) := Lib.hid (HQ.out.trans (hv.mono HQ.out.size))
          clear hv g0 g3 f0 f1 f2 f3 f4 f5 f6
          by_cases hm : mo < LN - (now - x.1)
          · have pm : (mo : Int) < (LN : Int) - ((now : Int) - (x.1 : Int)) := by have := HAT.out; omega
            have HM := Lib.hid hm
            clear hm
            go_wp2
            go_roundw
            case rel => exact ⟨j + 1, LN - (now - x.1), by have := HLT.out; omega, by go_num, by have := HAT.out; have := HM.out; congr 1; omega, Lib.hid (by rw [lfM_take HX.out, HMO.out]; unfold lfG; rw [HHIT.out, HLN.out]; have := HM.out; simp only [if_true]; omega), Lib.hid (HK.out.below HW.out HK.out.lt), Lib.hid (HB.out.trans (HW.out.mono HB.out.size))⟩
            case measure => have := HLT.out; simp [intOf]; omega
          · have pm : ¬ (mo : Int) < (LN : Int) - ((now : Int) - (x.1 : Int)) := by have := HAT.out; omega
            have HM := Lib.hid hm
            clear hm
            go_wp2
            go_roundw
            case rel => exact ⟨j + 1, mo, by have := HLT.out; omega, by go_num, rfl, Lib.hid (by rw [lfM_take HX.out, HMO.out]; unfold lfG; rw [HHIT.out, HLN.out]; have := HM.out; simp only [if_true]; omega), Lib.hid (HK.out.below HW.out HK.out.lt), Lib.hid (HB.out.trans (HW.out.mono HB.out.size))⟩
            case measure => have := HLT.out; simp [intOf]; omega
      · have d1 : ((K : Int) != (kd : Int)) = true := by rw [bne_iff_ne]; omega
        have HQ3 := Lib.hid q1
        clear q1
        go_wp2_with fail
        refine wp_region_quiet_below (by kernel_rfl) (by kernel_rfl) ?_
        repeat (first | go_big_quiet_step ((go_at_call 38; exact BelW.calls (KK.out _))) | quiet_step ((go_at_call 38; exact BelW.calls (KK.out _))))
        refine wpQuiet_nil ?_
        intro wq hq
        have hq := belw_out hq
        go_wp2
        go_roundw
        case rel => exact ⟨j + 1, mo, by have := HLT.out; omega, by go_num, rfl, Lib.hid (by rw [lfM_take HX.out, HMO.out]; unfold lfG; rw [show rmHit o os kd y x = false by unfold rmHit; simp only [HKK.out]; simp [HQ3.out]]; rfl), Lib.hid (HK.out.below hq HK.out.lt), Lib.hid (HB.out.trans (hq.mono HB.out.size))⟩
        case measure => have := HLT.out; simp [intOf]; omega
    · obtain rfl : j = n := by omega
      have HR : Hid (lfM o os l kd y now = mo) := Lib.hid (by
        have h := HMO.out
        rw [List.take_of_length_le (by rw [HN.out]; exact Nat.le_refl _)] at h
        exact h)
      have hmo : mo ≤ 35 := by rw [← HR.out]; exact lfM_le _ _ _ _ _ _ _ (by omega)
      clear HMO
      have KL := Lib.hid (fun W => lasts_any o.iv W)
      obtain ⟨LN, hLN⟩ : ∃ LN, lsN o.iv = LN := ⟨_, rfl⟩
      have hl35 : LN ≤ 35 := hLN ▸ lsN_le _
      rw [hLN] at KL
      have HLN := Lib.hid hLN
      clear hLN
      have k0 := HK.out.cell 0
      have k1 := HK.out.cell 1
      have k2 := HK.out.cell 2
      have k3 := HK.out.cell 3
      simp only [List.getElem?_toArray, List.getElem?_cons_succ, List.getElem?_cons_zero] at k0 k1 k2 k3
      by_cases q2 : kd = 1
      · have d2 : (kd : Int) = 1 := by omega
        have HQ2 := Lib.hid q2
        clear q2
        go_wp2_with fail
        refine (KL.out _).mono ?_
        rintro r w2 ⟨rfl, rfl⟩
        by_cases hm : mo < LN - now
        · have pm : (mo : Int) < (LN : Int) - (now : Int) := by omega
          have HM := Lib.hid hm
          clear hm
          go_wp2_with fail
          refine (KL.out _).mono ?_
          rintro r w2 ⟨rfl, rfl⟩
          go_wp2
          go_ret
          exact ⟨by have e : (LN : Int) - (now : Int) = ((max mo (LN - now) : Nat) : Int) := by { have := HM.out; omega }; unfold lf; rw [if_pos HQ2.out, HR.out, HLN.out, ← e]; rfl, HB.out⟩
        · have pm : ¬ (mo : Int) < (LN : Int) - (now : Int) := by omega
          have HM := Lib.hid hm
          clear hm
          go_wp2
          go_ret
          exact ⟨by unfold lf; rw [if_pos HQ2.out, HR.out, HLN.out]; have := HM.out; rw [Nat.max_eq_left (by omega)]; rfl, HB.out⟩
      · have d2 : ¬ (kd : Int) = 1 := by omega
        have HQ2 := Lib.hid q2
        clear q2
        go_wp2
        go_ret
        exact ⟨by unfold lf; rw [if_neg HQ2.out, HR.out]; rfl, HB.out⟩
end Go.Proofs.Ytkmdgpfaaniibaa
