/- Layer 18: the law's tells. -/
import Derived.Test.YtkmdgpfaaniibaaZzRs18
import Derived.Deep.DeepCutAuto
namespace Go.Proofs.Ytkmdgpfaaniibaa
open Go.RowKit
set_option linter.unusedVariables false
set_option linter.unusedSimpArgs false
set_option maxRecDepth 100000

/-- two rows of one's own, apart from each other -/
structure Two (w : World) (base : Nat) (v1 v2 : Value) (L1 L2 : List UInt16) : Prop where
  o1 : Ow w base v1 L1
  o2 : Ow w base v2 L2
  ne : ∀ k, v1.ownBlock = some k → v2.ownBlock ≠ some k
theorem Two.below {w w' : World} {base : Nat} {v1 v2 : Value} {L1 L2 : List UInt16} (h : Two w base v1 v2 L1 L2) (hb : Below w.heap.size w w') : Two w' base v1 v2 L1 L2 := ⟨h.o1.below hb, h.o2.below hb, h.ne⟩
theorem Two.flip {w : World} {base : Nat} {v1 v2 : Value} {L1 L2 : List UInt16} (h : Two w base v1 v2 L1 L2) : Two w base v2 v1 L2 L1 := ⟨h.o2, h.o1, fun k h2 h1 => h.ne k h1 h2⟩
theorem Two.app {w w5 : World} {o : Obj} {base : Nat} {v1 v2 v5 : Value} {L1 L2 L5 : List UInt16} (h : Two w base v1 v2 L1 L2) (ho : Ow w5 base v5 L5) (hg : (w.alloc o).grownBy w5 v1.ownBlock) (hor : v5.ownBlock = v1.ownBlock ∨ v5.ownBlock = some (w.heap.size + 1)) : Two w5 base v5 v2 L5 L2 := by
  have hlt : ∀ k, v2.ownBlock = some k → k < w.heap.size := fun k hk => (World.ownsRow.lt h.o2 k hk).2
  have hsz : w.heap.size ≤ (w.alloc o).heap.size := by simp
  refine ⟨ho, h.o2.keep (fun k hk => ?_), fun k h1 h2 => ?_⟩
  · have := hlt k hk
    exact (hg.block k (by omega) (fun e => h.ne k e.symm hk)).trans (Below.heap_alloc w o k this)
  · rcases hor with e | e
    · exact h.ne k (e.symm.trans h1) h2
    · rw [e] at h1
      cases h1
      have := hlt _ h2
      omega
theorem rm_def_worst (m : Rm) : rmDef m = decide (1 < rmWorst m) := by
  unfold rmDef rmWorst
  by_cases h1 : 0 < m.cr
  · simp [h1]
  · by_cases h2 : 0 < m.er
    · simp [h1, h2]
    · by_cases h3 : 0 < (rmLost m).length
      · simp [h1, h2, h3]
      · by_cases h4 : 0 < (rmRdis m).length <;> simp [h1, h2, h3, h4]
theorem rmWorst_le (m : Rm) : rmWorst m ≤ 4 := by unfold rmWorst; split; omega; split; omega; split; omega; split <;> omega
set_option maxHeartbeats 8000000 in
theorem tells18_any {R : World → (Nat → Prop) → Nat → Rm → Prop} (HI : RmI R) (o : On) (A B : Option Addr) (ca cb : Nat) (os : List UInt16) (l : List Hd) (now : Nat) (m : Rm) (S : Nat → Prop) (b : Nat) (w : World) (hm : RmIs o os l now m) (hR : R w S b m) (hos : os.length ≤ 1000) (hll : l.length ≤ 1000) (hnow : now ≤ 1000)
    (hat : ∀ e ∈ l, e.2.a.length ≤ 1000) (hE : Els 1 u16c w A os) (hEl : Els 7 hdE w B l) :
    Calls Try.prog 15 #[.pointer (some ⟨b, 0, none⟩), .agg #[.int .u8 o.lv.toNat, .int .u16 o.me.toNat, .int .u8 o.iv.toNat, .string ⟨o.ma.toArray⟩], .slice A os.length ca, .slice B l.length cb, .int .i64 now] w fun e w' => e = .returned (.bool true) ∧ R w' S b m ∧ Below w.heap.size w w' := by
  have H := Lib.hid HI
  have HRm := Lib.hid hR
  have HM := Lib.hid hm
  have HBA : Hid (Below (w.heap.size + 1) (w.alloc (.cells #[.int .u8 o.lv.toNat, .int .u16 o.me.toNat, .int .u8 o.iv.toNat, .string ⟨o.ma.toArray⟩] 24)) (w.alloc (.cells #[.int .u8 o.lv.toNat, .int .u16 o.me.toNat, .int .u8 o.iv.toNat, .string ⟨o.ma.toArray⟩] 24))) := Lib.hid (Below.refl _ _)
  have HWA : Hid (Below w.heap.size w (w.alloc (.cells #[.int .u8 o.lv.toNat, .int .u16 o.me.toNat, .int .u8 o.iv.toNat, .string ⟨o.ma.toArray⟩] 24))) := Lib.hid ((Below.refl _ _).alloc (Nat.le_refl _) _)
  have HKA : Hid (Blk (w.alloc (.cells #[.int .u8 o.lv.toNat, .int .u16 o.me.toNat, .int .u8 o.iv.toNat, .string ⟨o.ma.toArray⟩] 24)) w.heap.size 24 #[.int .u8 o.lv.toNat, .int .u16 o.me.toNat, .int .u8 o.iv.toNat, .string ⟨o.ma.toArray⟩]) := Lib.hid (Blk.new _ _ _)
  have HO := Lib.hid hE
  have HE := Lib.hid hEl
  obtain ⟨n, hn⟩ : ∃ n, os.length = n := ⟨_, rfl⟩
  obtain ⟨q, hq⟩ : ∃ n, l.length = n := ⟨_, rfl⟩
  have HN := Lib.hid hn
  have HL0 := Lib.hid (fun (kd : Nat) (hk : kd ≤ 3) (x : UInt16) (W : World) (hB : Below w.heap.size w W) => left18_any o A B ca cb os l kd x now W (by omega) (by omega) hk (by omega) (fun e he => ⟨hm.at_ e he, by have := hat e he; omega⟩) (hE.next hB) (hEl.next hB))
  have HR0 := Lib.hid (fun (x : UInt16) (W : World) (hB : Below w.heap.size w W) => rdi18_any o A B ca cb os l x W (by omega) (by omega) (fun e he => by have := hat e he; omega) (hE.next hB) (hEl.next hB))
  rw [hn, hq] at HL0 HR0
  rw [hn, hq]
  have hn1 : n ≤ 1000 := by omega
  have HN1 := Lib.hid hn1
  obtain ⟨i0, hi⟩ := info_parts18 infoU16
  have HIT := Lib.hid hi
  clear hE hEl hn hq hat hos hll hm hR hi HI
  obtain ⟨w0, hw0⟩ : ∃ w0, (w.alloc (.cells #[.int .u8 o.lv.toNat, .int .u16 o.me.toNat, .int .u8 o.iv.toNat, .string ⟨o.ma.toArray⟩] 24)) = w0 := ⟨_, rfl⟩
  have HS1 : Hid (w0.heap.size = w.heap.size + 1) := Lib.hid (by rw [← hw0]; simp)
  rw [hw0] at HWA HKA
  go_enter Try.func15, Try.ntmps15
  go_wp2
  try rw [hw0]
  clear hw0 HBA
  go_loopw [13, 11, 12] (fun i v1 v2 wr => ∃ k : Nat, k ≤ n ∧ i = .int .i64 k ∧ Hid (Two wr w0.heap.size v1 v2 ((os.take k).filter (fun x => m.la x == 0)) ((os.take k).filter (fun x => !(m.la x == 0) && m.rd x))) ∧ Hid (Below w0.heap.size w0 wr)) (fun i _ _ _ => n - (intOf i).toNat)
  case atStart => exact ⟨0, Nat.zero_le _, rfl, Lib.hid ⟨Ow.nil _ _, Ow.nil _ _, fun k h => (by cases h)⟩, Lib.hid (Below.refl _ _)⟩
  case round =>
    obtain ⟨k, hk, rfl, HT, HB⟩ := hrel
    have HK : Hid (Blk wr w.heap.size 24 #[.int .u8 o.lv.toNat, .int .u16 o.me.toNat, .int .u8 o.iv.toNat, .string ⟨o.ma.toArray⟩]) := Lib.hid (HKA.out.below HB.out (by rw [HS1.out]; omega))
    have HW : Hid (Below w.heap.size w wr) := Lib.hid (HWA.out.trans (HB.out.mono (by rw [HS1.out]; omega)))
    have k0 := HK.out.cell 0
    have k1 := HK.out.cell 1
    have k2 := HK.out.cell 2
    have k3 := HK.out.cell 3
    simp only [List.getElem?_toArray, List.getElem?_cons_succ, List.getElem?_cons_zero] at k0 k1 k2 k3
    by_cases hlt : k < n
    · obtain ⟨x, hx⟩ : ∃ x, os[k]? = some x := ⟨_, List.getElem?_eq_getElem (by rw [HN.out]; exact hlt)⟩
      have hki : (k : Int) < n := by omega
      obtain ⟨b1, o1, rfl, hb1, c1⟩ := u16c_at (HO.out.next HW.out) hx
      have HX := Lib.hid hx
      have HLT := Lib.hid hlt
      clear hx hlt
      have KL : Hid (∀ p : BelW wr, Calls Try.prog 29 #[.agg #[.int .u8 o.lv.toNat, .int .u16 o.me.toNat, .int .u8 o.iv.toNat, .string ⟨o.ma.toArray⟩], .slice (some ⟨b1, o1, none⟩) n ca, .slice B q cb, .int .i64 1, .int .u16 x.toNat, .int .i64 now] p.to fun e w' => e = .returned (.int .i64 (m.la x : Nat)) ∧ Below p.to.heap.size p.to w') := Lib.hid (fun p => by
        have := HL0.out 1 (by omega) x p.to (HW.out.trans (p.h.mono HW.out.size))
        rw [← HM.out.la] at this
        exact this)
      have HF1 := Lib.hid (filter_take18 (p := fun x => m.la x == 0) HX.out)
      have HF2 := Lib.hid (filter_take18 (p := fun x => !(m.la x == 0) && m.rd x) HX.out)
      have hle1 := List.length_filter_le (fun x => m.la x == 0) (os.take k)
      have hle2 := List.length_filter_le (fun x => !(m.la x == 0) && m.rd x) (os.take k)
      obtain ⟨L1, hL1⟩ : ∃ L, (os.take k).filter (fun x => m.la x == 0) = L := ⟨_, rfl⟩
      obtain ⟨L2, hL2⟩ : ∃ L, (os.take k).filter (fun x => !(m.la x == 0) && m.rd x) = L := ⟨_, rfl⟩
      rw [hL1] at HT HF1 hle1
      rw [hL2] at HT HF2 hle2
      rw [List.length_take, HN.out] at hle1 hle2
      have HLE1 : Hid (L1.length ≤ 1000) := Lib.hid (by omega)
      have HLE2 : Hid (L2.length ≤ 1000) := Lib.hid (by omega)
      clear hL1 hL2 hle1 hle2
      obtain ⟨LA, hLA⟩ : ∃ v, m.la x = v := ⟨_, rfl⟩
      rw [hLA] at KL
      simp only [hLA] at HF1 HF2
      clear hLA
      have gc1 := fun p : BelW wr => p.cell c1
      have gk0 := fun p : BelW wr => p.cell k0
      have gk1 := fun p : BelW wr => p.cell k1
      have gk2 := fun p : BelW wr => p.cell k2
      have gk3 := fun p : BelW wr => p.cell k3
      by_cases q0 : LA = 0
      · have d0 : ((LA : Int) == 0) = true := by rw [q0]; rfl
        have HG1 : Hid ((os.take (k + 1)).filter (fun x => m.la x == 0) = L1 ++ [x]) := Lib.hid (by rw [HF1.out, q0]; rfl)
        have HG2 : Hid ((os.take (k + 1)).filter (fun x => !(m.la x == 0) && m.rd x) = L2) := Lib.hid (by rw [HF2.out, q0]; simp)
        clear q0 HF1 HF2
        go_wp2_with fail
        refine wp_region_quiet_below (by kernel_rfl) (by kernel_rfl) ?_
        repeat (first | go_big_quiet_step ((go_at_call 29; exact BelW.calls (KL.out _))) | quiet_step ((go_at_call 29; exact BelW.calls (KL.out _))))
        refine wpQuiet_nil ?_
        intro wv hv
        have hv := belw_out hv
        have HWv : Hid (Below w0.heap.size w0 wv) := Lib.hid (HB.out.trans (hv.mono HB.out.size))
        have HTv := Lib.hid (HT.out.below hv)
        obtain ⟨b3, o3, hA3, hb3, f1⟩ := u16c_at (HO.out.next (HW.out.trans (hv.mono HW.out.size))) HX.out
        cases hA3
        clear hv gc1 gk0 gk1 gk2 gk3 c1 k0 k1 k2 k3 HT HB HW HK
        go_wp2_with (at_builtin; refine wpl_appL rfl (.tmp 33) (.tmp 38) _ rfl u16c_len u16c_one (by decide) w0.heap.size _ i0 _ 2 Try.underlying25 HIT.out rfl _ L1 rfl (World.ownsRow.alloc HTv.out.o1 _) (some ⟨wv.heap.size, 0, none⟩) 1 1 [x] rfl rfl (fun e => by cases e) (els_one18 wv _ x _ rfl) (by have := HLE1.out; simp; omega) (by decide) (by have := HWv.out.size; simp; omega) ?_)
        intro v5 w5 ho5 hg5 hor5
        have HT5 : Hid (Two w5 w0.heap.size v5 _ (L1 ++ [x]) L2) := Lib.hid (HTv.out.app (by unfold Ow; simpa using ho5) hg5 hor5)
        have HB5 : Hid (Below w0.heap.size w0 w5) := Lib.hid ((HWv.out.alloc HWv.out.size _).grown hg5 (by have := HWv.out.size; simp; omega) (fun j hj => (World.ownsRow.lt HTv.out.o1 j hj).1))
        clear ho5 hg5 hor5
        go_wp2
        go_roundw
        case rel => exact ⟨k + 1, by have := HLT.out; omega, by go_num, Lib.hid (by rw [HG1.out, HG2.out]; exact HT5.out), HB5⟩
        case measure => have := HLT.out; simp [intOf]; omega
      · have d0 : ((LA : Int) == 0) = false := by rw [beq_eq_false_iff_ne]; omega
        have HG1 : Hid ((os.take (k + 1)).filter (fun x => m.la x == 0) = L1) := Lib.hid (by rw [HF1.out]; simp [q0])
        have HQ0 := Lib.hid q0
        clear q0
        go_wp2_with fail
        refine wp_region_quiet_below (by kernel_rfl) (by kernel_rfl) ?_
        repeat (first | go_big_quiet_step ((go_at_call 29; exact BelW.calls (KL.out _))) | quiet_step ((go_at_call 29; exact BelW.calls (KL.out _))))
        refine wpQuiet_nil ?_
        intro wv hv
        have hv := belw_out hv
        have HWv : Hid (Below w0.heap.size w0 wv) := Lib.hid (HB.out.trans (hv.mono HB.out.size))
        have HTv := Lib.hid (HT.out.below hv)
        have HWW : Hid (Below w.heap.size w wv) := Lib.hid (HW.out.trans (hv.mono HW.out.size))
        have HKv := Lib.hid (HK.out.below hv HK.out.lt)
        obtain ⟨b3, o3, hA3, hb3, f1⟩ := u16c_at (HO.out.next HWW.out) HX.out
        cases hA3
        clear hv gc1 gk0 gk1 gk2 gk3 c1 k0 k1 k2 k3 HT HB HW HK
        obtain ⟨RD, hRD⟩ : ∃ v, m.rd x = v := ⟨_, rfl⟩
        have KR : Hid (∀ p : BelW wv, Calls Try.prog 30 #[.agg #[.int .u8 o.lv.toNat, .int .u16 o.me.toNat, .int .u8 o.iv.toNat, .string ⟨o.ma.toArray⟩], .slice (some ⟨b1, o1, none⟩) n ca, .slice B q cb, .int .u16 x.toNat] p.to fun e w' => e = .returned (.bool RD) ∧ Below p.to.heap.size p.to w') := Lib.hid (fun p => by
          have := HR0.out x p.to (HWW.out.trans (p.h.mono HWW.out.size))
          rw [← HM.out.rd, hRD] at this
          exact this)
        simp only [hRD] at HF2
        clear hRD
        have k0 := HKv.out.cell 0
        have k1 := HKv.out.cell 1
        have k2 := HKv.out.cell 2
        have k3 := HKv.out.cell 3
        simp only [List.getElem?_toArray, List.getElem?_cons_succ, List.getElem?_cons_zero] at k0 k1 k2 k3
        have gf1 := fun p : BelW wv => p.cell f1
        have gk0 := fun p : BelW wv => p.cell k0
        have gk1 := fun p : BelW wv => p.cell k1
        have gk2 := fun p : BelW wv => p.cell k2
        have gk3 := fun p : BelW wv => p.cell k3
        go_wp2_with fail
        refine wp_region_quiet_below (by kernel_rfl) (by kernel_rfl) ?_
        repeat (first | go_big_quiet_step ((go_at_call 30; exact BelW.calls (KR.out _))) | quiet_step ((go_at_call 30; exact BelW.calls (KR.out _))))
        refine wpQuiet_nil ?_
        intro wu hu
        have hu := belw_out hu
        have HWu : Hid (Below w0.heap.size w0 wu) := Lib.hid (HWv.out.trans (hu.mono HWv.out.size))
        have HTu := Lib.hid (HTv.out.below hu)
        obtain ⟨b4, o4, hA4, hb4, f2⟩ := u16c_at (HO.out.next (HWW.out.trans (hu.mono HWW.out.size))) HX.out
        cases hA4
        clear hu gf1 gk0 gk1 gk2 gk3 f1 k0 k1 k2 k3 HTv HWv HWW HKv
        cases RD with
        | false =>
          have HG2 : Hid ((os.take (k + 1)).filter (fun x => !(m.la x == 0) && m.rd x) = L2) := Lib.hid (by rw [HF2.out]; simp)
          go_wp2
          go_roundw
          case rel => exact ⟨k + 1, by have := HLT.out; omega, by go_num, Lib.hid (by rw [HG1.out, HG2.out]; exact HTu.out), HWu⟩
          case measure => have := HLT.out; simp [intOf]; omega
        | true =>
          have HG2 : Hid ((os.take (k + 1)).filter (fun x => !(m.la x == 0) && m.rd x) = L2 ++ [x]) := Lib.hid (by rw [HF2.out]; simp [HQ0.out])
          go_wp2_with (at_builtin; refine wpl_appL rfl (.tmp 48) (.tmp 53) _ rfl u16c_len u16c_one (by decide) w0.heap.size _ i0 _ 2 Try.underlying25 HIT.out rfl _ L2 rfl (World.ownsRow.alloc HTu.out.o2 _) (some ⟨wu.heap.size, 0, none⟩) 1 1 [x] rfl rfl (fun e => by cases e) (els_one18 wu _ x _ rfl) (by have := HLE2.out; simp; omega) (by decide) (by have := HWu.out.size; simp; omega) ?_)
          intro v5 w5 ho5 hg5 hor5
          have HT5 : Hid (Two w5 w0.heap.size _ v5 L1 (L2 ++ [x])) := Lib.hid (HTu.out.flip.app (by unfold Ow; simpa using ho5) hg5 hor5).flip
          have HB5 : Hid (Below w0.heap.size w0 w5) := Lib.hid ((HWu.out.alloc HWu.out.size _).grown hg5 (by have := HWu.out.size; simp; omega) (fun j hj => (World.ownsRow.lt HTu.out.o2 j hj).1))
          clear ho5 hg5 hor5
          go_wp2
          go_roundw
          case rel => exact ⟨k + 1, by have := HLT.out; omega, by go_num, Lib.hid (by rw [HG1.out, HG2.out]; exact HT5.out), HB5⟩
          case measure => have := HLT.out; simp [intOf]; omega
    · obtain rfl : k = n := by omega
      have hts : os.take k = os := List.take_of_length_le (by rw [HN.out]; exact Nat.le_refl _)
      rw [hts] at HT
      obtain ⟨A1, c1, rfl, e1, _, _, _⟩ := HT.out.o1.full
      obtain ⟨A2, c2, rfl, e2, _, _, _⟩ := HT.out.o2.full
      have HE1 : Hid (Els 1 u16c wr A1 (rmLost m)) := Lib.hid (by unfold rmLost; rw [HM.out.all]; exact e1)
      have HE2 : Hid (Els 1 u16c wr A2 (rmRdis m)) := Lib.hid (by unfold rmRdis; rw [HM.out.all]; exact e2)
      have hl1 : (rmLost m).length ≤ 1000 := by unfold rmLost; have := List.length_filter_le (fun x => m.la x == 0) m.os; rw [HM.out.all, HN.out] at this; rw [HM.out.all]; have := HN1.out; omega
      have hl2 : (rmRdis m).length ≤ 1000 := by unfold rmRdis; have := List.length_filter_le (fun x => !(m.la x == 0) && m.rd x) m.os; rw [HM.out.all, HN.out] at this; rw [HM.out.all]; have := HN1.out; omega
      rw [show (os.filter (fun x => m.la x == 0)).length = (rmLost m).length by unfold rmLost; rw [HM.out.all], show (os.filter (fun x => !(m.la x == 0) && m.rd x)).length = (rmRdis m).length by unfold rmRdis; rw [HM.out.all]]
      have KS1 := Lib.hid (fun X c d W (h1 : Els 1 u16c W X (rmLost m)) (h2 : Els 1 u16c W A1 (rmLost m)) => same18_any X A1 c d (rmLost m) W (by omega) h1 h2)
      have KS2 := Lib.hid (fun X c d W (h1 : Els 1 u16c W X (rmRdis m)) (h2 : Els 1 u16c W A2 (rmRdis m)) => same18_any X A2 c d (rmRdis m) W (by omega) h1 h2)
      have KLo := Lib.hid (fun W h => H.out.lost W S b m h)
      have KRd := Lib.hid (fun W h => H.out.rdis W S b m h)
      have HDW := Lib.hid (rm_def_worst m)
      have hW4 := rmWorst_le m
      have KD := Lib.hid (fun W h => H.out.defects W S b m h)
      have KW := Lib.hid (fun W h => H.out.worst W S b m h)
      have KB := Lib.hid (fun (W : World) (hB : Below w.heap.size w W) => (HL0.out 2 (by omega) 0 W hB : Calls Try.prog 29 #[.agg #[.int .u8 o.lv.toNat, .int .u16 o.me.toNat, .int .u8 o.iv.toNat, .string ⟨o.ma.toArray⟩], .slice A k ca, .slice B q cb, .int .i64 2, .int .u16 0, .int .i64 now] W _))
      have KC := Lib.hid (fun (W : World) (hB : Below w.heap.size w W) => (HL0.out 3 (by omega) 0 W hB : Calls Try.prog 29 #[.agg #[.int .u8 o.lv.toNat, .int .u16 o.me.toNat, .int .u8 o.iv.toNat, .string ⟨o.ma.toArray⟩], .slice A k ca, .slice B q cb, .int .i64 3, .int .u16 0, .int .i64 now] W _))
      rw [← HM.out.er] at KB
      rw [← HM.out.cr] at KC
      have HWo : Hid (rmWorst m = if 0 < m.cr then 4 else if 0 < m.er then 3 else if 0 < (rmLost m).length then 2 else if 0 < (rmRdis m).length then 1 else 0) := Lib.hid rfl
      obtain ⟨n1, hn1⟩ : ∃ v, (rmLost m).length = v := ⟨_, rfl⟩
      obtain ⟨n2, hn2⟩ : ∃ v, (rmRdis m).length = v := ⟨_, rfl⟩
      obtain ⟨er, her⟩ : ∃ v, m.er = v := ⟨_, rfl⟩
      obtain ⟨cr, hcr⟩ : ∃ v, m.cr = v := ⟨_, rfl⟩
      obtain ⟨WO, hWO⟩ : ∃ v, rmWorst m = v := ⟨_, rfl⟩
      obtain ⟨D, hD⟩ : ∃ v, rmDef m = v := ⟨_, rfl⟩
      simp only [hn1] at KS1 KLo HWo hl1 ⊢
      simp only [hn2] at KS2 KRd HWo hl2 ⊢
      rw [her] at KB HWo
      rw [hcr] at KC HWo
      rw [hWO] at KW HDW HWo hW4
      rw [hD] at KD HDW
      obtain ⟨BE, hBE⟩ : ∃ q, decide (0 < er) = q := ⟨_, rfl⟩
      obtain ⟨BC, hBC⟩ : ∃ q, decide (0 < cr) = q := ⟨_, rfl⟩
      have HBEC : Hid (((0 < er) ↔ BE = true) ∧ ((0 < cr) ↔ BC = true)) := Lib.hid ⟨by rw [← hBE]; simp, by rw [← hBC]; simp⟩
      clear hn1 hn2 her hcr hWO hD hts e1 e2 HT HL0 HR0 HIT
      have HRr := Lib.hid (H.out.after HRm.out HW.out)
      go_wp2_with fail
      refine (KB.out _ HW.out).mono ?_
      rintro r w3 ⟨rfl, hb⟩
      have HW3 : Hid (Below w.heap.size w w3) := Lib.hid (HW.out.trans (hb.mono HW.out.size))
      have HK3 := Lib.hid (HK.out.below hb HK.out.lt)
      have HE13 := Lib.hid (HE1.out.next hb)
      have HE23 := Lib.hid (HE2.out.next hb)
      have HR3 := Lib.hid (H.out.after HRr.out hb)
      clear hb HW HK HE1 HE2 HRr k0 k1 k2 k3 KB
      have k0 := HK3.out.cell 0
      have k1 := HK3.out.cell 1
      have k2 := HK3.out.cell 2
      have k3 := HK3.out.cell 3
      simp only [List.getElem?_toArray, List.getElem?_cons_succ, List.getElem?_cons_zero] at k0 k1 k2 k3
      go_wp2_with fail
      refine (KC.out _ HW3.out).mono ?_
      rintro r w4 ⟨rfl, hb⟩
      have HW4 : Hid (Below w.heap.size w w4) := Lib.hid (HW3.out.trans (hb.mono HW3.out.size))
      have HE14 := Lib.hid (HE13.out.next hb)
      have HE24 := Lib.hid (HE23.out.next hb)
      have HR4 := Lib.hid (H.out.after HR3.out hb)
      clear hb HW3 HK3 HE13 HE23 HR3 k0 k1 k2 k3 KC
      obtain ⟨V1, hV1⟩ : ∃ v : Nat, (if 0 < n2 then 1 else 0) = v := ⟨_, rfl⟩
      have HV1 := Lib.hid hV1
      clear hV1
      go_upto_if 69 with (fail)
      go_cut [16] (fun a16 wx => a16 = .int .u8 V1 ∧ wx = w4)
      case first =>
        by_cases h1 : 0 < n2
        · have p1 : decide ((0 : Int) < (n2 : Int)) = true := decide_eq_true (by omega)
          have p2 : (0 : Int) < (n2 : Int) := by omega
          go_wp2
          go_meet
          exact ⟨by rw [← HV1.out, if_pos h1]; rfl, rfl⟩
        · have p1 : decide ((0 : Int) < (n2 : Int)) = false := decide_eq_false (by omega)
          have p2 : ¬ (0 : Int) < (n2 : Int) := by omega
          go_wp2
          go_meet
          exact ⟨by rw [← HV1.out, if_neg h1]; rfl, rfl⟩
      obtain ⟨rfl, hwx⟩ := hcut
      rw [hwx]
      clear hwx
      obtain ⟨V2, hV2⟩ : ∃ v : Nat, (if 0 < n1 then 2 else V1) = v := ⟨_, rfl⟩
      have HV2 := Lib.hid hV2
      clear hV2
      go_upto_if 72 with (fail)
      go_cut [16] (fun a16 wx => a16 = .int .u8 V2 ∧ wx = w4)
      case first =>
        by_cases h1 : 0 < n1
        · have p1 : decide ((0 : Int) < (n1 : Int)) = true := decide_eq_true (by omega)
          have p2 : (0 : Int) < (n1 : Int) := by omega
          go_wp2
          go_meet
          exact ⟨by rw [← HV2.out, if_pos h1]; rfl, rfl⟩
        · have p1 : decide ((0 : Int) < (n1 : Int)) = false := decide_eq_false (by omega)
          have p2 : ¬ (0 : Int) < (n1 : Int) := by omega
          go_wp2
          go_meet
          exact ⟨by rw [← HV2.out, if_neg h1], rfl⟩
      obtain ⟨rfl, hwx⟩ := hcut
      rw [hwx]
      clear hwx
      obtain ⟨V3, hV3⟩ : ∃ v : Nat, (if BE = true then 3 else V2) = v := ⟨_, rfl⟩
      have HV3 := Lib.hid hV3
      clear hV3
      go_upto_if 73 with (fail)
      go_cut [16] (fun a16 wx => a16 = .int .u8 V3 ∧ wx = w4)
      case first =>
        cases BE
        · go_wp2
          go_meet
          exact ⟨by rw [← HV3.out, if_neg (by decide)], rfl⟩
        · go_wp2
          go_meet
          exact ⟨by rw [← HV3.out]; simp, rfl⟩
      obtain ⟨rfl, hwx⟩ := hcut
      rw [hwx]
      clear hwx
      obtain ⟨V4, hV4⟩ : ∃ v : Nat, (if BC = true then 4 else V3) = v := ⟨_, rfl⟩
      have HV4 := Lib.hid hV4
      clear hV4
      go_upto_if 74 with (fail)
      go_cut [16] (fun a16 wx => a16 = .int .u8 V4 ∧ wx = w4)
      case first =>
        cases BC
        · go_wp2
          go_meet
          exact ⟨by rw [← HV4.out, if_neg (by decide)], rfl⟩
        · go_wp2
          go_meet
          exact ⟨by rw [← HV4.out]; simp, rfl⟩
      obtain ⟨rfl, hwx⟩ := hcut
      rw [hwx]
      clear hwx
      have HVW : Hid (V4 = WO) := Lib.hid (by
        rw [HWo.out, ← HV4.out, ← HV3.out, ← HV2.out, ← HV1.out]; simp only [HBEC.out.1, HBEC.out.2])
      rw [HVW.out]
      have hwd : decide ((1 : Int) < (WO : Int)) = D := by rw [HDW.out]; congr 1; simp; omega
      go_wp2_with fail
      refine (KLo.out _ HR4.out).mono ?_
      rintro r w5 ⟨A5, c5, rfl, hE5, _, hR5, hb⟩
      have HW5 : Hid (Below w.heap.size w w5) := Lib.hid (HW4.out.trans (hb.mono HW4.out.size))
      have HE5 := Lib.hid hE5
      have HE15 := Lib.hid (HE14.out.next hb)
      have HE25 := Lib.hid (HE24.out.next hb)
      have HR5 := Lib.hid hR5
      clear hb hE5 hR5 HW4 HE14 HE24 HR4
      go_wp2_with fail
      refine (KS1.out _ _ _ _ HE5.out HE15.out).mono ?_
      rintro r w6 ⟨rfl, hb⟩
      have HW6 : Hid (Below w.heap.size w w6) := Lib.hid (HW5.out.trans (hb.mono HW5.out.size))
      have HE26 := Lib.hid (HE25.out.next hb)
      have HR6 := Lib.hid (H.out.after HR5.out hb)
      clear hb HW5 HE25 HR5 HE15 HE5
      go_wp2_with fail
      refine (KRd.out _ HR6.out).mono ?_
      rintro r w7 ⟨A7, c7, rfl, hE7, _, hR7, hb⟩
      have HW7 : Hid (Below w.heap.size w w7) := Lib.hid (HW6.out.trans (hb.mono HW6.out.size))
      have HE7 := Lib.hid hE7
      have HE27 := Lib.hid (HE26.out.next hb)
      have HR7 := Lib.hid hR7
      clear hb hE7 hR7 HW6 HE26 HR6
      go_wp2_with fail
      refine (KS2.out _ _ _ _ HE7.out HE27.out).mono ?_
      rintro r w8 ⟨rfl, hb⟩
      have HW8 : Hid (Below w.heap.size w w8) := Lib.hid (HW7.out.trans (hb.mono HW7.out.size))
      have HR8 := Lib.hid (H.out.after HR7.out hb)
      clear hb HW7 HE7 HE27 HR7
      go_wp2_with fail
      refine (KD.out _ HR8.out).mono ?_
      rintro r w9 ⟨rfl, hR9, hb⟩
      have HW9 : Hid (Below w.heap.size w w9) := Lib.hid (HW8.out.trans (hb.mono HW8.out.size))
      have HR9 := Lib.hid hR9
      clear hb hR9 HW8 HR8
      go_wp2_with fail
      refine (KW.out _ HR9.out).mono ?_
      rintro r wA ⟨rfl, hRA, hb⟩
      have HWA2 : Hid (Below w.heap.size w wA) := Lib.hid (HW9.out.trans (hb.mono HW9.out.size))
      have HRA := Lib.hid hRA
      clear hb hRA HW9 HR9
      go_wp2
      go_ret
      exact ⟨rfl, HRA.out, HWA2.out⟩
end Go.Proofs.Ytkmdgpfaaniibaa
