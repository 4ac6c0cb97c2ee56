/- Layer 16: the law's stands. -/
import Derived.Test.YtfdiolfelecccaaZzSr16
namespace Go.Proofs.Ytfdiolfelecccaa
open Go.RowKit
set_option linter.unusedVariables false
set_option linter.unusedSimpArgs false
set_option maxRecDepth 100000

theorem and1z : ∀ k : Fin 256, (bits BinOp.and IntKind.u8 ((k.val : Nat) : Int) 1 == 0) = !(k.val % 2 == 1) := by decide +kernel
theorem shr16 (s : UInt8) (n : Nat) : (bits BinOp.and IntKind.u8 ((s.toNat : Int) / 2 ^ n) 1 == 0) = !bt s n := by
  have e : ((s.toNat : Int) / 2 ^ n) = ((s.toNat / 2 ^ n : Nat) : Int) := by simp
  rw [e]
  exact and1z ⟨s.toNat / 2 ^ n, Nat.lt_of_le_of_lt (Nat.div_le_self _ _) s.toNat_lt⟩
set_option maxHeartbeats 16000000 in
theorem stands16_any {R : (Nat → Prop) → World → Nat → Tb → Prop} (HH : CgI R) (S : Nat → Prop) (w : World) (b : Nat) (T : Tb) (A1 : Option Addr) (c1 : Nat) (hr : R S w b T) (hs : Sm T 1000) (hE : Els 4 mpE w A1 T.E) :
    Calls Try.prog 16 #[.pointer (some ⟨b, 0, none⟩), .slice A1 T.E.length c1] w fun e w' => e = .returned (.bool true) ∧ Below w.heap.size w w' := by
  have H := Lib.hid HH
  have HI := Lib.hid (HH.inv _ _ _ _ hr)
  have KAs := Lib.hid (fun i h0 h1 w h => HH.assoc S w b T i h hs h0 h1)
  have KAt := Lib.hid (fun p v w h => HH.att S w b T p v h hs)
  have HR0 := Lib.hid hr
  have HE0 := Lib.hid hE
  obtain ⟨n, hn⟩ : ∃ n, T.E.length = n := ⟨_, rfl⟩
  have HN := Lib.hid hn
  have hnl : (n : Int) ≤ 1000 := by have := hs.2.1; omega
  rw [hn]
  clear hr hs hE HH hn
  go_enter Try.func16, Try.ntmps16
  go_wp2
  go_loopw [5] (fun j wr => ∃ k : Nat, k ≤ n ∧ j = .int .i64 k ∧ Hid (Below w.heap.size w wr)) (fun j _ => n - (intOf j).toNat)
  case atStart => exact ⟨0, Nat.zero_le _, rfl, Lib.hid (Below.refl _ _)⟩
  case round =>
    obtain ⟨k, hk, rfl, HB⟩ := hrel
    by_cases hlt : k < n
    · obtain ⟨x, hx⟩ : ∃ x, T.E[k]? = some x := ⟨_, List.getElem?_eq_getElem (by rw [HN.out]; exact hlt)⟩
      obtain ⟨b1, off1, hA1, hltE, e0, e1, e2, e3⟩ := mp_at (HE0.out.next HB.out) hx
      subst hA1
      have hki : (k : Int) < n := by omega
      have hmem := List.mem_of_getElem? hx
      obtain ⟨hl8, ha0, ha1⟩ := of_level HI.out hmem
      have hst := stands_at HI.out hmem
      have hmd := stands_mid HI.out hmem
      obtain ⟨z, hz⟩ : ∃ z, T.of x = z := ⟨_, rfl⟩
      have hz' : T.A.getD x.a.toNat default = z := hz
      rw [hz] at hl8 hst hmd
      have KZ := Lib.hid (KAs.out x.a ha0 ha1)
      rw [hz'] at KZ
      obtain ⟨nz, hnz⟩ : ∃ n, z.m.length = n := ⟨_, rfl⟩
      simp only [AsV, hnz] at KZ
      have HLT := Lib.hid hlt
      have HX := Lib.hid hx
      have HZ := Lib.hid hz
      have HST : Hid (bt (T.set x.p z.v x.u) z.l.toNat = true) := Lib.hid (by unfold Tb.set; rw [bt_setOf _ _ hl8]; exact hst)
      have HL8 := Lib.hid hl8
      have HMD := Lib.hid hmd
      have HR := Lib.hid (H.out.next HR0.out HB.out)
      clear hlt hx hmem hl8 ha0 ha1 hst hmd hz hz' hnz
      go_wp2_with fail
      refine (KZ.out _ HR.out).mono ?_
      rintro e_ w2 ⟨B2, c2, rfl, _, _, hb2⟩
      have HB2 : Hid (Below w.heap.size w (w2.alloc (.cells #[.int .u8 z.l.toNat, .string ⟨z.d.toArray⟩, .string ⟨z.n.toArray⟩, .int .u16 z.v.toNat, .int .u8 z.i.toNat, .slice B2 nz c2] 50))) := Lib.hid ((HB.out.trans (hb2.mono HB.out.size)).alloc (by have := HB.out.size; have := hb2.size; omega) _)
      have HW2 : Hid (Below wr.heap.size wr (w2.alloc (.cells #[.int .u8 z.l.toNat, .string ⟨z.d.toArray⟩, .string ⟨z.n.toArray⟩, .int .u16 z.v.toNat, .int .u8 z.i.toNat, .slice B2 nz c2] 50))) := Lib.hid (hb2.alloc hb2.size _)
      have HR2 := Lib.hid (H.out.next HR.out HW2.out)
      have HZ2 := Lib.hid (Blk.new w2 50 #[.int .u8 z.l.toNat, .string ⟨z.d.toArray⟩, .string ⟨z.n.toArray⟩, .int .u16 z.v.toNat, .int .u8 z.i.toNat, .slice B2 nz c2])
      go_upto_region 5 with (fail)
      obtain ⟨w3, hw3⟩ : ∃ w3, (w2.alloc (.cells #[.int .u8 z.l.toNat, .string ⟨z.d.toArray⟩, .string ⟨z.n.toArray⟩, .int .u16 z.v.toNat, .int .u8 z.i.toNat, .slice B2 nz c2] 50)) = w3 := ⟨_, rfl⟩
      obtain ⟨h, hh⟩ : ∃ h, w2.heap.size = h := ⟨_, rfl⟩
      rw [hw3] at HB2 HW2 HR2 HZ2
      rw [hh] at HZ2
      rw [hw3, hh]
      replace e0 := (HW2.out.cell (p := ⟨b1, off1 + k * 4, none⟩) hltE).trans e0
      replace e1 := (HW2.out.cell (p := ⟨b1, off1 + k * 4 + 1, none⟩) hltE).trans e1
      replace e2 := (HW2.out.cell (p := ⟨b1, off1 + k * 4 + 2, none⟩) hltE).trans e2
      replace e3 := (HW2.out.cell (p := ⟨b1, off1 + k * 4 + 3, none⟩) hltE).trans e3
      replace hltE : b1 < w3.heap.size := Nat.lt_of_lt_of_le hltE HW2.out.size
      have HR3 := HR2
      have hltZ := HZ2.out.lt
      clear hb2 hw3 hh HR HR2 KZ
      have z0 := HZ2.out.cell 0
      have z3 := HZ2.out.cell 3
      simp only [List.getElem?_toArray, List.getElem?_cons_succ, List.getElem?_cons_zero] at z0 z3
      go_cut [8] (fun a wx => ∃ g, a = .pointer (some ⟨g, 0, none⟩) ∧ Hid (Blk wx g 56 #[.int .u8 (T.set x.p z.v false).toNat, .int .u8 (T.set x.p z.v true).toNat, .int .i64 (T.mid x.p z.v)]) ∧ Hid (Below w3.heap.size w3 wx))
      case first =>
        refine wp_region_noPanic ?_
        refine wp_region_held_drew (S := fun w_ => Below w3.heap.size w3 w_) (by kernel_rfl) (Below.refl _ w3).drew (fun hHeld => ?_)
        refine wpAnyH_take (i := 0) (v := ?v1) rfl (by kernel_rfl) (by kernel_rfl) (by kernel_rfl) (fun _ _ _ h => h) (Or.inl ⟨by rfl, ?hy1⟩) hHeld ?rest1
        case hy1 =>
          intro w_ hSw; go_simp
          all_goals (with_reducible rfl)
        try simp only [Act.put, List.getElem_toArray, List.getElem_cons_succ, List.getElem_cons_zero, List.setIfInBounds_toArray, List.set_cons_zero, List.set_cons_succ]
        refine wpAnyH_take (i := 1) (v := ?v2) rfl (by kernel_rfl) (by kernel_rfl) (by kernel_rfl) (fun _ _ _ h => h) (Or.inl ⟨by rfl, ?hy2⟩) hHeld ?rest2
        case hy2 =>
          intro w_ hSw; go_simp
          all_goals (with_reducible rfl)
        try simp only [Act.put, List.getElem_toArray, List.getElem_cons_succ, List.getElem_cons_zero, List.setIfInBounds_toArray, List.set_cons_zero, List.set_cons_succ]
        refine wpAnyH_take (i := 2) (v := ?v3) rfl (by kernel_rfl) (by kernel_rfl) (by kernel_rfl) (fun _ _ _ h => h) (Or.inl ⟨by rfl, ?hy3⟩) hHeld ?rest3
        case hy3 =>
          intro w_ hSw; go_simp
          all_goals (with_reducible rfl)
        try simp only [Act.put, List.getElem_toArray, List.getElem_cons_succ, List.getElem_cons_zero, List.setIfInBounds_toArray, List.set_cons_zero, List.set_cons_succ]
        refine wpAnyH_take (i := 3) (v := ?v4) rfl (by kernel_rfl) (by kernel_rfl) (by kernel_rfl) (fun _ _ _ h => h) (Or.inl ⟨by rfl, ?hy4⟩) hHeld ?rest4
        case hy4 =>
          intro w_ hSw; go_simp
          all_goals (with_reducible rfl)
        try simp only [Act.put, List.getElem_toArray, List.getElem_cons_succ, List.getElem_cons_zero, List.setIfInBounds_toArray, List.set_cons_zero, List.set_cons_succ]
        refine wpAnyH_take (i := 4) (v := ?v5) rfl (by kernel_rfl) (by kernel_rfl) (by kernel_rfl) (fun _ _ _ h => h) (Or.inl ⟨by rfl, ?hy5⟩) hHeld ?rest5
        case hy5 =>
          intro w_ hSw; go_simp
          all_goals (with_reducible rfl)
        try simp only [Act.put, List.getElem_toArray, List.getElem_cons_succ, List.getElem_cons_zero, List.setIfInBounds_toArray, List.set_cons_zero, List.set_cons_succ]
        refine wpAnyH_take (i := 5) (v := ?v6) rfl (by kernel_rfl) (by kernel_rfl) (by kernel_rfl) (fun _ _ _ h => h) (Or.inl ⟨by rfl, ?hy6⟩) hHeld ?rest6
        case hy6 =>
          intro w_ hSw; have h2 := (hSw.cell (p := ⟨b1, off1 + k * 4 + 2, none⟩) hltE).trans e2; go_simp
          all_goals (with_reducible rfl)
        try simp only [Act.put, List.getElem_toArray, List.getElem_cons_succ, List.getElem_cons_zero, List.setIfInBounds_toArray, List.set_cons_zero, List.set_cons_succ]
        refine wpAnyH_take (i := 6) (v := ?v7) rfl (by kernel_rfl) (by kernel_rfl) (by kernel_rfl) (fun _ _ _ h => h) (Or.inl ⟨by rfl, ?hy7⟩) hHeld ?rest7
        case hy7 =>
          intro w_ hSw; go_simp
          all_goals (with_reducible rfl)
        try simp only [Act.put, List.getElem_toArray, List.getElem_cons_succ, List.getElem_cons_zero, List.setIfInBounds_toArray, List.set_cons_zero, List.set_cons_succ]
        refine wpAnyH_take (i := 7) (v := ?v8) rfl (by kernel_rfl) (by kernel_rfl) (by kernel_rfl) (fun _ _ _ h => h) (Or.inl ⟨by rfl, ?hy8⟩) hHeld ?rest8
        case hy8 =>
          intro w_ hSw; have hc := (hSw.cell (p := ⟨h, 3, none⟩) hltZ).trans z3; go_simp
          all_goals (with_reducible rfl)
        try simp only [Act.put, List.getElem_toArray, List.getElem_cons_succ, List.getElem_cons_zero, List.setIfInBounds_toArray, List.set_cons_zero, List.set_cons_succ]
        refine wpAnyH_ready (rs := [8, 9]) (by kernel_rfl) (by simp) ?_
        refine AllReadyH.cons rfl (fun K hK => ?_) ?_
        · go_simp
          go_at_call 14
          refine (KAt.out x.p z.v _ (H.out.next HR3.out hHeld)).mono ?_
          rintro e_ w_ ⟨rfl, _, hb_⟩
          have hS_ := hHeld.trans (hb_.mono hHeld.size)
          clear hb_
          refine hK.out _ _ (hS_) (fun hHeld => ?_)
          clear hK K
          try simp only [Act.put, List.getElem_toArray, List.getElem_cons_succ, List.getElem_cons_zero, List.setIfInBounds_toArray, List.set_cons_zero, List.set_cons_succ]
          refine wpAnyH_ready (rs := [9]) (by kernel_rfl) (by simp) ?_
          refine AllReadyH.cons rfl (fun K hK => ?_) AllReadyH.nil
          go_simp
          obtain ⟨HG, HGE⟩ := alloc_new hHeld 56 #[.int .u8 0, .int .u8 0, .int .i64 0]
          refine hK.out _ _ (hHeld.alloc hHeld.size _) (fun hHeld => ?_)
          clear hK K
          try simp only [Act.put, List.getElem_toArray, List.getElem_cons_succ, List.getElem_cons_zero, List.setIfInBounds_toArray, List.set_cons_zero, List.set_cons_succ]
          refine wpAnyH_ready (rs := [10]) (by kernel_rfl) (by simp) ?_
          refine AllReadyH.cons rfl (fun K hK => ?_) AllReadyH.nil
          refine step_store_rowH rfl 56 (.tmp 8) (.tmp 37) rfl _ rfl #[.int .u8 (T.set x.p z.v false).toNat, .int .u8 (T.set x.p z.v true).toNat, .int .i64 (T.mid x.p z.v)] rfl 56 _ HG.out (by kernel_rfl) rfl (by kernel_rfl) ?_
          have HG9 := Lib.hid (HG.out.row #[.int .u8 (T.set x.p z.v false).toNat, .int .u8 (T.set x.p z.v true).toNat, .int .i64 (T.mid x.p z.v)])
          have hle := HGE.out
          have hS9 := below_row hHeld hle #[.int .u8 (T.set x.p z.v false).toNat, .int .u8 (T.set x.p z.v true).toNat, .int .i64 (T.mid x.p z.v)]
          refine hK.out _ _ (hS9) (fun hHeld => ?_)
          clear hK K
          try simp only [Act.put, List.getElem_toArray, List.getElem_cons_succ, List.getElem_cons_zero, List.setIfInBounds_toArray, List.set_cons_zero, List.set_cons_succ]
          refine wpAnyH_done (by kernel_rfl) ?_ _
          refine NoPanic.normal ?_
          go_wp2_with fail
          go_meet
          exact ⟨_, rfl, HG9, Lib.hid hS9⟩
        · refine AllReadyH.cons rfl (fun K hK => ?_) AllReadyH.nil
          go_simp
          obtain ⟨HG, HGE⟩ := alloc_new hHeld 56 #[.int .u8 0, .int .u8 0, .int .i64 0]
          refine hK.out _ _ (hHeld.alloc hHeld.size _) (fun hHeld => ?_)
          clear hK K
          try simp only [Act.put, List.getElem_toArray, List.getElem_cons_succ, List.getElem_cons_zero, List.setIfInBounds_toArray, List.set_cons_zero, List.set_cons_succ]
          refine wpAnyH_ready (rs := [8]) (by kernel_rfl) (by simp) ?_
          refine AllReadyH.cons rfl (fun K hK => ?_) AllReadyH.nil
          go_simp
          go_at_call 14
          refine (KAt.out x.p z.v _ (H.out.next HR3.out hHeld)).mono ?_
          rintro e_ w_ ⟨rfl, _, hb_⟩
          have HG := Lib.hid (HG.out.below hb_ HG.out.lt)
          have hS_ := hHeld.trans (hb_.mono hHeld.size)
          clear hb_
          refine hK.out _ _ (hS_) (fun hHeld => ?_)
          clear hK K
          try simp only [Act.put, List.getElem_toArray, List.getElem_cons_succ, List.getElem_cons_zero, List.setIfInBounds_toArray, List.set_cons_zero, List.set_cons_succ]
          refine wpAnyH_ready (rs := [10]) (by kernel_rfl) (by simp) ?_
          refine AllReadyH.cons rfl (fun K hK => ?_) AllReadyH.nil
          refine step_store_rowH rfl 56 (.tmp 8) (.tmp 37) rfl _ rfl #[.int .u8 (T.set x.p z.v false).toNat, .int .u8 (T.set x.p z.v true).toNat, .int .i64 (T.mid x.p z.v)] rfl 56 _ HG.out (by kernel_rfl) rfl (by kernel_rfl) ?_
          have HG9 := Lib.hid (HG.out.row #[.int .u8 (T.set x.p z.v false).toNat, .int .u8 (T.set x.p z.v true).toNat, .int .i64 (T.mid x.p z.v)])
          have hle := HGE.out
          have hS9 := below_row hHeld hle #[.int .u8 (T.set x.p z.v false).toNat, .int .u8 (T.set x.p z.v true).toNat, .int .i64 (T.mid x.p z.v)]
          refine hK.out _ _ (hS9) (fun hHeld => ?_)
          clear hK K
          try simp only [Act.put, List.getElem_toArray, List.getElem_cons_succ, List.getElem_cons_zero, List.setIfInBounds_toArray, List.set_cons_zero, List.set_cons_succ]
          refine wpAnyH_done (by kernel_rfl) ?_ _
          refine NoPanic.normal ?_
          go_wp2_with fail
          go_meet
          exact ⟨_, rfl, HG9, Lib.hid hS9⟩
      obtain ⟨g, rfl, HG, HBx⟩ := hcut
      have HB4 : Hid (Below w.heap.size w wc) := Lib.hid (HB2.out.trans (HBx.out.mono HB2.out.size))
      have HZ4 := Lib.hid (HZ2.out.below HBx.out HZ2.out.lt)
      have HR4 := Lib.hid (H.out.next HR3.out HBx.out)
      replace e3 := (HBx.out.cell (p := ⟨b1, off1 + k * 4 + 3, none⟩) hltE).trans e3
      have QS : (bits BinOp.and IntKind.u8 (((T.set x.p z.v x.u).toNat : Int) / 2 ^ z.l.toNat) 1 == 0) = false := by rw [shr16, HST.out]; rfl
      have p8 : (z.l.toNat : Int) < 8 := by have := HL8.out; omega
      have hwl : IntKind.i64.wrap (z.l.toNat : Int) = (z.l.toNat : Int) := by have := HL8.out; simp [IntKind.wrap, IntKind.signed, IntKind.bits]; omega
      have g0 := HG.out.cell 0
      have g1 := HG.out.cell 1
      have g2 := HG.out.cell 2
      simp only [List.getElem?_toArray, List.getElem?_cons_succ, List.getElem?_cons_zero] at g0 g1 g2
      have z0 := HZ4.out.cell 0
      simp only [List.getElem?_toArray, List.getElem?_cons_succ, List.getElem?_cons_zero] at z0
      have hmd : T.mid x.p z.v < 0 ∨ (0 ≤ T.mid x.p z.v ∧ (z.l.toNat : Int) < T.mid x.p z.v) := by have := HMD.out; omega
      obtain ⟨md, hmd'⟩ : ∃ m, T.mid x.p z.v = m := ⟨_, rfl⟩
      obtain ⟨sd0, hsd0⟩ : ∃ m, T.set x.p z.v false = m := ⟨_, rfl⟩
      obtain ⟨sd1, hsd1⟩ : ∃ m, T.set x.p z.v true = m := ⟨_, rfl⟩
      obtain ⟨uu, huu⟩ : ∃ u, x.u = u := ⟨_, rfl⟩
      rw [hmd'] at g2 hmd
      rw [hsd0] at g0
      rw [hsd1] at g1
      rw [huu] at e3 QS
      have HQS := Lib.hid QS
      have HSD := Lib.hid (And.intro hsd0 hsd1)
      clear HB2 HZ2 HR3 HBx e0 e1 e2 HW2 HB HST HMD hltZ z3 hmd' hsd0 hsd1 huu QS
      obtain ⟨ss, hss⟩ : ∃ m, (if uu = true then sd1 else sd0) = m := ⟨_, rfl⟩
      have HSS := Lib.hid hss
      have QS : (bits BinOp.and IntKind.u8 ((ss.toNat : Int) / 2 ^ z.l.toNat) 1 == 0) = false := by
        have h := HQS.out
        rw [← hss]
        cases uu
        · rw [HSD.out.1] at h; exact h
        · rw [HSD.out.2] at h; exact h
      obtain ⟨w4, rfl⟩ : ∃ w4, w4 = wc := ⟨_, rfl⟩
      clear hss HQS HSD
      go_upto_region 6 with (fail)
      go_cut [9] (fun a wx => a = .int .u8 sd0.toNat ∧ wx = w4)
      case first =>
        clear QS
        go_wp2_with fail
        go_meet
        exact ⟨rfl, rfl⟩
      obtain ⟨rfl, hw⟩ := hcut
      rw [hw]
      clear hw
      go_upto_if 44 with (fail)
      go_cut [9] (fun a wx => a = .int .u8 ss.toNat ∧ wx = w4)
      case first =>
        clear QS
        cases uu
        · obtain rfl : sd0 = ss := HSS.out
          go_wp2_with fail
          go_meet
          exact ⟨rfl, rfl⟩
        · obtain rfl : sd1 = ss := HSS.out
          go_wp2_with fail
          go_meet
          exact ⟨rfl, rfl⟩
      obtain ⟨rfl, hw⟩ := hcut
      rw [hw]
      clear hw
      go_upto_region 9 with (fail)
      go_cut [69] (fun a wx => a = .bool false ∧ wx = w4)
      case first =>
        rcases hmd with hmd | ⟨hmd0, hmd1⟩
        · have m0 : decide (0 ≤ md) = false := by simp; omega
          go_wp2_with fail
          go_meet
          exact ⟨rfl, rfl⟩
        · have m0 : decide (0 ≤ md) = true := by simp; omega
          have m1 : decide (md ≤ (z.l.toNat : Int)) = false := by simp; omega
          go_wp2_with fail
          go_meet
          exact ⟨rfl, rfl⟩
      obtain ⟨rfl, hcut⟩ := hcut
      obtain ⟨w5, hw5⟩ : ∃ w5, w5 = w4 := ⟨_, rfl⟩
      rw [hcut, ← hw5]
      rw [← hw5] at HB4 HZ4 HR4
      clear hcut hw5 HSS hmd g0 g1 g2 z0 e3 QS p8 hwl HG HL8
      go_wp2
      go_loopw [10] (fun j wr => ∃ i : Nat, i ≤ k ∧ j = .int .i64 i ∧ Hid (Below w5.heap.size w5 wr)) (fun j _ => k - (intOf j).toNat)
      case atStart => exact ⟨0, Nat.zero_le _, rfl, Lib.hid (Below.refl _ _)⟩
      case round =>
        obtain ⟨j, hj, rfl, HBw⟩ := hrel
        by_cases hlt : j < k
        · obtain ⟨x2, hx2⟩ : ∃ x, T.E[j]? = some x := ⟨_, List.getElem?_eq_getElem (by rw [HN.out]; have := HLT.out; omega)⟩
          have HBn : Hid (Below w.heap.size w wr) := Lib.hid (HB4.out.trans (HBw.out.mono HB4.out.size))
          obtain ⟨b2, off2, hA2, hltF, f0, f1, f2, f3⟩ := mp_at (HE0.out.next HBn.out) hx2
          obtain ⟨b3, off3, hA3, hltG, e0, e1, e2, e3⟩ := mp_at (HE0.out.next HBn.out) HX.out
          cases hA2
          cases hA3
          have hji : (j : Int) < n := by have := HLT.out; omega
          have hjk : (j : Int) < k := by omega
          obtain ⟨_, ha0, ha1⟩ := of_level HI.out (List.mem_of_getElem? hx2)
          obtain ⟨y, hy⟩ : ∃ z, T.of x2 = z := ⟨_, rfl⟩
          have hy' : T.A.getD x2.a.toNat default = y := hy
          have KZ := Lib.hid (KAs.out x2.a ha0 ha1)
          rw [hy'] at KZ
          obtain ⟨ny, hny⟩ : ∃ n, y.m.length = n := ⟨_, rfl⟩
          simp only [AsV, hny] at KZ
          have hcl : T.clash x2 x = false := by
            have h1 := List.pairwise_iff_getElem.1 HI.out.un j k (by rw [HN.out]; omega) (by rw [HN.out]; exact HLT.out) hlt
            obtain ⟨q1, q2⟩ := List.getElem?_eq_some_iff.1 hx2
            obtain ⟨q3, q4⟩ := List.getElem?_eq_some_iff.1 HX.out
            rw [q2, q4] at h1
            exact h1
          obtain ⟨B1, hB1⟩ : ∃ b, decide (x2.a = x.a) = b := ⟨_, rfl⟩
          obtain ⟨B2_, hB2⟩ : ∃ b, (x2.m == x.m) = b := ⟨_, rfl⟩
          obtain ⟨B3, hB3⟩ : ∃ b, (x2.p == x.p) = b := ⟨_, rfl⟩
          obtain ⟨B4, hB4⟩ : ∃ b, ((T.of x2).v == (T.of x).v) = b := ⟨_, rfl⟩
          obtain ⟨B5, hB5⟩ : ∃ b, ((T.of x2).l == (T.of x).l) = b := ⟨_, rfl⟩
          obtain ⟨B6, hB6⟩ : ∃ b, (x2.u == x.u) = b := ⟨_, rfl⟩
          unfold Tb.clash at hcl
          rw [hB1, hB2, hB3, hB4, hB5, hB6] at hcl
          have HCL := Lib.hid (st_not _ _ _ _ _ _ hcl)
          have Q1 : (x2.a == x.a) = B1 := by rw [← hB1, Bool.eq_iff_iff]; simp
          have Q2 : ((x2.m.toNat : Int) == (x.m.toNat : Int)) = B2_ := by rw [u16_eqB, hB2]
          have Q3 : ((x2.p.toNat : Int) == (x.p.toNat : Int)) = B3 := by rw [u8_eqB, hB3]
          have Q4 : ((z.v.toNat : Int) == (y.v.toNat : Int)) = B4 := by rw [u16_eqB, ← HZ.out, ← hy, Bool.beq_comm, hB4]
          have Q5 : ((z.l.toNat : Int) == (y.l.toNat : Int)) = B5 := by rw [u8_eqB, ← HZ.out, ← hy, Bool.beq_comm, hB5]
          have Q6 : (x2.u == x.u) = B6 := hB6
          have HLT2 := Lib.hid hlt
          have HRr := Lib.hid (H.out.next HR4.out HBw.out)
          have HZr := Lib.hid (HZ4.out.below HBw.out HZ4.out.lt)
          clear hx2 hlt ha0 ha1 hy hy' hny hcl hB1 hB2 hB3 hB4 hB5 hB6
          go_wp2_with fail
          refine (KZ.out _ HRr.out).mono ?_
          rintro e_ w6 ⟨B7, c7, rfl, _, _, hb6⟩
          have HW7 : Hid (Below wr.heap.size wr (w6.alloc (.cells #[.int .u8 y.l.toNat, .string ⟨y.d.toArray⟩, .string ⟨y.n.toArray⟩, .int .u16 y.v.toNat, .int .u8 y.i.toNat, .slice B7 ny c7] 50))) := Lib.hid (hb6.alloc hb6.size _)
          have HB7 : Hid (Below w5.heap.size w5 (w6.alloc (.cells #[.int .u8 y.l.toNat, .string ⟨y.d.toArray⟩, .string ⟨y.n.toArray⟩, .int .u16 y.v.toNat, .int .u8 y.i.toNat, .slice B7 ny c7] 50))) := Lib.hid (HBw.out.trans (HW7.out.mono HBw.out.size))
          have HZ7 := Lib.hid (HZr.out.below HW7.out HZr.out.lt)
          have HY7 := Lib.hid (Blk.new w6 50 #[.int .u8 y.l.toNat, .string ⟨y.d.toArray⟩, .string ⟨y.n.toArray⟩, .int .u16 y.v.toNat, .int .u8 y.i.toNat, .slice B7 ny c7])
          go_upto_region 15 with (fail)
          obtain ⟨w7, hw7⟩ : ∃ w7, (w6.alloc (.cells #[.int .u8 y.l.toNat, .string ⟨y.d.toArray⟩, .string ⟨y.n.toArray⟩, .int .u16 y.v.toNat, .int .u8 y.i.toNat, .slice B7 ny c7] 50)) = w7 := ⟨_, rfl⟩
          obtain ⟨h7, hh7⟩ : ∃ h, w6.heap.size = h := ⟨_, rfl⟩
          rw [hw7] at HB7 HW7 HZ7 HY7
          rw [hh7] at HY7
          rw [hw7, hh7]
          replace f0 := (HW7.out.cell (p := ⟨b1, off1 + j * 4, none⟩) (by first | exact hltF | exact hltG)).trans f0
          replace f1 := (HW7.out.cell (p := ⟨b1, off1 + j * 4 + 1, none⟩) (by first | exact hltF | exact hltG)).trans f1
          replace f2 := (HW7.out.cell (p := ⟨b1, off1 + j * 4 + 2, none⟩) (by first | exact hltF | exact hltG)).trans f2
          replace f3 := (HW7.out.cell (p := ⟨b1, off1 + j * 4 + 3, none⟩) (by first | exact hltF | exact hltG)).trans f3
          replace e0 := (HW7.out.cell (p := ⟨b1, off1 + k * 4, none⟩) (by first | exact hltF | exact hltG)).trans e0
          replace e1 := (HW7.out.cell (p := ⟨b1, off1 + k * 4 + 1, none⟩) (by first | exact hltF | exact hltG)).trans e1
          replace e2 := (HW7.out.cell (p := ⟨b1, off1 + k * 4 + 2, none⟩) (by first | exact hltF | exact hltG)).trans e2
          replace e3 := (HW7.out.cell (p := ⟨b1, off1 + k * 4 + 3, none⟩) (by first | exact hltF | exact hltG)).trans e3
          have z0 := HZ7.out.cell 0
          have z3 := HZ7.out.cell 3
          simp only [List.getElem?_toArray, List.getElem?_cons_succ, List.getElem?_cons_zero] at z0 z3
          have y0 := HY7.out.cell 0
          have y3 := HY7.out.cell 3
          simp only [List.getElem?_toArray, List.getElem?_cons_succ, List.getElem?_cons_zero] at y0 y3
          clear hb6 hw7 hh7 HRr HZr KZ HW7 HBn
          have hkn : (k : Int) < n := by have := HLT.out; omega
          go_cut [148] (fun a wx => a = .bool false ∧ Hid (Below w7.heap.size w7 wx))
          case first =>
            refine wp_swap16 (c' := stands15) (by kernel_rfl) ?_
            refine stands15_wp f0 f1 f2 f3 e0 e1 e2 e3 z0 z3 y0 y3 hji hkn Q1 Q2 Q3 Q4 Q5 Q6 HCL _ _ _ _ _ _ _ _ _ _ _ _ _ _ _ _ _ _ _ _ _ _ _ _ _ _ _ _ _ _ _ _ _ _ _ _ _ _ _ _ _ _ _ _ _ _ _ _ _ _ _ _ _ _ _ _ _ _ _ _ _ _ _ _ _ _ _ _ _ _ _ _ _ _ _ _ _ _ _ _ _ _ _ _ _ _ _ _ _ _ _ _ _ _ _ _ _ _ _ _ _ _ _ _ _ _ _ _ _ _ _ _ _ _ _ _ _ _ _ _ _ _ _ _ _ _ _ _ _ _ _ _ _ _ _ _ _ _ _ _ _ _ _ _ ?_
            intro v85 v86 v87 v88 v89 v90 v91 v92 v93 v94 v95 v96 v97 v98 v99 v100 v101 v102 v103 v104 v105 v106 v107 v108 v109 v110 v111 v112 v113 v114 v115 v116 v117 v118 v119 v120 v121 v122 v123 v124 v125 v126 v127 v128 v129 v130 v131 v132 v133 v134 v135 v136 v137 v138 v139 v140 v141 v142 v143 v144 v145 v146 v147 q
            go_wp2_with fail
            go_meet
            exact ⟨rfl, Lib.hid (below_drewN16 (Below.refl _ _) _)⟩
          obtain ⟨rfl, HBc⟩ := hcut
          have HB9 : Hid (Below w5.heap.size w5 wc) := Lib.hid (HB7.out.trans (HBc.out.mono HB7.out.size))
          clear f0 f1 f2 f3 e0 e1 e2 e3 z0 z3 y0 y3 Q1 Q2 Q3 Q4 Q5 Q6 HCL HB7 HBc
          go_wp2
          go_roundw
          case rel => exact ⟨j + 1, by have := HLT2.out; omega, by go_num, HB9⟩
          case measure => have := HLT2.out; simp [intOf]; omega
        · obtain rfl : k = j := by omega
          go_wp2
          go_roundw
          case rel => exact ⟨k + 1, by have := HLT.out; omega, by go_num, Lib.hid (HB4.out.trans (HBw.out.mono HB4.out.size))⟩
          case measure => have := HLT.out; simp [intOf]; omega
    · obtain rfl : n = k := by omega
      go_wp2
      go_ret
      exact ⟨rfl, HB.out⟩
end Go.Proofs.Ytfdiolfelecccaa
