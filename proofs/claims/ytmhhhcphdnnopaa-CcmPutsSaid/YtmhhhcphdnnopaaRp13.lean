/- Layer 13: the document's Put. -/
import Derived.Test.YtmhhhcphdnnopaaR13
import Derived.Deep.RegionLaw
namespace Go.Proofs.Ytmhhhcphdnnopaa
open Go.RowKit
set_option linter.unusedVariables false
set_option linter.unusedSimpArgs false
set_option maxRecDepth 100000

theorem keep13 {W w w' : World} {g g4 gr : Nat} {u3 u4 u5 u6 : Value} {T4 Tr : TypeId} {c4 cr : Array Value} (h3 : w.cell? ⟨g, 3, none⟩ = some u3) (h4 : w.cell? ⟨g, 4, none⟩ = some u4) (h5 : w.cell? ⟨g, 5, none⟩ = some u5) (hP : Hid (Blk w g4 T4 c4)) (hR : Hid (Blk w gr Tr cr)) (hB : Hid (Below W.heap.size W w)) (h6 : w.cell? ⟨g4, 3, none⟩ = some u6) (hb : Below w.heap.size w w') :
    w'.cell? ⟨g, 3, none⟩ = some u3 ∧ w'.cell? ⟨g, 4, none⟩ = some u4 ∧ w'.cell? ⟨g, 5, none⟩ = some u5 ∧ Hid (Blk w' g4 T4 c4) ∧ Hid (Blk w' gr Tr cr) ∧ Hid (Below W.heap.size W w') ∧ w'.cell? ⟨g4, 3, none⟩ = some u6 ∧ w'.frozen? ⟨g4, 3, none⟩ = false := by
  have hk : ∀ {g i : Nat} {v : Value}, w.cell? ⟨g, i, none⟩ = some v → w'.cell? ⟨g, i, none⟩ = some v := fun {g i v} h => (hb.cell (p := ⟨g, i, none⟩) (World.block_lt_of_cell? w _ h)).trans h
  have hP' := hP.out.below hb hP.out.lt
  exact ⟨hk h3, hk h4, hk h5, Lib.hid hP', Lib.hid (hR.out.below hb hR.out.lt), Lib.hid (hB.out.trans (hb.mono hB.out.size)), hk h6, hP'.frozen 3⟩
theorem keepS13 {w W3 : World} {g g4 : Nat} {u3 u4 u5 : Value} (h3 : w.cell? ⟨g, 3, none⟩ = some u3) (h4 : w.cell? ⟨g, 4, none⟩ = some u4) (h5 : w.cell? ⟨g, 5, none⟩ = some u5) (hC : Hid (Chg (only g4) W3 w)) (hne : g ≠ g4) (v : Value) :
    (w.setCell ⟨g4, 3, none⟩ v).cell? ⟨g, 3, none⟩ = some u3 ∧ (w.setCell ⟨g4, 3, none⟩ v).cell? ⟨g, 4, none⟩ = some u4 ∧ (w.setCell ⟨g4, 3, none⟩ v).cell? ⟨g, 5, none⟩ = some u5 ∧ Hid (Chg (only g4) W3 (w.setCell ⟨g4, 3, none⟩ v)) := by
  have hk : ∀ i, (w.setCell ⟨g4, 3, none⟩ v).cell? ⟨g, i, none⟩ = w.cell? ⟨g, i, none⟩ := fun i => World.cell?_of_block (w := w) (a := ⟨g, i, none⟩) (Below.heap_setCell w ⟨g4, 3, none⟩ v g hne)
  exact ⟨(hk 3).trans h3, (hk 4).trans h4, (hk 5).trans h5, Lib.hid (hC.out.setCell (.inr (by exact rfl)) v)⟩
theorem nums_any (k n : Nat) (w : World) (hk : k ≤ 1000) (hn : n ≤ 18446744073709551615) :
    Calls Try.prog 22 #[.int .u64 (n : Int), .int .i64 (k : Int)] w fun e w' => e = .returned (.string ⟨(dig k n).toArray⟩) ∧ Below w.heap.size w w' := by
  have := numstr_any k (n : Int) w (by omega) (by omega) hk
  rw [show ((n : Int)).toNat = n by omega] at this
  exact this
set_option maxHeartbeats 4000000 in
theorem refput13_any (c : Ck) (w : World) (hl : c.a.length ≤ 1000000) :
    Calls Try.prog 9 #[CkV c] w fun e w' => e = .returned (.tuple #[PdV (ckP c) none 0, .int .i64 (ckE c : Nat)]) ∧ Below w.heap.size w w' := by
  have KM := Lib.hid (fun w => refmay13_any c w hl)
  have HB0 : Hid (Below w.heap.size w ((w.alloc (.cells #[.int .u8 c.l.toNat, .bool c.r, .int .u8 c.i.toNat, .int .u32 c.q.toNat, .int .u16 c.m.toNat, .string ⟨c.a.toArray⟩] 25)).alloc (.cells #[.int .u8 0, .int .u8 0, .int .u8 0, .string ⟨#[]⟩, .slice none 0 0] 37))) := Lib.hid (((Below.refl _ _).alloc (Nat.le_refl _) _).alloc (by simp) _)
  have HK0 : Hid (Blk ((w.alloc (.cells #[.int .u8 c.l.toNat, .bool c.r, .int .u8 c.i.toNat, .int .u32 c.q.toNat, .int .u16 c.m.toNat, .string ⟨c.a.toArray⟩] 25)).alloc (.cells #[.int .u8 0, .int .u8 0, .int .u8 0, .string ⟨#[]⟩, .slice none 0 0] 37)) w.heap.size 25 #[.int .u8 c.l.toNat, .bool c.r, .int .u8 c.i.toNat, .int .u32 c.q.toNat, .int .u16 c.m.toNat, .string ⟨c.a.toArray⟩]) := Lib.hid ((Blk.new _ _ _).alloc _)
  have HR0 : Hid (Blk ((w.alloc (.cells #[.int .u8 c.l.toNat, .bool c.r, .int .u8 c.i.toNat, .int .u32 c.q.toNat, .int .u16 c.m.toNat, .string ⟨c.a.toArray⟩] 25)).alloc (.cells #[.int .u8 0, .int .u8 0, .int .u8 0, .string ⟨#[]⟩, .slice none 0 0] 37)) (w.heap.size + 1) 37 #[.int .u8 0, .int .u8 0, .int .u8 0, .string ⟨#[]⟩, .slice none 0 0]) := Lib.hid (by
    have := Blk.new (w.alloc (.cells #[.int .u8 c.l.toNat, .bool c.r, .int .u8 c.i.toNat, .int .u32 c.q.toNat, .int .u16 c.m.toNat, .string ⟨c.a.toArray⟩] 25)) 37 #[.int .u8 0, .int .u8 0, .int .u8 0, .string ⟨#[]⟩, .slice none 0 0]
    simpa using this)
  have HLL := Lib.hid hl
  obtain ⟨b, hb⟩ : ∃ b, ckM c = b := ⟨_, rfl⟩
  rw [hb] at KM
  have HMM := Lib.hid hb
  clear hl hb
  cases b
  · have HE : Hid (ckP c = pd0 ∧ ckE c = 2) := Lib.hid (by unfold ckP ckE; rw [HMM.out]; exact ⟨rfl, rfl⟩)
    go_enter Try.func9, Try.ntmps9
    go_wp2_with fail
    refine (KM.out _).mono ?_
    rintro e w1 ⟨rfl, hb1⟩
    have HB1 : Hid (Below w.heap.size w w1) := Lib.hid (HB0.out.trans (hb1.mono HB0.out.size))
    have HR1 := Lib.hid (HR0.out.below hb1 HR0.out.lt)
    clear hb1 HB0 HK0 HR0
    go_wp2_with (refine wpList_store_row rfl 37 (.tmp 2) (.tmp 8) rfl (w.heap.size + 1) rfl _ rfl 37 _ HR1.out (by kernel_rfl) rfl (by kernel_rfl) ?_)
    refine bodyPost_ret (v := .tuple #[.agg #[.int .u8 0, .int .u8 0, .int .u8 0, .string ⟨#[]⟩, .slice none 0 0], .int .i64 2]) (results_cell_slot (p := 2) (q := 3) (by kernel_rfl) _ _ (w.heap.size + 1) 37 _ _ rfl (Blk.row HR1.out _) Try.underlying37 rfl (by kernel_rfl) _ rfl) rfl ?_
    exact ⟨by rw [HE.out.1, HE.out.2]; rfl, below_row HB1.out (by omega) _⟩
  · have hc := ckM_is HMM.out
    obtain ⟨X, hX⟩ : ∃ X, ckS c = X := ⟨_, rfl⟩
    obtain ⟨D1, hD1⟩ : ∃ X, dig 4 c.q.toNat = X := ⟨_, rfl⟩
    obtain ⟨D2, hD2⟩ : ∃ X, dig 2 c.m.toNat = X := ⟨_, rfl⟩
    obtain ⟨D3, hD3⟩ : ∃ X, dig 16 0 = X := ⟨_, rfl⟩
    have KN1 : Hid (∀ w : World, Calls Try.prog 22 #[.int .u64 (c.q.toNat : Int), .int .i64 4] w fun e w' => e = .returned (.string ⟨(dig 4 c.q.toNat).toArray⟩) ∧ Below w.heap.size w w') := Lib.hid (fun w => nums_any 4 c.q.toNat w (by decide) (by have := c.q.toNat_lt; omega))
    have KN2 : Hid (∀ w : World, Calls Try.prog 22 #[.int .u64 (c.m.toNat : Int), .int .i64 2] w fun e w' => e = .returned (.string ⟨(dig 2 c.m.toNat).toArray⟩) ∧ Below w.heap.size w w') := Lib.hid (fun w => nums_any 2 c.m.toNat w (by decide) (by have := c.m.toNat_lt; omega))
    have KN3 : Hid (∀ w : World, Calls Try.prog 22 #[.int .u64 0, .int .i64 16] w fun e w' => e = .returned (.string ⟨(dig 16 0).toArray⟩) ∧ Below w.heap.size w w') := Lib.hid (fun w => nums_any 16 0 w (by decide) (by decide))
    rw [hD1] at KN1
    rw [hD2] at KN2
    rw [hD3] at KN3
    obtain ⟨E2, hE2⟩ : ∃ X, D1 ++ D2 = X := ⟨_, rfl⟩
    obtain ⟨E3, hE3⟩ : ∃ X, E2 ++ c.a = X := ⟨_, rfl⟩
    have hl1 : D1.length = 4 := by rw [← hD1, dig_len]
    have hl2 : D2.length = 2 := by rw [← hD2, dig_len]
    have hl3 : D3.length = 16 := by rw [← hD3, dig_len]
    have hl4 : E2.length = 6 := by rw [← hE2, List.length_append]; omega
    have hl5 : E3.length = 54 := by rw [← hE3, List.length_append]; omega
    have hXX : E3 ++ D3 = X := by rw [← hE3, ← hE2, ← hX]; unfold ckS; rw [hD1, hD2, hD3]; simp
    have a1 : ∀ w : World, (Op.stringOp .add ⟨D1.toArray⟩ ⟨D2.toArray⟩).run Try.prog w = .ok (.string ⟨E2.toArray⟩) w := fun w => by rw [← hE2]; exact run_string_add_lists w D1 D2 (by omega) (by omega)
    have a2 : ∀ w : World, (Op.stringOp .add ⟨E2.toArray⟩ ⟨c.a.toArray⟩).run Try.prog w = .ok (.string ⟨E3.toArray⟩) w := fun w => by rw [← hE3]; exact run_string_add_lists w E2 c.a (by omega) (by omega)
    have a3 : ∀ w : World, (Op.stringOp .add ⟨E3.toArray⟩ ⟨D3.toArray⟩).run Try.prog w = .ok (.string ⟨X.toArray⟩) w := fun w => by rw [← hXX]; exact run_string_add_lists w E3 D3 (by omega) (by omega)
    have hwq : IntKind.u64.wrap (c.q.toNat : Int) = (c.q.toNat : Int) := by have := c.q.toNat_lt; simp [IntKind.wrap, IntKind.signed, IntKind.bits]; omega
    have hwm : IntKind.u64.wrap (c.m.toNat : Int) = (c.m.toNat : Int) := by have := c.m.toNat_lt; simp [IntKind.wrap, IntKind.signed, IntKind.bits]; omega
    have HXX := Lib.hid hX
    have HE : Hid (ckP c = ⟨c.l, 1, ckG c, X, []⟩ ∧ ckE c = 0) := Lib.hid ⟨by rw [← hX]; exact ckP_ok HMM.out, ckE_zero.2 HMM.out⟩
    have hg := u8_mod8 c.i hc.2.2.1
    clear hX hD1 hD2 hD3 hE2 hE3 hl1 hl2 hl3 hl4 hl5 hXX
    cases hr : c.r
    · have HG : Hid (ckG c = c.i) := Lib.hid (by unfold ckG; rw [hr]; rfl)
      rw [hr] at HK0 HB0 HR0
      show Calls _ _ #[.agg #[.int .u8 c.l.toNat, .bool c.r, .int .u8 c.i.toNat, .int .u32 c.q.toNat, .int .u16 c.m.toNat, .string ⟨c.a.toArray⟩]] _ _
      simp only [CkV, hr] at KM
      rw [hr]
      clear hr hc hg
      go_enter Try.func9, Try.ntmps9
      go_wp2_with fail
      refine (KM.out _).mono ?_
      rintro e w1 ⟨rfl, hb1⟩
      have HB1 : Hid (Below w.heap.size w w1) := Lib.hid (HB0.out.trans (hb1.mono HB0.out.size))
      have HK1 := Lib.hid (HK0.out.below hb1 HK0.out.lt)
      have HR1 := Lib.hid (HR0.out.below hb1 HR0.out.lt)
      clear hb1 HB0 HK0 HR0
      have k0 := HK1.out.cell 0
      have k1 := HK1.out.cell 1
      have k2 := HK1.out.cell 2
      have k3 := HK1.out.cell 3
      have k4 := HK1.out.cell 4
      have k5 := HK1.out.cell 5
      simp only [List.getElem?_toArray, List.getElem?_cons_succ, List.getElem?_cons_zero] at k0 k1 k2 k3 k4 k5
      have HK2 := Lib.hid (HK1.out.alloc (.cells #[.int .u8 c.l.toNat, .int .u8 1, .int .u8 c.i.toNat, .string ⟨#[]⟩, .slice none 0 0] 37))
      have HR2 := Lib.hid (HR1.out.alloc (.cells #[.int .u8 c.l.toNat, .int .u8 1, .int .u8 c.i.toNat, .string ⟨#[]⟩, .slice none 0 0] 37))
      have HP2 := Lib.hid (Blk.new w1 37 #[.int .u8 c.l.toNat, .int .u8 1, .int .u8 c.i.toNat, .string ⟨#[]⟩, .slice none 0 0])
      have HB2 : Hid (Below w.heap.size w (w1.alloc (.cells #[.int .u8 c.l.toNat, .int .u8 1, .int .u8 c.i.toNat, .string ⟨#[]⟩, .slice none 0 0] 37))) := Lib.hid (HB1.out.alloc HB1.out.size _)
      have p0 := HK2.out.cell 0
      have p1 := HK2.out.cell 1
      have p2 := HK2.out.cell 2
      have p3 := HK2.out.cell 3
      have p4 := HK2.out.cell 4
      have p5 := HK2.out.cell 5
      simp only [List.getElem?_toArray, List.getElem?_cons_succ, List.getElem?_cons_zero] at p0 p1 p2 p3 p4 p5
      have HG4 : Hid (w.heap.size + 1 < w1.heap.size) := Lib.hid HR1.out.lt
      have HKa := HK1
      have HRa := HR1
      have HBa := HB1
      clear HK1 HR1 HB1
      go_upto_region 6 with (fail)
      have HP3 := Lib.hid (Blk.new w1 37 #[.int .u8 c.l.toNat, .int .u8 1, .int .u8 c.i.toNat, .string ⟨#[]⟩, .slice none 0 0])
      have HK3 := Lib.hid (HKa.out.alloc (.cells #[.int .u8 c.l.toNat, .int .u8 1, .int .u8 c.i.toNat, .string ⟨#[]⟩, .slice none 0 0] 37))
      have HR3 := Lib.hid (HRa.out.alloc (.cells #[.int .u8 c.l.toNat, .int .u8 1, .int .u8 c.i.toNat, .string ⟨#[]⟩, .slice none 0 0] 37))
      have HB3 : Hid (Below w.heap.size w (w1.alloc (.cells #[.int .u8 c.l.toNat, .int .u8 1, .int .u8 c.i.toNat, .string ⟨#[]⟩, .slice none 0 0] 37))) := Lib.hid (HBa.out.alloc HBa.out.size _)
      generalize w1.alloc (.cells #[.int .u8 c.l.toNat, .int .u8 1, .int .u8 c.i.toNat, .string ⟨#[]⟩, .slice none 0 0] 37) = w3 at *
      clear HP2 HK2 HR2 HB2 HKa HRa HBa p0 p1 p2 p3 p4 p5 k0 k1 k2 k3 k4 k5
      try clear q2 q2f
      obtain ⟨g4, hg4⟩ : ∃ g, w1.heap.size = g := ⟨_, rfl⟩
      rw [hg4] at HP3 HG4
      rw [hg4]
      clear hg4
      have HPn : Hid (Blk w3.drew g4 37 #[.int .u8 c.l.toNat, .int .u8 1, .int .u8 c.i.toNat, .string ⟨#[]⟩, .slice none 0 0]) := Lib.hid HP3.out
      have HRn : Hid (Blk w3.drew (w.heap.size + 1) 37 #[.int .u8 0, .int .u8 0, .int .u8 0, .string ⟨#[]⟩, .slice none 0 0]) := Lib.hid HR3.out
      have HBn : Hid (Below w.heap.size w w3.drew) := Lib.hid HB3.out.drew
      have HK3d : Hid (Blk w3.drew w.heap.size 25 #[.int .u8 c.l.toNat, .bool false, .int .u8 c.i.toNat, .int .u32 c.q.toNat, .int .u16 c.m.toNat, .string ⟨c.a.toArray⟩]) := Lib.hid HK3.out
      have s3 := HK3d.out.cell 3
      have s4 := HK3d.out.cell 4
      have s5 := HK3d.out.cell 5
      simp only [List.getElem?_toArray, List.getElem?_cons_succ, List.getElem?_cons_zero] at s3 s4 s5
      have z3 := HPn.out.cell 3
      simp only [List.getElem?_toArray, List.getElem?_cons_succ, List.getElem?_cons_zero] at z3
      have zf := HPn.out.frozen 3
      clear HP3 HR3 HB3 HK3 HK3d
      have HCn : Hid (Chg (only g4) w3 w3.drew) := Lib.hid (Chg.refl _ _).drew
      have hne : w.heap.size ≠ g4 := by have := HG4.out; omega
      go_region_held3 (fun w_ => w_.cell? ⟨w.heap.size, 3, none⟩ = some (.int .u32 c.q.toNat) ∧ w_.cell? ⟨w.heap.size, 4, none⟩ = some (.int .u16 c.m.toNat) ∧ w_.cell? ⟨w.heap.size, 5, none⟩ = some (.string ⟨c.a.toArray⟩) ∧ Hid (Chg (only g4) w3 w_)) (first | exact keepS13 s3 s4 s5 HCn hne _ | go_keep)
        (first
          | (go_at_call_of 22 c.q; refine (KN1.out _).mono ?_; rintro r w_ ⟨rfl, hb_⟩; obtain ⟨s3, s4, s5, HPn, HRn, HBn, z3, zf⟩ := keep13 s3 s4 s5 HPn HRn HBn z3 hb_; replace HCn : Hid (Chg (only g4) w3 w_) := Lib.hid (Chg.trans HCn.out (Chg.of_below hb_)); clear hb_)
          | (go_at_call_of 22 c.m; refine (KN2.out _).mono ?_; rintro r w_ ⟨rfl, hb_⟩; obtain ⟨s3, s4, s5, HPn, HRn, HBn, z3, zf⟩ := keep13 s3 s4 s5 HPn HRn HBn z3 hb_; replace HCn : Hid (Chg (only g4) w3 w_) := Lib.hid (Chg.trans HCn.out (Chg.of_below hb_)); clear hb_)
          | (go_at_call 22; refine (KN3.out _).mono ?_; rintro r w_ ⟨rfl, hb_⟩; obtain ⟨s3, s4, s5, HPn, HRn, HBn, z3, zf⟩ := keep13 s3 s4 s5 HPn HRn HBn z3 hb_; replace HCn : Hid (Chg (only g4) w3 w_) := Lib.hid (Chg.trans HCn.out (Chg.of_below hb_)); clear hb_)
          | fail "no")
      have WX : ∃ wX, wX = w_.setCell ⟨g4, 3, none⟩ (.string ⟨X.toArray⟩) := ⟨_, rfl⟩
      obtain ⟨wX, hX⟩ := WX
      have HPe : Hid (Blk wX g4 37 #[.int .u8 c.l.toNat, .int .u8 1, .int .u8 c.i.toNat, .string ⟨X.toArray⟩, .slice none 0 0]) := Lib.hid (by
        have := HPn.out.put 3 (.string ⟨X.toArray⟩)
        rw [hX]
        simpa using this)
      have HRe : Hid (Blk wX (w.heap.size + 1) 37 #[.int .u8 0, .int .u8 0, .int .u8 0, .string ⟨#[]⟩, .slice none 0 0]) := Lib.hid (by rw [hX]; exact HRn.out.far (p := ⟨g4, 3, none⟩) (by have := HG4.out; show w.heap.size + 1 ≠ g4; omega) _)
      have HBe : Hid (Below w.heap.size w wX) := Lib.hid (by rw [hX]; exact HBn.out.setCell (by have := HG4.out; show w.heap.size ≤ g4; omega) _)
      rw [← hX]
      have y0 := HPe.out.cell 0
      have y1 := HPe.out.cell 1
      have y2 := HPe.out.cell 2
      have y3 := HPe.out.cell 3
      have y4 := HPe.out.cell 4
      simp only [List.getElem?_toArray, List.getElem?_cons_succ, List.getElem?_cons_zero] at y0 y1 y2 y3 y4
      clear hX HPn HRn HBn s3 s4 s5 z3 zf
      go_wp2_with (refine wpList_store_row rfl 37 (.tmp 2) (.tmp 35) rfl (w.heap.size + 1) rfl _ rfl 37 _ HRe.out (by kernel_rfl) rfl (by kernel_rfl) ?_)
      refine bodyPost_ret (v := .tuple #[.agg #[.int .u8 c.l.toNat, .int .u8 1, .int .u8 c.i.toNat, .string ⟨X.toArray⟩, .slice none 0 0], .int .i64 0]) (results_cell_slot (p := 2) (q := 3) (by kernel_rfl) _ _ (w.heap.size + 1) 37 _ _ rfl (Blk.row HRe.out _) Try.underlying37 rfl (by kernel_rfl) _ rfl) rfl ?_
      exact ⟨by rw [HE.out.1, HE.out.2, HG.out]; rfl, below_row HBe.out (by omega) _⟩
    · have HG : Hid (ckG c = c.i + 128) := Lib.hid (by unfold ckG; rw [hr]; rfl)
      rw [hr] at HK0 HB0 HR0
      show Calls _ _ #[.agg #[.int .u8 c.l.toNat, .bool c.r, .int .u8 c.i.toNat, .int .u32 c.q.toNat, .int .u16 c.m.toNat, .string ⟨c.a.toArray⟩]] _ _
      simp only [CkV, hr] at KM
      rw [hr]
      obtain ⟨y, hy⟩ : ∃ y, c.i + 128 = y := ⟨_, rfl⟩
      have hyv : IntKind.u8.wrap ((c.i.toNat : Int) + 128) = (y.toNat : Int) := by
        rw [← hy, UInt8.toNat_add]
        simp [IntKind.wrap, IntKind.signed, IntKind.bits]
      rw [hy] at HG
      clear hy
      clear hr hc hg
      go_enter Try.func9, Try.ntmps9
      go_wp2_with fail
      refine (KM.out _).mono ?_
      rintro e w1 ⟨rfl, hb1⟩
      have HB1 : Hid (Below w.heap.size w w1) := Lib.hid (HB0.out.trans (hb1.mono HB0.out.size))
      have HK1 := Lib.hid (HK0.out.below hb1 HK0.out.lt)
      have HR1 := Lib.hid (HR0.out.below hb1 HR0.out.lt)
      clear hb1 HB0 HK0 HR0
      have k0 := HK1.out.cell 0
      have k1 := HK1.out.cell 1
      have k2 := HK1.out.cell 2
      have k3 := HK1.out.cell 3
      have k4 := HK1.out.cell 4
      have k5 := HK1.out.cell 5
      simp only [List.getElem?_toArray, List.getElem?_cons_succ, List.getElem?_cons_zero] at k0 k1 k2 k3 k4 k5
      have HK2 := Lib.hid (HK1.out.alloc (.cells #[.int .u8 c.l.toNat, .int .u8 1, .int .u8 c.i.toNat, .string ⟨#[]⟩, .slice none 0 0] 37))
      have HR2 := Lib.hid (HR1.out.alloc (.cells #[.int .u8 c.l.toNat, .int .u8 1, .int .u8 c.i.toNat, .string ⟨#[]⟩, .slice none 0 0] 37))
      have HP2 := Lib.hid (Blk.new w1 37 #[.int .u8 c.l.toNat, .int .u8 1, .int .u8 c.i.toNat, .string ⟨#[]⟩, .slice none 0 0])
      have HB2 : Hid (Below w.heap.size w (w1.alloc (.cells #[.int .u8 c.l.toNat, .int .u8 1, .int .u8 c.i.toNat, .string ⟨#[]⟩, .slice none 0 0] 37))) := Lib.hid (HB1.out.alloc HB1.out.size _)
      have p0 := HK2.out.cell 0
      have p1 := HK2.out.cell 1
      have p2 := HK2.out.cell 2
      have p3 := HK2.out.cell 3
      have p4 := HK2.out.cell 4
      have p5 := HK2.out.cell 5
      simp only [List.getElem?_toArray, List.getElem?_cons_succ, List.getElem?_cons_zero] at p0 p1 p2 p3 p4 p5
      have HG4 : Hid (w.heap.size + 1 < w1.heap.size) := Lib.hid HR1.out.lt
      have HKa := HK1
      have HRa := HR1
      have HBa := HB1
      clear HK1 HR1 HB1
      have q2 := HP2.out.cell 2
      simp only [List.getElem?_toArray, List.getElem?_cons_succ, List.getElem?_cons_zero] at q2
      have q2f := HP2.out.frozen 2
      go_upto_region 6 with (fail)
      have HP3 := Lib.hid (Blk.new w1 37 #[.int .u8 c.l.toNat, .int .u8 1, .int .u8 y.toNat, .string ⟨#[]⟩, .slice none 0 0])
      have HK3 := Lib.hid (HKa.out.alloc (.cells #[.int .u8 c.l.toNat, .int .u8 1, .int .u8 y.toNat, .string ⟨#[]⟩, .slice none 0 0] 37))
      have HR3 := Lib.hid (HRa.out.alloc (.cells #[.int .u8 c.l.toNat, .int .u8 1, .int .u8 y.toNat, .string ⟨#[]⟩, .slice none 0 0] 37))
      have HB3 : Hid (Below w.heap.size w (w1.alloc (.cells #[.int .u8 c.l.toNat, .int .u8 1, .int .u8 y.toNat, .string ⟨#[]⟩, .slice none 0 0] 37))) := Lib.hid (HBa.out.alloc HBa.out.size _)
      generalize w1.alloc (.cells #[.int .u8 c.l.toNat, .int .u8 1, .int .u8 y.toNat, .string ⟨#[]⟩, .slice none 0 0] 37) = w3 at *
      clear HP2 HK2 HR2 HB2 HKa HRa HBa p0 p1 p2 p3 p4 p5 k0 k1 k2 k3 k4 k5
      try clear q2 q2f
      obtain ⟨g4, hg4⟩ : ∃ g, w1.heap.size = g := ⟨_, rfl⟩
      rw [hg4] at HP3 HG4
      rw [hg4]
      clear hg4
      have HPn : Hid (Blk w3.drew g4 37 #[.int .u8 c.l.toNat, .int .u8 1, .int .u8 y.toNat, .string ⟨#[]⟩, .slice none 0 0]) := Lib.hid HP3.out
      have HRn : Hid (Blk w3.drew (w.heap.size + 1) 37 #[.int .u8 0, .int .u8 0, .int .u8 0, .string ⟨#[]⟩, .slice none 0 0]) := Lib.hid HR3.out
      have HBn : Hid (Below w.heap.size w w3.drew) := Lib.hid HB3.out.drew
      have HK3d : Hid (Blk w3.drew w.heap.size 25 #[.int .u8 c.l.toNat, .bool true, .int .u8 c.i.toNat, .int .u32 c.q.toNat, .int .u16 c.m.toNat, .string ⟨c.a.toArray⟩]) := Lib.hid HK3.out
      have s3 := HK3d.out.cell 3
      have s4 := HK3d.out.cell 4
      have s5 := HK3d.out.cell 5
      simp only [List.getElem?_toArray, List.getElem?_cons_succ, List.getElem?_cons_zero] at s3 s4 s5
      have z3 := HPn.out.cell 3
      simp only [List.getElem?_toArray, List.getElem?_cons_succ, List.getElem?_cons_zero] at z3
      have zf := HPn.out.frozen 3
      clear HP3 HR3 HB3 HK3 HK3d
      have HCn : Hid (Chg (only g4) w3 w3.drew) := Lib.hid (Chg.refl _ _).drew
      have hne : w.heap.size ≠ g4 := by have := HG4.out; omega
      go_region_held3 (fun w_ => w_.cell? ⟨w.heap.size, 3, none⟩ = some (.int .u32 c.q.toNat) ∧ w_.cell? ⟨w.heap.size, 4, none⟩ = some (.int .u16 c.m.toNat) ∧ w_.cell? ⟨w.heap.size, 5, none⟩ = some (.string ⟨c.a.toArray⟩) ∧ Hid (Chg (only g4) w3 w_)) (first | exact keepS13 s3 s4 s5 HCn hne _ | go_keep)
        (first
          | (go_at_call_of 22 c.q; refine (KN1.out _).mono ?_; rintro r w_ ⟨rfl, hb_⟩; obtain ⟨s3, s4, s5, HPn, HRn, HBn, z3, zf⟩ := keep13 s3 s4 s5 HPn HRn HBn z3 hb_; replace HCn : Hid (Chg (only g4) w3 w_) := Lib.hid (Chg.trans HCn.out (Chg.of_below hb_)); clear hb_)
          | (go_at_call_of 22 c.m; refine (KN2.out _).mono ?_; rintro r w_ ⟨rfl, hb_⟩; obtain ⟨s3, s4, s5, HPn, HRn, HBn, z3, zf⟩ := keep13 s3 s4 s5 HPn HRn HBn z3 hb_; replace HCn : Hid (Chg (only g4) w3 w_) := Lib.hid (Chg.trans HCn.out (Chg.of_below hb_)); clear hb_)
          | (go_at_call 22; refine (KN3.out _).mono ?_; rintro r w_ ⟨rfl, hb_⟩; obtain ⟨s3, s4, s5, HPn, HRn, HBn, z3, zf⟩ := keep13 s3 s4 s5 HPn HRn HBn z3 hb_; replace HCn : Hid (Chg (only g4) w3 w_) := Lib.hid (Chg.trans HCn.out (Chg.of_below hb_)); clear hb_)
          | fail "no")
      have WX : ∃ wX, wX = w_.setCell ⟨g4, 3, none⟩ (.string ⟨X.toArray⟩) := ⟨_, rfl⟩
      obtain ⟨wX, hX⟩ := WX
      have HPe : Hid (Blk wX g4 37 #[.int .u8 c.l.toNat, .int .u8 1, .int .u8 y.toNat, .string ⟨X.toArray⟩, .slice none 0 0]) := Lib.hid (by
        have := HPn.out.put 3 (.string ⟨X.toArray⟩)
        rw [hX]
        simpa using this)
      have HRe : Hid (Blk wX (w.heap.size + 1) 37 #[.int .u8 0, .int .u8 0, .int .u8 0, .string ⟨#[]⟩, .slice none 0 0]) := Lib.hid (by rw [hX]; exact HRn.out.far (p := ⟨g4, 3, none⟩) (by have := HG4.out; show w.heap.size + 1 ≠ g4; omega) _)
      have HBe : Hid (Below w.heap.size w wX) := Lib.hid (by rw [hX]; exact HBn.out.setCell (by have := HG4.out; show w.heap.size ≤ g4; omega) _)
      rw [← hX]
      have y0 := HPe.out.cell 0
      have y1 := HPe.out.cell 1
      have y2 := HPe.out.cell 2
      have y3 := HPe.out.cell 3
      have y4 := HPe.out.cell 4
      simp only [List.getElem?_toArray, List.getElem?_cons_succ, List.getElem?_cons_zero] at y0 y1 y2 y3 y4
      clear hX HPn HRn HBn s3 s4 s5 z3 zf
      go_wp2_with (refine wpList_store_row rfl 37 (.tmp 2) (.tmp 35) rfl (w.heap.size + 1) rfl _ rfl 37 _ HRe.out (by kernel_rfl) rfl (by kernel_rfl) ?_)
      refine bodyPost_ret (v := .tuple #[.agg #[.int .u8 c.l.toNat, .int .u8 1, .int .u8 y.toNat, .string ⟨X.toArray⟩, .slice none 0 0], .int .i64 0]) (results_cell_slot (p := 2) (q := 3) (by kernel_rfl) _ _ (w.heap.size + 1) 37 _ _ rfl (Blk.row HRe.out _) Try.underlying37 rfl (by kernel_rfl) _ rfl) rfl ?_
      exact ⟨by rw [HE.out.1, HE.out.2, HG.out]; rfl, below_row HBe.out (by omega) _⟩
end Go.Proofs.Ytmhhhcphdnnopaa
