/- Layer 13: CcmBack's walk, over the package's contracts. -/
import Derived.Test.YtmhhhcphdnnopaaLaw13
import Derived.Test.YtmhhhcphdnnopaaCfTk
import Derived.Deep.RegionHeld3
import Derived.Deep.DeepCutAuto
namespace Go.Proofs.Ytmhhhcphdnnopaa
open Go.RowKit
set_option linter.unusedVariables false
set_option linter.unusedSimpArgs false
set_option maxRecDepth 100000

theorem keep13b {W w w' : World} {g19 g15 g17 gp : Nat} {X : Ck} {P2 p : Pd} (h0 : w.cell? ⟨g19, 0, none⟩ = some (.int .u8 X.l.toNat)) (h1 : w.cell? ⟨g19, 1, none⟩ = some (.bool X.r)) (h2 : w.cell? ⟨g19, 2, none⟩ = some (.int .u8 X.i.toNat)) (h3 : w.cell? ⟨g19, 3, none⟩ = some (.int .u32 X.q.toNat)) (h4 : w.cell? ⟨g19, 4, none⟩ = some (.int .u16 X.m.toNat)) (h5 : w.cell? ⟨g19, 5, none⟩ = some (.string ⟨X.a.toArray⟩)) (h6 : w.cell? ⟨g15, 0, none⟩ = some (.int .u8 X.l.toNat)) (h7 : w.cell? ⟨g15, 1, none⟩ = some (.bool X.r)) (h8 : w.cell? ⟨g15, 2, none⟩ = some (.int .u8 X.i.toNat)) (h9 : w.cell? ⟨g15, 3, none⟩ = some (.int .u32 X.q.toNat)) (h10 : w.cell? ⟨g15, 4, none⟩ = some (.int .u16 X.m.toNat)) (h11 : w.cell? ⟨g15, 5, none⟩ = some (.string ⟨X.a.toArray⟩)) (h12 : w.cell? ⟨g17, 3, none⟩ = some (.string ⟨P2.x.toArray⟩)) (h13 : w.cell? ⟨gp, 3, none⟩ = some (.string ⟨p.x.toArray⟩))  (hB : Hid (Below W.heap.size W w)) (hb : Below w.heap.size w w') : w'.cell? ⟨g19, 0, none⟩ = some (.int .u8 X.l.toNat) ∧ w'.cell? ⟨g19, 1, none⟩ = some (.bool X.r) ∧ w'.cell? ⟨g19, 2, none⟩ = some (.int .u8 X.i.toNat) ∧ w'.cell? ⟨g19, 3, none⟩ = some (.int .u32 X.q.toNat) ∧ w'.cell? ⟨g19, 4, none⟩ = some (.int .u16 X.m.toNat) ∧ w'.cell? ⟨g19, 5, none⟩ = some (.string ⟨X.a.toArray⟩) ∧ w'.cell? ⟨g15, 0, none⟩ = some (.int .u8 X.l.toNat) ∧ w'.cell? ⟨g15, 1, none⟩ = some (.bool X.r) ∧ w'.cell? ⟨g15, 2, none⟩ = some (.int .u8 X.i.toNat) ∧ w'.cell? ⟨g15, 3, none⟩ = some (.int .u32 X.q.toNat) ∧ w'.cell? ⟨g15, 4, none⟩ = some (.int .u16 X.m.toNat) ∧ w'.cell? ⟨g15, 5, none⟩ = some (.string ⟨X.a.toArray⟩) ∧ w'.cell? ⟨g17, 3, none⟩ = some (.string ⟨P2.x.toArray⟩) ∧ w'.cell? ⟨gp, 3, none⟩ = some (.string ⟨p.x.toArray⟩) ∧ Hid (Below W.heap.size W w') := by
  have hk : ∀ {g i : Nat} {v : Value}, w.cell? ⟨g, i, none⟩ = some v → w'.cell? ⟨g, i, none⟩ = some v := fun {g i v} h => (hb.cell (p := ⟨g, i, none⟩) (World.block_lt_of_cell? w _ h)).trans h
  exact ⟨hk h0, hk h1, hk h2, hk h3, hk h4, hk h5, hk h6, hk h7, hk h8, hk h9, hk h10, hk h11, hk h12, hk h13, Lib.hid (hB.out.trans (hb.mono hB.out.size))⟩
set_option maxHeartbeats 8000000 in
theorem ccmback_walk (HPC : CcPutC) (HTC : CcTakeC) (HNC : CcTicksC) (W : World) (A : Option Addr) (k : Nat) (p : Pd) (c : Ck) (t : List UInt8) (hE : Els 2 tlV W A p.t) :
    Calls Try.prog 5 #[CkV c, PdV p A k, .string ⟨t.toArray⟩] W fun e w' => e = .returned (.bool true) ∧ Below W.heap.size W w' := by
  have HP := Lib.hid HPC
  have HT := Lib.hid HTC
  have HN := Lib.hid HNC
  clear HPC HTC HNC
  have HB0 : Hid (Below W.heap.size W ((W.alloc (.cells #[.int .u8 c.l.toNat, .bool c.r, .int .u8 c.i.toNat, .int .u32 c.q.toNat, .int .u16 c.m.toNat, .string ⟨c.a.toArray⟩] 33)).alloc (.cells #[.int .u8 p.l.toNat, .int .u8 p.o.toNat, .int .u8 p.g.toNat, .string ⟨p.x.toArray⟩, .slice A p.t.length k] 37))) := Lib.hid (((Below.refl _ _).alloc (Nat.le_refl _) _).alloc (by simp) _)
  have HKc0 : Hid (Blk ((W.alloc (.cells #[.int .u8 c.l.toNat, .bool c.r, .int .u8 c.i.toNat, .int .u32 c.q.toNat, .int .u16 c.m.toNat, .string ⟨c.a.toArray⟩] 33)).alloc (.cells #[.int .u8 p.l.toNat, .int .u8 p.o.toNat, .int .u8 p.g.toNat, .string ⟨p.x.toArray⟩, .slice A p.t.length k] 37)) W.heap.size 33 #[.int .u8 c.l.toNat, .bool c.r, .int .u8 c.i.toNat, .int .u32 c.q.toNat, .int .u16 c.m.toNat, .string ⟨c.a.toArray⟩]) := Lib.hid ((Blk.new _ _ _).alloc _)
  have HKp0 : Hid (Blk ((W.alloc (.cells #[.int .u8 c.l.toNat, .bool c.r, .int .u8 c.i.toNat, .int .u32 c.q.toNat, .int .u16 c.m.toNat, .string ⟨c.a.toArray⟩] 33)).alloc (.cells #[.int .u8 p.l.toNat, .int .u8 p.o.toNat, .int .u8 p.g.toNat, .string ⟨p.x.toArray⟩, .slice A p.t.length k] 37)) (W.heap.size + 1) 37 #[.int .u8 p.l.toNat, .int .u8 p.o.toNat, .int .u8 p.g.toNat, .string ⟨p.x.toArray⟩, .slice A p.t.length k]) := Lib.hid (by
    have := Blk.new (W.alloc (.cells #[.int .u8 c.l.toNat, .bool c.r, .int .u8 c.i.toNat, .int .u32 c.q.toNat, .int .u16 c.m.toNat, .string ⟨c.a.toArray⟩] 33)) 37 #[.int .u8 p.l.toNat, .int .u8 p.o.toNat, .int .u8 p.g.toNat, .string ⟨p.x.toArray⟩, .slice A p.t.length k]
    simpa using this)
  have HEA : Hid (Els 2 tlV ((W.alloc (.cells #[.int .u8 c.l.toNat, .bool c.r, .int .u8 c.i.toNat, .int .u32 c.q.toNat, .int .u16 c.m.toNat, .string ⟨c.a.toArray⟩] 33)).alloc (.cells #[.int .u8 p.l.toNat, .int .u8 p.o.toNat, .int .u8 p.g.toNat, .string ⟨p.x.toArray⟩, .slice A p.t.length k] 37)) A p.t) := Lib.hid (hE.next HB0.out)
  clear hE
  by_cases h1 : 100 < c.a.length
  · have p1 : (100 : Int) < (c.a.length : Int) := by omega
    clear h1
    go_enter Try.func5, Try.ntmps5
    go_wp2_with fail
    refine (wakes13 HP.out HT.out HN.out _).mono ?_
    rintro r w1 ⟨rfl, hb1⟩
    have HB1 : Hid (Below W.heap.size W w1) := Lib.hid (HB0.out.trans (hb1.mono HB0.out.size))
    clear hb1 HB0
    go_wp2
    go_ret
    exact ⟨rfl, HB1.out⟩
  · have p1 : ¬ (100 : Int) < (c.a.length : Int) := by omega
    by_cases h2 : 400 < p.x.length
    · have p2 : (400 : Int) < (p.x.length : Int) := by omega
      clear h1 h2
      go_enter Try.func5, Try.ntmps5
      go_wp2_with fail
      refine (wakes13 HP.out HT.out HN.out _).mono ?_
      rintro r w1 ⟨rfl, hb1⟩
      have HB1 : Hid (Below W.heap.size W w1) := Lib.hid (HB0.out.trans (hb1.mono HB0.out.size))
      clear hb1 HB0
      go_wp2
      go_ret
      exact ⟨rfl, HB1.out⟩
    · have p2 : ¬ (400 : Int) < (p.x.length : Int) := by omega
      by_cases h3 : 20 < p.t.length
      · have p3 : (20 : Int) < (p.t.length : Int) := by omega
        clear h1 h2 h3
        go_enter Try.func5, Try.ntmps5
        go_wp2_with fail
        refine (wakes13 HP.out HT.out HN.out _).mono ?_
        rintro r w1 ⟨rfl, hb1⟩
        have HB1 : Hid (Below W.heap.size W w1) := Lib.hid (HB0.out.trans (hb1.mono HB0.out.size))
        clear hb1 HB0
        go_wp2
        go_ret
        exact ⟨rfl, HB1.out⟩
      · have p3 : ¬ (20 : Int) < (p.t.length : Int) := by omega
        by_cases h4 : 1000 < t.length
        · have p4 : (1000 : Int) < (t.length : Int) := by omega
          clear h1 h2 h3 h4
          go_enter Try.func5, Try.ntmps5
          go_wp2_with fail
          refine (wakes13 HP.out HT.out HN.out _).mono ?_
          rintro r w1 ⟨rfl, hb1⟩
          have HB1 : Hid (Below W.heap.size W w1) := Lib.hid (HB0.out.trans (hb1.mono HB0.out.size))
          clear hb1 HB0
          go_wp2
          go_ret
          exact ⟨rfl, HB1.out⟩
        · have p4 : ¬ (1000 : Int) < (t.length : Int) := by omega
          have KP := Lib.hid (fun w => HP.out c w (by omega))
          have KO := Lib.hid (fun w h => of12_any A k p w h (by omega))
          have KT2 := Lib.hid (fun A k w h => HT.out A k p w h (by omega))
          have HTL := Lib.hid (show t.length ≤ 1000 by omega)
          have hFX : (ckF p = 4 ∧ ckX p = ck0) ∨ (ckF p = 0 ∧ ckM (ckX p) = true ∧ p.x.length = 70 ∧ (ckS (ckX p)).take 54 = p.x.take 54) := by
            by_cases h : ckF p = 0
            · obtain ⟨_, e2, e3, e4⟩ := ckF_ok h
              exact .inr ⟨h, by rw [e4]; exact e3, e2, by rw [e4]; exact ckS_Q h⟩
            · exact .inl (ckF_no h)
          have HFX0 := Lib.hid hFX
          obtain ⟨X, hX⟩ : ∃ X, ckX p = X := ⟨_, rfl⟩
          obtain ⟨F, hF⟩ : ∃ E, ckF p = E := ⟨_, rfl⟩
          rw [hX, hF] at KT2
          have HFX : Hid ((F = 4 ∧ X = ck0) ∨ (F = 0 ∧ ckM X = true ∧ (p.x.length = 70 ∧ (ckS X).take 54 = p.x.take 54))) := Lib.hid (by rw [← hX, ← hF]; exact hFX)
          clear h1 h2 h3 h4 hFX HFX0 hX hF
          by_cases hM : ckM c = true
          · have hE0 := ckE_zero.2 hM
            have hPD := ckP_pd hM
            have hfp := ckF_P hM
            have hPt := ckP_t c
            obtain ⟨P, hP⟩ : ∃ P, ckP c = P := ⟨_, rfl⟩
            rw [hP, hE0] at KP
            rw [hP] at hPD hfp hPt
            have hlen : P.t.length = 0 := by rw [hPt]; rfl
            have hxl : P.x.length = 70 := by rw [← hP, ckP_ok hM]; exact ckS_len hM
            have hbk := cf_back hPD t
            have hvl := pdP_len P
            have KC := Lib.hid (fun A k w => cfput_any A k P w (by rw [hPt]; exact els_nilL _ _) (by omega))
            obtain ⟨V, hV⟩ : ∃ V, pdP P = V := ⟨_, rfl⟩
            rw [hV] at hbk hvl
            rw [hV, hPD] at KC
            obtain ⟨Z, hZ⟩ : ∃ Z, V ++ t = Z := ⟨_, rfl⟩
            rw [hZ] at hbk
            have KZ := Lib.hid (fun w => cftake_any Z w (by rw [← hZ, List.length_append]; have := HTL.out; omega))
            rw [hbk.1, hbk.2] at KZ
            have KT1 := Lib.hid (fun A k w => HT.out A k P w (by rw [hPt]; exact els_nilL _ _) (by omega))
            rw [hfp.1, hfp.2] at KT1
            simp only [PdV, hlen] at KP KC KZ KT1
            have a1 : ∀ w : World, (Op.stringOp .add ⟨V.toArray⟩ ⟨t.toArray⟩).run Try.prog w = .ok (.string ⟨Z.toArray⟩) w := fun w => by rw [← hZ]; exact run_string_add_lists w V t (by omega) (by have := HTL.out; omega)
            have q := fun w => run_eqCk c c w
            simp only [decide_true] at q
            clear hM hE0 hPD hfp hPt hP hlen hxl hbk hvl hV hZ
            go_enter Try.func5, Try.ntmps5
            go_wp2_with fail
            refine (KP.out _).mono ?_
            rintro r w1 ⟨A1, k1, rfl, hz, hb1⟩
            have HB1 : Hid (Below W.heap.size W w1) := Lib.hid (HB0.out.trans (hb1.mono HB0.out.size))
            have HKc1 := Lib.hid (HKc0.out.below hb1 HKc0.out.lt)
            have HKp1 := Lib.hid (HKp0.out.below hb1 HKp0.out.lt)
            have HE1 : Hid (Els 2 tlV w1 A p.t) := Lib.hid (HEA.out.next hb1)
            clear hb1 HB0 HKc0 HKp0 HEA
            clear hz
            have HB2 : Hid (Below W.heap.size W (w1.alloc (.cells #[.int .u8 P.l.toNat, .int .u8 P.o.toNat, .int .u8 P.g.toNat, .string ⟨P.x.toArray⟩, .slice A1 0 k1] 29))) := Lib.hid (HB1.out.alloc HB1.out.size _)
            have HKc2 := Lib.hid (HKc1.out.alloc (.cells #[.int .u8 P.l.toNat, .int .u8 P.o.toNat, .int .u8 P.g.toNat, .string ⟨P.x.toArray⟩, .slice A1 0 k1] 29))
            have HKp2 := Lib.hid (HKp1.out.alloc (.cells #[.int .u8 P.l.toNat, .int .u8 P.o.toNat, .int .u8 P.g.toNat, .string ⟨P.x.toArray⟩, .slice A1 0 k1] 29))
            have HE2 : Hid (Els 2 tlV (w1.alloc (.cells #[.int .u8 P.l.toNat, .int .u8 P.o.toNat, .int .u8 P.g.toNat, .string ⟨P.x.toArray⟩, .slice A1 0 k1] 29)) A p.t) := Lib.hid (HE1.out.next ((Below.refl _ _).alloc (Nat.le_refl _) _))
            have HM2 := Lib.hid (Blk.new w1 29 #[.int .u8 P.l.toNat, .int .u8 P.o.toNat, .int .u8 P.g.toNat, .string ⟨P.x.toArray⟩, .slice A1 0 k1])
            clear HB1 HKc1 HKp1 HE1
            have a0 := HM2.out.cell 0
            have a1 := HM2.out.cell 1
            have a2 := HM2.out.cell 2
            have a3 := HM2.out.cell 3
            have a4 := HM2.out.cell 4
            simp only [List.getElem?_toArray, List.getElem?_cons_succ, List.getElem?_cons_zero] at a0 a1 a2 a3 a4
            go_wp2_with fail
            refine (KC.out _ _ _).mono ?_
            rintro r w3 ⟨rfl, hb3⟩
            have HB3 : Hid (Below W.heap.size W w3) := Lib.hid (HB2.out.trans (hb3.mono HB2.out.size))
            have HKc3 := Lib.hid (HKc2.out.below hb3 HKc2.out.lt)
            have HKp3 := Lib.hid (HKp2.out.below hb3 HKp2.out.lt)
            have HM3 := Lib.hid (HM2.out.below hb3 HM2.out.lt)
            have HE3 : Hid (Els 2 tlV w3 A p.t) := Lib.hid (HE2.out.next hb3)
            clear hb3 HB2 HKc2 HKp2 HM2 HE2
            clear a0 a1 a2 a3 a4
            go_wp2_with fail
            refine (KZ.out _).mono ?_
            rintro r w4 ⟨A3, k3, rfl, hz1, hz2, hb4⟩
            have HB4 : Hid (Below W.heap.size W w4) := Lib.hid (HB3.out.trans (hb4.mono HB3.out.size))
            have HKc4 := Lib.hid (HKc3.out.below hb4 HKc3.out.lt)
            have HKp4 := Lib.hid (HKp3.out.below hb4 HKp3.out.lt)
            have HM4 := Lib.hid (HM3.out.below hb4 HM3.out.lt)
            have HE4 : Hid (Els 2 tlV w4 A p.t) := Lib.hid (HE3.out.next hb4)
            clear hb4 HB3 HKc3 HKp3 HM3 HE3
            clear hz1 hz2
            have HB5 : Hid (Below W.heap.size W (w4.alloc (.cells #[.int .u8 P.l.toNat, .int .u8 P.o.toNat, .int .u8 P.g.toNat, .string ⟨P.x.toArray⟩, .slice A3 0 k3] 29))) := Lib.hid (HB4.out.alloc HB4.out.size _)
            have HKc5 := Lib.hid (HKc4.out.alloc (.cells #[.int .u8 P.l.toNat, .int .u8 P.o.toNat, .int .u8 P.g.toNat, .string ⟨P.x.toArray⟩, .slice A3 0 k3] 29))
            have HKp5 := Lib.hid (HKp4.out.alloc (.cells #[.int .u8 P.l.toNat, .int .u8 P.o.toNat, .int .u8 P.g.toNat, .string ⟨P.x.toArray⟩, .slice A3 0 k3] 29))
            have HM5 := Lib.hid (HM4.out.alloc (.cells #[.int .u8 P.l.toNat, .int .u8 P.o.toNat, .int .u8 P.g.toNat, .string ⟨P.x.toArray⟩, .slice A3 0 k3] 29))
            have HE5 : Hid (Els 2 tlV (w4.alloc (.cells #[.int .u8 P.l.toNat, .int .u8 P.o.toNat, .int .u8 P.g.toNat, .string ⟨P.x.toArray⟩, .slice A3 0 k3] 29)) A p.t) := Lib.hid (HE4.out.next ((Below.refl _ _).alloc (Nat.le_refl _) _))
            have HN5 := Lib.hid (Blk.new w4 29 #[.int .u8 P.l.toNat, .int .u8 P.o.toNat, .int .u8 P.g.toNat, .string ⟨P.x.toArray⟩, .slice A3 0 k3])
            clear HB4 HKc4 HKp4 HM4 HE4
            have a0 := HN5.out.cell 0
            have a1 := HN5.out.cell 1
            have a2 := HN5.out.cell 2
            have a3 := HN5.out.cell 3
            have a4 := HN5.out.cell 4
            simp only [List.getElem?_toArray, List.getElem?_cons_succ, List.getElem?_cons_zero] at a0 a1 a2 a3 a4
            go_wp2_with fail
            refine (KT1.out _ _ _).mono ?_
            rintro r w6 ⟨rfl, hb6⟩
            have HB6 : Hid (Below W.heap.size W w6) := Lib.hid (HB5.out.trans (hb6.mono HB5.out.size))
            have HKc6 := Lib.hid (HKc5.out.below hb6 HKc5.out.lt)
            have HKp6 := Lib.hid (HKp5.out.below hb6 HKp5.out.lt)
            have HM6 := Lib.hid (HM5.out.below hb6 HM5.out.lt)
            have HN6 := Lib.hid (HN5.out.below hb6 HN5.out.lt)
            have HE6 : Hid (Els 2 tlV w6 A p.t) := Lib.hid (HE5.out.next hb6)
            clear hb6 HB5 HKc5 HKp5 HM5 HN5 HE5
            clear a0 a1 a2 a3 a4
            clear HN6
            have HB7 : Hid (Below W.heap.size W (w6.alloc (.cells #[.int .u8 c.l.toNat, .bool c.r, .int .u8 c.i.toNat, .int .u32 c.q.toNat, .int .u16 c.m.toNat, .string ⟨c.a.toArray⟩] 33))) := Lib.hid (HB6.out.alloc HB6.out.size _)
            have HKc7 := Lib.hid (HKc6.out.alloc (.cells #[.int .u8 c.l.toNat, .bool c.r, .int .u8 c.i.toNat, .int .u32 c.q.toNat, .int .u16 c.m.toNat, .string ⟨c.a.toArray⟩] 33))
            have HKp7 := Lib.hid (HKp6.out.alloc (.cells #[.int .u8 c.l.toNat, .bool c.r, .int .u8 c.i.toNat, .int .u32 c.q.toNat, .int .u16 c.m.toNat, .string ⟨c.a.toArray⟩] 33))
            have HM7 := Lib.hid (HM6.out.alloc (.cells #[.int .u8 c.l.toNat, .bool c.r, .int .u8 c.i.toNat, .int .u32 c.q.toNat, .int .u16 c.m.toNat, .string ⟨c.a.toArray⟩] 33))
            have HE7 : Hid (Els 2 tlV (w6.alloc (.cells #[.int .u8 c.l.toNat, .bool c.r, .int .u8 c.i.toNat, .int .u32 c.q.toNat, .int .u16 c.m.toNat, .string ⟨c.a.toArray⟩] 33)) A p.t) := Lib.hid (HE6.out.next ((Below.refl _ _).alloc (Nat.le_refl _) _))
            have HC7 := Lib.hid (Blk.new w6 33 #[.int .u8 c.l.toNat, .bool c.r, .int .u8 c.i.toNat, .int .u32 c.q.toNat, .int .u16 c.m.toNat, .string ⟨c.a.toArray⟩])
            clear HB6 HKc6 HKp6 HM6 HE6
            have a0 := HC7.out.cell 0
            have a1 := HC7.out.cell 1
            have a2 := HC7.out.cell 2
            have a3 := HC7.out.cell 3
            have a4 := HC7.out.cell 4
            have a5 := HC7.out.cell 5
            simp only [List.getElem?_toArray, List.getElem?_cons_succ, List.getElem?_cons_zero] at a0 a1 a2 a3 a4 a5
            have b0 := HKc7.out.cell 0
            have b1 := HKc7.out.cell 1
            have b2 := HKc7.out.cell 2
            have b3 := HKc7.out.cell 3
            have b4 := HKc7.out.cell 4
            have b5 := HKc7.out.cell 5
            simp only [List.getElem?_toArray, List.getElem?_cons_succ, List.getElem?_cons_zero] at b0 b1 b2 b3 b4 b5
            have d4 := HM7.out.cell 4
            simp only [List.getElem?_toArray, List.getElem?_cons_succ, List.getElem?_cons_zero] at d4
            go_upto_region 10 with (fail)
            clear a0 a1 a2 a3 a4 a5
            clear b0 b1 b2 b3 b4 b5
            clear d4
            clear HC7
            clear HKc7
            clear HM7
            clear q a1 KP KC KZ KT1
            have k0 := HKp7.out.cell 0
            have k1 := HKp7.out.cell 1
            have k2 := HKp7.out.cell 2
            have k3 := HKp7.out.cell 3
            have k4 := HKp7.out.cell 4
            simp only [List.getElem?_toArray, List.getElem?_cons_succ, List.getElem?_cons_zero] at k0 k1 k2 k3 k4
            go_wp2_with fail
            refine (KO.out _ HE7.out).mono ?_
            rintro r w8 ⟨B, d, rfl, hF, hz, hb8⟩
            have HB8 : Hid (Below W.heap.size W w8) := Lib.hid (HB7.out.trans (hb8.mono HB7.out.size))
            have HKp8 := Lib.hid (HKp7.out.below hb8 HKp7.out.lt)
            have HE8 : Hid (Els 2 tlV w8 A p.t) := Lib.hid (HE7.out.next hb8)
            clear hb8 HB7 HKp7 HE7
            clear hz
            have HF8 : Hid (Els 2 tlV w8 B p.t) := Lib.hid hF
            clear hF
            clear k0 k1 k2 k3 k4
            go_wp2_with fail
            refine (KT2.out _ _ _ HF8.out).mono ?_
            rintro r w9 ⟨rfl, hb9⟩
            have HB9 : Hid (Below W.heap.size W w9) := Lib.hid (HB8.out.trans (hb9.mono HB8.out.size))
            have HKp9 := Lib.hid (HKp8.out.below hb9 HKp8.out.lt)
            have HE9 : Hid (Els 2 tlV w9 A p.t) := Lib.hid (HE8.out.next hb9)
            have HF9 : Hid (Els 2 tlV w9 B p.t) := Lib.hid (HF8.out.next hb9)
            clear hb9 HB8 HKp8 HE8 HF8
            clear HF9
            clear HE9
            rcases HFX.out with ⟨h1, h2⟩ | ⟨h1, h2, h3⟩
            · subst h1 h2
              have HB10 : Hid (Below W.heap.size W (w9.alloc (.cells #[.int .u8 0, .bool false, .int .u8 0, .int .u32 0, .int .u16 0, .string ⟨#[]⟩] 33))) := Lib.hid (HB9.out.alloc HB9.out.size _)
              have HKp10 := Lib.hid (HKp9.out.alloc (.cells #[.int .u8 0, .bool false, .int .u8 0, .int .u32 0, .int .u16 0, .string ⟨#[]⟩] 33))
              have HX10 := Lib.hid (Blk.new w9 33 #[.int .u8 0, .bool false, .int .u8 0, .int .u32 0, .int .u16 0, .string ⟨#[]⟩])
              clear HB9 HKp9
              clear HKp10
              have a0 := HX10.out.cell 0
              have a1 := HX10.out.cell 1
              have a2 := HX10.out.cell 2
              have a3 := HX10.out.cell 3
              have a4 := HX10.out.cell 4
              have a5 := HX10.out.cell 5
              simp only [List.getElem?_toArray, List.getElem?_cons_succ, List.getElem?_cons_zero] at a0 a1 a2 a3 a4 a5
              have q0 : ∀ w : World, (Op.equalIn 10000 33 (.agg #[.int .u8 0, .bool false, .int .u8 0, .int .u32 0, .int .u16 0, .string ⟨#[]⟩]) (.agg #[.int .u8 0, .bool false, .int .u8 0, .int .u32 0, .int .u16 0, .string ⟨#[]⟩])).run Try.prog w = .ok true w := fun w => by
                have := run_eqCk ck0 ck0 w
                simp only [decide_true] at this
                exact this
              go_wp2_with fail
              refine (wakes13 HP.out HT.out HN.out _).mono ?_
              rintro r w11 ⟨rfl, hb11⟩
              have HB11 : Hid (Below W.heap.size W w11) := Lib.hid (HB10.out.trans (hb11.mono HB10.out.size))
              have HX11 := Lib.hid (HX10.out.below hb11 HX10.out.lt)
              clear hb11 HB10 HX10
              go_wp2
              go_ret
              exact ⟨rfl, HB11.out⟩
            · subst h1
              have HXM := Lib.hid h2
              have HSX := Lib.hid h3
              obtain ⟨P2, hP2⟩ : ∃ P, ckP X = P := ⟨_, rfl⟩
              have hPt := ckP_t X
              rw [hP2] at hPt
              have hlen2 : P2.t.length = 0 := by rw [hPt]; rfl
              have hx2 : P2.x = ckS X := by rw [← hP2, ckP_ok h2]
              have hx2l : P2.x.length = 70 := by rw [hx2]; exact ckS_len h2
              have KP2 := Lib.hid (fun w => HP.out X w (by have := (ckM_is HXM.out).1; omega))
              rw [hP2, ckE_zero.2 h2] at KP2
              have KT3 := Lib.hid (fun A k w => HT.out A k P2 w (by rw [hPt]; exact els_nilL _ _) (by omega))
              have hfp := ckF_P h2
              rw [hP2] at hfp
              rw [hfp.1, hfp.2] at KT3
              simp only [PdV, hlen2] at KP2 KT3
              obtain ⟨hxl, hS⟩ := h3
              obtain ⟨S, hSe⟩ : ∃ S, p.x.take 54 = S := ⟨_, rfl⟩
              have c1S : P2.x.take 54 = S := by rw [hx2, hS, hSe]
              have c2S : p.x.take 54 = S := hSe
              have hlx1 : ¬ (P2.x.length : Int) < 54 := by omega
              have hlx2 : ¬ (p.x.length : Int) < 54 := by omega
              have c1 : ∀ w, (Instr.slice 9 (.string ⟨P2.x.toArray⟩) none (some (.int .i64 54)) none).run Try.prog w = .ok (.string ⟨S.toArray⟩) w := fun w => by
                rw [run_slice_string_h (P := Try.prog) (w := w) (s := ⟨P2.x.toArray⟩) (t := 9) Try.underlying9 .i64 54 (by omega) (by show (54 : Int) ≤ (P2.x.length : Int); omega)]
                have e : (⟨P2.x.toArray⟩ : ByteArray).extract 0 54 = ⟨S.toArray⟩ := by
                  rw [extract_take, c1S]
                exact congrArg (fun x => Result.ok (Value.string x) w) e
              have c2 : ∀ w, (Instr.slice 9 (.string ⟨p.x.toArray⟩) none (some (.int .i64 54)) none).run Try.prog w = .ok (.string ⟨S.toArray⟩) w := fun w => by
                rw [run_slice_string_h (P := Try.prog) (w := w) (s := ⟨p.x.toArray⟩) (t := 9) Try.underlying9 .i64 54 (by omega) (by show (54 : Int) ≤ (p.x.length : Int); omega)]
                have e : (⟨p.x.toArray⟩ : ByteArray).extract 0 54 = ⟨S.toArray⟩ := by
                  rw [extract_take, c2S]
                exact congrArg (fun x => Result.ok (Value.string x) w) e
              have q := fun w => run_eqCk X X w
              simp only [decide_true] at q
              clear hP2 hPt hlen2 hx2 hx2l hfp hxl hS hSe c1S c2S h2
              have HB10 : Hid (Below W.heap.size W (w9.alloc (.cells #[.int .u8 X.l.toNat, .bool X.r, .int .u8 X.i.toNat, .int .u32 X.q.toNat, .int .u16 X.m.toNat, .string ⟨X.a.toArray⟩] 33))) := Lib.hid (HB9.out.alloc HB9.out.size _)
              have HKp10 := Lib.hid (HKp9.out.alloc (.cells #[.int .u8 X.l.toNat, .bool X.r, .int .u8 X.i.toNat, .int .u32 X.q.toNat, .int .u16 X.m.toNat, .string ⟨X.a.toArray⟩] 33))
              have HX10 := Lib.hid (Blk.new w9 33 #[.int .u8 X.l.toNat, .bool X.r, .int .u8 X.i.toNat, .int .u32 X.q.toNat, .int .u16 X.m.toNat, .string ⟨X.a.toArray⟩])
              clear HB9 HKp9
              have a0 := HX10.out.cell 0
              have a1 := HX10.out.cell 1
              have a2 := HX10.out.cell 2
              have a3 := HX10.out.cell 3
              have a4 := HX10.out.cell 4
              have a5 := HX10.out.cell 5
              simp only [List.getElem?_toArray, List.getElem?_cons_succ, List.getElem?_cons_zero] at a0 a1 a2 a3 a4 a5
              go_wp2_with fail
              refine (KP2.out _).mono ?_
              rintro r w11 ⟨A2, k2, rfl, hz, hb11⟩
              have HB11 : Hid (Below W.heap.size W w11) := Lib.hid (HB10.out.trans (hb11.mono HB10.out.size))
              have HKp11 := Lib.hid (HKp10.out.below hb11 HKp10.out.lt)
              have HX11 := Lib.hid (HX10.out.below hb11 HX10.out.lt)
              clear hb11 HB10 HKp10 HX10
              clear hz
              clear a0 a1 a2 a3 a4 a5
              have HB12 : Hid (Below W.heap.size W (w11.alloc (.cells #[.int .u8 P2.l.toNat, .int .u8 P2.o.toNat, .int .u8 P2.g.toNat, .string ⟨P2.x.toArray⟩, .slice A2 0 k2] 29))) := Lib.hid (HB11.out.alloc HB11.out.size _)
              have HKp12 := Lib.hid (HKp11.out.alloc (.cells #[.int .u8 P2.l.toNat, .int .u8 P2.o.toNat, .int .u8 P2.g.toNat, .string ⟨P2.x.toArray⟩, .slice A2 0 k2] 29))
              have HX12 := Lib.hid (HX11.out.alloc (.cells #[.int .u8 P2.l.toNat, .int .u8 P2.o.toNat, .int .u8 P2.g.toNat, .string ⟨P2.x.toArray⟩, .slice A2 0 k2] 29))
              have HQ12 := Lib.hid (Blk.new w11 29 #[.int .u8 P2.l.toNat, .int .u8 P2.o.toNat, .int .u8 P2.g.toNat, .string ⟨P2.x.toArray⟩, .slice A2 0 k2])
              clear HB11 HKp11 HX11
              have a0 := HQ12.out.cell 0
              have a1 := HQ12.out.cell 1
              have a2 := HQ12.out.cell 2
              have a3 := HQ12.out.cell 3
              have a4 := HQ12.out.cell 4
              simp only [List.getElem?_toArray, List.getElem?_cons_succ, List.getElem?_cons_zero] at a0 a1 a2 a3 a4
              go_wp2_with fail
              refine (KT3.out _ _ _).mono ?_
              rintro r w13 ⟨rfl, hb13⟩
              have HB13 : Hid (Below W.heap.size W w13) := Lib.hid (HB12.out.trans (hb13.mono HB12.out.size))
              have HKp13 := Lib.hid (HKp12.out.below hb13 HKp12.out.lt)
              have HX13 := Lib.hid (HX12.out.below hb13 HX12.out.lt)
              have HQ13 := Lib.hid (HQ12.out.below hb13 HQ12.out.lt)
              clear hb13 HB12 HKp12 HX12 HQ12
              clear a0 a1 a2 a3 a4
              have HB14 : Hid (Below W.heap.size W (w13.alloc (.cells #[.int .u8 X.l.toNat, .bool X.r, .int .u8 X.i.toNat, .int .u32 X.q.toNat, .int .u16 X.m.toNat, .string ⟨X.a.toArray⟩] 33))) := Lib.hid (HB13.out.alloc HB13.out.size _)
              have HKp14 := Lib.hid (HKp13.out.alloc (.cells #[.int .u8 X.l.toNat, .bool X.r, .int .u8 X.i.toNat, .int .u32 X.q.toNat, .int .u16 X.m.toNat, .string ⟨X.a.toArray⟩] 33))
              have HX14 := Lib.hid (HX13.out.alloc (.cells #[.int .u8 X.l.toNat, .bool X.r, .int .u8 X.i.toNat, .int .u32 X.q.toNat, .int .u16 X.m.toNat, .string ⟨X.a.toArray⟩] 33))
              have HQ14 := Lib.hid (HQ13.out.alloc (.cells #[.int .u8 X.l.toNat, .bool X.r, .int .u8 X.i.toNat, .int .u32 X.q.toNat, .int .u16 X.m.toNat, .string ⟨X.a.toArray⟩] 33))
              have HY14 := Lib.hid (Blk.new w13 33 #[.int .u8 X.l.toNat, .bool X.r, .int .u8 X.i.toNat, .int .u32 X.q.toNat, .int .u16 X.m.toNat, .string ⟨X.a.toArray⟩])
              clear HB13 HKp13 HX13 HQ13
              have a0 := HX14.out.cell 0
              have a1 := HX14.out.cell 1
              have a2 := HX14.out.cell 2
              have a3 := HX14.out.cell 3
              have a4 := HX14.out.cell 4
              have a5 := HX14.out.cell 5
              simp only [List.getElem?_toArray, List.getElem?_cons_succ, List.getElem?_cons_zero] at a0 a1 a2 a3 a4 a5
              have b0 := HY14.out.cell 0
              have b1 := HY14.out.cell 1
              have b2 := HY14.out.cell 2
              have b3 := HY14.out.cell 3
              have b4 := HY14.out.cell 4
              have b5 := HY14.out.cell 5
              simp only [List.getElem?_toArray, List.getElem?_cons_succ, List.getElem?_cons_zero] at b0 b1 b2 b3 b4 b5
              have d3 := HQ14.out.cell 3
              simp only [List.getElem?_toArray, List.getElem?_cons_succ, List.getElem?_cons_zero] at d3
              have k3 := HKp14.out.cell 3
              simp only [List.getElem?_toArray, List.getElem?_cons_succ, List.getElem?_cons_zero] at k3
              have HBd : Hid (Below W.heap.size W (w13.alloc (.cells #[.int .u8 X.l.toNat, .bool X.r, .int .u8 X.i.toNat, .int .u32 X.q.toNat, .int .u16 X.m.toNat, .string ⟨X.a.toArray⟩] 33)).drew) := Lib.hid HB14.out.drew
              go_upto_region 17 with (fail)
              go_region_held3 (fun w_ => w_.cell? ⟨w13.heap.size, 0, none⟩ = some (.int .u8 X.l.toNat) ∧ w_.cell? ⟨w13.heap.size, 1, none⟩ = some (.bool X.r) ∧ w_.cell? ⟨w13.heap.size, 2, none⟩ = some (.int .u8 X.i.toNat) ∧ w_.cell? ⟨w13.heap.size, 3, none⟩ = some (.int .u32 X.q.toNat) ∧ w_.cell? ⟨w13.heap.size, 4, none⟩ = some (.int .u16 X.m.toNat) ∧ w_.cell? ⟨w13.heap.size, 5, none⟩ = some (.string ⟨X.a.toArray⟩) ∧ w_.cell? ⟨w9.heap.size, 0, none⟩ = some (.int .u8 X.l.toNat) ∧ w_.cell? ⟨w9.heap.size, 1, none⟩ = some (.bool X.r) ∧ w_.cell? ⟨w9.heap.size, 2, none⟩ = some (.int .u8 X.i.toNat) ∧ w_.cell? ⟨w9.heap.size, 3, none⟩ = some (.int .u32 X.q.toNat) ∧ w_.cell? ⟨w9.heap.size, 4, none⟩ = some (.int .u16 X.m.toNat) ∧ w_.cell? ⟨w9.heap.size, 5, none⟩ = some (.string ⟨X.a.toArray⟩) ∧ w_.cell? ⟨w11.heap.size, 3, none⟩ = some (.string ⟨P2.x.toArray⟩) ∧ w_.cell? ⟨(W.heap.size + 1), 3, none⟩ = some (.string ⟨p.x.toArray⟩) ∧ Hid (Below W.heap.size W w_)) (go_keep)
                (first
                  | (go_at_call 6; refine (wakes13 HP.out HT.out HN.out _).mono ?_; rintro r w_ ⟨rfl, hb_⟩; obtain ⟨k0, k1, k2, k3, k4, k5, k6, k7, k8, k9, k10, k11, k12, k13, k14⟩ := keep13b (W := W) (g19 := w13.heap.size) (g15 := w9.heap.size) (g17 := w11.heap.size) (gp := W.heap.size + 1) (X := X) (P2 := P2) (p := p) (by assumption) (by assumption) (by assumption) (by assumption) (by assumption) (by assumption) (by assumption) (by assumption) (by assumption) (by assumption) (by assumption) (by assumption) (by assumption) (by assumption) (by assumption) hb_; clear hb_)
                  | fail "no")
              have HBQ : Hid (Below W.heap.size W w_) := by assumption
              go_wp2
              go_ret
              exact ⟨rfl, HBQ.out⟩
          · have hE2 : ckE c = 2 := by unfold ckE; rw [if_neg hM]
            have hPt := ckP_t c
            obtain ⟨P, hP⟩ : ∃ P, ckP c = P := ⟨_, rfl⟩
            rw [hP, hE2] at KP
            rw [hP] at hPt
            have hlen : P.t.length = 0 := by rw [hPt]; rfl
            simp only [PdV, hlen] at KP
            clear hM hE2 hPt hP hlen
            go_enter Try.func5, Try.ntmps5
            go_wp2_with fail
            refine (KP.out _).mono ?_
            rintro r w1 ⟨A1, k1, rfl, hz, hb1⟩
            have HB1 : Hid (Below W.heap.size W w1) := Lib.hid (HB0.out.trans (hb1.mono HB0.out.size))
            have HKc1 := Lib.hid (HKc0.out.below hb1 HKc0.out.lt)
            have HKp1 := Lib.hid (HKp0.out.below hb1 HKp0.out.lt)
            have HE1 : Hid (Els 2 tlV w1 A p.t) := Lib.hid (HEA.out.next hb1)
            clear hb1 HB0 HKc0 HKp0 HEA
            clear hz
            clear HKc1
            have HB2 : Hid (Below W.heap.size W (w1.alloc (.cells #[.int .u8 P.l.toNat, .int .u8 P.o.toNat, .int .u8 P.g.toNat, .string ⟨P.x.toArray⟩, .slice A1 0 k1] 29))) := Lib.hid (HB1.out.alloc HB1.out.size _)
            have HKp2 := Lib.hid (HKp1.out.alloc (.cells #[.int .u8 P.l.toNat, .int .u8 P.o.toNat, .int .u8 P.g.toNat, .string ⟨P.x.toArray⟩, .slice A1 0 k1] 29))
            have HE2 : Hid (Els 2 tlV (w1.alloc (.cells #[.int .u8 P.l.toNat, .int .u8 P.o.toNat, .int .u8 P.g.toNat, .string ⟨P.x.toArray⟩, .slice A1 0 k1] 29)) A p.t) := Lib.hid (HE1.out.next ((Below.refl _ _).alloc (Nat.le_refl _) _))
            clear HB1 HKp1 HE1
            have k0 := HKp2.out.cell 0
            have k1 := HKp2.out.cell 1
            have k2 := HKp2.out.cell 2
            have k3 := HKp2.out.cell 3
            have k4 := HKp2.out.cell 4
            simp only [List.getElem?_toArray, List.getElem?_cons_succ, List.getElem?_cons_zero] at k0 k1 k2 k3 k4
            go_wp2_with fail
            refine (KO.out _ HE2.out).mono ?_
            rintro r w3 ⟨B, d, rfl, hF, hz, hb3⟩
            have HB3 : Hid (Below W.heap.size W w3) := Lib.hid (HB2.out.trans (hb3.mono HB2.out.size))
            have HKp3 := Lib.hid (HKp2.out.below hb3 HKp2.out.lt)
            have HE3 : Hid (Els 2 tlV w3 A p.t) := Lib.hid (HE2.out.next hb3)
            clear hb3 HB2 HKp2 HE2
            clear hz
            have HF3 : Hid (Els 2 tlV w3 B p.t) := Lib.hid hF
            clear hF
            clear k0 k1 k2 k3 k4
            go_wp2_with fail
            refine (KT2.out _ _ _ HF3.out).mono ?_
            rintro r w4 ⟨rfl, hb4⟩
            have HB4 : Hid (Below W.heap.size W w4) := Lib.hid (HB3.out.trans (hb4.mono HB3.out.size))
            have HKp4 := Lib.hid (HKp3.out.below hb4 HKp3.out.lt)
            have HE4 : Hid (Els 2 tlV w4 A p.t) := Lib.hid (HE3.out.next hb4)
            have HF4 : Hid (Els 2 tlV w4 B p.t) := Lib.hid (HF3.out.next hb4)
            clear hb4 HB3 HKp3 HE3 HF3
            clear HF4
            clear HE4
            rcases HFX.out with ⟨h1, h2⟩ | ⟨h1, h2, h3⟩
            · subst h1 h2
              have HB5 : Hid (Below W.heap.size W (w4.alloc (.cells #[.int .u8 0, .bool false, .int .u8 0, .int .u32 0, .int .u16 0, .string ⟨#[]⟩] 33))) := Lib.hid (HB4.out.alloc HB4.out.size _)
              have HKp5 := Lib.hid (HKp4.out.alloc (.cells #[.int .u8 0, .bool false, .int .u8 0, .int .u32 0, .int .u16 0, .string ⟨#[]⟩] 33))
              have HX5 := Lib.hid (Blk.new w4 33 #[.int .u8 0, .bool false, .int .u8 0, .int .u32 0, .int .u16 0, .string ⟨#[]⟩])
              clear HB4 HKp4
              clear HKp5
              have a0 := HX5.out.cell 0
              have a1 := HX5.out.cell 1
              have a2 := HX5.out.cell 2
              have a3 := HX5.out.cell 3
              have a4 := HX5.out.cell 4
              have a5 := HX5.out.cell 5
              simp only [List.getElem?_toArray, List.getElem?_cons_succ, List.getElem?_cons_zero] at a0 a1 a2 a3 a4 a5
              have q0 : ∀ w : World, (Op.equalIn 10000 33 (.agg #[.int .u8 0, .bool false, .int .u8 0, .int .u32 0, .int .u16 0, .string ⟨#[]⟩]) (.agg #[.int .u8 0, .bool false, .int .u8 0, .int .u32 0, .int .u16 0, .string ⟨#[]⟩])).run Try.prog w = .ok true w := fun w => by
                have := run_eqCk ck0 ck0 w
                simp only [decide_true] at this
                exact this
              go_wp2_with fail
              refine (wakes13 HP.out HT.out HN.out _).mono ?_
              rintro r w6 ⟨rfl, hb6⟩
              have HB6 : Hid (Below W.heap.size W w6) := Lib.hid (HB5.out.trans (hb6.mono HB5.out.size))
              have HX6 := Lib.hid (HX5.out.below hb6 HX5.out.lt)
              clear hb6 HB5 HX5
              go_wp2
              go_ret
              exact ⟨rfl, HB6.out⟩
            · subst h1
              have HXM := Lib.hid h2
              have HSX := Lib.hid h3
              obtain ⟨P2, hP2⟩ : ∃ P, ckP X = P := ⟨_, rfl⟩
              have hPt := ckP_t X
              rw [hP2] at hPt
              have hlen2 : P2.t.length = 0 := by rw [hPt]; rfl
              have hx2 : P2.x = ckS X := by rw [← hP2, ckP_ok h2]
              have hx2l : P2.x.length = 70 := by rw [hx2]; exact ckS_len h2
              have KP2 := Lib.hid (fun w => HP.out X w (by have := (ckM_is HXM.out).1; omega))
              rw [hP2, ckE_zero.2 h2] at KP2
              have KT3 := Lib.hid (fun A k w => HT.out A k P2 w (by rw [hPt]; exact els_nilL _ _) (by omega))
              have hfp := ckF_P h2
              rw [hP2] at hfp
              rw [hfp.1, hfp.2] at KT3
              simp only [PdV, hlen2] at KP2 KT3
              obtain ⟨hxl, hS⟩ := h3
              obtain ⟨S, hSe⟩ : ∃ S, p.x.take 54 = S := ⟨_, rfl⟩
              have c1S : P2.x.take 54 = S := by rw [hx2, hS, hSe]
              have c2S : p.x.take 54 = S := hSe
              have hlx1 : ¬ (P2.x.length : Int) < 54 := by omega
              have hlx2 : ¬ (p.x.length : Int) < 54 := by omega
              have c1 : ∀ w, (Instr.slice 9 (.string ⟨P2.x.toArray⟩) none (some (.int .i64 54)) none).run Try.prog w = .ok (.string ⟨S.toArray⟩) w := fun w => by
                rw [run_slice_string_h (P := Try.prog) (w := w) (s := ⟨P2.x.toArray⟩) (t := 9) Try.underlying9 .i64 54 (by omega) (by show (54 : Int) ≤ (P2.x.length : Int); omega)]
                have e : (⟨P2.x.toArray⟩ : ByteArray).extract 0 54 = ⟨S.toArray⟩ := by
                  rw [extract_take, c1S]
                exact congrArg (fun x => Result.ok (Value.string x) w) e
              have c2 : ∀ w, (Instr.slice 9 (.string ⟨p.x.toArray⟩) none (some (.int .i64 54)) none).run Try.prog w = .ok (.string ⟨S.toArray⟩) w := fun w => by
                rw [run_slice_string_h (P := Try.prog) (w := w) (s := ⟨p.x.toArray⟩) (t := 9) Try.underlying9 .i64 54 (by omega) (by show (54 : Int) ≤ (p.x.length : Int); omega)]
                have e : (⟨p.x.toArray⟩ : ByteArray).extract 0 54 = ⟨S.toArray⟩ := by
                  rw [extract_take, c2S]
                exact congrArg (fun x => Result.ok (Value.string x) w) e
              have q := fun w => run_eqCk X X w
              simp only [decide_true] at q
              clear hP2 hPt hlen2 hx2 hx2l hfp hxl hS hSe c1S c2S h2
              have HB5 : Hid (Below W.heap.size W (w4.alloc (.cells #[.int .u8 X.l.toNat, .bool X.r, .int .u8 X.i.toNat, .int .u32 X.q.toNat, .int .u16 X.m.toNat, .string ⟨X.a.toArray⟩] 33))) := Lib.hid (HB4.out.alloc HB4.out.size _)
              have HKp5 := Lib.hid (HKp4.out.alloc (.cells #[.int .u8 X.l.toNat, .bool X.r, .int .u8 X.i.toNat, .int .u32 X.q.toNat, .int .u16 X.m.toNat, .string ⟨X.a.toArray⟩] 33))
              have HX5 := Lib.hid (Blk.new w4 33 #[.int .u8 X.l.toNat, .bool X.r, .int .u8 X.i.toNat, .int .u32 X.q.toNat, .int .u16 X.m.toNat, .string ⟨X.a.toArray⟩])
              clear HB4 HKp4
              have a0 := HX5.out.cell 0
              have a1 := HX5.out.cell 1
              have a2 := HX5.out.cell 2
              have a3 := HX5.out.cell 3
              have a4 := HX5.out.cell 4
              have a5 := HX5.out.cell 5
              simp only [List.getElem?_toArray, List.getElem?_cons_succ, List.getElem?_cons_zero] at a0 a1 a2 a3 a4 a5
              go_wp2_with fail
              refine (KP2.out _).mono ?_
              rintro r w6 ⟨A2, k2, rfl, hz, hb6⟩
              have HB6 : Hid (Below W.heap.size W w6) := Lib.hid (HB5.out.trans (hb6.mono HB5.out.size))
              have HKp6 := Lib.hid (HKp5.out.below hb6 HKp5.out.lt)
              have HX6 := Lib.hid (HX5.out.below hb6 HX5.out.lt)
              clear hb6 HB5 HKp5 HX5
              clear hz
              clear a0 a1 a2 a3 a4 a5
              have HB7 : Hid (Below W.heap.size W (w6.alloc (.cells #[.int .u8 P2.l.toNat, .int .u8 P2.o.toNat, .int .u8 P2.g.toNat, .string ⟨P2.x.toArray⟩, .slice A2 0 k2] 29))) := Lib.hid (HB6.out.alloc HB6.out.size _)
              have HKp7 := Lib.hid (HKp6.out.alloc (.cells #[.int .u8 P2.l.toNat, .int .u8 P2.o.toNat, .int .u8 P2.g.toNat, .string ⟨P2.x.toArray⟩, .slice A2 0 k2] 29))
              have HX7 := Lib.hid (HX6.out.alloc (.cells #[.int .u8 P2.l.toNat, .int .u8 P2.o.toNat, .int .u8 P2.g.toNat, .string ⟨P2.x.toArray⟩, .slice A2 0 k2] 29))
              have HQ7 := Lib.hid (Blk.new w6 29 #[.int .u8 P2.l.toNat, .int .u8 P2.o.toNat, .int .u8 P2.g.toNat, .string ⟨P2.x.toArray⟩, .slice A2 0 k2])
              clear HB6 HKp6 HX6
              have a0 := HQ7.out.cell 0
              have a1 := HQ7.out.cell 1
              have a2 := HQ7.out.cell 2
              have a3 := HQ7.out.cell 3
              have a4 := HQ7.out.cell 4
              simp only [List.getElem?_toArray, List.getElem?_cons_succ, List.getElem?_cons_zero] at a0 a1 a2 a3 a4
              go_wp2_with fail
              refine (KT3.out _ _ _).mono ?_
              rintro r w8 ⟨rfl, hb8⟩
              have HB8 : Hid (Below W.heap.size W w8) := Lib.hid (HB7.out.trans (hb8.mono HB7.out.size))
              have HKp8 := Lib.hid (HKp7.out.below hb8 HKp7.out.lt)
              have HX8 := Lib.hid (HX7.out.below hb8 HX7.out.lt)
              have HQ8 := Lib.hid (HQ7.out.below hb8 HQ7.out.lt)
              clear hb8 HB7 HKp7 HX7 HQ7
              clear a0 a1 a2 a3 a4
              have HB9 : Hid (Below W.heap.size W (w8.alloc (.cells #[.int .u8 X.l.toNat, .bool X.r, .int .u8 X.i.toNat, .int .u32 X.q.toNat, .int .u16 X.m.toNat, .string ⟨X.a.toArray⟩] 33))) := Lib.hid (HB8.out.alloc HB8.out.size _)
              have HKp9 := Lib.hid (HKp8.out.alloc (.cells #[.int .u8 X.l.toNat, .bool X.r, .int .u8 X.i.toNat, .int .u32 X.q.toNat, .int .u16 X.m.toNat, .string ⟨X.a.toArray⟩] 33))
              have HX9 := Lib.hid (HX8.out.alloc (.cells #[.int .u8 X.l.toNat, .bool X.r, .int .u8 X.i.toNat, .int .u32 X.q.toNat, .int .u16 X.m.toNat, .string ⟨X.a.toArray⟩] 33))
              have HQ9 := Lib.hid (HQ8.out.alloc (.cells #[.int .u8 X.l.toNat, .bool X.r, .int .u8 X.i.toNat, .int .u32 X.q.toNat, .int .u16 X.m.toNat, .string ⟨X.a.toArray⟩] 33))
              have HY9 := Lib.hid (Blk.new w8 33 #[.int .u8 X.l.toNat, .bool X.r, .int .u8 X.i.toNat, .int .u32 X.q.toNat, .int .u16 X.m.toNat, .string ⟨X.a.toArray⟩])
              clear HB8 HKp8 HX8 HQ8
              have a0 := HX9.out.cell 0
              have a1 := HX9.out.cell 1
              have a2 := HX9.out.cell 2
              have a3 := HX9.out.cell 3
              have a4 := HX9.out.cell 4
              have a5 := HX9.out.cell 5
              simp only [List.getElem?_toArray, List.getElem?_cons_succ, List.getElem?_cons_zero] at a0 a1 a2 a3 a4 a5
              have b0 := HY9.out.cell 0
              have b1 := HY9.out.cell 1
              have b2 := HY9.out.cell 2
              have b3 := HY9.out.cell 3
              have b4 := HY9.out.cell 4
              have b5 := HY9.out.cell 5
              simp only [List.getElem?_toArray, List.getElem?_cons_succ, List.getElem?_cons_zero] at b0 b1 b2 b3 b4 b5
              have d3 := HQ9.out.cell 3
              simp only [List.getElem?_toArray, List.getElem?_cons_succ, List.getElem?_cons_zero] at d3
              have k3 := HKp9.out.cell 3
              simp only [List.getElem?_toArray, List.getElem?_cons_succ, List.getElem?_cons_zero] at k3
              have HBd : Hid (Below W.heap.size W (w8.alloc (.cells #[.int .u8 X.l.toNat, .bool X.r, .int .u8 X.i.toNat, .int .u32 X.q.toNat, .int .u16 X.m.toNat, .string ⟨X.a.toArray⟩] 33)).drew) := Lib.hid HB9.out.drew
              go_upto_region 17 with (fail)
              go_region_held3 (fun w_ => w_.cell? ⟨w8.heap.size, 0, none⟩ = some (.int .u8 X.l.toNat) ∧ w_.cell? ⟨w8.heap.size, 1, none⟩ = some (.bool X.r) ∧ w_.cell? ⟨w8.heap.size, 2, none⟩ = some (.int .u8 X.i.toNat) ∧ w_.cell? ⟨w8.heap.size, 3, none⟩ = some (.int .u32 X.q.toNat) ∧ w_.cell? ⟨w8.heap.size, 4, none⟩ = some (.int .u16 X.m.toNat) ∧ w_.cell? ⟨w8.heap.size, 5, none⟩ = some (.string ⟨X.a.toArray⟩) ∧ w_.cell? ⟨w4.heap.size, 0, none⟩ = some (.int .u8 X.l.toNat) ∧ w_.cell? ⟨w4.heap.size, 1, none⟩ = some (.bool X.r) ∧ w_.cell? ⟨w4.heap.size, 2, none⟩ = some (.int .u8 X.i.toNat) ∧ w_.cell? ⟨w4.heap.size, 3, none⟩ = some (.int .u32 X.q.toNat) ∧ w_.cell? ⟨w4.heap.size, 4, none⟩ = some (.int .u16 X.m.toNat) ∧ w_.cell? ⟨w4.heap.size, 5, none⟩ = some (.string ⟨X.a.toArray⟩) ∧ w_.cell? ⟨w6.heap.size, 3, none⟩ = some (.string ⟨P2.x.toArray⟩) ∧ w_.cell? ⟨(W.heap.size + 1), 3, none⟩ = some (.string ⟨p.x.toArray⟩) ∧ Hid (Below W.heap.size W w_)) (go_keep)
                (first
                  | (go_at_call 6; refine (wakes13 HP.out HT.out HN.out _).mono ?_; rintro r w_ ⟨rfl, hb_⟩; obtain ⟨k0, k1, k2, k3, k4, k5, k6, k7, k8, k9, k10, k11, k12, k13, k14⟩ := keep13b (W := W) (g19 := w8.heap.size) (g15 := w4.heap.size) (g17 := w6.heap.size) (gp := W.heap.size + 1) (X := X) (P2 := P2) (p := p) (by assumption) (by assumption) (by assumption) (by assumption) (by assumption) (by assumption) (by assumption) (by assumption) (by assumption) (by assumption) (by assumption) (by assumption) (by assumption) (by assumption) (by assumption) hb_; clear hb_)
                  | fail "no")
              have HBQ : Hid (Below W.heap.size W w_) := by assumption
              go_wp2
              go_ret
              exact ⟨rfl, HBQ.out⟩
end Go.Proofs.Ytmhhhcphdnnopaa
