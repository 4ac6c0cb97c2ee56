/- Layer 14: LbmBack's walk, over the package's contracts. -/
import Derived.Test.YtjcfdkchnikbmaaLaw14
import Derived.Test.YtjcfdkchnikbmaaOpenPd
import Derived.Test.YtjcfdkchnikbmaaCfTk
import Derived.Deep.RegionHeld3
import Derived.StillTailTactics
import Derived.Deep.DeepCutAuto
namespace Go.Proofs.Ytjcfdkchnikbmaa
open Go.RowKit
set_option linter.unusedVariables false
set_option linter.unusedSimpArgs false
set_option maxRecDepth 100000

theorem keep14b {W w w' : World} {g20 gp k d2 : Nat} {A B2 : Option Addr} {p : Pd} (h0 : w.cell? ⟨g20, 0, none⟩ = some (.int .u8 p.l.toNat)) (h1 : w.cell? ⟨g20, 1, none⟩ = some (.int .u8 3)) (h2 : w.cell? ⟨g20, 2, none⟩ = some (.int .u8 p.g.toNat)) (h3 : w.cell? ⟨g20, 3, none⟩ = some (.string ⟨p.x.toArray⟩)) (h4 : w.cell? ⟨g20, 4, none⟩ = some (.slice B2 p.t.length d2)) (h5 : w.cell? ⟨gp, 0, none⟩ = some (.int .u8 p.l.toNat)) (h6 : w.cell? ⟨gp, 1, none⟩ = some (.int .u8 p.o.toNat)) (h7 : w.cell? ⟨gp, 2, none⟩ = some (.int .u8 p.g.toNat)) (h8 : w.cell? ⟨gp, 3, none⟩ = some (.string ⟨p.x.toArray⟩)) (h9 : w.cell? ⟨gp, 4, none⟩ = some (.slice A p.t.length k)) (hE0 : Hid (Els 2 tlV w A p.t)) (hE1 : Hid (Els 2 tlV w B2 p.t)) (hB : Hid (Below W.heap.size W w)) (hb : Below w.heap.size w w') : w'.cell? ⟨g20, 0, none⟩ = some (.int .u8 p.l.toNat) ∧ w'.cell? ⟨g20, 1, none⟩ = some (.int .u8 3) ∧ w'.cell? ⟨g20, 2, none⟩ = some (.int .u8 p.g.toNat) ∧ w'.cell? ⟨g20, 3, none⟩ = some (.string ⟨p.x.toArray⟩) ∧ w'.cell? ⟨g20, 4, none⟩ = some (.slice B2 p.t.length d2) ∧ w'.cell? ⟨gp, 0, none⟩ = some (.int .u8 p.l.toNat) ∧ w'.cell? ⟨gp, 1, none⟩ = some (.int .u8 p.o.toNat) ∧ w'.cell? ⟨gp, 2, none⟩ = some (.int .u8 p.g.toNat) ∧ w'.cell? ⟨gp, 3, none⟩ = some (.string ⟨p.x.toArray⟩) ∧ w'.cell? ⟨gp, 4, none⟩ = some (.slice A p.t.length k) ∧ Hid (Els 2 tlV w' A p.t) ∧ Hid (Els 2 tlV w' B2 p.t) ∧ Hid (Below W.heap.size W w') := by
  have hk : ∀ {g i : Nat} {v : Value}, w.cell? ⟨g, i, none⟩ = some v → w'.cell? ⟨g, i, none⟩ = some v := fun {g i v} h => (hb.cell (p := ⟨g, i, none⟩) (World.block_lt_of_cell? w _ h)).trans h
  exact ⟨hk h0, hk h1, hk h2, hk h3, hk h4, hk h5, hk h6, hk h7, hk h8, hk h9, Lib.hid (hE0.out.next hb), Lib.hid (hE1.out.next hb), Lib.hid (hB.out.trans (hb.mono hB.out.size))⟩
set_option maxHeartbeats 8000000 in
theorem lbmback_walk (HPC : LbPutC) (HTC : LbTakeC) (HAC : LbAnsC) (W : World) (A : Option Addr) (k : Nat) (p : Pd) (cl : UInt8) (cr : Bool) (cq : UInt32) (cd : List UInt8) (t : List UInt8) (hE : Els 2 tlV W A p.t) :
    Calls Try.prog 5 #[LoV (⟨cl, cr, cq, cd⟩ : Lo), PdV p A k, .string ⟨t.toArray⟩] W fun e w' => e = .returned (.bool true) ∧ Below W.heap.size W w' := by
  have HP := Lib.hid HPC
  have HT := Lib.hid HTC
  have HAN := Lib.hid HAC
  clear HPC HTC HAC
  have HEW := Lib.hid hE
  have HB0 : Hid (Below W.heap.size W ((W.alloc (.cells #[.int .u8 cl.toNat, .bool cr, .int .u32 cq.toNat, .string ⟨cd.toArray⟩] 32)).alloc (.cells #[.int .u8 p.l.toNat, .int .u8 p.o.toNat, .int .u8 p.g.toNat, .string ⟨p.x.toArray⟩, .slice A p.t.length k] 36))) := Lib.hid (((Below.refl _ _).alloc (Nat.le_refl _) _).alloc (by simp) _)
  have HKc0 : Hid (Blk ((W.alloc (.cells #[.int .u8 cl.toNat, .bool cr, .int .u32 cq.toNat, .string ⟨cd.toArray⟩] 32)).alloc (.cells #[.int .u8 p.l.toNat, .int .u8 p.o.toNat, .int .u8 p.g.toNat, .string ⟨p.x.toArray⟩, .slice A p.t.length k] 36)) W.heap.size 32 #[.int .u8 cl.toNat, .bool cr, .int .u32 cq.toNat, .string ⟨cd.toArray⟩]) := Lib.hid ((Blk.new _ _ _).alloc _)
  have HKp0 : Hid (Blk ((W.alloc (.cells #[.int .u8 cl.toNat, .bool cr, .int .u32 cq.toNat, .string ⟨cd.toArray⟩] 32)).alloc (.cells #[.int .u8 p.l.toNat, .int .u8 p.o.toNat, .int .u8 p.g.toNat, .string ⟨p.x.toArray⟩, .slice A p.t.length k] 36)) (W.heap.size + 1) 36 #[.int .u8 p.l.toNat, .int .u8 p.o.toNat, .int .u8 p.g.toNat, .string ⟨p.x.toArray⟩, .slice A p.t.length k]) := Lib.hid (by
    have := Blk.new (W.alloc (.cells #[.int .u8 cl.toNat, .bool cr, .int .u32 cq.toNat, .string ⟨cd.toArray⟩] 32)) 36 #[.int .u8 p.l.toNat, .int .u8 p.o.toNat, .int .u8 p.g.toNat, .string ⟨p.x.toArray⟩, .slice A p.t.length k]
    simpa using this)
  clear hE
  by_cases h1 : 300 < cd.length
  · have p1 : (300 : Int) < (cd.length : Int) := by omega
    clear h1
    go_enter Try.func5, Try.ntmps5
    go_wp2_with fail
    refine (wakes14 HP.out HT.out HAN.out _).mono ?_
    rintro r w1 ⟨rfl, hb1⟩
    have HB1 : Hid (Below W.heap.size W w1) := Lib.hid (HB0.out.trans (hb1.mono HB0.out.size))
    clear hb1 HB0
    go_wp2
    go_ret
    exact ⟨rfl, HB1.out⟩
  · have p1 : ¬ (300 : Int) < (cd.length : Int) := by omega
    by_cases h2 : 400 < p.x.length
    · have p2 : (400 : Int) < (p.x.length : Int) := by omega
      clear h1 h2
      go_enter Try.func5, Try.ntmps5
      go_wp2_with fail
      refine (wakes14 HP.out HT.out HAN.out _).mono ?_
      rintro r w1 ⟨rfl, hb1⟩
      have HB1 : Hid (Below W.heap.size W w1) := Lib.hid (HB0.out.trans (hb1.mono HB0.out.size))
      clear hb1 HB0
      go_wp2
      go_ret
      exact ⟨rfl, HB1.out⟩
    · have p2 : ¬ (400 : Int) < (p.x.length : Int) := by omega
      by_cases h3 : 20 < p.t.length
      · have p3 : (20 : Int) < (p.t.length : Int) := by omega
        clear h1 h2 h3
        go_enter Try.func5, Try.ntmps5
        go_wp2_with fail
        refine (wakes14 HP.out HT.out HAN.out _).mono ?_
        rintro r w1 ⟨rfl, hb1⟩
        have HB1 : Hid (Below W.heap.size W w1) := Lib.hid (HB0.out.trans (hb1.mono HB0.out.size))
        clear hb1 HB0
        go_wp2
        go_ret
        exact ⟨rfl, HB1.out⟩
      · have p3 : ¬ (20 : Int) < (p.t.length : Int) := by omega
        by_cases h4 : 1000 < t.length
        · have p4 : (1000 : Int) < (t.length : Int) := by omega
          clear h1 h2 h3 h4
          go_enter Try.func5, Try.ntmps5
          go_wp2_with fail
          refine (wakes14 HP.out HT.out HAN.out _).mono ?_
          rintro r w1 ⟨rfl, hb1⟩
          have HB1 : Hid (Below W.heap.size W w1) := Lib.hid (HB0.out.trans (hb1.mono HB0.out.size))
          clear hb1 HB0
          go_wp2
          go_ret
          exact ⟨rfl, HB1.out⟩
        · have p4 : ¬ (1000 : Int) < (t.length : Int) := by omega
          have HPL := Lib.hid (And.intro (show p.x.length ≤ 1000 by omega) (show p.t.length ≤ 20 by omega))
          have HTL := Lib.hid (show t.length ≤ 1000 by omega)
          have KP := Lib.hid (fun w => HP.out (⟨cl, cr, cq, cd⟩ : Lo) w (by show cd.length ≤ 1000; omega))
          have hpl := loP_t (⟨cl, cr, cq, cd⟩ : Lo)
          obtain ⟨P, hP⟩ : ∃ P, loP (⟨cl, cr, cq, cd⟩ : Lo) = P := ⟨_, rfl⟩
          obtain ⟨E, hE⟩ : ∃ E, loE (⟨cl, cr, cq, cd⟩ : Lo) = E := ⟨_, rfl⟩
          rw [hP, hE] at KP
          rw [hP] at hpl
          have HPP := Lib.hid (And.intro hP hE)
          have HPQ := Lib.hid hpl
          obtain ⟨n1, hn1⟩ : ∃ n, P.t.length = n := ⟨_, rfl⟩
          simp only [PdV, hn1] at KP
          have HN1 := Lib.hid hn1
          have KOW : Hid (∀ w, Els 2 tlV w A p.t → Calls Try.prog 11 #[PdV p A k] w fun e w' => ∃ B d, e = .returned (PdV p B d) ∧ Els 2 tlV w' B p.t ∧ (B = none → d = 0) ∧ (0 < p.t.length → ∃ g cs, B = some ⟨g, 0, none⟩ ∧ w.heap.size ≤ g ∧ Blk w' g 52 cs) ∧ Below w.heap.size w w') := Lib.hid (fun w h => (of12_own A k p w h (by omega)).mono (fun e w' ⟨B, d, h1, h2, h3, h4, h5, h6⟩ => ⟨B, d, h1, h2, h3, fun h0 => by obtain ⟨g, cs, e, hb⟩ := h6 h0; exact ⟨g, cs, e, h5 _ e, hb⟩, h4⟩))
          clear h1 h2 h3 h4 hP hE hpl hn1
          go_enter Try.func5, Try.ntmps5
          go_wp2_with fail
          refine (KP.out _).mono ?_
          rintro r w1 ⟨A1, k1, rfl, hF, hz, hb1⟩
          have HB1 : Hid (Below W.heap.size W w1) := Lib.hid (HB0.out.trans (hb1.mono HB0.out.size))
          have HKc1 := Lib.hid (HKc0.out.below hb1 HKc0.out.lt)
          have HKp1 := Lib.hid (HKp0.out.below hb1 HKp0.out.lt)
          clear hb1 HB0 HKc0 HKp0
          have HZ1 := Lib.hid hz
          clear hz
          have HA1 : Hid (Els 2 tlV w1 A1 P.t) := Lib.hid hF
          clear hF
          have HB2 : Hid (Below W.heap.size W (w1.alloc (.cells #[.int .u8 P.l.toNat, .int .u8 P.o.toNat, .int .u8 P.g.toNat, .string ⟨P.x.toArray⟩, .slice A1 n1 k1] 28))) := Lib.hid (HB1.out.alloc HB1.out.size _)
          have HKc2 := Lib.hid (HKc1.out.alloc (.cells #[.int .u8 P.l.toNat, .int .u8 P.o.toNat, .int .u8 P.g.toNat, .string ⟨P.x.toArray⟩, .slice A1 n1 k1] 28))
          have HKp2 := Lib.hid (HKp1.out.alloc (.cells #[.int .u8 P.l.toNat, .int .u8 P.o.toNat, .int .u8 P.g.toNat, .string ⟨P.x.toArray⟩, .slice A1 n1 k1] 28))
          have HA2 : Hid (Els 2 tlV (w1.alloc (.cells #[.int .u8 P.l.toNat, .int .u8 P.o.toNat, .int .u8 P.g.toNat, .string ⟨P.x.toArray⟩, .slice A1 n1 k1] 28)) A1 P.t) := Lib.hid (HA1.out.next ((Below.refl _ _).alloc (Nat.le_refl _) _))
          have HM2 := Lib.hid (Blk.new w1 28 #[.int .u8 P.l.toNat, .int .u8 P.o.toNat, .int .u8 P.g.toNat, .string ⟨P.x.toArray⟩, .slice A1 n1 k1])
          clear HB1 HKc1 HKp1 HA1
          go_upto_if 50 with (fail)
          go_cut [9, 10, 11, 12, 13, 14, 15, 16, 17, 18] from 51 to 112 (fun s9 s10 s11 s12 s13 s14 s15 s16 s17 s18 wx => Hid (Below W.heap.size W wx) ∧ Hid (Blk wx (W.heap.size + 1) 36 #[.int .u8 p.l.toNat, .int .u8 p.o.toNat, .int .u8 p.g.toNat, .string ⟨p.x.toArray⟩, .slice A p.t.length k]))
          case first =>
            by_cases hE0 : E = 0
            · subst hE0
              cases cr
              · have hE1 : loE (⟨cl, false, cq, cd⟩ : Lo) = 0 := HPP.out.2
                have hPD : pdE P = 0 := by rw [← HPP.out.1]; exact loP_pd hE1
                have hlk := lk_back hE1
                rw [HPP.out.1] at hlk
                have hbk := cf_back hPD t
                have hvl := pdP_len P
                have hnn := HPQ.out
                have KC := Lib.hid (fun A k w h => cfput_any A k P w h (by omega))
                obtain ⟨V, hV⟩ : ∃ V, pdP P = V := ⟨_, rfl⟩
                rw [hV] at hbk hvl
                rw [hV, hPD] at KC
                obtain ⟨Z, hZ⟩ : ∃ Z, V ++ t = Z := ⟨_, rfl⟩
                rw [hZ] at hbk
                have KZ := Lib.hid (fun w => cftake_any Z w (by rw [← hZ, List.length_append]; have := HTL.out; omega))
                rw [hbk.1, hbk.2] at KZ
                have KT1 := Lib.hid (fun A k w h => HT.out A k P w h (by omega) (by omega))
                rw [hlk.1, hlk.2] at KT1
                have KA1 := Lib.hid (fun A k w h hz => HAN.out A k P w h hz (by omega) (by omega))
                have han := an_back hE1 rfl
                rw [HPP.out.1] at han
                rw [han.1] at KA1
                have hql : (anP P).t.length ≤ 1 ∧ (anP P).x.length ≤ 4 := by
                  rcases anF_is P with ⟨_, _, _, h⟩ | ⟨_, h⟩
                  · rw [h]; exact hnn
                  · rw [h]; simp [pd0]
                have KT2 := Lib.hid (fun A k w h => HT.out A k (anP P) w h (by omega) (by omega))
                rw [han.2.1, han.2.2] at KT2
                obtain ⟨Q, hQ⟩ : ∃ X, anP P = X := ⟨_, rfl⟩
                rw [hQ] at KA1 KT2
                obtain ⟨n2, hn2⟩ : ∃ n, Q.t.length = n := ⟨_, rfl⟩
                simp only [PdV, hn2, HN1.out] at KC KZ KT1 KA1 KT2
                have a1 : ∀ w : World, (Op.stringOp .add ⟨V.toArray⟩ ⟨t.toArray⟩).run Try.prog w = .ok (.string ⟨Z.toArray⟩) w := fun w => by rw [← hZ]; exact run_string_add_lists w V t (by omega) (by have := HTL.out; omega)
                have qc : ∀ w : World, (Op.equalIn 10000 32 (.agg #[.int .u8 cl.toNat, .bool false, .int .u32 cq.toNat, .string ⟨cd.toArray⟩]) (.agg #[.int .u8 cl.toNat, .bool false, .int .u32 cq.toNat, .string ⟨cd.toArray⟩])).run Try.prog w = .ok true w := fun w => by
                  have := run_eqLo ⟨cl, false, cq, cd⟩ ⟨cl, false, cq, cd⟩ w
                  simp only [decide_true] at this
                  exact this
                have qt : ∀ w : World, (Op.equalIn 10000 32 (.agg #[.int .u8 cl.toNat, .bool true, .int .u32 cq.toNat, .string ⟨cd.toArray⟩]) (.agg #[.int .u8 cl.toNat, .bool true, .int .u32 cq.toNat, .string ⟨cd.toArray⟩])).run Try.prog w = .ok true w := fun w => by
                  have := run_eqLo ⟨cl, true, cq, cd⟩ ⟨cl, true, cq, cd⟩ w
                  simp only [decide_true] at this
                  exact this
                clear hE1 hPD hlk hbk hvl hnn hV hZ han hql hQ hn2
                have a0 := HM2.out.cell 0
                have a1 := HM2.out.cell 1
                have a2 := HM2.out.cell 2
                have a3 := HM2.out.cell 3
                have a4 := HM2.out.cell 4
                simp only [List.getElem?_toArray, List.getElem?_cons_succ, List.getElem?_cons_zero] at a0 a1 a2 a3 a4
                go_wp2_with fail
                refine (KC.out _ _ _ HA2.out).mono ?_
                rintro r w3 ⟨rfl, hb3⟩
                have HB3 : Hid (Below W.heap.size W w3) := Lib.hid (HB2.out.trans (hb3.mono HB2.out.size))
                have HKc3 := Lib.hid (HKc2.out.below hb3 HKc2.out.lt)
                have HKp3 := Lib.hid (HKp2.out.below hb3 HKp2.out.lt)
                have HM3 := Lib.hid (HM2.out.below hb3 HM2.out.lt)
                have HA3 : Hid (Els 2 tlV w3 A1 P.t) := Lib.hid (HA2.out.next hb3)
                clear hb3 HB2 HKc2 HKp2 HM2 HA2
                clear a0 a1 a2 a3 a4
                clear HM3
                clear HA3
                go_wp2_with fail
                refine (KZ.out _).mono ?_
                rintro r w4 ⟨A3, k3, rfl, hF, hz, hb4⟩
                have HB4 : Hid (Below W.heap.size W w4) := Lib.hid (HB3.out.trans (hb4.mono HB3.out.size))
                have HKc4 := Lib.hid (HKc3.out.below hb4 HKc3.out.lt)
                have HKp4 := Lib.hid (HKp3.out.below hb4 HKp3.out.lt)
                clear hb4 HB3 HKc3 HKp3
                have HZ3 := Lib.hid hz
                clear hz
                have HC4 : Hid (Els 2 tlV w4 A3 P.t) := Lib.hid hF
                clear hF
                have HB5 : Hid (Below W.heap.size W (w4.alloc (.cells #[.int .u8 P.l.toNat, .int .u8 P.o.toNat, .int .u8 P.g.toNat, .string ⟨P.x.toArray⟩, .slice A3 n1 k3] 28))) := Lib.hid (HB4.out.alloc HB4.out.size _)
                have HKc5 := Lib.hid (HKc4.out.alloc (.cells #[.int .u8 P.l.toNat, .int .u8 P.o.toNat, .int .u8 P.g.toNat, .string ⟨P.x.toArray⟩, .slice A3 n1 k3] 28))
                have HKp5 := Lib.hid (HKp4.out.alloc (.cells #[.int .u8 P.l.toNat, .int .u8 P.o.toNat, .int .u8 P.g.toNat, .string ⟨P.x.toArray⟩, .slice A3 n1 k3] 28))
                have HC5 : Hid (Els 2 tlV (w4.alloc (.cells #[.int .u8 P.l.toNat, .int .u8 P.o.toNat, .int .u8 P.g.toNat, .string ⟨P.x.toArray⟩, .slice A3 n1 k3] 28)) A3 P.t) := Lib.hid (HC4.out.next ((Below.refl _ _).alloc (Nat.le_refl _) _))
                have HN5 := Lib.hid (Blk.new w4 28 #[.int .u8 P.l.toNat, .int .u8 P.o.toNat, .int .u8 P.g.toNat, .string ⟨P.x.toArray⟩, .slice A3 n1 k3])
                clear HB4 HKc4 HKp4 HC4
                have a0 := HN5.out.cell 0
                have a1 := HN5.out.cell 1
                have a2 := HN5.out.cell 2
                have a3 := HN5.out.cell 3
                have a4 := HN5.out.cell 4
                simp only [List.getElem?_toArray, List.getElem?_cons_succ, List.getElem?_cons_zero] at a0 a1 a2 a3 a4
                go_wp2_with fail
                refine (KT1.out _ _ _ HC5.out).mono ?_
                rintro r w6 ⟨rfl, hb6⟩
                have HB6 : Hid (Below W.heap.size W w6) := Lib.hid (HB5.out.trans (hb6.mono HB5.out.size))
                have HKc6 := Lib.hid (HKc5.out.below hb6 HKc5.out.lt)
                have HKp6 := Lib.hid (HKp5.out.below hb6 HKp5.out.lt)
                have HN6 := Lib.hid (HN5.out.below hb6 HN5.out.lt)
                have HC6 : Hid (Els 2 tlV w6 A3 P.t) := Lib.hid (HC5.out.next hb6)
                clear hb6 HB5 HKc5 HKp5 HN5 HC5
                clear a0 a1 a2 a3 a4
                have HB7 : Hid (Below W.heap.size W (w6.alloc (.cells #[.int .u8 cl.toNat, .bool false, .int .u32 cq.toNat, .string ⟨cd.toArray⟩] 32))) := Lib.hid (HB6.out.alloc HB6.out.size _)
                have HKc7 := Lib.hid (HKc6.out.alloc (.cells #[.int .u8 cl.toNat, .bool false, .int .u32 cq.toNat, .string ⟨cd.toArray⟩] 32))
                have HKp7 := Lib.hid (HKp6.out.alloc (.cells #[.int .u8 cl.toNat, .bool false, .int .u32 cq.toNat, .string ⟨cd.toArray⟩] 32))
                have HN7 := Lib.hid (HN6.out.alloc (.cells #[.int .u8 cl.toNat, .bool false, .int .u32 cq.toNat, .string ⟨cd.toArray⟩] 32))
                have HC7 : Hid (Els 2 tlV (w6.alloc (.cells #[.int .u8 cl.toNat, .bool false, .int .u32 cq.toNat, .string ⟨cd.toArray⟩] 32)) A3 P.t) := Lib.hid (HC6.out.next ((Below.refl _ _).alloc (Nat.le_refl _) _))
                have HX7 := Lib.hid (Blk.new w6 32 #[.int .u8 cl.toNat, .bool false, .int .u32 cq.toNat, .string ⟨cd.toArray⟩])
                clear HB6 HKc6 HKp6 HN6 HC6
                have a0 := HN7.out.cell 0
                have a1 := HN7.out.cell 1
                have a2 := HN7.out.cell 2
                have a3 := HN7.out.cell 3
                have a4 := HN7.out.cell 4
                simp only [List.getElem?_toArray, List.getElem?_cons_succ, List.getElem?_cons_zero] at a0 a1 a2 a3 a4
                go_wp2_with fail
                refine (KA1.out _ _ _ HC7.out HZ3.out).mono ?_
                rintro r w8 ⟨B5, d5, rfl, hF, hz, hfr, hb8⟩
                have HB8 : Hid (Below W.heap.size W w8) := Lib.hid (HB7.out.trans (hb8.mono HB7.out.size))
                have HKc8 := Lib.hid (HKc7.out.below hb8 HKc7.out.lt)
                have HKp8 := Lib.hid (HKp7.out.below hb8 HKp7.out.lt)
                have HN8 := Lib.hid (HN7.out.below hb8 HN7.out.lt)
                have HX8 := Lib.hid (HX7.out.below hb8 HX7.out.lt)
                have HC8 : Hid (Els 2 tlV w8 A3 P.t) := Lib.hid (HC7.out.next hb8)
                clear hb8 HB7 HKc7 HKp7 HN7 HX7 HC7
                clear hz hfr
                clear a0 a1 a2 a3 a4
                clear HN8
                clear HC8
                have HD8 : Hid (Els 2 tlV w8 B5 Q.t) := Lib.hid hF
                clear hF
                have HB9 : Hid (Below W.heap.size W (w8.alloc (.cells #[.int .u8 Q.l.toNat, .int .u8 Q.o.toNat, .int .u8 Q.g.toNat, .string ⟨Q.x.toArray⟩, .slice B5 n2 d5] 28))) := Lib.hid (HB8.out.alloc HB8.out.size _)
                have HKc9 := Lib.hid (HKc8.out.alloc (.cells #[.int .u8 Q.l.toNat, .int .u8 Q.o.toNat, .int .u8 Q.g.toNat, .string ⟨Q.x.toArray⟩, .slice B5 n2 d5] 28))
                have HKp9 := Lib.hid (HKp8.out.alloc (.cells #[.int .u8 Q.l.toNat, .int .u8 Q.o.toNat, .int .u8 Q.g.toNat, .string ⟨Q.x.toArray⟩, .slice B5 n2 d5] 28))
                have HX9 := Lib.hid (HX8.out.alloc (.cells #[.int .u8 Q.l.toNat, .int .u8 Q.o.toNat, .int .u8 Q.g.toNat, .string ⟨Q.x.toArray⟩, .slice B5 n2 d5] 28))
                have HD9 : Hid (Els 2 tlV (w8.alloc (.cells #[.int .u8 Q.l.toNat, .int .u8 Q.o.toNat, .int .u8 Q.g.toNat, .string ⟨Q.x.toArray⟩, .slice B5 n2 d5] 28)) B5 Q.t) := Lib.hid (HD8.out.next ((Below.refl _ _).alloc (Nat.le_refl _) _))
                have HR9 := Lib.hid (Blk.new w8 28 #[.int .u8 Q.l.toNat, .int .u8 Q.o.toNat, .int .u8 Q.g.toNat, .string ⟨Q.x.toArray⟩, .slice B5 n2 d5])
                clear HB8 HKc8 HKp8 HX8 HD8
                have a0 := HR9.out.cell 0
                have a1 := HR9.out.cell 1
                have a2 := HR9.out.cell 2
                have a3 := HR9.out.cell 3
                have a4 := HR9.out.cell 4
                simp only [List.getElem?_toArray, List.getElem?_cons_succ, List.getElem?_cons_zero] at a0 a1 a2 a3 a4
                go_wp2_with fail
                refine (KT2.out _ _ _ HD9.out).mono ?_
                rintro r w10 ⟨rfl, hb10⟩
                have HB10 : Hid (Below W.heap.size W w10) := Lib.hid (HB9.out.trans (hb10.mono HB9.out.size))
                have HKc10 := Lib.hid (HKc9.out.below hb10 HKc9.out.lt)
                have HKp10 := Lib.hid (HKp9.out.below hb10 HKp9.out.lt)
                have HX10 := Lib.hid (HX9.out.below hb10 HX9.out.lt)
                have HR10 := Lib.hid (HR9.out.below hb10 HR9.out.lt)
                have HD10 : Hid (Els 2 tlV w10 B5 Q.t) := Lib.hid (HD9.out.next hb10)
                clear hb10 HB9 HKc9 HKp9 HX9 HR9 HD9
                clear a0 a1 a2 a3 a4
                clear HR10
                clear HD10
                have HKcS := HKc10
                have HKpS := HKp10
                have HBS := HB10
                have HB11 : Hid (Below W.heap.size W (w10.alloc (.cells #[.int .u8 cl.toNat, .bool true, .int .u32 cq.toNat, .string ⟨cd.toArray⟩] 32))) := Lib.hid (HB10.out.alloc HB10.out.size _)
                have HKc11 := Lib.hid (HKc10.out.alloc (.cells #[.int .u8 cl.toNat, .bool true, .int .u32 cq.toNat, .string ⟨cd.toArray⟩] 32))
                have HKp11 := Lib.hid (HKp10.out.alloc (.cells #[.int .u8 cl.toNat, .bool true, .int .u32 cq.toNat, .string ⟨cd.toArray⟩] 32))
                have HX11 := Lib.hid (HX10.out.alloc (.cells #[.int .u8 cl.toNat, .bool true, .int .u32 cq.toNat, .string ⟨cd.toArray⟩] 32))
                have HY11 := Lib.hid (Blk.new w10 32 #[.int .u8 cl.toNat, .bool true, .int .u32 cq.toNat, .string ⟨cd.toArray⟩])
                clear HB10 HKc10 HKp10 HX10
                have a0 := HX11.out.cell 0
                have a1 := HX11.out.cell 1
                have a2 := HX11.out.cell 2
                have a3 := HX11.out.cell 3
                simp only [List.getElem?_toArray, List.getElem?_cons_succ, List.getElem?_cons_zero] at a0 a1 a2 a3
                have b0 := HKc11.out.cell 0
                have b1 := HKc11.out.cell 1
                have b2 := HKc11.out.cell 2
                have b3 := HKc11.out.cell 3
                simp only [List.getElem?_toArray, List.getElem?_cons_succ, List.getElem?_cons_zero] at b0 b1 b2 b3
                have e0 := HY11.out.cell 0
                have e1 := HY11.out.cell 1
                have e2 := HY11.out.cell 2
                have e3 := HY11.out.cell 3
                simp only [List.getElem?_toArray, List.getElem?_cons_succ, List.getElem?_cons_zero] at e0 e1 e2 e3
                have bf := HKc11.out.frozen 1
                have HKz : Hid (Blk ((w10.setCell ⟨W.heap.size, 1, none⟩ (.bool true)).alloc (.cells #[.int .u8 cl.toNat, .bool true, .int .u32 cq.toNat, .string ⟨cd.toArray⟩] 32)) W.heap.size 32 #[.int .u8 cl.toNat, .bool true, .int .u32 cq.toNat, .string ⟨cd.toArray⟩]) := Lib.hid (by
                  have := (HKcS.out.put 1 (.bool true)).alloc (.cells #[.int .u8 cl.toNat, .bool true, .int .u32 cq.toNat, .string ⟨cd.toArray⟩] 32)
                  simpa using this)
                have HYz : Hid (Blk ((w10.setCell ⟨W.heap.size, 1, none⟩ (.bool true)).alloc (.cells #[.int .u8 cl.toNat, .bool true, .int .u32 cq.toNat, .string ⟨cd.toArray⟩] 32)) w10.heap.size 32 #[.int .u8 cl.toNat, .bool true, .int .u32 cq.toNat, .string ⟨cd.toArray⟩]) := Lib.hid (by
                  have := Blk.new (w10.setCell ⟨W.heap.size, 1, none⟩ (.bool true)) 32 #[.int .u8 cl.toNat, .bool true, .int .u32 cq.toNat, .string ⟨cd.toArray⟩]
                  simpa using this)
                have HPz : Hid (Blk ((w10.setCell ⟨W.heap.size, 1, none⟩ (.bool true)).alloc (.cells #[.int .u8 cl.toNat, .bool true, .int .u32 cq.toNat, .string ⟨cd.toArray⟩] 32)) (W.heap.size + 1) 36 #[.int .u8 p.l.toNat, .int .u8 p.o.toNat, .int .u8 p.g.toNat, .string ⟨p.x.toArray⟩, .slice A p.t.length k]) := Lib.hid ((HKpS.out.far (p := ⟨W.heap.size, 1, none⟩) (by show W.heap.size + 1 ≠ W.heap.size; omega) (.bool true)).alloc _)
                have HBz : Hid (Below W.heap.size W ((w10.setCell ⟨W.heap.size, 1, none⟩ (.bool true)).alloc (.cells #[.int .u8 cl.toNat, .bool true, .int .u32 cq.toNat, .string ⟨cd.toArray⟩] 32))) := Lib.hid ((HBS.out.setCell (Nat.le_refl _) _).alloc (by simpa using HBS.out.size) _)
                have hltY : W.heap.size < w10.heap.size := HKcS.out.lt
                clear HKcS HKpS HBS
                have f0 := HKz.out.cell 0
                have f1 := HKz.out.cell 1
                have f2 := HKz.out.cell 2
                have f3 := HKz.out.cell 3
                simp only [List.getElem?_toArray, List.getElem?_cons_succ, List.getElem?_cons_zero] at f0 f1 f2 f3
                have g0 := HYz.out.cell 0
                have g1 := HYz.out.cell 1
                have g2 := HYz.out.cell 2
                have g3 := HYz.out.cell 3
                simp only [List.getElem?_toArray, List.getElem?_cons_succ, List.getElem?_cons_zero] at g0 g1 g2 g3
                go_wp2_with fail
                go_meet
                exact ⟨HBz, HPz⟩
              · have hE1 : loE (⟨cl, true, cq, cd⟩ : Lo) = 0 := HPP.out.2
                have hPD : pdE P = 0 := by rw [← HPP.out.1]; exact loP_pd hE1
                have hlk := lk_back hE1
                rw [HPP.out.1] at hlk
                have hbk := cf_back hPD t
                have hvl := pdP_len P
                have hnn := HPQ.out
                have KC := Lib.hid (fun A k w h => cfput_any A k P w h (by omega))
                obtain ⟨V, hV⟩ : ∃ V, pdP P = V := ⟨_, rfl⟩
                rw [hV] at hbk hvl
                rw [hV, hPD] at KC
                obtain ⟨Z, hZ⟩ : ∃ Z, V ++ t = Z := ⟨_, rfl⟩
                rw [hZ] at hbk
                have KZ := Lib.hid (fun w => cftake_any Z w (by rw [← hZ, List.length_append]; have := HTL.out; omega))
                rw [hbk.1, hbk.2] at KZ
                have KT1 := Lib.hid (fun A k w h => HT.out A k P w h (by omega) (by omega))
                rw [hlk.1, hlk.2] at KT1
                have KA1 := Lib.hid (fun A k w h hz => HAN.out A k P w h hz (by omega) (by omega))
                have han := an_none hE1 rfl
                rw [HPP.out.1] at han
                rw [han] at KA1
                have hql : (anP P).t.length ≤ 1 ∧ (anP P).x.length ≤ 4 := by
                  rcases anF_is P with ⟨_, _, _, h⟩ | ⟨_, h⟩
                  · rw [h]; exact hnn
                  · rw [h]; simp [pd0]
                have KT2 := Lib.hid (fun A k w h => HT.out A k (anP P) w h (by omega) (by omega))
                obtain ⟨Q, hQ⟩ : ∃ X, anP P = X := ⟨_, rfl⟩
                rw [hQ] at KA1 KT2
                obtain ⟨Y, hY⟩ : ∃ Y, lkX Q = Y := ⟨_, rfl⟩
                obtain ⟨YF, hYF⟩ : ∃ Y, lkF Q = Y := ⟨_, rfl⟩
                rw [hY, hYF] at KT2
                clear hY hYF
                obtain ⟨n2, hn2⟩ : ∃ n, Q.t.length = n := ⟨_, rfl⟩
                simp only [PdV, hn2, HN1.out] at KC KZ KT1 KA1 KT2
                have a1 : ∀ w : World, (Op.stringOp .add ⟨V.toArray⟩ ⟨t.toArray⟩).run Try.prog w = .ok (.string ⟨Z.toArray⟩) w := fun w => by rw [← hZ]; exact run_string_add_lists w V t (by omega) (by have := HTL.out; omega)
                have qc : ∀ w : World, (Op.equalIn 10000 32 (.agg #[.int .u8 cl.toNat, .bool true, .int .u32 cq.toNat, .string ⟨cd.toArray⟩]) (.agg #[.int .u8 cl.toNat, .bool true, .int .u32 cq.toNat, .string ⟨cd.toArray⟩])).run Try.prog w = .ok true w := fun w => by
                  have := run_eqLo ⟨cl, true, cq, cd⟩ ⟨cl, true, cq, cd⟩ w
                  simp only [decide_true] at this
                  exact this
                have qt : ∀ w : World, (Op.equalIn 10000 32 (.agg #[.int .u8 cl.toNat, .bool true, .int .u32 cq.toNat, .string ⟨cd.toArray⟩]) (.agg #[.int .u8 cl.toNat, .bool true, .int .u32 cq.toNat, .string ⟨cd.toArray⟩])).run Try.prog w = .ok true w := fun w => by
                  have := run_eqLo ⟨cl, true, cq, cd⟩ ⟨cl, true, cq, cd⟩ w
                  simp only [decide_true] at this
                  exact this
                clear hE1 hPD hlk hbk hvl hnn hV hZ han hql hQ hn2
                have a0 := HM2.out.cell 0
                have a1 := HM2.out.cell 1
                have a2 := HM2.out.cell 2
                have a3 := HM2.out.cell 3
                have a4 := HM2.out.cell 4
                simp only [List.getElem?_toArray, List.getElem?_cons_succ, List.getElem?_cons_zero] at a0 a1 a2 a3 a4
                go_wp2_with fail
                refine (KC.out _ _ _ HA2.out).mono ?_
                rintro r w3 ⟨rfl, hb3⟩
                have HB3 : Hid (Below W.heap.size W w3) := Lib.hid (HB2.out.trans (hb3.mono HB2.out.size))
                have HKc3 := Lib.hid (HKc2.out.below hb3 HKc2.out.lt)
                have HKp3 := Lib.hid (HKp2.out.below hb3 HKp2.out.lt)
                have HM3 := Lib.hid (HM2.out.below hb3 HM2.out.lt)
                have HA3 : Hid (Els 2 tlV w3 A1 P.t) := Lib.hid (HA2.out.next hb3)
                clear hb3 HB2 HKc2 HKp2 HM2 HA2
                clear a0 a1 a2 a3 a4
                clear HM3
                clear HA3
                go_wp2_with fail
                refine (KZ.out _).mono ?_
                rintro r w4 ⟨A3, k3, rfl, hF, hz, hb4⟩
                have HB4 : Hid (Below W.heap.size W w4) := Lib.hid (HB3.out.trans (hb4.mono HB3.out.size))
                have HKc4 := Lib.hid (HKc3.out.below hb4 HKc3.out.lt)
                have HKp4 := Lib.hid (HKp3.out.below hb4 HKp3.out.lt)
                clear hb4 HB3 HKc3 HKp3
                have HZ3 := Lib.hid hz
                clear hz
                have HC4 : Hid (Els 2 tlV w4 A3 P.t) := Lib.hid hF
                clear hF
                have HB5 : Hid (Below W.heap.size W (w4.alloc (.cells #[.int .u8 P.l.toNat, .int .u8 P.o.toNat, .int .u8 P.g.toNat, .string ⟨P.x.toArray⟩, .slice A3 n1 k3] 28))) := Lib.hid (HB4.out.alloc HB4.out.size _)
                have HKc5 := Lib.hid (HKc4.out.alloc (.cells #[.int .u8 P.l.toNat, .int .u8 P.o.toNat, .int .u8 P.g.toNat, .string ⟨P.x.toArray⟩, .slice A3 n1 k3] 28))
                have HKp5 := Lib.hid (HKp4.out.alloc (.cells #[.int .u8 P.l.toNat, .int .u8 P.o.toNat, .int .u8 P.g.toNat, .string ⟨P.x.toArray⟩, .slice A3 n1 k3] 28))
                have HC5 : Hid (Els 2 tlV (w4.alloc (.cells #[.int .u8 P.l.toNat, .int .u8 P.o.toNat, .int .u8 P.g.toNat, .string ⟨P.x.toArray⟩, .slice A3 n1 k3] 28)) A3 P.t) := Lib.hid (HC4.out.next ((Below.refl _ _).alloc (Nat.le_refl _) _))
                have HN5 := Lib.hid (Blk.new w4 28 #[.int .u8 P.l.toNat, .int .u8 P.o.toNat, .int .u8 P.g.toNat, .string ⟨P.x.toArray⟩, .slice A3 n1 k3])
                clear HB4 HKc4 HKp4 HC4
                have a0 := HN5.out.cell 0
                have a1 := HN5.out.cell 1
                have a2 := HN5.out.cell 2
                have a3 := HN5.out.cell 3
                have a4 := HN5.out.cell 4
                simp only [List.getElem?_toArray, List.getElem?_cons_succ, List.getElem?_cons_zero] at a0 a1 a2 a3 a4
                go_wp2_with fail
                refine (KT1.out _ _ _ HC5.out).mono ?_
                rintro r w6 ⟨rfl, hb6⟩
                have HB6 : Hid (Below W.heap.size W w6) := Lib.hid (HB5.out.trans (hb6.mono HB5.out.size))
                have HKc6 := Lib.hid (HKc5.out.below hb6 HKc5.out.lt)
                have HKp6 := Lib.hid (HKp5.out.below hb6 HKp5.out.lt)
                have HN6 := Lib.hid (HN5.out.below hb6 HN5.out.lt)
                have HC6 : Hid (Els 2 tlV w6 A3 P.t) := Lib.hid (HC5.out.next hb6)
                clear hb6 HB5 HKc5 HKp5 HN5 HC5
                clear a0 a1 a2 a3 a4
                have HB7 : Hid (Below W.heap.size W (w6.alloc (.cells #[.int .u8 cl.toNat, .bool true, .int .u32 cq.toNat, .string ⟨cd.toArray⟩] 32))) := Lib.hid (HB6.out.alloc HB6.out.size _)
                have HKc7 := Lib.hid (HKc6.out.alloc (.cells #[.int .u8 cl.toNat, .bool true, .int .u32 cq.toNat, .string ⟨cd.toArray⟩] 32))
                have HKp7 := Lib.hid (HKp6.out.alloc (.cells #[.int .u8 cl.toNat, .bool true, .int .u32 cq.toNat, .string ⟨cd.toArray⟩] 32))
                have HN7 := Lib.hid (HN6.out.alloc (.cells #[.int .u8 cl.toNat, .bool true, .int .u32 cq.toNat, .string ⟨cd.toArray⟩] 32))
                have HC7 : Hid (Els 2 tlV (w6.alloc (.cells #[.int .u8 cl.toNat, .bool true, .int .u32 cq.toNat, .string ⟨cd.toArray⟩] 32)) A3 P.t) := Lib.hid (HC6.out.next ((Below.refl _ _).alloc (Nat.le_refl _) _))
                have HX7 := Lib.hid (Blk.new w6 32 #[.int .u8 cl.toNat, .bool true, .int .u32 cq.toNat, .string ⟨cd.toArray⟩])
                clear HB6 HKc6 HKp6 HN6 HC6
                have a0 := HN7.out.cell 0
                have a1 := HN7.out.cell 1
                have a2 := HN7.out.cell 2
                have a3 := HN7.out.cell 3
                have a4 := HN7.out.cell 4
                simp only [List.getElem?_toArray, List.getElem?_cons_succ, List.getElem?_cons_zero] at a0 a1 a2 a3 a4
                go_wp2_with fail
                refine (KA1.out _ _ _ HC7.out HZ3.out).mono ?_
                rintro r w8 ⟨B5, d5, rfl, hF, hz, hfr, hb8⟩
                have HB8 : Hid (Below W.heap.size W w8) := Lib.hid (HB7.out.trans (hb8.mono HB7.out.size))
                have HKc8 := Lib.hid (HKc7.out.below hb8 HKc7.out.lt)
                have HKp8 := Lib.hid (HKp7.out.below hb8 HKp7.out.lt)
                have HN8 := Lib.hid (HN7.out.below hb8 HN7.out.lt)
                have HX8 := Lib.hid (HX7.out.below hb8 HX7.out.lt)
                have HC8 : Hid (Els 2 tlV w8 A3 P.t) := Lib.hid (HC7.out.next hb8)
                clear hb8 HB7 HKc7 HKp7 HN7 HX7 HC7
                clear hz hfr
                clear a0 a1 a2 a3 a4
                clear HN8
                clear HC8
                have HD8 : Hid (Els 2 tlV w8 B5 Q.t) := Lib.hid hF
                clear hF
                have HB9 : Hid (Below W.heap.size W (w8.alloc (.cells #[.int .u8 Q.l.toNat, .int .u8 Q.o.toNat, .int .u8 Q.g.toNat, .string ⟨Q.x.toArray⟩, .slice B5 n2 d5] 28))) := Lib.hid (HB8.out.alloc HB8.out.size _)
                have HKc9 := Lib.hid (HKc8.out.alloc (.cells #[.int .u8 Q.l.toNat, .int .u8 Q.o.toNat, .int .u8 Q.g.toNat, .string ⟨Q.x.toArray⟩, .slice B5 n2 d5] 28))
                have HKp9 := Lib.hid (HKp8.out.alloc (.cells #[.int .u8 Q.l.toNat, .int .u8 Q.o.toNat, .int .u8 Q.g.toNat, .string ⟨Q.x.toArray⟩, .slice B5 n2 d5] 28))
                have HX9 := Lib.hid (HX8.out.alloc (.cells #[.int .u8 Q.l.toNat, .int .u8 Q.o.toNat, .int .u8 Q.g.toNat, .string ⟨Q.x.toArray⟩, .slice B5 n2 d5] 28))
                have HD9 : Hid (Els 2 tlV (w8.alloc (.cells #[.int .u8 Q.l.toNat, .int .u8 Q.o.toNat, .int .u8 Q.g.toNat, .string ⟨Q.x.toArray⟩, .slice B5 n2 d5] 28)) B5 Q.t) := Lib.hid (HD8.out.next ((Below.refl _ _).alloc (Nat.le_refl _) _))
                have HR9 := Lib.hid (Blk.new w8 28 #[.int .u8 Q.l.toNat, .int .u8 Q.o.toNat, .int .u8 Q.g.toNat, .string ⟨Q.x.toArray⟩, .slice B5 n2 d5])
                clear HB8 HKc8 HKp8 HX8 HD8
                have a0 := HR9.out.cell 0
                have a1 := HR9.out.cell 1
                have a2 := HR9.out.cell 2
                have a3 := HR9.out.cell 3
                have a4 := HR9.out.cell 4
                simp only [List.getElem?_toArray, List.getElem?_cons_succ, List.getElem?_cons_zero] at a0 a1 a2 a3 a4
                go_wp2_with fail
                refine (KT2.out _ _ _ HD9.out).mono ?_
                rintro r w10 ⟨rfl, hb10⟩
                have HB10 : Hid (Below W.heap.size W w10) := Lib.hid (HB9.out.trans (hb10.mono HB9.out.size))
                have HKc10 := Lib.hid (HKc9.out.below hb10 HKc9.out.lt)
                have HKp10 := Lib.hid (HKp9.out.below hb10 HKp9.out.lt)
                have HX10 := Lib.hid (HX9.out.below hb10 HX9.out.lt)
                have HR10 := Lib.hid (HR9.out.below hb10 HR9.out.lt)
                have HD10 : Hid (Els 2 tlV w10 B5 Q.t) := Lib.hid (HD9.out.next hb10)
                clear hb10 HB9 HKc9 HKp9 HX9 HR9 HD9
                clear a0 a1 a2 a3 a4
                clear HR10
                clear HD10
                have HKcS := HKc10
                have HKpS := HKp10
                have HBS := HB10
                have HB11 : Hid (Below W.heap.size W (w10.alloc (.cells #[.int .u8 Y.l.toNat, .bool Y.r, .int .u32 Y.q.toNat, .string ⟨Y.d.toArray⟩] 32))) := Lib.hid (HB10.out.alloc HB10.out.size _)
                have HKc11 := Lib.hid (HKc10.out.alloc (.cells #[.int .u8 Y.l.toNat, .bool Y.r, .int .u32 Y.q.toNat, .string ⟨Y.d.toArray⟩] 32))
                have HKp11 := Lib.hid (HKp10.out.alloc (.cells #[.int .u8 Y.l.toNat, .bool Y.r, .int .u32 Y.q.toNat, .string ⟨Y.d.toArray⟩] 32))
                have HX11 := Lib.hid (HX10.out.alloc (.cells #[.int .u8 Y.l.toNat, .bool Y.r, .int .u32 Y.q.toNat, .string ⟨Y.d.toArray⟩] 32))
                have HY11 := Lib.hid (Blk.new w10 32 #[.int .u8 Y.l.toNat, .bool Y.r, .int .u32 Y.q.toNat, .string ⟨Y.d.toArray⟩])
                clear HB10 HKc10 HKp10 HX10
                have a0 := HX11.out.cell 0
                have a1 := HX11.out.cell 1
                have a2 := HX11.out.cell 2
                have a3 := HX11.out.cell 3
                simp only [List.getElem?_toArray, List.getElem?_cons_succ, List.getElem?_cons_zero] at a0 a1 a2 a3
                have b0 := HKc11.out.cell 0
                have b1 := HKc11.out.cell 1
                have b2 := HKc11.out.cell 2
                have b3 := HKc11.out.cell 3
                simp only [List.getElem?_toArray, List.getElem?_cons_succ, List.getElem?_cons_zero] at b0 b1 b2 b3
                have e0 := HY11.out.cell 0
                have e1 := HY11.out.cell 1
                have e2 := HY11.out.cell 2
                have e3 := HY11.out.cell 3
                simp only [List.getElem?_toArray, List.getElem?_cons_succ, List.getElem?_cons_zero] at e0 e1 e2 e3
                have bf := HKc11.out.frozen 1
                have HKz : Hid (Blk ((w10.setCell ⟨W.heap.size, 1, none⟩ (.bool true)).alloc (.cells #[.int .u8 Y.l.toNat, .bool Y.r, .int .u32 Y.q.toNat, .string ⟨Y.d.toArray⟩] 32)) W.heap.size 32 #[.int .u8 cl.toNat, .bool true, .int .u32 cq.toNat, .string ⟨cd.toArray⟩]) := Lib.hid (by
                  have := (HKcS.out.put 1 (.bool true)).alloc (.cells #[.int .u8 Y.l.toNat, .bool Y.r, .int .u32 Y.q.toNat, .string ⟨Y.d.toArray⟩] 32)
                  simpa using this)
                have HYz : Hid (Blk ((w10.setCell ⟨W.heap.size, 1, none⟩ (.bool true)).alloc (.cells #[.int .u8 Y.l.toNat, .bool Y.r, .int .u32 Y.q.toNat, .string ⟨Y.d.toArray⟩] 32)) w10.heap.size 32 #[.int .u8 Y.l.toNat, .bool Y.r, .int .u32 Y.q.toNat, .string ⟨Y.d.toArray⟩]) := Lib.hid (by
                  have := Blk.new (w10.setCell ⟨W.heap.size, 1, none⟩ (.bool true)) 32 #[.int .u8 Y.l.toNat, .bool Y.r, .int .u32 Y.q.toNat, .string ⟨Y.d.toArray⟩]
                  simpa using this)
                have HPz : Hid (Blk ((w10.setCell ⟨W.heap.size, 1, none⟩ (.bool true)).alloc (.cells #[.int .u8 Y.l.toNat, .bool Y.r, .int .u32 Y.q.toNat, .string ⟨Y.d.toArray⟩] 32)) (W.heap.size + 1) 36 #[.int .u8 p.l.toNat, .int .u8 p.o.toNat, .int .u8 p.g.toNat, .string ⟨p.x.toArray⟩, .slice A p.t.length k]) := Lib.hid ((HKpS.out.far (p := ⟨W.heap.size, 1, none⟩) (by show W.heap.size + 1 ≠ W.heap.size; omega) (.bool true)).alloc _)
                have HBz : Hid (Below W.heap.size W ((w10.setCell ⟨W.heap.size, 1, none⟩ (.bool true)).alloc (.cells #[.int .u8 Y.l.toNat, .bool Y.r, .int .u32 Y.q.toNat, .string ⟨Y.d.toArray⟩] 32))) := Lib.hid ((HBS.out.setCell (Nat.le_refl _) _).alloc (by simpa using HBS.out.size) _)
                have hltY : W.heap.size < w10.heap.size := HKcS.out.lt
                clear HKcS HKpS HBS
                have f0 := HKz.out.cell 0
                have f1 := HKz.out.cell 1
                have f2 := HKz.out.cell 2
                have f3 := HKz.out.cell 3
                simp only [List.getElem?_toArray, List.getElem?_cons_succ, List.getElem?_cons_zero] at f0 f1 f2 f3
                have g0 := HYz.out.cell 0
                have g1 := HYz.out.cell 1
                have g2 := HYz.out.cell 2
                have g3 := HYz.out.cell 3
                simp only [List.getElem?_toArray, List.getElem?_cons_succ, List.getElem?_cons_zero] at g0 g1 g2 g3
                go_wp2_with fail
                go_meet
                exact ⟨HBz, HPz⟩
            · have e0 : ((E : Int) == 0) = false := by simpa using hE0
              clear hE0
              go_wp2_with fail
              go_meet
              exact ⟨HB2, HKp2⟩
          obtain ⟨HBx, HKx⟩ := hcut
          clear KP HPP HPQ HN1 HTL
          have HKx0 := HKx
          rcases anF_is p with ⟨hG, ho, _, hQ⟩ | ⟨hG, hQ⟩
          · have hoI := Lib.hid (show (p.o.toNat : Int) = 3 by rw [ho]; rfl)
            clear ho
            have KA : Hid (∀ A k w, Els 2 tlV w A p.t → (A = none → k = 0) → Calls Try.prog 14 #[PdV p A k] w fun e w' => ∃ B d, e = .returned (.tuple #[.agg #[.int .u8 p.l.toNat, .int .u8 2, .int .u8 p.g.toNat, .string ⟨p.x.toArray⟩, .slice B p.t.length d], .int .i64 0]) ∧ Els 2 tlV w' B p.t ∧ (0 < p.t.length → ∀ a, B = some a → w.heap.size ≤ a.block) ∧ Below w.heap.size w w') := Lib.hid (fun A k w h hz => by
              have := HAN.out A k p w h hz HPL.out.1 (by have := HPL.out; omega)
              rw [hQ, hG] at this
              exact this.mono (fun e w' ⟨B, d, h1, h2, _, h4, h5⟩ => ⟨B, d, h1, h2, h4, h5⟩))
            clear hG hQ
            have k0 := HKx.out.cell 0
            have k1 := HKx.out.cell 1
            have k2 := HKx.out.cell 2
            have k3 := HKx.out.cell 3
            have k4 := HKx.out.cell 4
            simp only [List.getElem?_toArray, List.getElem?_cons_succ, List.getElem?_cons_zero] at k0 k1 k2 k3 k4
            go_wp2_with fail
            refine (KOW.out _ (HEW.out.next HBx.out)).mono ?_
            rintro r w51 ⟨B, d, rfl, hF, hz, hown, hb51⟩
            have HB51 : Hid (Below W.heap.size W w51) := Lib.hid (HBx.out.trans (hb51.mono HBx.out.size))
            have HKp51 := Lib.hid (HKx.out.below hb51 HKx.out.lt)
            clear hb51 HBx HKx
            clear k0 k1 k2 k3 k4
            have HZ := Lib.hid hz
            have HOWN := Lib.hid hown
            clear hz hown
            have HF51 : Hid (Els 2 tlV w51 B p.t) := Lib.hid hF
            clear hF
            have HB52 : Hid (Below W.heap.size W (w51.alloc (.cells #[.int .u8 p.l.toNat, .int .u8 p.o.toNat, .int .u8 p.g.toNat, .string ⟨p.x.toArray⟩, .slice B p.t.length d] 28))) := Lib.hid (HB51.out.alloc HB51.out.size _)
            have HKp52 := Lib.hid (HKp51.out.alloc (.cells #[.int .u8 p.l.toNat, .int .u8 p.o.toNat, .int .u8 p.g.toNat, .string ⟨p.x.toArray⟩, .slice B p.t.length d] 28))
            have HF52 : Hid (Els 2 tlV (w51.alloc (.cells #[.int .u8 p.l.toNat, .int .u8 p.o.toNat, .int .u8 p.g.toNat, .string ⟨p.x.toArray⟩, .slice B p.t.length d] 28)) B p.t) := Lib.hid (HF51.out.next ((Below.refl _ _).alloc (Nat.le_refl _) _))
            have HW52 := Lib.hid (Blk.new w51 28 #[.int .u8 p.l.toNat, .int .u8 p.o.toNat, .int .u8 p.g.toNat, .string ⟨p.x.toArray⟩, .slice B p.t.length d])
            clear HB51 HKp51 HF51
            have HOWL : Hid (0 < p.t.length → ∃ g cs, B = some ⟨g, 0, none⟩ ∧ wc.heap.size ≤ g ∧ g < w51.heap.size ∧ Blk (w51.alloc (.cells #[.int .u8 p.l.toNat, .int .u8 p.o.toNat, .int .u8 p.g.toNat, .string ⟨p.x.toArray⟩, .slice B p.t.length d] 28)) g 52 cs) := Lib.hid (fun h0 => by obtain ⟨g, cs, e, hg, hb⟩ := HOWN.out h0; exact ⟨g, cs, e, hg, hb.lt, hb.alloc _⟩)
            have k0 := HW52.out.cell 0
            have k1 := HW52.out.cell 1
            have k2 := HW52.out.cell 2
            have k3 := HW52.out.cell 3
            have k4 := HW52.out.cell 4
            simp only [List.getElem?_toArray, List.getElem?_cons_succ, List.getElem?_cons_zero] at k0 k1 k2 k3 k4
            go_wp2_with fail
            refine (KA.out _ _ _ HF52.out HZ.out).mono ?_
            rintro r w53 ⟨B2, d2, rfl, hF, hfr, hb53⟩
            have HB53 : Hid (Below W.heap.size W w53) := Lib.hid (HB52.out.trans (hb53.mono HB52.out.size))
            have HKp53 := Lib.hid (HKp52.out.below hb53 HKp52.out.lt)
            have HW53 := Lib.hid (HW52.out.below hb53 HW52.out.lt)
            have HF53 : Hid (Els 2 tlV w53 B p.t) := Lib.hid (HF52.out.next hb53)
            have HOWM : Hid (0 < p.t.length → ∃ g cs, B = some ⟨g, 0, none⟩ ∧ wc.heap.size ≤ g ∧ g < w51.heap.size ∧ Blk w53 g 52 cs) := Lib.hid (fun h0 => by obtain ⟨g, cs, e, hg, hl, hb⟩ := HOWL.out h0; exact ⟨g, cs, e, hg, hl, hb.below hb53 hb.lt⟩)
            clear hb53 HB52 HKp52 HW52 HF52
            clear k0 k1 k2 k3 k4
            have HFR : Hid (0 < p.t.length → ∀ a, B2 = some a → w51.heap.size < a.block + 1) := Lib.hid (fun h0 a ha => by have := hfr (by first | exact h0 | (exact absurd h0 (by simp))) a ha; simp at this; omega)
            clear hfr HOWL HOWN
            have HG53 : Hid (Els 2 tlV w53 B2 p.t) := Lib.hid hF
            clear hF
            have KS : Hid (∀ B C d c w, Els 2 tlV w B p.t → Els 2 tlV w C p.t → Calls Try.prog 10 #[.agg #[.int .u8 p.l.toNat, .int .u8 3, .int .u8 p.g.toNat, .string ⟨p.x.toArray⟩, .slice B p.t.length d], PdV p C c] w fun e w' => e = .returned (.bool true) ∧ Below w.heap.size w w') := Lib.hid (fun B C d c w h h' => by
              have e : (Value.agg #[.int .u8 p.l.toNat, .int .u8 3, .int .u8 p.g.toNat, .string ⟨p.x.toArray⟩, .slice B p.t.length d]) = PdV p B d := by
                show _ = Value.agg #[.int .u8 p.l.toNat, .int .u8 p.o.toNat, .int .u8 p.g.toNat, .string ⟨p.x.toArray⟩, .slice B p.t.length d]
                rw [hoI.out]
              rw [e]
              exact same12_any B C d c p w h h' (by have := HPL.out; omega))
            by_cases hn : 0 < p.t.length
            · have hni : (0 : Int) < (p.t.length : Int) := by omega
              obtain ⟨x, hx⟩ : ∃ x, p.t[0]? = some x := ⟨_, List.getElem?_eq_getElem hn⟩
              obtain ⟨bq, cs, hBe, hbq1, hbq2, hBb⟩ := HOWM.out hn
              subst hBe
              have HQB := Lib.hid hBb
              clear hBb HOWM
              have HGL : Hid (∀ a, B2 = some a → a.block < w53.heap.size) := Lib.hid (fun a ha => by obtain ⟨b, off, e, hlt, _⟩ := HG53.out hn; rw [ha] at e; injection e with h; rw [h]; exact hlt)
              have hq53 : bq < w53.heap.size := HQB.out.lt
              have hw53 : w51.heap.size < w53.heap.size := HW53.out.lt
              have hp53 : W.heap.size + 1 < w53.heap.size := HKp53.out.lt
              have HB54 : Hid (Below W.heap.size W (w53.alloc (.cells #[.int .u8 p.l.toNat, .int .u8 2, .int .u8 p.g.toNat, .string ⟨p.x.toArray⟩, .slice B2 p.t.length d2] 28))) := Lib.hid (HB53.out.alloc HB53.out.size _)
              have HKp54 := Lib.hid (HKp53.out.alloc (.cells #[.int .u8 p.l.toNat, .int .u8 2, .int .u8 p.g.toNat, .string ⟨p.x.toArray⟩, .slice B2 p.t.length d2] 28))
              have HW54 := Lib.hid (HW53.out.alloc (.cells #[.int .u8 p.l.toNat, .int .u8 2, .int .u8 p.g.toNat, .string ⟨p.x.toArray⟩, .slice B2 p.t.length d2] 28))
              have HQB54 := Lib.hid (HQB.out.alloc (.cells #[.int .u8 p.l.toNat, .int .u8 2, .int .u8 p.g.toNat, .string ⟨p.x.toArray⟩, .slice B2 p.t.length d2] 28))
              have HF54 : Hid (Els 2 tlV (w53.alloc (.cells #[.int .u8 p.l.toNat, .int .u8 2, .int .u8 p.g.toNat, .string ⟨p.x.toArray⟩, .slice B2 p.t.length d2] 28)) (some ⟨bq, 0, none⟩) p.t) := Lib.hid (HF53.out.next ((Below.refl _ _).alloc (Nat.le_refl _) _))
              have HG54 : Hid (Els 2 tlV (w53.alloc (.cells #[.int .u8 p.l.toNat, .int .u8 2, .int .u8 p.g.toNat, .string ⟨p.x.toArray⟩, .slice B2 p.t.length d2] 28)) B2 p.t) := Lib.hid (HG53.out.next ((Below.refl _ _).alloc (Nat.le_refl _) _))
              have HQ54 := Lib.hid (Blk.new w53 28 #[.int .u8 p.l.toNat, .int .u8 2, .int .u8 p.g.toNat, .string ⟨p.x.toArray⟩, .slice B2 p.t.length d2])
              clear HB53 HKp53 HW53 HQB HF53 HG53
              obtain ⟨bA, offA, hAe, hbA, cA0, cA1⟩ := tl_at (HEW.out.next HB54.out) hx
              obtain ⟨bq', offq, hBe, hbq3, cq0, cq1⟩ := tl_at HF54.out hx
              obtain ⟨rfl, rfl⟩ : bq = bq' ∧ 0 = offq := by injection hBe with h; injection h with h1 h2 h3; exact ⟨h1, h2⟩
              have hbA2 : bA < W.heap.size := by obtain ⟨b, off, e, hlt, _⟩ := HEW.out hn; rw [hAe] at e; injection e with h; injection h with h1 h2 h3; omega
              subst hAe
              simp only [Nat.zero_mul, Nat.add_zero, Nat.zero_add] at cA0 cA1 cq0 cq1
              have hf1 := HQB54.out.frozen 1
              have hwc : W.heap.size + 1 < wc.heap.size := HKx0.out.lt
              have t4 := HW54.out.cell 4
              simp only [List.getElem?_toArray, List.getElem?_cons_succ, List.getElem?_cons_zero] at t4
              have k4 := HKp54.out.cell 4
              simp only [List.getElem?_toArray, List.getElem?_cons_succ, List.getElem?_cons_zero] at k4
              go_upto_region 20 with (fail)
              obtain ⟨g19, hg19⟩ : ∃ g, w51.heap.size = g := ⟨_, rfl⟩
              obtain ⟨g20, hg20⟩ : ∃ g, w53.heap.size = g := ⟨_, rfl⟩
              rw [hg19] at HW54
              rw [hg19] at t4
              rw [hg19] at hbq2
              rw [hg19] at HFR
              rw [hg19] at hw53
              rw [hg20] at HQ54
              rw [hg20] at HGL
              rw [hg20] at hq53
              rw [hg20] at hw53
              rw [hg20] at hp53
              rw [hg19, hg20]
              clear hg19 hg20
              generalize (w53.alloc (.cells #[.int .u8 p.l.toNat, .int .u8 2, .int .u8 p.g.toNat, .string ⟨p.x.toArray⟩, .slice B2 p.t.length d2] 28)) = w8 at *
              have n1 : bq ≠ g19 := by omega
              have n2 : bq ≠ g20 := by omega
              have n3 : bq ≠ W.heap.size + 1 := by omega
              have n4 : bq ≠ bA := by omega
              have hcs : 1 < cs.size := by
                have h := HQB54.out.cell 1
                rw [cq1] at h
                exact (Array.getElem?_eq_some_iff.1 h.symm).1
              have s1W := Lib.hid ((HW54.out.far (p := ⟨bq, 1, none⟩) (Ne.symm n1) (.string ⟨#[111, 116, 104, 101, 114]⟩)).drew)
              have s1Q := Lib.hid ((HQ54.out.far (p := ⟨bq, 1, none⟩) (Ne.symm n2) (.string ⟨#[111, 116, 104, 101, 114]⟩)).drew)
              have s1K := Lib.hid ((HKp54.out.far (p := ⟨bq, 1, none⟩) (Ne.symm n3) (.string ⟨#[111, 116, 104, 101, 114]⟩)).drew)
              have s1B := Lib.hid ((HQB54.out.put 1 (.string ⟨#[111, 116, 104, 101, 114]⟩)).drew)
              have HC1 : Hid (Chg (fun b => b = bq ∨ b = g20) w8 (w8.setCell ⟨bq, 1, none⟩ (.string ⟨#[111, 116, 104, 101, 114]⟩)).drew) := Lib.hid ((Chg.refl _ w8).setCell (.inr (.inl rfl)) _).drew
              have HB1 : Hid (Below W.heap.size W (w8.setCell ⟨bq, 1, none⟩ (.string ⟨#[111, 116, 104, 101, 114]⟩)).drew) := Lib.hid (HB54.out.setCell (by show W.heap.size ≤ bq; omega) _).drew
              go_upto_region 21 with (fail)
              have v1 : (w8.setCell ⟨bq, 1, none⟩ (.string ⟨#[111, 116, 104, 101, 114]⟩)).drew.cell? ⟨bA, offA + 1, none⟩ = some (.string ⟨x.v.toArray⟩) := (World.cell?_of_block (w := w8) (a := ⟨bA, offA + 1, none⟩) (Below.heap_setCell w8 ⟨bq, 1, none⟩ _ bA (Ne.symm n4))).trans cA1
              have v2 := s1W.out.cell 4
              have v3 := s1K.out.cell 4
              simp only [List.getElem?_toArray, List.getElem?_cons_succ, List.getElem?_cons_zero] at v2 v3
              have v4 : (w8.setCell ⟨bq, 1, none⟩ (.string ⟨#[111, 116, 104, 101, 114]⟩)).drew.cell? ⟨bq, 1, none⟩ = some (.string ⟨#[111, 116, 104, 101, 114]⟩) := by rw [s1B.out.cell 1]; simp [hcs]
              have v5 := s1B.out.frozen 1
              clear t4 k4 cA0 cA1 cq0 cq1 hf1
              generalize (w8.setCell ⟨bq, 1, none⟩ (.string ⟨#[111, 116, 104, 101, 114]⟩)) = s1 at *
              refine wp_region_still_tail 9 (by kernel_rfl) (by kernel_rfl) ?_
              simp only [List.take_succ_cons, List.take_zero, List.drop_succ_cons, List.drop_zero]
              iterate 9 still_step
              refine wpStill_nil ?_
              change wpList _ _ _ _ _ s1.drew
              generalize s1.drew = s2 at *
              have s3B := Lib.hid (s1B.out.put 1 (.string ⟨x.v.toArray⟩))
              have s3Q := Lib.hid (s1Q.out.far (p := ⟨bq, 1, none⟩) (Ne.symm n2) (.string ⟨x.v.toArray⟩))
              have s3K := Lib.hid (s1K.out.far (p := ⟨bq, 1, none⟩) (Ne.symm n3) (.string ⟨x.v.toArray⟩))
              have HC3 : Hid (Chg (fun b => b = bq ∨ b = g20) w8 (s2.setCell ⟨bq, 1, none⟩ (.string ⟨x.v.toArray⟩))) := Lib.hid (HC1.out.setCell (.inr (.inl rfl)) _)
              have HB3 : Hid (Below W.heap.size W (s2.setCell ⟨bq, 1, none⟩ (.string ⟨x.v.toArray⟩))) := Lib.hid (HB1.out.setCell (by show W.heap.size ≤ bq; omega) _)
              have u1 := s3Q.out.cell 1
              simp only [List.getElem?_toArray, List.getElem?_cons_succ, List.getElem?_cons_zero] at u1
              have u2 := s3Q.out.frozen 1
              go_upto_region 23 with (fail)
              clear u1 u2 v1 v2 v3 v4 v5 s1W s1Q s1K s1B
              generalize s2.setCell ⟨bq, 1, none⟩ (.string ⟨x.v.toArray⟩) = s4 at *
              have HQz : Hid (Blk (s4.setCell ⟨g20, 1, none⟩ (.int .u8 3)).drew g20 28 #[.int .u8 p.l.toNat, .int .u8 3, .int .u8 p.g.toNat, .string ⟨p.x.toArray⟩, .slice B2 p.t.length d2]) := Lib.hid (by
                have := (s3Q.out.put 1 (.int .u8 3)).drew
                simpa using this)
              have HKz := Lib.hid ((s3K.out.far (p := ⟨g20, 1, none⟩) (by show W.heap.size + 1 ≠ g20; omega) (.int .u8 3)).drew)
              have HBz : Hid (Below W.heap.size W (s4.setCell ⟨g20, 1, none⟩ (.int .u8 3)).drew) := Lib.hid (HB3.out.setCell (by show W.heap.size ≤ g20; omega) _).drew
              have HCz : Hid (Chg (fun b => b = bq ∨ b = g20) w8 (s4.setCell ⟨g20, 1, none⟩ (.int .u8 3)).drew) := Lib.hid (HC3.out.setCell (.inr (.inr rfl)) _).drew
              have HEz : Hid (Els 2 tlV (s4.setCell ⟨g20, 1, none⟩ (.int .u8 3)).drew (some ⟨bA, offA, none⟩) p.t) := Lib.hid (HEW.out.next HBz.out)
              have HGz : Hid (Els 2 tlV (s4.setCell ⟨g20, 1, none⟩ (.int .u8 3)).drew B2 p.t) := Lib.hid (elsL_chg HG54.out HCz.out (fun a ha h => by have h1 := HGL.out a ha; have h2 := HFR.out hn a ha; rcases h with h | h <;> omega))
              clear s3B s3Q s3K HC1 HC3 HB1 HB3
              have e0 := HQz.out.cell 0
              have e1 := HQz.out.cell 1
              have e2 := HQz.out.cell 2
              have e3 := HQz.out.cell 3
              have e4 := HQz.out.cell 4
              simp only [List.getElem?_toArray, List.getElem?_cons_succ, List.getElem?_cons_zero] at e0 e1 e2 e3 e4
              have k0 := HKz.out.cell 0
              have k1 := HKz.out.cell 1
              have k2 := HKz.out.cell 2
              have k3 := HKz.out.cell 3
              have k4 := HKz.out.cell 4
              simp only [List.getElem?_toArray, List.getElem?_cons_succ, List.getElem?_cons_zero] at k0 k1 k2 k3 k4
              go_region_held3 (fun w_ => w_.cell? ⟨g20, 0, none⟩ = some (.int .u8 p.l.toNat) ∧ w_.cell? ⟨g20, 1, none⟩ = some (.int .u8 3) ∧ w_.cell? ⟨g20, 2, none⟩ = some (.int .u8 p.g.toNat) ∧ w_.cell? ⟨g20, 3, none⟩ = some (.string ⟨p.x.toArray⟩) ∧ w_.cell? ⟨g20, 4, none⟩ = some (.slice B2 p.t.length d2) ∧ w_.cell? ⟨(W.heap.size + 1), 0, none⟩ = some (.int .u8 p.l.toNat) ∧ w_.cell? ⟨(W.heap.size + 1), 1, none⟩ = some (.int .u8 p.o.toNat) ∧ w_.cell? ⟨(W.heap.size + 1), 2, none⟩ = some (.int .u8 p.g.toNat) ∧ w_.cell? ⟨(W.heap.size + 1), 3, none⟩ = some (.string ⟨p.x.toArray⟩) ∧ w_.cell? ⟨(W.heap.size + 1), 4, none⟩ = some (.slice (some ⟨bA, offA, none⟩) p.t.length k) ∧ Hid (Els 2 tlV w_ (some ⟨bA, offA, none⟩) p.t) ∧ Hid (Els 2 tlV w_ B2 p.t) ∧ Hid (Below W.heap.size W w_)) (go_keep)
                (first
                  | (go_at_call 11; refine (KOW.out _ (Hid.out (by assumption))).mono ?_; rintro r w_ ⟨C, c3, rfl, hF_, hz_, ho_, hb_⟩; have HF_ := Lib.hid hF_; clear hF_ hz_ ho_; obtain ⟨k0, k1, k2, k3, k4, k5, k6, k7, k8, k9, k10, k11, k12⟩ := keep14b (W := W) (g20 := g20) (gp := W.heap.size + 1) (k := k) (d2 := d2) (A := some ⟨bA, offA, none⟩) (B2 := B2) (p := p) (by assumption) (by assumption) (by assumption) (by assumption) (by assumption) (by assumption) (by assumption) (by assumption) (by assumption) (by assumption) (by assumption) (by assumption) (by assumption) hb_; clear hb_)
                  | (go_at_call 10; refine (KS.out _ _ _ _ _ (Hid.out (by assumption)) HF_.out).mono ?_; rintro r w_ ⟨rfl, hb_⟩; obtain ⟨k0, k1, k2, k3, k4, k5, k6, k7, k8, k9, k10, k11, k12⟩ := keep14b (W := W) (g20 := g20) (gp := W.heap.size + 1) (k := k) (d2 := d2) (A := some ⟨bA, offA, none⟩) (B2 := B2) (p := p) (by assumption) (by assumption) (by assumption) (by assumption) (by assumption) (by assumption) (by assumption) (by assumption) (by assumption) (by assumption) (by assumption) (by assumption) (by assumption) hb_; clear hb_)
                  | (go_at_call 6; refine (wakes14 HP.out HT.out HAN.out _).mono ?_; rintro r w_ ⟨rfl, hb_⟩; obtain ⟨k0, k1, k2, k3, k4, k5, k6, k7, k8, k9, k10, k11, k12⟩ := keep14b (W := W) (g20 := g20) (gp := W.heap.size + 1) (k := k) (d2 := d2) (A := some ⟨bA, offA, none⟩) (B2 := B2) (p := p) (by assumption) (by assumption) (by assumption) (by assumption) (by assumption) (by assumption) (by assumption) (by assumption) (by assumption) (by assumption) (by assumption) (by assumption) (by assumption) hb_; clear hb_)
                  | fail "no")
              have HBQ : Hid (Below W.heap.size W w_) := by assumption
              go_wp2
              go_ret
              exact ⟨rfl, HBQ.out⟩
            · have hni : ¬ (0 : Int) < (p.t.length : Int) := by omega
              have hnn : ¬ 0 < p.t.length := hn
              clear HFR HOWM
              have HKa := HKp53
              have HBa := HB53
              have HGa := HG53
              have HWa := HW53
              have HW1 := Lib.hid (HWa.out.alloc (.cells #[.int .u8 p.l.toNat, .int .u8 2, .int .u8 p.g.toNat, .string ⟨p.x.toArray⟩, .slice B2 p.t.length d2] 28))
              have t4 := HW1.out.cell 4
              simp only [List.getElem?_toArray, List.getElem?_cons_succ, List.getElem?_cons_zero] at t4
              go_upto_region 23 with (fail)
              have HQz := Lib.hid (Blk.new w53 28 #[.int .u8 p.l.toNat, .int .u8 3, .int .u8 p.g.toNat, .string ⟨p.x.toArray⟩, .slice B2 p.t.length d2])
              have HKz := Lib.hid (HKa.out.alloc (.cells #[.int .u8 p.l.toNat, .int .u8 3, .int .u8 p.g.toNat, .string ⟨p.x.toArray⟩, .slice B2 p.t.length d2] 28))
              have HBz : Hid (Below W.heap.size W (w53.alloc (.cells #[.int .u8 p.l.toNat, .int .u8 3, .int .u8 p.g.toNat, .string ⟨p.x.toArray⟩, .slice B2 p.t.length d2] 28)).drew) := Lib.hid (HBa.out.alloc HBa.out.size _).drew
              have HEz : Hid (Els 2 tlV (w53.alloc (.cells #[.int .u8 p.l.toNat, .int .u8 3, .int .u8 p.g.toNat, .string ⟨p.x.toArray⟩, .slice B2 p.t.length d2] 28)).drew A p.t) := Lib.hid (HEW.out.next HBz.out)
              have HGz : Hid (Els 2 tlV (w53.alloc (.cells #[.int .u8 p.l.toNat, .int .u8 3, .int .u8 p.g.toNat, .string ⟨p.x.toArray⟩, .slice B2 p.t.length d2] 28)).drew B2 p.t) := Lib.hid (HGa.out.next ((Below.refl _ _).alloc (Nat.le_refl _) _).drew)
              have e0 := HQz.out.cell 0
              have e1 := HQz.out.cell 1
              have e2 := HQz.out.cell 2
              have e3 := HQz.out.cell 3
              have e4 := HQz.out.cell 4
              simp only [List.getElem?_toArray, List.getElem?_cons_succ, List.getElem?_cons_zero] at e0 e1 e2 e3 e4
              have k0 := HKz.out.cell 0
              have k1 := HKz.out.cell 1
              have k2 := HKz.out.cell 2
              have k3 := HKz.out.cell 3
              have k4 := HKz.out.cell 4
              simp only [List.getElem?_toArray, List.getElem?_cons_succ, List.getElem?_cons_zero] at k0 k1 k2 k3 k4
              clear t4
              go_region_held3 (fun w_ => w_.cell? ⟨w53.heap.size, 0, none⟩ = some (.int .u8 p.l.toNat) ∧ w_.cell? ⟨w53.heap.size, 1, none⟩ = some (.int .u8 3) ∧ w_.cell? ⟨w53.heap.size, 2, none⟩ = some (.int .u8 p.g.toNat) ∧ w_.cell? ⟨w53.heap.size, 3, none⟩ = some (.string ⟨p.x.toArray⟩) ∧ w_.cell? ⟨w53.heap.size, 4, none⟩ = some (.slice B2 p.t.length d2) ∧ w_.cell? ⟨(W.heap.size + 1), 0, none⟩ = some (.int .u8 p.l.toNat) ∧ w_.cell? ⟨(W.heap.size + 1), 1, none⟩ = some (.int .u8 p.o.toNat) ∧ w_.cell? ⟨(W.heap.size + 1), 2, none⟩ = some (.int .u8 p.g.toNat) ∧ w_.cell? ⟨(W.heap.size + 1), 3, none⟩ = some (.string ⟨p.x.toArray⟩) ∧ w_.cell? ⟨(W.heap.size + 1), 4, none⟩ = some (.slice A p.t.length k) ∧ Hid (Els 2 tlV w_ A p.t) ∧ Hid (Els 2 tlV w_ B2 p.t) ∧ Hid (Below W.heap.size W w_)) (go_keep)
                (first
                  | (go_at_call 11; refine (KOW.out _ (Hid.out (by assumption))).mono ?_; rintro r w_ ⟨C, c3, rfl, hF_, hz_, ho_, hb_⟩; have HF_ := Lib.hid hF_; clear hF_ hz_ ho_; obtain ⟨k0, k1, k2, k3, k4, k5, k6, k7, k8, k9, k10, k11, k12⟩ := keep14b (W := W) (g20 := w53.heap.size) (gp := W.heap.size + 1) (k := k) (d2 := d2) (A := A) (B2 := B2) (p := p) (by assumption) (by assumption) (by assumption) (by assumption) (by assumption) (by assumption) (by assumption) (by assumption) (by assumption) (by assumption) (by assumption) (by assumption) (by assumption) hb_; clear hb_)
                  | (go_at_call 10; refine (KS.out _ _ _ _ _ (Hid.out (by assumption)) HF_.out).mono ?_; rintro r w_ ⟨rfl, hb_⟩; obtain ⟨k0, k1, k2, k3, k4, k5, k6, k7, k8, k9, k10, k11, k12⟩ := keep14b (W := W) (g20 := w53.heap.size) (gp := W.heap.size + 1) (k := k) (d2 := d2) (A := A) (B2 := B2) (p := p) (by assumption) (by assumption) (by assumption) (by assumption) (by assumption) (by assumption) (by assumption) (by assumption) (by assumption) (by assumption) (by assumption) (by assumption) (by assumption) hb_; clear hb_)
                  | (go_at_call 6; refine (wakes14 HP.out HT.out HAN.out _).mono ?_; rintro r w_ ⟨rfl, hb_⟩; obtain ⟨k0, k1, k2, k3, k4, k5, k6, k7, k8, k9, k10, k11, k12⟩ := keep14b (W := W) (g20 := w53.heap.size) (gp := W.heap.size + 1) (k := k) (d2 := d2) (A := A) (B2 := B2) (p := p) (by assumption) (by assumption) (by assumption) (by assumption) (by assumption) (by assumption) (by assumption) (by assumption) (by assumption) (by assumption) (by assumption) (by assumption) (by assumption) hb_; clear hb_)
                  | fail "no")
              have HBQ : Hid (Below W.heap.size W w_) := by assumption
              go_wp2
              go_ret
              exact ⟨rfl, HBQ.out⟩
          · have KA : Hid (∀ A k w, Els 2 tlV w A p.t → (A = none → k = 0) → Calls Try.prog 14 #[PdV p A k] w fun e w' => ∃ B d, e = .returned (.tuple #[.agg #[.int .u8 0, .int .u8 0, .int .u8 0, .string ⟨#[]⟩, .slice B 0 d], .int .i64 4]) ∧ Els 2 tlV w' B ([] : List Tl) ∧ (0 < ([] : List Tl).length → ∀ a, B = some a → w.heap.size ≤ a.block) ∧ Below w.heap.size w w') := Lib.hid (fun A k w h hz => by
              have := HAN.out A k p w h hz HPL.out.1 (by have := HPL.out; omega)
              rw [hQ, hG] at this
              exact this.mono (fun e w' ⟨B, d, h1, h2, _, h4, h5⟩ => ⟨B, d, h1, h2, h4, h5⟩))
            clear hG hQ
            have k0 := HKx.out.cell 0
            have k1 := HKx.out.cell 1
            have k2 := HKx.out.cell 2
            have k3 := HKx.out.cell 3
            have k4 := HKx.out.cell 4
            simp only [List.getElem?_toArray, List.getElem?_cons_succ, List.getElem?_cons_zero] at k0 k1 k2 k3 k4
            go_wp2_with fail
            refine (KOW.out _ (HEW.out.next HBx.out)).mono ?_
            rintro r w51 ⟨B, d, rfl, hF, hz, hown, hb51⟩
            have HB51 : Hid (Below W.heap.size W w51) := Lib.hid (HBx.out.trans (hb51.mono HBx.out.size))
            have HKp51 := Lib.hid (HKx.out.below hb51 HKx.out.lt)
            clear hb51 HBx HKx
            clear k0 k1 k2 k3 k4
            have HZ := Lib.hid hz
            have HOWN := Lib.hid hown
            clear hz hown
            have HF51 : Hid (Els 2 tlV w51 B p.t) := Lib.hid hF
            clear hF
            have HB52 : Hid (Below W.heap.size W (w51.alloc (.cells #[.int .u8 p.l.toNat, .int .u8 p.o.toNat, .int .u8 p.g.toNat, .string ⟨p.x.toArray⟩, .slice B p.t.length d] 28))) := Lib.hid (HB51.out.alloc HB51.out.size _)
            have HKp52 := Lib.hid (HKp51.out.alloc (.cells #[.int .u8 p.l.toNat, .int .u8 p.o.toNat, .int .u8 p.g.toNat, .string ⟨p.x.toArray⟩, .slice B p.t.length d] 28))
            have HF52 : Hid (Els 2 tlV (w51.alloc (.cells #[.int .u8 p.l.toNat, .int .u8 p.o.toNat, .int .u8 p.g.toNat, .string ⟨p.x.toArray⟩, .slice B p.t.length d] 28)) B p.t) := Lib.hid (HF51.out.next ((Below.refl _ _).alloc (Nat.le_refl _) _))
            have HW52 := Lib.hid (Blk.new w51 28 #[.int .u8 p.l.toNat, .int .u8 p.o.toNat, .int .u8 p.g.toNat, .string ⟨p.x.toArray⟩, .slice B p.t.length d])
            clear HB51 HKp51 HF51
            have HOWL : Hid (0 < p.t.length → ∃ g cs, B = some ⟨g, 0, none⟩ ∧ wc.heap.size ≤ g ∧ g < w51.heap.size ∧ Blk (w51.alloc (.cells #[.int .u8 p.l.toNat, .int .u8 p.o.toNat, .int .u8 p.g.toNat, .string ⟨p.x.toArray⟩, .slice B p.t.length d] 28)) g 52 cs) := Lib.hid (fun h0 => by obtain ⟨g, cs, e, hg, hb⟩ := HOWN.out h0; exact ⟨g, cs, e, hg, hb.lt, hb.alloc _⟩)
            have k0 := HW52.out.cell 0
            have k1 := HW52.out.cell 1
            have k2 := HW52.out.cell 2
            have k3 := HW52.out.cell 3
            have k4 := HW52.out.cell 4
            simp only [List.getElem?_toArray, List.getElem?_cons_succ, List.getElem?_cons_zero] at k0 k1 k2 k3 k4
            go_wp2_with fail
            refine (KA.out _ _ _ HF52.out HZ.out).mono ?_
            rintro r w53 ⟨B2, d2, rfl, hF, hfr, hb53⟩
            have HB53 : Hid (Below W.heap.size W w53) := Lib.hid (HB52.out.trans (hb53.mono HB52.out.size))
            have HKp53 := Lib.hid (HKp52.out.below hb53 HKp52.out.lt)
            have HW53 := Lib.hid (HW52.out.below hb53 HW52.out.lt)
            have HF53 : Hid (Els 2 tlV w53 B p.t) := Lib.hid (HF52.out.next hb53)
            have HOWM : Hid (0 < p.t.length → ∃ g cs, B = some ⟨g, 0, none⟩ ∧ wc.heap.size ≤ g ∧ g < w51.heap.size ∧ Blk w53 g 52 cs) := Lib.hid (fun h0 => by obtain ⟨g, cs, e, hg, hl, hb⟩ := HOWL.out h0; exact ⟨g, cs, e, hg, hl, hb.below hb53 hb.lt⟩)
            clear hb53 HB52 HKp52 HW52 HF52
            clear k0 k1 k2 k3 k4
            skip
            clear hfr HOWL HOWN
            have HG53 : Hid (Els 2 tlV w53 B2 ([] : List Tl)) := Lib.hid hF
            clear hF
            have HB54 : Hid (Below W.heap.size W (w53.alloc (.cells #[.int .u8 0, .int .u8 0, .int .u8 0, .string ⟨#[]⟩, .slice B2 0 d2] 28))) := Lib.hid (HB53.out.alloc HB53.out.size _)
            have HKp54 := Lib.hid (HKp53.out.alloc (.cells #[.int .u8 0, .int .u8 0, .int .u8 0, .string ⟨#[]⟩, .slice B2 0 d2] 28))
            have HW54 := Lib.hid (HW53.out.alloc (.cells #[.int .u8 0, .int .u8 0, .int .u8 0, .string ⟨#[]⟩, .slice B2 0 d2] 28))
            have HF54 : Hid (Els 2 tlV (w53.alloc (.cells #[.int .u8 0, .int .u8 0, .int .u8 0, .string ⟨#[]⟩, .slice B2 0 d2] 28)) B p.t) := Lib.hid (HF53.out.next ((Below.refl _ _).alloc (Nat.le_refl _) _))
            have HG54 : Hid (Els 2 tlV (w53.alloc (.cells #[.int .u8 0, .int .u8 0, .int .u8 0, .string ⟨#[]⟩, .slice B2 0 d2] 28)) B2 ([] : List Tl)) := Lib.hid (HG53.out.next ((Below.refl _ _).alloc (Nat.le_refl _) _))
            have HQ54 := Lib.hid (Blk.new w53 28 #[.int .u8 0, .int .u8 0, .int .u8 0, .string ⟨#[]⟩, .slice B2 0 d2])
            clear HB53 HKp53 HW53 HF53 HG53
            have e0 := HQ54.out.cell 0
            have e1 := HQ54.out.cell 1
            have e2 := HQ54.out.cell 2
            have e3 := HQ54.out.cell 3
            have e4 := HQ54.out.cell 4
            simp only [List.getElem?_toArray, List.getElem?_cons_succ, List.getElem?_cons_zero] at e0 e1 e2 e3 e4
            clear HF54
            clear HW54
            clear HKp54
            clear HG54
            go_wp2_with fail
            refine (same12_any B2 none d2 0 pd0 _ (els_nilL _ _) (els_nilL _ _) (by decide)).mono ?_
            rintro r w55 ⟨rfl, hb55⟩
            have HB55 : Hid (Below W.heap.size W w55) := Lib.hid (HB54.out.trans (hb55.mono HB54.out.size))
            have HQ55 := Lib.hid (HQ54.out.below hb55 HQ54.out.lt)
            clear hb55 HB54 HQ54
            clear e0 e1 e2 e3 e4
            clear HQ55
            go_wp2_with fail
            refine (wakes14 HP.out HT.out HAN.out _).mono ?_
            rintro r w56 ⟨rfl, hb56⟩
            have HB56 : Hid (Below W.heap.size W w56) := Lib.hid (HB55.out.trans (hb56.mono HB55.out.size))
            clear hb56 HB55
            go_wp2
            go_ret
            exact ⟨rfl, HB56.out⟩
end Go.Proofs.Ytjcfdkchnikbmaa
