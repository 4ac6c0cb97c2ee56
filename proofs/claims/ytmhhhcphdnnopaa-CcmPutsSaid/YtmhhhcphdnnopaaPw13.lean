/- Layer 13: CcmPuts's walk, over the package's contracts. -/
import Derived.Test.YtmhhhcphdnnopaaLaw13
import Derived.Test.YtmhhhcphdnnopaaRp13
import Derived.Deep.RegionHeld3
import Derived.Deep.DeepCutAuto
namespace Go.Proofs.Ytmhhhcphdnnopaa
open Go.RowKit
set_option linter.unusedVariables false
set_option linter.unusedSimpArgs false
set_option maxRecDepth 100000

theorem keep13p {W w w' : World} {g1 g3 g5 k : Nat} {A : Option Addr} {P : Pd} {c : Ck} (h0 : w.cell? ⟨g3, 0, none⟩ = some (.int .u8 P.l.toNat)) (h1 : w.cell? ⟨g3, 1, none⟩ = some (.int .u8 P.o.toNat)) (h2 : w.cell? ⟨g3, 2, none⟩ = some (.int .u8 P.g.toNat)) (h3 : w.cell? ⟨g3, 3, none⟩ = some (.string ⟨P.x.toArray⟩)) (h4 : w.cell? ⟨g3, 4, none⟩ = some (.slice A 0 k)) (h5 : w.cell? ⟨g5, 0, none⟩ = some (.int .u8 P.l.toNat)) (h6 : w.cell? ⟨g5, 1, none⟩ = some (.int .u8 P.o.toNat)) (h7 : w.cell? ⟨g5, 2, none⟩ = some (.int .u8 P.g.toNat)) (h8 : w.cell? ⟨g5, 3, none⟩ = some (.string ⟨P.x.toArray⟩)) (h9 : w.cell? ⟨g5, 4, none⟩ = some (.slice none 0 0)) (h10 : w.cell? ⟨g1, 2, none⟩ = some (.int .u8 c.i.toNat))  (hB : Hid (Below W.heap.size W w)) (hb : Below w.heap.size w w') : w'.cell? ⟨g3, 0, none⟩ = some (.int .u8 P.l.toNat) ∧ w'.cell? ⟨g3, 1, none⟩ = some (.int .u8 P.o.toNat) ∧ w'.cell? ⟨g3, 2, none⟩ = some (.int .u8 P.g.toNat) ∧ w'.cell? ⟨g3, 3, none⟩ = some (.string ⟨P.x.toArray⟩) ∧ w'.cell? ⟨g3, 4, none⟩ = some (.slice A 0 k) ∧ w'.cell? ⟨g5, 0, none⟩ = some (.int .u8 P.l.toNat) ∧ w'.cell? ⟨g5, 1, none⟩ = some (.int .u8 P.o.toNat) ∧ w'.cell? ⟨g5, 2, none⟩ = some (.int .u8 P.g.toNat) ∧ w'.cell? ⟨g5, 3, none⟩ = some (.string ⟨P.x.toArray⟩) ∧ w'.cell? ⟨g5, 4, none⟩ = some (.slice none 0 0) ∧ w'.cell? ⟨g1, 2, none⟩ = some (.int .u8 c.i.toNat) ∧ Hid (Below W.heap.size W w') := by
  have hk : ∀ {g i : Nat} {v : Value}, w.cell? ⟨g, i, none⟩ = some v → w'.cell? ⟨g, i, none⟩ = some v := fun {g i v} h => (hb.cell (p := ⟨g, i, none⟩) (World.block_lt_of_cell? w _ h)).trans h
  exact ⟨hk h0, hk h1, hk h2, hk h3, hk h4, hk h5, hk h6, hk h7, hk h8, hk h9, hk h10, Lib.hid (hB.out.trans (hb.mono hB.out.size))⟩
set_option maxHeartbeats 4000000 in
theorem ccmputs_walk (HPC : CcPutC) (HTC : CcTakeC) (HNC : CcTicksC) (W : World) (c : Ck) :
    Calls Try.prog 3 #[CkV c] W fun e w' => e = .returned (.bool true) ∧ Below W.heap.size W w' := by
  have HP := Lib.hid HPC
  have HT := Lib.hid HTC
  have HN := Lib.hid HNC
  clear HPC HTC HNC
  have HB0 : Hid (Below W.heap.size W (W.alloc (.cells #[.int .u8 c.l.toNat, .bool c.r, .int .u8 c.i.toNat, .int .u32 c.q.toNat, .int .u16 c.m.toNat, .string ⟨c.a.toArray⟩] 25))) := Lib.hid ((Below.refl _ _).alloc (Nat.le_refl _) _)
  have HK0 : Hid (Blk (W.alloc (.cells #[.int .u8 c.l.toNat, .bool c.r, .int .u8 c.i.toNat, .int .u32 c.q.toNat, .int .u16 c.m.toNat, .string ⟨c.a.toArray⟩] 25)) W.heap.size 25 #[.int .u8 c.l.toNat, .bool c.r, .int .u8 c.i.toNat, .int .u32 c.q.toNat, .int .u16 c.m.toNat, .string ⟨c.a.toArray⟩]) := Lib.hid (Blk.new W _ _)
  by_cases hl : 100 < c.a.length
  · have p0 : (100 : Int) < (c.a.length : Int) := by omega
    clear hl
    go_enter Try.func3, Try.ntmps3
    go_wp2_with fail
    refine (wakes13 HP.out HT.out HN.out _).mono ?_
    rintro r w1 ⟨rfl, hb1⟩
    have HB1 : Hid (Below W.heap.size W w1) := Lib.hid (HB0.out.trans (hb1.mono HB0.out.size))
    clear hb1 HB0
    go_wp2
    go_ret
    exact ⟨rfl, HB1.out⟩
  · have p0 : ¬ (100 : Int) < (c.a.length : Int) := by omega
    have KP := Lib.hid (fun w => HP.out c w (by omega))
    have KR := Lib.hid (fun w => refput13_any c w (by omega))
    have KN := Lib.hid (fun w => HN.out c.i w)
    have hpt := ckP_t c
    obtain ⟨P, hP⟩ : ∃ P, ckP c = P := ⟨_, rfl⟩
    obtain ⟨E, hE⟩ : ∃ E, ckE c = E := ⟨_, rfl⟩
    obtain ⟨N, hN⟩ : ∃ N, ckN c.i = N := ⟨_, rfl⟩
    rw [hP, hE] at KP KR
    rw [hP] at hpt
    rw [hN] at KN
    have hlen : P.t.length = 0 := by rw [hpt]; rfl
    have KO := Lib.hid (fun A k w => of12_any A k P w (by rw [hpt]; exact els_nilL _ _) (by omega))
    have KS := Lib.hid (fun A B k d w => same12_any A B k d P w (by rw [hpt]; exact els_nilL _ _) (by rw [hpt]; exact els_nilL _ _) (by omega))
    simp only [PdV, hlen] at KP KR KO KS
    have hcase : (N = 1 ∧ ((c.i.toNat : Int) == 4) = true ∧ ((c.i.toNat : Int) == 5) = false) ∨ (N = 10 ∧ ((c.i.toNat : Int) == 4) = false ∧ ((c.i.toNat : Int) == 5) = true) ∨ (N = 0 ∧ ((c.i.toNat : Int) == 4) = false ∧ ((c.i.toNat : Int) == 5) = false) := by
      rw [show ((c.i.toNat : Int) == 4) = (c.i == 4) from tl_eqI c.i 4, show ((c.i.toNat : Int) == 5) = (c.i == 5) from tl_eqI c.i 5]
      unfold ckN at hN
      by_cases h4 : c.i = 4
      · rw [if_pos h4] at hN
        exact .inl ⟨hN.symm, by rw [h4]; rfl, by rw [h4]; rfl⟩
      · rw [if_neg h4] at hN
        by_cases h5 : c.i = 5
        · rw [if_pos h5] at hN
          exact .inr (.inl ⟨hN.symm, by rw [h5]; rfl, by rw [h5]; rfl⟩)
        · rw [if_neg h5] at hN
          exact .inr (.inr ⟨hN.symm, by simpa using h4, by simpa using h5⟩)
    clear hl hP hE hN hpt hlen
    rcases hcase with ⟨rfl, c4, c5⟩ | ⟨rfl, c4, c5⟩ | ⟨rfl, c4, c5⟩
    all_goals (
      go_enter Try.func3, Try.ntmps3
      go_wp2_with fail
      refine (of13_any c _).mono ?_
      rintro r w1 ⟨rfl, hb1⟩
      have HB1 : Hid (Below W.heap.size W w1) := Lib.hid (HB0.out.trans (hb1.mono HB0.out.size))
      have HK1 := Lib.hid (HK0.out.below hb1 HK0.out.lt)
      clear hb1 HB0 HK0
      go_wp2_with fail
      refine (KP.out _).mono ?_
      rintro r w2 ⟨A, k, rfl, hz, hb2⟩
      have HB2 : Hid (Below W.heap.size W w2) := Lib.hid (HB1.out.trans (hb2.mono HB1.out.size))
      have HK2 := Lib.hid (HK1.out.below hb2 HK1.out.lt)
      clear hb2 HB1 HK1
      clear hz
      have HB3 : Hid (Below W.heap.size W (w2.alloc (.cells #[.int .u8 P.l.toNat, .int .u8 P.o.toNat, .int .u8 P.g.toNat, .string ⟨P.x.toArray⟩, .slice A 0 k] 29))) := Lib.hid (HB2.out.alloc HB2.out.size _)
      have HK3 := Lib.hid (HK2.out.alloc (.cells #[.int .u8 P.l.toNat, .int .u8 P.o.toNat, .int .u8 P.g.toNat, .string ⟨P.x.toArray⟩, .slice A 0 k] 29))
      have HM3 := Lib.hid (Blk.new w2 29 #[.int .u8 P.l.toNat, .int .u8 P.o.toNat, .int .u8 P.g.toNat, .string ⟨P.x.toArray⟩, .slice A 0 k])
      clear HB2 HK2
      have k0 := HK3.out.cell 0
      have k1 := HK3.out.cell 1
      have k2 := HK3.out.cell 2
      have k3 := HK3.out.cell 3
      have k4 := HK3.out.cell 4
      have k5 := HK3.out.cell 5
      simp only [List.getElem?_toArray, List.getElem?_cons_succ, List.getElem?_cons_zero] at k0 k1 k2 k3 k4 k5
      go_wp2_with fail
      refine (KR.out _).mono ?_
      rintro r w4 ⟨rfl, hb4⟩
      have HB4 : Hid (Below W.heap.size W w4) := Lib.hid (HB3.out.trans (hb4.mono HB3.out.size))
      have HK4 := Lib.hid (HK3.out.below hb4 HK3.out.lt)
      have HM4 := Lib.hid (HM3.out.below hb4 HM3.out.lt)
      clear hb4 HB3 HK3 HM3
      clear k0 k1 k2 k3 k4 k5
      have HB5 : Hid (Below W.heap.size W (w4.alloc (.cells #[.int .u8 P.l.toNat, .int .u8 P.o.toNat, .int .u8 P.g.toNat, .string ⟨P.x.toArray⟩, .slice none 0 0] 37))) := Lib.hid (HB4.out.alloc HB4.out.size _)
      have HK5 := Lib.hid (HK4.out.alloc (.cells #[.int .u8 P.l.toNat, .int .u8 P.o.toNat, .int .u8 P.g.toNat, .string ⟨P.x.toArray⟩, .slice none 0 0] 37))
      have HM5 := Lib.hid (HM4.out.alloc (.cells #[.int .u8 P.l.toNat, .int .u8 P.o.toNat, .int .u8 P.g.toNat, .string ⟨P.x.toArray⟩, .slice none 0 0] 37))
      have HR5 := Lib.hid (Blk.new w4 37 #[.int .u8 P.l.toNat, .int .u8 P.o.toNat, .int .u8 P.g.toNat, .string ⟨P.x.toArray⟩, .slice none 0 0])
      clear HB4 HK4 HM4
      have a0 := HM5.out.cell 0
      have a1 := HM5.out.cell 1
      have a2 := HM5.out.cell 2
      have a3 := HM5.out.cell 3
      have a4 := HM5.out.cell 4
      simp only [List.getElem?_toArray, List.getElem?_cons_succ, List.getElem?_cons_zero] at a0 a1 a2 a3 a4
      have b0 := HR5.out.cell 0
      have b1 := HR5.out.cell 1
      have b2 := HR5.out.cell 2
      have b3 := HR5.out.cell 3
      have b4 := HR5.out.cell 4
      simp only [List.getElem?_toArray, List.getElem?_cons_succ, List.getElem?_cons_zero] at b0 b1 b2 b3 b4
      have k2 := HK5.out.cell 2
      simp only [List.getElem?_toArray, List.getElem?_cons_succ, List.getElem?_cons_zero] at k2
      have HBd : Hid (Below W.heap.size W (w4.alloc (.cells #[.int .u8 P.l.toNat, .int .u8 P.o.toNat, .int .u8 P.g.toNat, .string ⟨P.x.toArray⟩, .slice none 0 0] 37)).drew) := Lib.hid HB5.out.drew
      go_upto_region 10 with (fail)
      go_region_held3 (fun w_ => w_.cell? ⟨w2.heap.size, 0, none⟩ = some (.int .u8 P.l.toNat) ∧ w_.cell? ⟨w2.heap.size, 1, none⟩ = some (.int .u8 P.o.toNat) ∧ w_.cell? ⟨w2.heap.size, 2, none⟩ = some (.int .u8 P.g.toNat) ∧ w_.cell? ⟨w2.heap.size, 3, none⟩ = some (.string ⟨P.x.toArray⟩) ∧ w_.cell? ⟨w2.heap.size, 4, none⟩ = some (.slice A 0 k) ∧ w_.cell? ⟨w4.heap.size, 0, none⟩ = some (.int .u8 P.l.toNat) ∧ w_.cell? ⟨w4.heap.size, 1, none⟩ = some (.int .u8 P.o.toNat) ∧ w_.cell? ⟨w4.heap.size, 2, none⟩ = some (.int .u8 P.g.toNat) ∧ w_.cell? ⟨w4.heap.size, 3, none⟩ = some (.string ⟨P.x.toArray⟩) ∧ w_.cell? ⟨w4.heap.size, 4, none⟩ = some (.slice none 0 0) ∧ w_.cell? ⟨W.heap.size, 2, none⟩ = some (.int .u8 c.i.toNat) ∧ Hid (Below W.heap.size W w_)) (go_keep)
        (first
          | (go_at_call 11; refine (KO.out _ _ _).mono ?_; rintro r w_ ⟨B_, d_, rfl, hF_, hA_, hb_⟩; clear hF_ hA_; obtain ⟨k0, k1, k2, k3, k4, k5, k6, k7, k8, k9, k10, k11⟩ := keep13p (W := W) (g1 := W.heap.size) (g3 := w2.heap.size) (g5 := w4.heap.size) (k := k) (A := A) (P := P) (c := c) (by assumption) (by assumption) (by assumption) (by assumption) (by assumption) (by assumption) (by assumption) (by assumption) (by assumption) (by assumption) (by assumption) (by assumption) hb_; clear hb_)
          | (go_at_call 10; refine (KS.out _ _ _ _ _).mono ?_; rintro r w_ ⟨rfl, hb_⟩; obtain ⟨k0, k1, k2, k3, k4, k5, k6, k7, k8, k9, k10, k11⟩ := keep13p (W := W) (g1 := W.heap.size) (g3 := w2.heap.size) (g5 := w4.heap.size) (k := k) (A := A) (P := P) (c := c) (by assumption) (by assumption) (by assumption) (by assumption) (by assumption) (by assumption) (by assumption) (by assumption) (by assumption) (by assumption) (by assumption) (by assumption) hb_; clear hb_)
          | (go_at_call 12; refine (KN.out _).mono ?_; rintro r w_ ⟨rfl, hb_⟩; obtain ⟨k0, k1, k2, k3, k4, k5, k6, k7, k8, k9, k10, k11⟩ := keep13p (W := W) (g1 := W.heap.size) (g3 := w2.heap.size) (g5 := w4.heap.size) (k := k) (A := A) (P := P) (c := c) (by assumption) (by assumption) (by assumption) (by assumption) (by assumption) (by assumption) (by assumption) (by assumption) (by assumption) (by assumption) (by assumption) (by assumption) hb_; clear hb_)
          | (go_at_call 6; refine (wakes13 HP.out HT.out HN.out _).mono ?_; rintro r w_ ⟨rfl, hb_⟩; obtain ⟨k0, k1, k2, k3, k4, k5, k6, k7, k8, k9, k10, k11⟩ := keep13p (W := W) (g1 := W.heap.size) (g3 := w2.heap.size) (g5 := w4.heap.size) (k := k) (A := A) (P := P) (c := c) (by assumption) (by assumption) (by assumption) (by assumption) (by assumption) (by assumption) (by assumption) (by assumption) (by assumption) (by assumption) (by assumption) (by assumption) hb_; clear hb_)
          | fail "no")
      have HBQ : Hid (Below W.heap.size W w_) := by assumption
      go_wp2
      go_ret
      exact ⟨rfl, HBQ.out⟩)
end Go.Proofs.Ytmhhhcphdnnopaa
