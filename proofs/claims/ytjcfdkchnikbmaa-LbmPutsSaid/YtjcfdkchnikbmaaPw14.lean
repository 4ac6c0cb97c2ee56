/- Layer 14: LbmPuts's walk, over the package's contracts. -/
import Derived.Test.YtjcfdkchnikbmaaLaw14
import Derived.Test.YtjcfdkchnikbmaaOpenPd
import Derived.Deep.RegionHeld3
import Derived.Deep.DeepCutAuto
namespace Go.Proofs.Ytjcfdkchnikbmaa
open Go.RowKit
set_option linter.unusedVariables false
set_option linter.unusedSimpArgs false
set_option maxRecDepth 100000

set_option maxHeartbeats 4000000 in
theorem lbmputs_walk (HPC : LbPutC) (HTC : LbTakeC) (HAC : LbAnsC) (W : World) (c : Lo) :
    Calls Try.prog 3 #[LoV c] W fun e w' => e = .returned (.bool true) ∧ Below W.heap.size W w' := by
  have HP := Lib.hid HPC
  have HT := Lib.hid HTC
  have HAN := Lib.hid HAC
  clear HPC HTC HAC
  have HB0 : Hid (Below W.heap.size W (W.alloc (.cells #[.int .u8 c.l.toNat, .bool c.r, .int .u32 c.q.toNat, .string ⟨c.d.toArray⟩] 24))) := Lib.hid ((Below.refl _ _).alloc (Nat.le_refl _) _)
  have HK0 : Hid (Blk (W.alloc (.cells #[.int .u8 c.l.toNat, .bool c.r, .int .u32 c.q.toNat, .string ⟨c.d.toArray⟩] 24)) W.heap.size 24 #[.int .u8 c.l.toNat, .bool c.r, .int .u32 c.q.toNat, .string ⟨c.d.toArray⟩]) := Lib.hid (Blk.new W _ _)
  by_cases hl : 300 < c.d.length
  · have p0 : (300 : Int) < (c.d.length : Int) := by omega
    clear hl
    go_enter Try.func3, Try.ntmps3
    go_wp2_with fail
    refine (wakes14 HP.out HT.out HAN.out _).mono ?_
    rintro r w1 ⟨rfl, hb1⟩
    have HB1 : Hid (Below W.heap.size W w1) := Lib.hid (HB0.out.trans (hb1.mono HB0.out.size))
    clear hb1 HB0
    go_wp2
    go_ret
    exact ⟨rfl, HB1.out⟩
  · have p0 : ¬ (300 : Int) < (c.d.length : Int) := by omega
    have KP := Lib.hid (fun w => HP.out c w (by omega))
    have KR := Lib.hid (fun w => refput14_any c w)
    have hpt := (loP_t c).1
    obtain ⟨P, hP⟩ : ∃ P, loP c = P := ⟨_, rfl⟩
    obtain ⟨E, hE⟩ : ∃ E, loE c = E := ⟨_, rfl⟩
    rw [hP, hE] at KP KR
    rw [hP] at hpt
    have KO := Lib.hid (fun A k w (h : Hid (Els 2 tlV w A P.t)) => of12_any A k P w h.out (by omega))
    have KS := Lib.hid (fun A B k d w (h : Hid (Els 2 tlV w A P.t)) (h' : Hid (Els 2 tlV w B P.t)) => same12_any A B k d P w h.out h'.out (by omega))
    obtain ⟨n, hn⟩ : ∃ n, P.t.length = n := ⟨_, rfl⟩
    simp only [PdV, hn] at KP KR KO KS
    clear hl hP hE hpt hn
    go_enter Try.func3, Try.ntmps3
    have k0 := HK0.out.cell 0
    have k1 := HK0.out.cell 1
    have k2 := HK0.out.cell 2
    have k3 := HK0.out.cell 3
    simp only [List.getElem?_toArray, List.getElem?_cons_succ, List.getElem?_cons_zero] at k0 k1 k2 k3
    go_wp2_with fail
    refine (of14_any c _).mono ?_
    rintro r w1 ⟨rfl, hb1⟩
    have HB1 : Hid (Below W.heap.size W w1) := Lib.hid (HB0.out.trans (hb1.mono HB0.out.size))
    have HK1 := Lib.hid (HK0.out.below hb1 HK0.out.lt)
    clear hb1 HB0 HK0
    clear k0 k1 k2 k3
    go_wp2_with fail
    refine (KP.out _).mono ?_
    rintro r w2 ⟨A1, c1, rfl, hE, hz, hb2⟩
    have HB2 : Hid (Below W.heap.size W w2) := Lib.hid (HB1.out.trans (hb2.mono HB1.out.size))
    have HK2 := Lib.hid (HK1.out.below hb2 HK1.out.lt)
    clear hb2 HB1 HK1
    clear hz
    have HE2 : Hid (Els 2 tlV w2 A1 P.t) := Lib.hid hE
    clear hE
    have HB3 : Hid (Below W.heap.size W (w2.alloc (.cells #[.int .u8 P.l.toNat, .int .u8 P.o.toNat, .int .u8 P.g.toNat, .string ⟨P.x.toArray⟩, .slice A1 n c1] 28))) := Lib.hid (HB2.out.alloc HB2.out.size _)
    have HK3 := Lib.hid (HK2.out.alloc (.cells #[.int .u8 P.l.toNat, .int .u8 P.o.toNat, .int .u8 P.g.toNat, .string ⟨P.x.toArray⟩, .slice A1 n c1] 28))
    have HE3 : Hid (Els 2 tlV (w2.alloc (.cells #[.int .u8 P.l.toNat, .int .u8 P.o.toNat, .int .u8 P.g.toNat, .string ⟨P.x.toArray⟩, .slice A1 n c1] 28)) A1 P.t) := Lib.hid (HE2.out.next ((Below.refl _ _).alloc (Nat.le_refl _) _))
    have HM3 := Lib.hid (Blk.new w2 28 #[.int .u8 P.l.toNat, .int .u8 P.o.toNat, .int .u8 P.g.toNat, .string ⟨P.x.toArray⟩, .slice A1 n c1])
    clear HB2 HK2 HE2
    have k0 := HK3.out.cell 0
    have k1 := HK3.out.cell 1
    have k2 := HK3.out.cell 2
    have k3 := HK3.out.cell 3
    simp only [List.getElem?_toArray, List.getElem?_cons_succ, List.getElem?_cons_zero] at k0 k1 k2 k3
    go_wp2_with fail
    refine (KR.out _).mono ?_
    rintro r w4 ⟨A2, c2, rfl, hE, hz, hb4⟩
    have HB4 : Hid (Below W.heap.size W w4) := Lib.hid (HB3.out.trans (hb4.mono HB3.out.size))
    have HK4 := Lib.hid (HK3.out.below hb4 HK3.out.lt)
    have HM4 := Lib.hid (HM3.out.below hb4 HM3.out.lt)
    have HE4 : Hid (Els 2 tlV w4 A1 P.t) := Lib.hid (HE3.out.next hb4)
    clear hb4 HB3 HK3 HM3 HE3
    clear hz
    clear k0 k1 k2 k3
    have HF4 : Hid (Els 2 tlV w4 A2 P.t) := Lib.hid hE
    clear hE
    clear HK4
    have HB5 : Hid (Below W.heap.size W (w4.alloc (.cells #[.int .u8 P.l.toNat, .int .u8 P.o.toNat, .int .u8 P.g.toNat, .string ⟨P.x.toArray⟩, .slice A2 n c2] 36))) := Lib.hid (HB4.out.alloc HB4.out.size _)
    have HM5 := Lib.hid (HM4.out.alloc (.cells #[.int .u8 P.l.toNat, .int .u8 P.o.toNat, .int .u8 P.g.toNat, .string ⟨P.x.toArray⟩, .slice A2 n c2] 36))
    have HE5 : Hid (Els 2 tlV (w4.alloc (.cells #[.int .u8 P.l.toNat, .int .u8 P.o.toNat, .int .u8 P.g.toNat, .string ⟨P.x.toArray⟩, .slice A2 n c2] 36)) A1 P.t) := Lib.hid (HE4.out.next ((Below.refl _ _).alloc (Nat.le_refl _) _))
    have HF5 : Hid (Els 2 tlV (w4.alloc (.cells #[.int .u8 P.l.toNat, .int .u8 P.o.toNat, .int .u8 P.g.toNat, .string ⟨P.x.toArray⟩, .slice A2 n c2] 36)) A2 P.t) := Lib.hid (HF4.out.next ((Below.refl _ _).alloc (Nat.le_refl _) _))
    have HR5 := Lib.hid (Blk.new w4 36 #[.int .u8 P.l.toNat, .int .u8 P.o.toNat, .int .u8 P.g.toNat, .string ⟨P.x.toArray⟩, .slice A2 n c2])
    clear HB4 HM4 HE4 HF4
    have a0 := HM5.out.cell 0
    have a1 := HM5.out.cell 1
    have a2 := HM5.out.cell 2
    have a3 := HM5.out.cell 3
    have a4 := HM5.out.cell 4
    simp only [List.getElem?_toArray, List.getElem?_cons_succ, List.getElem?_cons_zero] at a0 a1 a2 a3 a4
    have b0 := HR5.out.cell 0
    have b1 := HR5.out.cell 1
    have b2 := HR5.out.cell 2
    have b3 := HR5.out.cell 3
    have b4 := HR5.out.cell 4
    simp only [List.getElem?_toArray, List.getElem?_cons_succ, List.getElem?_cons_zero] at b0 b1 b2 b3 b4
    have HBd : Hid (Below W.heap.size W (w4.alloc (.cells #[.int .u8 P.l.toNat, .int .u8 P.o.toNat, .int .u8 P.g.toNat, .string ⟨P.x.toArray⟩, .slice A2 n c2] 36)).drew) := Lib.hid HB5.out.drew
    have HEd : Hid (Els 2 tlV (w4.alloc (.cells #[.int .u8 P.l.toNat, .int .u8 P.o.toNat, .int .u8 P.g.toNat, .string ⟨P.x.toArray⟩, .slice A2 n c2] 36)).drew A1 P.t) := Lib.hid HE5.out
    have HFd : Hid (Els 2 tlV (w4.alloc (.cells #[.int .u8 P.l.toNat, .int .u8 P.o.toNat, .int .u8 P.g.toNat, .string ⟨P.x.toArray⟩, .slice A2 n c2] 36)).drew A2 P.t) := Lib.hid HF5.out
    go_upto_region 5 with (fail)
    go_region_held3 (fun w_ => w_.cell? ⟨w2.heap.size, 0, none⟩ = some (.int .u8 P.l.toNat) ∧ w_.cell? ⟨w2.heap.size, 1, none⟩ = some (.int .u8 P.o.toNat) ∧ w_.cell? ⟨w2.heap.size, 2, none⟩ = some (.int .u8 P.g.toNat) ∧ w_.cell? ⟨w2.heap.size, 3, none⟩ = some (.string ⟨P.x.toArray⟩) ∧ w_.cell? ⟨w2.heap.size, 4, none⟩ = some (.slice A1 n c1) ∧ w_.cell? ⟨w4.heap.size, 0, none⟩ = some (.int .u8 P.l.toNat) ∧ w_.cell? ⟨w4.heap.size, 1, none⟩ = some (.int .u8 P.o.toNat) ∧ w_.cell? ⟨w4.heap.size, 2, none⟩ = some (.int .u8 P.g.toNat) ∧ w_.cell? ⟨w4.heap.size, 3, none⟩ = some (.string ⟨P.x.toArray⟩) ∧ w_.cell? ⟨w4.heap.size, 4, none⟩ = some (.slice A2 n c2) ∧ Hid (Els 2 tlV w_ A1 P.t) ∧ Hid (Els 2 tlV w_ A2 P.t) ∧ Hid (Below W.heap.size W w_)) (go_keep)
      (first
        | (go_at_call 11; refine (KO.out _ _ _ (by assumption)).mono ?_; rintro r w_ ⟨B_, d_, rfl, hF_, hA_, hb_⟩; have HF_ := Lib.hid hF_; clear hF_ hA_; obtain ⟨k0, k1, k2, k3, k4, k5, k6, k7, k8, k9, k10, k11, k12⟩ := keep12 (W := W) (g1 := w2.heap.size) (g2 := w4.heap.size) (n := n) (c1 := c1) (c2 := c2) (A1 := A1) (A2 := A2) (p := P) (by assumption) (by assumption) (by assumption) (by assumption) (by assumption) (by assumption) (by assumption) (by assumption) (by assumption) (by assumption) (by assumption) (by assumption) (by assumption) hb_; clear hb_)
        | (go_at_call 10; refine (KS.out _ _ _ _ _ (by assumption) (by assumption)).mono ?_; rintro r w_ ⟨rfl, hb_⟩; obtain ⟨k0, k1, k2, k3, k4, k5, k6, k7, k8, k9, k10, k11, k12⟩ := keep12 (W := W) (g1 := w2.heap.size) (g2 := w4.heap.size) (n := n) (c1 := c1) (c2 := c2) (A1 := A1) (A2 := A2) (p := P) (by assumption) (by assumption) (by assumption) (by assumption) (by assumption) (by assumption) (by assumption) (by assumption) (by assumption) (by assumption) (by assumption) (by assumption) (by assumption) hb_; clear hb_)
        | (go_at_call 6; refine (wakes14 HP.out HT.out HAN.out _).mono ?_; rintro r w_ ⟨rfl, hb_⟩; obtain ⟨k0, k1, k2, k3, k4, k5, k6, k7, k8, k9, k10, k11, k12⟩ := keep12 (W := W) (g1 := w2.heap.size) (g2 := w4.heap.size) (n := n) (c1 := c1) (c2 := c2) (A1 := A1) (A2 := A2) (p := P) (by assumption) (by assumption) (by assumption) (by assumption) (by assumption) (by assumption) (by assumption) (by assumption) (by assumption) (by assumption) (by assumption) (by assumption) (by assumption) hb_; clear hb_)
        | fail "no")
    have HBQ : Hid (Below W.heap.size W w_) := by assumption
    go_wp2
    go_ret
    exact ⟨rfl, HBQ.out⟩
end Go.Proofs.Ytjcfdkchnikbmaa
