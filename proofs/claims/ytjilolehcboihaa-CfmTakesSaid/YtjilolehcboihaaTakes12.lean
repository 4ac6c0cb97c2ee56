/- CfmTakes: the message of any bytes, their head, and that of a frame, or why there are none, are what the document says: for every text and type, without a condition of ours. -/
import Derived.Test.YtjilolehcboihaaOpenPd
import Derived.OpenShut
import Derived.ShutString
import Derived.ChangeOld
import Derived.Deep.DeepCutAuto
import Derived.Deep.RegionHeld3
namespace Go.Proofs.Ytjilolehcboihaa.cfmTakes
open Go.ChangeShapes Go.WideShapes Go.ChangeAt Go.RowKit
open Go.ChangeMaps (open_string shut_string)
set_option linter.unusedVariables false
set_option linter.unusedSimpArgs false
set_option maxRecDepth 100000

theorem u16_of12 {n : Int} (h : (Lit.int .u16 n).wf = true) : ∃ u : UInt16, n = (u.toNat : Int) := by
  have hb : 0 ≤ n ∧ n ≤ 65535 := by
    simp [Lit.wf, IntKind.has, IntKind.min, IntKind.max, IntKind.signed, IntKind.bits] at h
    omega
  refine ⟨UInt16.ofNat n.toNat, ?_⟩
  have : n.toNat % 65536 = n.toNat := by omega
  simp [this]
  omega
theorem keep12 {W w w' : World} {g1 g2 n c1 c2 : Nat} {A1 A2 : Option Addr} {p : Pd} (h0 : w.cell? ⟨g1, 0, none⟩ = some (.int .u8 p.l.toNat)) (h1 : w.cell? ⟨g1, 1, none⟩ = some (.int .u8 p.o.toNat)) (h2 : w.cell? ⟨g1, 2, none⟩ = some (.int .u8 p.g.toNat)) (h3 : w.cell? ⟨g1, 3, none⟩ = some (.string ⟨p.x.toArray⟩)) (h4 : w.cell? ⟨g1, 4, none⟩ = some (.slice A1 n c1)) (h5 : w.cell? ⟨g2, 0, none⟩ = some (.int .u8 p.l.toNat)) (h6 : w.cell? ⟨g2, 1, none⟩ = some (.int .u8 p.o.toNat)) (h7 : w.cell? ⟨g2, 2, none⟩ = some (.int .u8 p.g.toNat)) (h8 : w.cell? ⟨g2, 3, none⟩ = some (.string ⟨p.x.toArray⟩)) (h9 : w.cell? ⟨g2, 4, none⟩ = some (.slice A2 n c2)) (hE : Hid (Els 2 tlV w A1 p.t)) (hF : Hid (Els 2 tlV w A2 p.t)) (hB : Hid (Below W.heap.size W w)) (hb : Below w.heap.size w w') : w'.cell? ⟨g1, 0, none⟩ = some (.int .u8 p.l.toNat) ∧ w'.cell? ⟨g1, 1, none⟩ = some (.int .u8 p.o.toNat) ∧ w'.cell? ⟨g1, 2, none⟩ = some (.int .u8 p.g.toNat) ∧ w'.cell? ⟨g1, 3, none⟩ = some (.string ⟨p.x.toArray⟩) ∧ w'.cell? ⟨g1, 4, none⟩ = some (.slice A1 n c1) ∧ w'.cell? ⟨g2, 0, none⟩ = some (.int .u8 p.l.toNat) ∧ w'.cell? ⟨g2, 1, none⟩ = some (.int .u8 p.o.toNat) ∧ w'.cell? ⟨g2, 2, none⟩ = some (.int .u8 p.g.toNat) ∧ w'.cell? ⟨g2, 3, none⟩ = some (.string ⟨p.x.toArray⟩) ∧ w'.cell? ⟨g2, 4, none⟩ = some (.slice A2 n c2) ∧ Hid (Els 2 tlV w' A1 p.t) ∧ Hid (Els 2 tlV w' A2 p.t) ∧ Hid (Below W.heap.size W w') := by
  have hk : ∀ {g i : Nat} {v : Value}, w.cell? ⟨g, i, none⟩ = some v → w'.cell? ⟨g, i, none⟩ = some v := fun {g i v} h => (hb.cell (p := ⟨g, i, none⟩) (World.block_lt_of_cell? w _ h)).trans h
  exact ⟨hk h0, hk h1, hk h2, hk h3, hk h4, hk h5, hk h6, hk h7, hk h8, hk h9, Lib.hid (hE.out.next hb), Lib.hid (hF.out.next hb), Lib.hid (hB.out.trans (hb.mono hB.out.size))⟩
set_option maxRecDepth 100000 in
set_option maxHeartbeats 4000000 in
theorem walkL (W : World) (s : List UInt8) (kd : UInt16) :
    Calls Try.prog 4 #[.string ⟨s.toArray⟩, .int .u16 kd.toNat] W fun e w' => e = .returned (.bool true) ∧ Below W.heap.size W w' := by
  show Calls _ _ #[.string ⟨s.toArray⟩, .int .u16 kd.toNat] _ _
  by_cases hs : 2000 < s.length
  · have p0 : (2000 : Int) < (s.length : Int) := by omega
    have HB0 := Lib.hid (Below.refl W.heap.size W)
    clear hs
    go_enter Try.func4, Try.ntmps4
    go_wp2_with fail
    refine (wakes12 _).mono ?_
    rintro r w1 ⟨rfl, hb1⟩
    have HB1 := Lib.hid hb1
    clear hb1
    go_wp2
    go_ret
    exact ⟨rfl, HB1.out⟩
  · have p0 : ¬ (2000 : Int) < (s.length : Int) := by omega
    have KP := Lib.hid (fun w => cftake_any s w (by omega))
    have KR := Lib.hid (fun w => reftake12_any s w (by omega))
    have KH := Lib.hid (fun w => cfhead_any s w)
    have KG := Lib.hid (fun w => refhead12_any s w)
    have KF := Lib.hid (fun w => cfof_any ⟨0, 0, 0, 0, 0, 0, 0, 0, 0, 0, 0, 0, false, 0, 0, kd, s⟩ w)
    have hpl := cfX_len s
    obtain ⟨p, hp⟩ : ∃ p, cfX s = p := ⟨_, rfl⟩
    obtain ⟨E, hEr⟩ : ∃ E, cfE s = E := ⟨_, rfl⟩
    obtain ⟨x, hx⟩ : ∃ x, hdL s = x := ⟨_, rfl⟩
    obtain ⟨y, hy⟩ : ∃ x, hdO s = x := ⟨_, rfl⟩
    obtain ⟨z, hz⟩ : ∃ x, hdB s = x := ⟨_, rfl⟩
    rw [hp, hEr] at KP KR
    rw [hp] at hpl
    rw [hx, hy, hz] at KH KG
    have KO := Lib.hid (fun A c w (h : Hid (Els 2 tlV w A p.t)) => of12_any A c p w h.out (by omega))
    have KS := Lib.hid (fun A B c d w (h : Hid (Els 2 tlV w A p.t)) (h' : Hid (Els 2 tlV w B p.t)) => same12_any A B c d p w h.out h'.out (by omega))
    obtain ⟨n, hn⟩ : ∃ n, p.t.length = n := ⟨_, rfl⟩
    simp only [PdV, hn] at KP KR KO KS
    have HXYZ := Lib.hid (And.intro hx (And.intro hy hz))
    clear hp hEr hx hy hz hpl hn hs
    go_enter Try.func4, Try.ntmps4
    go_wp2_with fail
    refine (KP.out _).mono ?_
    rintro r w1 ⟨A1, c1, rfl, hE, hA, hb1⟩
    have HE1 := Lib.hid hE
    have HB1 := Lib.hid hb1
    clear hE hA hb1
    have HB1a : Hid (Below W.heap.size W (w1.alloc (.cells #[.int .u8 p.l.toNat, .int .u8 p.o.toNat, .int .u8 p.g.toNat, .string ⟨p.x.toArray⟩, .slice A1 n c1] 32))) := Lib.hid (HB1.out.alloc HB1.out.size _)
    have HK1 : Hid (Blk (w1.alloc (.cells #[.int .u8 p.l.toNat, .int .u8 p.o.toNat, .int .u8 p.g.toNat, .string ⟨p.x.toArray⟩, .slice A1 n c1] 32)) w1.heap.size 32 #[.int .u8 p.l.toNat, .int .u8 p.o.toNat, .int .u8 p.g.toNat, .string ⟨p.x.toArray⟩, .slice A1 n c1]) := Lib.hid (Blk.new _ _ _)
    have HE1a : Hid (Els 2 tlV (w1.alloc (.cells #[.int .u8 p.l.toNat, .int .u8 p.o.toNat, .int .u8 p.g.toNat, .string ⟨p.x.toArray⟩, .slice A1 n c1] 32)) A1 p.t) := Lib.hid (HE1.out.next ((Below.refl _ _).alloc (Nat.le_refl _) _))
    clear HE1 HB1
    go_wp2_with fail
    refine (KR.out _).mono ?_
    rintro r w2 ⟨A2, c2, rfl, hE, hA, hb2⟩
    have HE2 := Lib.hid hE
    have HE12 := Lib.hid (HE1a.out.next hb2)
    have HK12 := Lib.hid (HK1.out.below hb2 HK1.out.lt)
    have HB2 : Hid (Below W.heap.size W w2) := Lib.hid (HB1a.out.trans (hb2.mono HB1a.out.size))
    clear hE hA hb2 HE1a HK1 HB1a
    have HB2a : Hid (Below W.heap.size W (w2.alloc (.cells #[.int .u8 p.l.toNat, .int .u8 p.o.toNat, .int .u8 p.g.toNat, .string ⟨p.x.toArray⟩, .slice A2 n c2] 24))) := Lib.hid (HB2.out.alloc HB2.out.size _)
    have HK2 : Hid (Blk (w2.alloc (.cells #[.int .u8 p.l.toNat, .int .u8 p.o.toNat, .int .u8 p.g.toNat, .string ⟨p.x.toArray⟩, .slice A2 n c2] 24)) w2.heap.size 24 #[.int .u8 p.l.toNat, .int .u8 p.o.toNat, .int .u8 p.g.toNat, .string ⟨p.x.toArray⟩, .slice A2 n c2]) := Lib.hid (Blk.new _ _ _)
    have HE2a : Hid (Els 2 tlV (w2.alloc (.cells #[.int .u8 p.l.toNat, .int .u8 p.o.toNat, .int .u8 p.g.toNat, .string ⟨p.x.toArray⟩, .slice A2 n c2] 24)) A2 p.t) := Lib.hid (HE2.out.next ((Below.refl _ _).alloc (Nat.le_refl _) _))
    have HE12a : Hid (Els 2 tlV (w2.alloc (.cells #[.int .u8 p.l.toNat, .int .u8 p.o.toNat, .int .u8 p.g.toNat, .string ⟨p.x.toArray⟩, .slice A2 n c2] 24)) A1 p.t) := Lib.hid (HE12.out.next ((Below.refl _ _).alloc (Nat.le_refl _) _))
    have HK12a := Lib.hid (HK12.out.alloc (.cells #[.int .u8 p.l.toNat, .int .u8 p.o.toNat, .int .u8 p.g.toNat, .string ⟨p.x.toArray⟩, .slice A2 n c2] 24))
    clear HE2 HE12 HK12 HB2
    go_wp2_with fail
    refine (KH.out _).mono ?_
    rintro r w3 ⟨rfl, m3, hw3⟩
    have hb3 : Below (w2.alloc (.cells #[.int .u8 p.l.toNat, .int .u8 p.o.toNat, .int .u8 p.g.toNat, .string ⟨p.x.toArray⟩, .slice A2 n c2] 24)).heap.size (w2.alloc (.cells #[.int .u8 p.l.toNat, .int .u8 p.o.toNat, .int .u8 p.g.toNat, .string ⟨p.x.toArray⟩, .slice A2 n c2] 24)) w3 := by rw [hw3]; exact below_drewN (Below.refl _ _) m3
    have HB3 : Hid (Below W.heap.size W w3) := Lib.hid (HB2a.out.trans (hb3.mono HB2a.out.size))
    have HK13 := Lib.hid (HK12a.out.below hb3 HK12a.out.lt)
    have HK23 := Lib.hid (HK2.out.below hb3 HK2.out.lt)
    have HE13 := Lib.hid (HE12a.out.next hb3)
    have HE23 := Lib.hid (HE2a.out.next hb3)
    clear hb3 hw3 HB2a HK12a HK2 HE12a HE2a
    go_wp2_with fail
    refine (KG.out _).mono ?_
    rintro r w4 ⟨rfl, m4, hw4⟩
    have hb4 : Below w3.heap.size w3 w4 := by rw [hw4]; exact below_drewN (Below.refl _ _) m4
    have HB4 : Hid (Below W.heap.size W w4) := Lib.hid (HB3.out.trans (hb4.mono HB3.out.size))
    have HK14 := Lib.hid (HK13.out.below hb4 HK13.out.lt)
    have HK24 := Lib.hid (HK23.out.below hb4 HK23.out.lt)
    have HE14 := Lib.hid (HE13.out.next hb4)
    have HE24 := Lib.hid (HE23.out.next hb4)
    clear hb4 hw4 HB3 HK13 HK23 HE13 HE23
    by_cases hk : kd = 0x8902
    · have e1 : ((kd.toNat : Int) != 35074) = false := by rw [hk]; rfl
      have e2 : ((kd.toNat : Int) == 35074) = true := by rw [hk]; rfl
      have hD : ofD ⟨0, 0, 0, 0, 0, 0, 0, 0, 0, 0, 0, 0, false, 0, 0, kd, s⟩ = s := by unfold ofD; rw [if_pos hk]
      rw [hD, HXYZ.out.1, HXYZ.out.2.1, HXYZ.out.2.2] at KF
      clear hD hk
      go_wp2_with fail
      refine (KF.out _).mono ?_
      rintro r w5 ⟨rfl, hb5⟩
      have HB5 : Hid (Below W.heap.size W w5) := Lib.hid (HB4.out.trans (hb5.mono HB4.out.size))
      have HK15 := Lib.hid (HK14.out.below hb5 HK14.out.lt)
      have HK25 := Lib.hid (HK24.out.below hb5 HK24.out.lt)
      have HE8 := Lib.hid (HE14.out.next hb5)
      have HE9 := Lib.hid (HE24.out.next hb5)
      clear hb5 HB4 HK14 HK24 HE14 HE24
      have k0 := HK15.out.cell 0
      have k1 := HK15.out.cell 1
      have k2 := HK15.out.cell 2
      have k3 := HK15.out.cell 3
      have k4 := HK15.out.cell 4
      simp only [List.getElem?_toArray, List.getElem?_cons_succ, List.getElem?_cons_zero] at k0 k1 k2 k3 k4
      have j0 := HK25.out.cell 0
      have j1 := HK25.out.cell 1
      have j2 := HK25.out.cell 2
      have j3 := HK25.out.cell 3
      have j4 := HK25.out.cell 4
      simp only [List.getElem?_toArray, List.getElem?_cons_succ, List.getElem?_cons_zero] at j0 j1 j2 j3 j4
      clear HK15 HK25
      go_upto_region 10 with (fail)
      have HE8d : Hid (Els 2 tlV w5.drew A1 p.t) := Lib.hid HE8.out
      have HE9d : Hid (Els 2 tlV w5.drew A2 p.t) := Lib.hid HE9.out
      have HB5d : Hid (Below W.heap.size W w5.drew) := Lib.hid HB5.out.drew
      go_region_held3 (fun w_ => w_.cell? ⟨w1.heap.size, 0, none⟩ = some (.int .u8 p.l.toNat) ∧ w_.cell? ⟨w1.heap.size, 1, none⟩ = some (.int .u8 p.o.toNat) ∧ w_.cell? ⟨w1.heap.size, 2, none⟩ = some (.int .u8 p.g.toNat) ∧ w_.cell? ⟨w1.heap.size, 3, none⟩ = some (.string ⟨p.x.toArray⟩) ∧ w_.cell? ⟨w1.heap.size, 4, none⟩ = some (.slice A1 n c1) ∧ w_.cell? ⟨w2.heap.size, 0, none⟩ = some (.int .u8 p.l.toNat) ∧ w_.cell? ⟨w2.heap.size, 1, none⟩ = some (.int .u8 p.o.toNat) ∧ w_.cell? ⟨w2.heap.size, 2, none⟩ = some (.int .u8 p.g.toNat) ∧ w_.cell? ⟨w2.heap.size, 3, none⟩ = some (.string ⟨p.x.toArray⟩) ∧ w_.cell? ⟨w2.heap.size, 4, none⟩ = some (.slice A2 n c2) ∧ Hid (Els 2 tlV w_ A1 p.t) ∧ Hid (Els 2 tlV w_ A2 p.t) ∧ Hid (Below W.heap.size W w_)) (go_keep)
        (first
          | (go_at_call 9; refine (KO.out _ _ _ (by assumption)).mono ?_; rintro r w_ ⟨B_, d_, rfl, hF_, hA_, hb_⟩; have HF_ := Lib.hid hF_; clear hF_ hA_; obtain ⟨k0, k1, k2, k3, k4, k5, k6, k7, k8, k9, k10, k11, k12⟩ := keep12 (W := W) (g1 := w1.heap.size) (g2 := w2.heap.size) (n := n) (c1 := c1) (c2 := c2) (A1 := A1) (A2 := A2) (p := p) (by assumption) (by assumption) (by assumption) (by assumption) (by assumption) (by assumption) (by assumption) (by assumption) (by assumption) (by assumption) (by assumption) (by assumption) (by assumption) hb_; clear hb_)
          | (go_at_call 16; refine (KS.out _ _ _ _ _ (by assumption) (by assumption)).mono ?_; rintro r w_ ⟨rfl, hb_⟩; obtain ⟨k0, k1, k2, k3, k4, k5, k6, k7, k8, k9, k10, k11, k12⟩ := keep12 (W := W) (g1 := w1.heap.size) (g2 := w2.heap.size) (n := n) (c1 := c1) (c2 := c2) (A1 := A1) (A2 := A2) (p := p) (by assumption) (by assumption) (by assumption) (by assumption) (by assumption) (by assumption) (by assumption) (by assumption) (by assumption) (by assumption) (by assumption) (by assumption) (by assumption) hb_; clear hb_)
          | (go_at_call 7; refine (wakes12 _).mono ?_; rintro r w_ ⟨rfl, hb_⟩; obtain ⟨k0, k1, k2, k3, k4, k5, k6, k7, k8, k9, k10, k11, k12⟩ := keep12 (W := W) (g1 := w1.heap.size) (g2 := w2.heap.size) (n := n) (c1 := c1) (c2 := c2) (A1 := A1) (A2 := A2) (p := p) (by assumption) (by assumption) (by assumption) (by assumption) (by assumption) (by assumption) (by assumption) (by assumption) (by assumption) (by assumption) (by assumption) (by assumption) (by assumption) hb_; clear hb_)
          | fail "no")
      all_goals (
        have HBQ : Hid (Below W.heap.size W w_) := by assumption
        go_wp2
        go_ret
        exact ⟨rfl, HBQ.out⟩)
    · have hk' : ((kd.toNat : Int) == 35074) = false := by
        rw [show ((kd.toNat : Int) == 35074) = (kd == 0x8902) from u16_beq kd 0x8902]
        simpa using hk
      have e1 : ((kd.toNat : Int) != 35074) = true := by unfold bne; rw [hk']; rfl
      have hD : ofD ⟨0, 0, 0, 0, 0, 0, 0, 0, 0, 0, 0, 0, false, 0, 0, kd, s⟩ = [] := by unfold ofD; rw [if_neg hk]
      rw [hD] at KF
      have hdl : (hdL []).toNat = 0 ∧ (hdO []).toNat = 0 ∧ hdB [] = false := ⟨rfl, rfl, rfl⟩
      rw [hdl.1, hdl.2.1, hdl.2.2] at KF
      clear hD hk hdl
      go_wp2_with fail
      refine (KF.out _).mono ?_
      rintro r w5 ⟨rfl, hb5⟩
      have HB5 : Hid (Below W.heap.size W w5) := Lib.hid (HB4.out.trans (hb5.mono HB4.out.size))
      have HK15 := Lib.hid (HK14.out.below hb5 HK14.out.lt)
      have HK25 := Lib.hid (HK24.out.below hb5 HK24.out.lt)
      have HE8 := Lib.hid (HE14.out.next hb5)
      have HE9 := Lib.hid (HE24.out.next hb5)
      clear hb5 HB4 HK14 HK24 HE14 HE24
      have k0 := HK15.out.cell 0
      have k1 := HK15.out.cell 1
      have k2 := HK15.out.cell 2
      have k3 := HK15.out.cell 3
      have k4 := HK15.out.cell 4
      simp only [List.getElem?_toArray, List.getElem?_cons_succ, List.getElem?_cons_zero] at k0 k1 k2 k3 k4
      have j0 := HK25.out.cell 0
      have j1 := HK25.out.cell 1
      have j2 := HK25.out.cell 2
      have j3 := HK25.out.cell 3
      have j4 := HK25.out.cell 4
      simp only [List.getElem?_toArray, List.getElem?_cons_succ, List.getElem?_cons_zero] at j0 j1 j2 j3 j4
      clear HK15 HK25
      go_upto_region 10 with (fail)
      have HE8d : Hid (Els 2 tlV w5.drew A1 p.t) := Lib.hid HE8.out
      have HE9d : Hid (Els 2 tlV w5.drew A2 p.t) := Lib.hid HE9.out
      have HB5d : Hid (Below W.heap.size W w5.drew) := Lib.hid HB5.out.drew
      go_region_held3 (fun w_ => w_.cell? ⟨w1.heap.size, 0, none⟩ = some (.int .u8 p.l.toNat) ∧ w_.cell? ⟨w1.heap.size, 1, none⟩ = some (.int .u8 p.o.toNat) ∧ w_.cell? ⟨w1.heap.size, 2, none⟩ = some (.int .u8 p.g.toNat) ∧ w_.cell? ⟨w1.heap.size, 3, none⟩ = some (.string ⟨p.x.toArray⟩) ∧ w_.cell? ⟨w1.heap.size, 4, none⟩ = some (.slice A1 n c1) ∧ w_.cell? ⟨w2.heap.size, 0, none⟩ = some (.int .u8 p.l.toNat) ∧ w_.cell? ⟨w2.heap.size, 1, none⟩ = some (.int .u8 p.o.toNat) ∧ w_.cell? ⟨w2.heap.size, 2, none⟩ = some (.int .u8 p.g.toNat) ∧ w_.cell? ⟨w2.heap.size, 3, none⟩ = some (.string ⟨p.x.toArray⟩) ∧ w_.cell? ⟨w2.heap.size, 4, none⟩ = some (.slice A2 n c2) ∧ Hid (Els 2 tlV w_ A1 p.t) ∧ Hid (Els 2 tlV w_ A2 p.t) ∧ Hid (Below W.heap.size W w_)) (go_keep)
        (first
          | (go_at_call 9; refine (KO.out _ _ _ (by assumption)).mono ?_; rintro r w_ ⟨B_, d_, rfl, hF_, hA_, hb_⟩; have HF_ := Lib.hid hF_; clear hF_ hA_; obtain ⟨k0, k1, k2, k3, k4, k5, k6, k7, k8, k9, k10, k11, k12⟩ := keep12 (W := W) (g1 := w1.heap.size) (g2 := w2.heap.size) (n := n) (c1 := c1) (c2 := c2) (A1 := A1) (A2 := A2) (p := p) (by assumption) (by assumption) (by assumption) (by assumption) (by assumption) (by assumption) (by assumption) (by assumption) (by assumption) (by assumption) (by assumption) (by assumption) (by assumption) hb_; clear hb_)
          | (go_at_call 16; refine (KS.out _ _ _ _ _ (by assumption) (by assumption)).mono ?_; rintro r w_ ⟨rfl, hb_⟩; obtain ⟨k0, k1, k2, k3, k4, k5, k6, k7, k8, k9, k10, k11, k12⟩ := keep12 (W := W) (g1 := w1.heap.size) (g2 := w2.heap.size) (n := n) (c1 := c1) (c2 := c2) (A1 := A1) (A2 := A2) (p := p) (by assumption) (by assumption) (by assumption) (by assumption) (by assumption) (by assumption) (by assumption) (by assumption) (by assumption) (by assumption) (by assumption) (by assumption) (by assumption) hb_; clear hb_)
          | (go_at_call 7; refine (wakes12 _).mono ?_; rintro r w_ ⟨rfl, hb_⟩; obtain ⟨k0, k1, k2, k3, k4, k5, k6, k7, k8, k9, k10, k11, k12⟩ := keep12 (W := W) (g1 := w1.heap.size) (g2 := w2.heap.size) (n := n) (c1 := c1) (c2 := c2) (A1 := A1) (A2 := A2) (p := p) (by assumption) (by assumption) (by assumption) (by assumption) (by assumption) (by assumption) (by assumption) (by assumption) (by assumption) (by assumption) (by assumption) (by assumption) (by assumption) hb_; clear hb_)
          | fail "no")
      all_goals (
        have HBQ : Hid (Below W.heap.size W w_) := by assumption
        go_wp2
        go_ret
        exact ⟨rfl, HBQ.out⟩)
set_option maxRecDepth 100000 in
set_option maxHeartbeats 4000000 in
theorem walk {H : Type} {enc : TypeId × Value → H} (W : World) (base : Nat) {v0 v1 : Value} {d0 d1 : DataW H} {p0 p1 : List MemPlace}
    (o0 : Value.okWide Try.prog W .any base 9 v0) (h0 : DataW.Trod enc Try.prog W 0 (fun _ => true) true 9 v0 d0 p0) (o1 : Value.okWide Try.prog W .any base 35 v1) (h1 : DataW.Trod enc Try.prog W 0 (fun _ => true) true 35 v1 d1 p1) :
    Calls Try.prog 4 #[v0, v1] W fun e w' => e = .returned (.bool true) ∧ Below W.heap.size W w' := by
  obtain ⟨sb0, rfl, rfl, rfl, hs0⟩ := open_string Try.underlying9 o0 h0
  obtain ⟨⟨s⟩⟩ := sb0
  obtain ⟨n1, rfl, hw⟩ := open_num Try.underlying35 o1 h1
  obtain ⟨kd, rfl⟩ := u16_of12 hw
  exact walkL W s kd

theorem own : ownKnob Try.prog.godebug = none := by kernel_rfl
theorem laidOut : laidOutB Try.prog = true := by kernel_rfl
set_option maxRecDepth 100000 in
theorem lifted (os : Os) (started : os.Started) (H : Type) (enc : TypeId × Value → H) :
    ReturnsInHanded {} Try.checked os 4 .any (Rows.cfmTakesSpec.pre6 enc Try.prog Try.f4 Rows.cfmTakesRow.domain false) (Rows.cfmTakesSpec.post enc Try.prog Try.f4 false true false false) := by
  refine returnsInHanded_of_change (C := Try.checked) own started (by kernel_rfl) Try.func4
    (ChangeSpec.witness6 (enc := enc) (C := Try.checked) false ⟨#[], #[.string ⟨#[]⟩, .int .u16 0], []⟩ 8 (by kernel_rfl) (by kernel_rfl) (by kernel_rfl) (by kernel_rfl)) ?_
  intro W base args ds gs before hval0 hW hcnd _
  have hval : ∀ (j : Nat) t v, Try.f4.params[j]? = some t → args[j]? = some v → Value.okWide Try.prog W .any base t v := hval0
  have hW' := hW
  obtain ⟨p, q, hA0, hV, rfl, hfz, hnd⟩ := hW
  have hA : DataW.TrodAll enc Try.prog W 0 (fun _ => true) true Try.f4.params.toList args.toList ds p := hA0
  rw [Try.params4] at hA hval
  obtain ⟨v0, vs0, d0, ds0, p0, q0, hargs, rfl, rfl, h0, r0⟩ := trodAll_cons hA
  obtain ⟨v1, vs1, d1, ds1, p1, q1, rfl, rfl, rfl, h1, r1⟩ := trodAll_cons r0
  obtain ⟨rfl, rfl, rfl⟩ := trodAll_nil r1
  obtain rfl : args = #[v0, v1] := by cases args; simp_all
  obtain ⟨rfl, rfl⟩ := trodVars_none hV
  have o0 := hval 0 9 v0 rfl rfl
  have lt0 : ∀ x ∈ p0, x.block < W.heap.size := by obtain ⟨m, hm⟩ := h0; exact DataW.trod_lt m _ _ _ hm
  have o1 := hval 1 35 v1 rfl rfl
  have lt1 : ∀ x ∈ p1, x.block < W.heap.size := by obtain ⟨m, hm⟩ := h1; exact DataW.trod_lt m _ _ _ hm
  clear hA0 hval0
  refine (walk W base o0 h0 o1 h1).mono fun e W' ⟨he, bel⟩ => ?_
  subst he
  exact ⟨_, rfl, _, _, _, [], _, [], hW', trodAll_mk1 (shut_bool Try.underlying4 _), (trodAll_cons_mk (Below.trod laidOut (by kernel_rfl) (of_decide_eq_true (by kernel_rfl)) h0 bel lt0) (trodAll_cons_mk (Below.trod laidOut (by kernel_rfl) (of_decide_eq_true (by kernel_rfl)) h1 bel lt1) trodAll_mk0)), rfl, bel.frame _, fun h => by cases h⟩

theorem over : Rows.cfmTakesRow.holds Try.pinned (OpenSpec.ofChange Rows.cfmTakesSpec) :=
  OpenClaim.holds_of_wide 4 Try.f4 rfl rfl rfl rfl rfl rfl rfl ⟨rfl, rfl, rfl, rfl, rfl⟩ rfl rfl rfl rfl rfl (by kernel_rfl) Try.func4 (by kernel_rfl)
    (of_decide_eq_true (by kernel_rfl)) (by unfold Func.isWrapper; first | (rw [if_pos (by decide +kernel)]; kernel_rfl) | (rw [if_neg (by decide +kernel)]; exact ⟨rfl, rfl⟩))
    (fun os started H enc _ => lifted os started H enc)

/-- THE STATEMENT -/
theorem proved : Rows.CfmTakesSaid := over
end Go.Proofs.Ytjilolehcboihaa.cfmTakes
