/- Layer 14: LbmTakes's walk, over the package's contracts. -/
import Derived.Test.YtjcfdkchnikbmaaLaw14
import Derived.Test.YtjcfdkchnikbmaaOpenPd
import Derived.Test.YtjcfdkchnikbmaaRt14
import Derived.Deep.RegionHeld3
import Derived.Deep.DeepCutAuto
namespace Go.Proofs.Ytjcfdkchnikbmaa
open Go.RowKit
set_option linter.unusedVariables false
set_option linter.unusedSimpArgs false
set_option maxRecDepth 100000

theorem keep14t {W w w' : World} {g3 g5 : Nat} {X : Lo} (h0 : w.cell? ⟨g3, 0, none⟩ = some (.int .u8 X.l.toNat)) (h1 : w.cell? ⟨g3, 1, none⟩ = some (.bool X.r)) (h2 : w.cell? ⟨g3, 2, none⟩ = some (.int .u32 X.q.toNat)) (h3 : w.cell? ⟨g3, 3, none⟩ = some (.string ⟨X.d.toArray⟩)) (h4 : w.cell? ⟨g5, 0, none⟩ = some (.int .u8 X.l.toNat)) (h5 : w.cell? ⟨g5, 1, none⟩ = some (.bool X.r)) (h6 : w.cell? ⟨g5, 2, none⟩ = some (.int .u32 X.q.toNat)) (h7 : w.cell? ⟨g5, 3, none⟩ = some (.string ⟨X.d.toArray⟩))  (hB : Hid (Below W.heap.size W w)) (hb : Below w.heap.size w w') : w'.cell? ⟨g3, 0, none⟩ = some (.int .u8 X.l.toNat) ∧ w'.cell? ⟨g3, 1, none⟩ = some (.bool X.r) ∧ w'.cell? ⟨g3, 2, none⟩ = some (.int .u32 X.q.toNat) ∧ w'.cell? ⟨g3, 3, none⟩ = some (.string ⟨X.d.toArray⟩) ∧ w'.cell? ⟨g5, 0, none⟩ = some (.int .u8 X.l.toNat) ∧ w'.cell? ⟨g5, 1, none⟩ = some (.bool X.r) ∧ w'.cell? ⟨g5, 2, none⟩ = some (.int .u32 X.q.toNat) ∧ w'.cell? ⟨g5, 3, none⟩ = some (.string ⟨X.d.toArray⟩) ∧ Hid (Below W.heap.size W w') := by
  have hk : ∀ {g i : Nat} {v : Value}, w.cell? ⟨g, i, none⟩ = some v → w'.cell? ⟨g, i, none⟩ = some v := fun {g i v} h => (hb.cell (p := ⟨g, i, none⟩) (World.block_lt_of_cell? w _ h)).trans h
  exact ⟨hk h0, hk h1, hk h2, hk h3, hk h4, hk h5, hk h6, hk h7, Lib.hid (hB.out.trans (hb.mono hB.out.size))⟩
set_option maxHeartbeats 8000000 in
theorem lbmtakes_walk (HPC : LbPutC) (HTC : LbTakeC) (HAC : LbAnsC) (W : World) (A : Option Addr) (k : Nat) (p : Pd) (hE : Els 2 tlV W A p.t) :
    Calls Try.prog 4 #[PdV p A k] W fun e w' => e = .returned (.bool true) ∧ Below W.heap.size W w' := by
  have HP := Lib.hid HPC
  have HT := Lib.hid HTC
  have HAN := Lib.hid HAC
  clear HPC HTC HAC
  have HB0 : Hid (Below W.heap.size W (W.alloc (.cells #[.int .u8 p.l.toNat, .int .u8 p.o.toNat, .int .u8 p.g.toNat, .string ⟨p.x.toArray⟩, .slice A p.t.length k] 36))) := Lib.hid ((Below.refl _ _).alloc (Nat.le_refl _) _)
  have HK0 : Hid (Blk (W.alloc (.cells #[.int .u8 p.l.toNat, .int .u8 p.o.toNat, .int .u8 p.g.toNat, .string ⟨p.x.toArray⟩, .slice A p.t.length k] 36)) W.heap.size 36 #[.int .u8 p.l.toNat, .int .u8 p.o.toNat, .int .u8 p.g.toNat, .string ⟨p.x.toArray⟩, .slice A p.t.length k]) := Lib.hid (Blk.new W _ _)
  have HEA : Hid (Els 2 tlV (W.alloc (.cells #[.int .u8 p.l.toNat, .int .u8 p.o.toNat, .int .u8 p.g.toNat, .string ⟨p.x.toArray⟩, .slice A p.t.length k] 36)) A p.t) := Lib.hid (hE.next HB0.out)
  clear hE
  by_cases hl : 400 < p.x.length
  · have p0 : (400 : Int) < (p.x.length : Int) := by omega
    clear hl
    go_enter Try.func4, Try.ntmps4
    go_wp2_with fail
    refine (wakes14 HP.out HT.out HAN.out _).mono ?_
    rintro r w1 ⟨rfl, hb1⟩
    have HB1 : Hid (Below W.heap.size W w1) := Lib.hid (HB0.out.trans (hb1.mono HB0.out.size))
    clear hb1 HB0
    go_wp2
    go_ret
    exact ⟨rfl, HB1.out⟩
  · have p0 : ¬ (400 : Int) < (p.x.length : Int) := by omega
    by_cases ht : 20 < p.t.length
    · have p1 : (20 : Int) < (p.t.length : Int) := by omega
      clear hl ht
      go_enter Try.func4, Try.ntmps4
      go_wp2_with fail
      refine (wakes14 HP.out HT.out HAN.out _).mono ?_
      rintro r w1 ⟨rfl, hb1⟩
      have HB1 : Hid (Below W.heap.size W w1) := Lib.hid (HB0.out.trans (hb1.mono HB0.out.size))
      clear hb1 HB0
      go_wp2
      go_ret
      exact ⟨rfl, HB1.out⟩
    · have p1 : ¬ (20 : Int) < (p.t.length : Int) := by omega
      have hcase := lk_an p
      obtain ⟨X, hX⟩ : ∃ X, lkX p = X := ⟨_, rfl⟩
      obtain ⟨xl, xr, xq, xd⟩ := X
      have HTL := Lib.hid (And.intro (show p.x.length ≤ 1000 by omega) (show p.t.length ≤ 20 by omega))
      have HXX := Lib.hid hX
      rw [hX] at hcase
      clear hl ht hX
      rcases hcase with ⟨hF, hx0, hG, hQ⟩ | ⟨hF, hr, hG, hQ⟩ | ⟨hF, hr, hG, hQ, ho⟩
      · have hr : xr = false := by have := congrArg Lo.r hx0; exact this
        replace hr : xr = false := hr
        subst hr
        have HXX2 := HXX.out
        have KO := Lib.hid (fun w h => of12_any A k p w h (by have := HTL.out; omega))
        have KT : Hid (∀ A k w, Els 2 tlV w A p.t → Calls Try.prog 12 #[PdV p A k] w fun e w' => e = .returned (.tuple #[.agg #[.int .u8 xl.toNat, .bool false, .int .u32 xq.toNat, .string ⟨xd.toArray⟩], .int .i64 4]) ∧ Below w.heap.size w w') := Lib.hid (fun A k w h => by
          have := HT.out A k p w h HTL.out.1 (by have := HTL.out; omega)
          rw [HXX2, hF] at this
          exact this)
        have KR : Hid (∀ w, Els 2 tlV w A p.t → Calls Try.prog 13 #[PdV p A k] w fun e w' => e = .returned (.tuple #[.agg #[.int .u8 xl.toNat, .bool false, .int .u32 xq.toNat, .string ⟨xd.toArray⟩], .int .i64 4]) ∧ Below w.heap.size w w') := Lib.hid (fun w h => by
          have := reftake14_any A k p w h (by have := HTL.out; omega)
          rw [HXX2, hF] at this
          exact this)
        have KA : Hid (∀ A k w, Els 2 tlV w A p.t → (A = none → k = 0) → Calls Try.prog 14 #[PdV p A k] w fun e w' => ∃ B d, e = .returned (.tuple #[.agg #[.int .u8 0, .int .u8 0, .int .u8 0, .string ⟨#[]⟩, .slice B 0 d], .int .i64 4]) ∧ Els 2 tlV w' B ([] : List Tl) ∧ Below w.heap.size w w') := Lib.hid (fun A k w h hz => by
          have := HAN.out A k p w h hz HTL.out.1 (by have := HTL.out; omega)
          rw [hQ, hG] at this
          exact this.mono (fun e w' ⟨B, d, h1, h2, _, _, h5⟩ => ⟨B, d, h1, h2, h5⟩))
        have q : ∀ w : World, (Op.equalIn 10000 32 (.agg #[.int .u8 xl.toNat, .bool false, .int .u32 xq.toNat, .string ⟨xd.toArray⟩]) (.agg #[.int .u8 xl.toNat, .bool false, .int .u32 xq.toNat, .string ⟨xd.toArray⟩])).run Try.prog w = .ok true w := fun w => by
          have := run_eqLo (⟨xl, false, xq, xd⟩ : Lo) (⟨xl, false, xq, xd⟩ : Lo) w
          simp only [decide_true] at this
          exact this
        have K14 : Hid (∀ w, Calls Try.prog 8 #[.agg #[.int .u8 xl.toNat, .bool false, .int .u32 xq.toNat, .string ⟨xd.toArray⟩]] w fun e w' => e = .returned (.agg #[.int .u8 xl.toNat, .bool false, .int .u32 xq.toNat, .string ⟨xd.toArray⟩]) ∧ Below w.heap.size w w') := Lib.hid (fun w => of14_any (⟨xl, false, xq, xd⟩ : Lo) w)
        clear HXX2 HXX hF hG hQ
        clear hx0
        go_enter Try.func4, Try.ntmps4
        go_wp2_with fail
        refine (KO.out _ HEA.out).mono ?_
        rintro r w1 ⟨B1, d1, rfl, hF, hz, hb1⟩
        have HB1 : Hid (Below W.heap.size W w1) := Lib.hid (HB0.out.trans (hb1.mono HB0.out.size))
        have HK1 := Lib.hid (HK0.out.below hb1 HK0.out.lt)
        have HE1 : Hid (Els 2 tlV w1 A p.t) := Lib.hid (HEA.out.next hb1)
        clear hb1 HB0 HK0 HEA
        clear hz
        have HF1 : Hid (Els 2 tlV w1 B1 p.t) := Lib.hid hF
        clear hF
        go_wp2_with fail
        refine (KT.out _ _ _ HF1.out).mono ?_
        rintro r w2 ⟨rfl, hb2⟩
        have HB2 : Hid (Below W.heap.size W w2) := Lib.hid (HB1.out.trans (hb2.mono HB1.out.size))
        have HK2 := Lib.hid (HK1.out.below hb2 HK1.out.lt)
        have HE2 : Hid (Els 2 tlV w2 A p.t) := Lib.hid (HE1.out.next hb2)
        have HF2 : Hid (Els 2 tlV w2 B1 p.t) := Lib.hid (HF1.out.next hb2)
        clear hb2 HB1 HK1 HE1 HF1
        clear HF2
        have HB3 : Hid (Below W.heap.size W (w2.alloc (.cells #[.int .u8 xl.toNat, .bool false, .int .u32 xq.toNat, .string ⟨xd.toArray⟩] 32))) := Lib.hid (HB2.out.alloc HB2.out.size _)
        have HK3 := Lib.hid (HK2.out.alloc (.cells #[.int .u8 xl.toNat, .bool false, .int .u32 xq.toNat, .string ⟨xd.toArray⟩] 32))
        have HE3 : Hid (Els 2 tlV (w2.alloc (.cells #[.int .u8 xl.toNat, .bool false, .int .u32 xq.toNat, .string ⟨xd.toArray⟩] 32)) A p.t) := Lib.hid (HE2.out.next ((Below.refl _ _).alloc (Nat.le_refl _) _))
        have HM3 := Lib.hid (Blk.new w2 32 #[.int .u8 xl.toNat, .bool false, .int .u32 xq.toNat, .string ⟨xd.toArray⟩])
        clear HB2 HK2 HE2
        have k0 := HK3.out.cell 0
        have k1 := HK3.out.cell 1
        have k2 := HK3.out.cell 2
        have k3 := HK3.out.cell 3
        have k4 := HK3.out.cell 4
        simp only [List.getElem?_toArray, List.getElem?_cons_succ, List.getElem?_cons_zero] at k0 k1 k2 k3 k4
        go_wp2_with fail
        refine (KR.out _ HE3.out).mono ?_
        rintro r w4 ⟨rfl, hb4⟩
        have HB4 : Hid (Below W.heap.size W w4) := Lib.hid (HB3.out.trans (hb4.mono HB3.out.size))
        have HK4 := Lib.hid (HK3.out.below hb4 HK3.out.lt)
        have HM4 := Lib.hid (HM3.out.below hb4 HM3.out.lt)
        have HE4 : Hid (Els 2 tlV w4 A p.t) := Lib.hid (HE3.out.next hb4)
        clear hb4 HB3 HK3 HM3 HE3
        clear k0 k1 k2 k3 k4
        have HB5 : Hid (Below W.heap.size W (w4.alloc (.cells #[.int .u8 xl.toNat, .bool false, .int .u32 xq.toNat, .string ⟨xd.toArray⟩] 24))) := Lib.hid (HB4.out.alloc HB4.out.size _)
        have HK5 := Lib.hid (HK4.out.alloc (.cells #[.int .u8 xl.toNat, .bool false, .int .u32 xq.toNat, .string ⟨xd.toArray⟩] 24))
        have HM5 := Lib.hid (HM4.out.alloc (.cells #[.int .u8 xl.toNat, .bool false, .int .u32 xq.toNat, .string ⟨xd.toArray⟩] 24))
        have HE5 : Hid (Els 2 tlV (w4.alloc (.cells #[.int .u8 xl.toNat, .bool false, .int .u32 xq.toNat, .string ⟨xd.toArray⟩] 24)) A p.t) := Lib.hid (HE4.out.next ((Below.refl _ _).alloc (Nat.le_refl _) _))
        have HR5 := Lib.hid (Blk.new w4 24 #[.int .u8 xl.toNat, .bool false, .int .u32 xq.toNat, .string ⟨xd.toArray⟩])
        clear HB4 HK4 HM4 HE4
        have k0 := HK5.out.cell 0
        have k1 := HK5.out.cell 1
        have k2 := HK5.out.cell 2
        have k3 := HK5.out.cell 3
        have k4 := HK5.out.cell 4
        simp only [List.getElem?_toArray, List.getElem?_cons_succ, List.getElem?_cons_zero] at k0 k1 k2 k3 k4
        go_wp2_with fail
        refine (KO.out _ HE5.out).mono ?_
        rintro r w6 ⟨B2, d2, rfl, hF, hz, hb6⟩
        have HB6 : Hid (Below W.heap.size W w6) := Lib.hid (HB5.out.trans (hb6.mono HB5.out.size))
        have HK6 := Lib.hid (HK5.out.below hb6 HK5.out.lt)
        have HM6 := Lib.hid (HM5.out.below hb6 HM5.out.lt)
        have HR6 := Lib.hid (HR5.out.below hb6 HR5.out.lt)
        have HE6 : Hid (Els 2 tlV w6 A p.t) := Lib.hid (HE5.out.next hb6)
        clear hb6 HB5 HK5 HM5 HR5 HE5
        have HZ := Lib.hid hz
        clear hz
        clear k0 k1 k2 k3 k4
        have HF6 : Hid (Els 2 tlV w6 B2 p.t) := Lib.hid hF
        clear hF
        go_wp2_with fail
        refine (KA.out _ _ _ HF6.out HZ.out).mono ?_
        rintro r w7 ⟨B, d, rfl, hF, hb7⟩
        have HB7 : Hid (Below W.heap.size W w7) := Lib.hid (HB6.out.trans (hb7.mono HB6.out.size))
        have HK7 := Lib.hid (HK6.out.below hb7 HK6.out.lt)
        have HM7 := Lib.hid (HM6.out.below hb7 HM6.out.lt)
        have HR7 := Lib.hid (HR6.out.below hb7 HR6.out.lt)
        have HE7 : Hid (Els 2 tlV w7 A p.t) := Lib.hid (HE6.out.next hb7)
        have HF7 : Hid (Els 2 tlV w7 B2 p.t) := Lib.hid (HF6.out.next hb7)
        clear hb7 HB6 HK6 HM6 HR6 HE6 HF6
        clear HF7
        have HG7 : Hid (Els 2 tlV w7 B ([] : List Tl)) := Lib.hid hF
        clear hF
        have HB8 : Hid (Below W.heap.size W (w7.alloc (.cells #[.int .u8 0, .int .u8 0, .int .u8 0, .string ⟨#[]⟩, .slice B 0 d] 28))) := Lib.hid (HB7.out.alloc HB7.out.size _)
        have HK8 := Lib.hid (HK7.out.alloc (.cells #[.int .u8 0, .int .u8 0, .int .u8 0, .string ⟨#[]⟩, .slice B 0 d] 28))
        have HM8 := Lib.hid (HM7.out.alloc (.cells #[.int .u8 0, .int .u8 0, .int .u8 0, .string ⟨#[]⟩, .slice B 0 d] 28))
        have HR8 := Lib.hid (HR7.out.alloc (.cells #[.int .u8 0, .int .u8 0, .int .u8 0, .string ⟨#[]⟩, .slice B 0 d] 28))
        have HE8 : Hid (Els 2 tlV (w7.alloc (.cells #[.int .u8 0, .int .u8 0, .int .u8 0, .string ⟨#[]⟩, .slice B 0 d] 28)) A p.t) := Lib.hid (HE7.out.next ((Below.refl _ _).alloc (Nat.le_refl _) _))
        have HG8 : Hid (Els 2 tlV (w7.alloc (.cells #[.int .u8 0, .int .u8 0, .int .u8 0, .string ⟨#[]⟩, .slice B 0 d] 28)) B ([] : List Tl)) := Lib.hid (HG7.out.next ((Below.refl _ _).alloc (Nat.le_refl _) _))
        have HQ8 := Lib.hid (Blk.new w7 28 #[.int .u8 0, .int .u8 0, .int .u8 0, .string ⟨#[]⟩, .slice B 0 d])
        clear HB7 HK7 HM7 HR7 HE7 HG7
        have a0 := HM8.out.cell 0
        have a1 := HM8.out.cell 1
        have a2 := HM8.out.cell 2
        have a3 := HM8.out.cell 3
        simp only [List.getElem?_toArray, List.getElem?_cons_succ, List.getElem?_cons_zero] at a0 a1 a2 a3
        have b0 := HR8.out.cell 0
        have b1 := HR8.out.cell 1
        have b2 := HR8.out.cell 2
        have b3 := HR8.out.cell 3
        simp only [List.getElem?_toArray, List.getElem?_cons_succ, List.getElem?_cons_zero] at b0 b1 b2 b3
        have HBd : Hid (Below W.heap.size W (w7.alloc (.cells #[.int .u8 0, .int .u8 0, .int .u8 0, .string ⟨#[]⟩, .slice B 0 d] 28)).drew) := Lib.hid HB8.out.drew
        clear HM8
        go_upto_region 6 with (fail)
        go_region_held3 (fun w_ => w_.cell? ⟨w2.heap.size, 0, none⟩ = some (.int .u8 xl.toNat) ∧ w_.cell? ⟨w2.heap.size, 1, none⟩ = some (.bool false) ∧ w_.cell? ⟨w2.heap.size, 2, none⟩ = some (.int .u32 xq.toNat) ∧ w_.cell? ⟨w2.heap.size, 3, none⟩ = some (.string ⟨xd.toArray⟩) ∧ w_.cell? ⟨w4.heap.size, 0, none⟩ = some (.int .u8 xl.toNat) ∧ w_.cell? ⟨w4.heap.size, 1, none⟩ = some (.bool false) ∧ w_.cell? ⟨w4.heap.size, 2, none⟩ = some (.int .u32 xq.toNat) ∧ w_.cell? ⟨w4.heap.size, 3, none⟩ = some (.string ⟨xd.toArray⟩) ∧ Hid (Below W.heap.size W w_)) (go_keep)
          (first
            | (go_at_call 8; refine (K14.out _).mono ?_; rintro r w_ ⟨rfl, hb_⟩; have HKz := Lib.hid (Blk.below (Blk.drew HK8.out) hb_ (Blk.lt (Blk.drew HK8.out))); have HRz := Lib.hid (Blk.below (Blk.drew HR8.out) hb_ (Blk.lt (Blk.drew HR8.out))); have HQz := Lib.hid (Blk.below (Blk.drew HQ8.out) hb_ (Blk.lt (Blk.drew HQ8.out))); have HEz : Hid (Els 2 tlV w_ A p.t) := Lib.hid (Els.next (w := (w7.alloc (.cells #[.int .u8 0, .int .u8 0, .int .u8 0, .string ⟨#[]⟩, .slice B 0 d] 28)).drew) HE8.out hb_); have HGz : Hid (Els 2 tlV w_ B ([] : List Tl)) := Lib.hid (Els.next (w := (w7.alloc (.cells #[.int .u8 0, .int .u8 0, .int .u8 0, .string ⟨#[]⟩, .slice B 0 d] 28)).drew) HG8.out hb_); have HBz : Hid (Below W.heap.size W w_) := Lib.hid (HB8.out.drew.trans (hb_.mono HB8.out.drew.size)); obtain ⟨k0, k1, k2, k3, k4, k5, k6, k7, k8⟩ := keep14t (W := W) (g3 := w2.heap.size) (g5 := w4.heap.size) (X := (⟨xl, false, xq, xd⟩ : Lo)) (by assumption) (by assumption) (by assumption) (by assumption) (by assumption) (by assumption) (by assumption) (by assumption) (by assumption) hb_; clear hb_)
            | fail "no")
        clear a0 a1 a2 a3 b0 b1 b2 b3 k0 k1 k2 k3 k4 k5 k6 k7 k8
        have b1 := HRz.out.cell 1
        simp only [List.getElem?_toArray, List.getElem?_cons_succ, List.getElem?_cons_zero] at b1
        have e0 := HQz.out.cell 0
        have e1 := HQz.out.cell 1
        have e2 := HQz.out.cell 2
        have e3 := HQz.out.cell 3
        have e4 := HQz.out.cell 4
        simp only [List.getElem?_toArray, List.getElem?_cons_succ, List.getElem?_cons_zero] at e0 e1 e2 e3 e4
        clear HEz
        clear HGz
        clear HKz
        clear HRz
        go_wp2_with fail
        refine (same12_any B none d 0 pd0 _ (els_nilL _ _) (els_nilL _ _) (by decide)).mono ?_
        rintro r w9 ⟨rfl, hb9⟩
        have HB9 : Hid (Below W.heap.size W w9) := Lib.hid (HBz.out.trans (hb9.mono HBz.out.size))
        have HQ9 := Lib.hid (HQz.out.below hb9 HQz.out.lt)
        clear hb9 HBz HQz
        clear e0 e1 e2 e3 e4
        clear HQ9
        go_wp2_with fail
        refine (wakes14 HP.out HT.out HAN.out _).mono ?_
        rintro r w10 ⟨rfl, hb10⟩
        have HB10 : Hid (Below W.heap.size W w10) := Lib.hid (HB9.out.trans (hb10.mono HB9.out.size))
        clear hb10 HB9
        go_wp2
        go_ret
        exact ⟨rfl, HB10.out⟩
      · replace hr : xr = true := hr
        subst hr
        have HXX2 := HXX.out
        have KO := Lib.hid (fun w h => of12_any A k p w h (by have := HTL.out; omega))
        have KT : Hid (∀ A k w, Els 2 tlV w A p.t → Calls Try.prog 12 #[PdV p A k] w fun e w' => e = .returned (.tuple #[.agg #[.int .u8 xl.toNat, .bool true, .int .u32 xq.toNat, .string ⟨xd.toArray⟩], .int .i64 0]) ∧ Below w.heap.size w w') := Lib.hid (fun A k w h => by
          have := HT.out A k p w h HTL.out.1 (by have := HTL.out; omega)
          rw [HXX2, hF] at this
          exact this)
        have KR : Hid (∀ w, Els 2 tlV w A p.t → Calls Try.prog 13 #[PdV p A k] w fun e w' => e = .returned (.tuple #[.agg #[.int .u8 xl.toNat, .bool true, .int .u32 xq.toNat, .string ⟨xd.toArray⟩], .int .i64 0]) ∧ Below w.heap.size w w') := Lib.hid (fun w h => by
          have := reftake14_any A k p w h (by have := HTL.out; omega)
          rw [HXX2, hF] at this
          exact this)
        have KA : Hid (∀ A k w, Els 2 tlV w A p.t → (A = none → k = 0) → Calls Try.prog 14 #[PdV p A k] w fun e w' => ∃ B d, e = .returned (.tuple #[.agg #[.int .u8 0, .int .u8 0, .int .u8 0, .string ⟨#[]⟩, .slice B 0 d], .int .i64 4]) ∧ Els 2 tlV w' B ([] : List Tl) ∧ Below w.heap.size w w') := Lib.hid (fun A k w h hz => by
          have := HAN.out A k p w h hz HTL.out.1 (by have := HTL.out; omega)
          rw [hQ, hG] at this
          exact this.mono (fun e w' ⟨B, d, h1, h2, _, _, h5⟩ => ⟨B, d, h1, h2, h5⟩))
        have q : ∀ w : World, (Op.equalIn 10000 32 (.agg #[.int .u8 xl.toNat, .bool true, .int .u32 xq.toNat, .string ⟨xd.toArray⟩]) (.agg #[.int .u8 xl.toNat, .bool true, .int .u32 xq.toNat, .string ⟨xd.toArray⟩])).run Try.prog w = .ok true w := fun w => by
          have := run_eqLo (⟨xl, true, xq, xd⟩ : Lo) (⟨xl, true, xq, xd⟩ : Lo) w
          simp only [decide_true] at this
          exact this
        have K14 : Hid (∀ w, Calls Try.prog 8 #[.agg #[.int .u8 xl.toNat, .bool true, .int .u32 xq.toNat, .string ⟨xd.toArray⟩]] w fun e w' => e = .returned (.agg #[.int .u8 xl.toNat, .bool true, .int .u32 xq.toNat, .string ⟨xd.toArray⟩]) ∧ Below w.heap.size w w') := Lib.hid (fun w => of14_any (⟨xl, true, xq, xd⟩ : Lo) w)
        clear HXX2 HXX hF hG hQ
        go_enter Try.func4, Try.ntmps4
        go_wp2_with fail
        refine (KO.out _ HEA.out).mono ?_
        rintro r w1 ⟨B1, d1, rfl, hF, hz, hb1⟩
        have HB1 : Hid (Below W.heap.size W w1) := Lib.hid (HB0.out.trans (hb1.mono HB0.out.size))
        have HK1 := Lib.hid (HK0.out.below hb1 HK0.out.lt)
        have HE1 : Hid (Els 2 tlV w1 A p.t) := Lib.hid (HEA.out.next hb1)
        clear hb1 HB0 HK0 HEA
        clear hz
        have HF1 : Hid (Els 2 tlV w1 B1 p.t) := Lib.hid hF
        clear hF
        go_wp2_with fail
        refine (KT.out _ _ _ HF1.out).mono ?_
        rintro r w2 ⟨rfl, hb2⟩
        have HB2 : Hid (Below W.heap.size W w2) := Lib.hid (HB1.out.trans (hb2.mono HB1.out.size))
        have HK2 := Lib.hid (HK1.out.below hb2 HK1.out.lt)
        have HE2 : Hid (Els 2 tlV w2 A p.t) := Lib.hid (HE1.out.next hb2)
        have HF2 : Hid (Els 2 tlV w2 B1 p.t) := Lib.hid (HF1.out.next hb2)
        clear hb2 HB1 HK1 HE1 HF1
        clear HF2
        have HB3 : Hid (Below W.heap.size W (w2.alloc (.cells #[.int .u8 xl.toNat, .bool true, .int .u32 xq.toNat, .string ⟨xd.toArray⟩] 32))) := Lib.hid (HB2.out.alloc HB2.out.size _)
        have HK3 := Lib.hid (HK2.out.alloc (.cells #[.int .u8 xl.toNat, .bool true, .int .u32 xq.toNat, .string ⟨xd.toArray⟩] 32))
        have HE3 : Hid (Els 2 tlV (w2.alloc (.cells #[.int .u8 xl.toNat, .bool true, .int .u32 xq.toNat, .string ⟨xd.toArray⟩] 32)) A p.t) := Lib.hid (HE2.out.next ((Below.refl _ _).alloc (Nat.le_refl _) _))
        have HM3 := Lib.hid (Blk.new w2 32 #[.int .u8 xl.toNat, .bool true, .int .u32 xq.toNat, .string ⟨xd.toArray⟩])
        clear HB2 HK2 HE2
        have k0 := HK3.out.cell 0
        have k1 := HK3.out.cell 1
        have k2 := HK3.out.cell 2
        have k3 := HK3.out.cell 3
        have k4 := HK3.out.cell 4
        simp only [List.getElem?_toArray, List.getElem?_cons_succ, List.getElem?_cons_zero] at k0 k1 k2 k3 k4
        go_wp2_with fail
        refine (KR.out _ HE3.out).mono ?_
        rintro r w4 ⟨rfl, hb4⟩
        have HB4 : Hid (Below W.heap.size W w4) := Lib.hid (HB3.out.trans (hb4.mono HB3.out.size))
        have HK4 := Lib.hid (HK3.out.below hb4 HK3.out.lt)
        have HM4 := Lib.hid (HM3.out.below hb4 HM3.out.lt)
        have HE4 : Hid (Els 2 tlV w4 A p.t) := Lib.hid (HE3.out.next hb4)
        clear hb4 HB3 HK3 HM3 HE3
        clear k0 k1 k2 k3 k4
        have HB5 : Hid (Below W.heap.size W (w4.alloc (.cells #[.int .u8 xl.toNat, .bool true, .int .u32 xq.toNat, .string ⟨xd.toArray⟩] 24))) := Lib.hid (HB4.out.alloc HB4.out.size _)
        have HK5 := Lib.hid (HK4.out.alloc (.cells #[.int .u8 xl.toNat, .bool true, .int .u32 xq.toNat, .string ⟨xd.toArray⟩] 24))
        have HM5 := Lib.hid (HM4.out.alloc (.cells #[.int .u8 xl.toNat, .bool true, .int .u32 xq.toNat, .string ⟨xd.toArray⟩] 24))
        have HE5 : Hid (Els 2 tlV (w4.alloc (.cells #[.int .u8 xl.toNat, .bool true, .int .u32 xq.toNat, .string ⟨xd.toArray⟩] 24)) A p.t) := Lib.hid (HE4.out.next ((Below.refl _ _).alloc (Nat.le_refl _) _))
        have HR5 := Lib.hid (Blk.new w4 24 #[.int .u8 xl.toNat, .bool true, .int .u32 xq.toNat, .string ⟨xd.toArray⟩])
        clear HB4 HK4 HM4 HE4
        have k0 := HK5.out.cell 0
        have k1 := HK5.out.cell 1
        have k2 := HK5.out.cell 2
        have k3 := HK5.out.cell 3
        have k4 := HK5.out.cell 4
        simp only [List.getElem?_toArray, List.getElem?_cons_succ, List.getElem?_cons_zero] at k0 k1 k2 k3 k4
        go_wp2_with fail
        refine (KO.out _ HE5.out).mono ?_
        rintro r w6 ⟨B2, d2, rfl, hF, hz, hb6⟩
        have HB6 : Hid (Below W.heap.size W w6) := Lib.hid (HB5.out.trans (hb6.mono HB5.out.size))
        have HK6 := Lib.hid (HK5.out.below hb6 HK5.out.lt)
        have HM6 := Lib.hid (HM5.out.below hb6 HM5.out.lt)
        have HR6 := Lib.hid (HR5.out.below hb6 HR5.out.lt)
        have HE6 : Hid (Els 2 tlV w6 A p.t) := Lib.hid (HE5.out.next hb6)
        clear hb6 HB5 HK5 HM5 HR5 HE5
        have HZ := Lib.hid hz
        clear hz
        clear k0 k1 k2 k3 k4
        have HF6 : Hid (Els 2 tlV w6 B2 p.t) := Lib.hid hF
        clear hF
        go_wp2_with fail
        refine (KA.out _ _ _ HF6.out HZ.out).mono ?_
        rintro r w7 ⟨B, d, rfl, hF, hb7⟩
        have HB7 : Hid (Below W.heap.size W w7) := Lib.hid (HB6.out.trans (hb7.mono HB6.out.size))
        have HK7 := Lib.hid (HK6.out.below hb7 HK6.out.lt)
        have HM7 := Lib.hid (HM6.out.below hb7 HM6.out.lt)
        have HR7 := Lib.hid (HR6.out.below hb7 HR6.out.lt)
        have HE7 : Hid (Els 2 tlV w7 A p.t) := Lib.hid (HE6.out.next hb7)
        have HF7 : Hid (Els 2 tlV w7 B2 p.t) := Lib.hid (HF6.out.next hb7)
        clear hb7 HB6 HK6 HM6 HR6 HE6 HF6
        clear HF7
        have HG7 : Hid (Els 2 tlV w7 B ([] : List Tl)) := Lib.hid hF
        clear hF
        have HB8 : Hid (Below W.heap.size W (w7.alloc (.cells #[.int .u8 0, .int .u8 0, .int .u8 0, .string ⟨#[]⟩, .slice B 0 d] 28))) := Lib.hid (HB7.out.alloc HB7.out.size _)
        have HK8 := Lib.hid (HK7.out.alloc (.cells #[.int .u8 0, .int .u8 0, .int .u8 0, .string ⟨#[]⟩, .slice B 0 d] 28))
        have HM8 := Lib.hid (HM7.out.alloc (.cells #[.int .u8 0, .int .u8 0, .int .u8 0, .string ⟨#[]⟩, .slice B 0 d] 28))
        have HR8 := Lib.hid (HR7.out.alloc (.cells #[.int .u8 0, .int .u8 0, .int .u8 0, .string ⟨#[]⟩, .slice B 0 d] 28))
        have HE8 : Hid (Els 2 tlV (w7.alloc (.cells #[.int .u8 0, .int .u8 0, .int .u8 0, .string ⟨#[]⟩, .slice B 0 d] 28)) A p.t) := Lib.hid (HE7.out.next ((Below.refl _ _).alloc (Nat.le_refl _) _))
        have HG8 : Hid (Els 2 tlV (w7.alloc (.cells #[.int .u8 0, .int .u8 0, .int .u8 0, .string ⟨#[]⟩, .slice B 0 d] 28)) B ([] : List Tl)) := Lib.hid (HG7.out.next ((Below.refl _ _).alloc (Nat.le_refl _) _))
        have HQ8 := Lib.hid (Blk.new w7 28 #[.int .u8 0, .int .u8 0, .int .u8 0, .string ⟨#[]⟩, .slice B 0 d])
        clear HB7 HK7 HM7 HR7 HE7 HG7
        have a0 := HM8.out.cell 0
        have a1 := HM8.out.cell 1
        have a2 := HM8.out.cell 2
        have a3 := HM8.out.cell 3
        simp only [List.getElem?_toArray, List.getElem?_cons_succ, List.getElem?_cons_zero] at a0 a1 a2 a3
        have b0 := HR8.out.cell 0
        have b1 := HR8.out.cell 1
        have b2 := HR8.out.cell 2
        have b3 := HR8.out.cell 3
        simp only [List.getElem?_toArray, List.getElem?_cons_succ, List.getElem?_cons_zero] at b0 b1 b2 b3
        have HBd : Hid (Below W.heap.size W (w7.alloc (.cells #[.int .u8 0, .int .u8 0, .int .u8 0, .string ⟨#[]⟩, .slice B 0 d] 28)).drew) := Lib.hid HB8.out.drew
        clear HM8
        go_upto_region 6 with (fail)
        go_region_held3 (fun w_ => w_.cell? ⟨w2.heap.size, 0, none⟩ = some (.int .u8 xl.toNat) ∧ w_.cell? ⟨w2.heap.size, 1, none⟩ = some (.bool true) ∧ w_.cell? ⟨w2.heap.size, 2, none⟩ = some (.int .u32 xq.toNat) ∧ w_.cell? ⟨w2.heap.size, 3, none⟩ = some (.string ⟨xd.toArray⟩) ∧ w_.cell? ⟨w4.heap.size, 0, none⟩ = some (.int .u8 xl.toNat) ∧ w_.cell? ⟨w4.heap.size, 1, none⟩ = some (.bool true) ∧ w_.cell? ⟨w4.heap.size, 2, none⟩ = some (.int .u32 xq.toNat) ∧ w_.cell? ⟨w4.heap.size, 3, none⟩ = some (.string ⟨xd.toArray⟩) ∧ Hid (Below W.heap.size W w_)) (go_keep)
          (first
            | (go_at_call 8; refine (K14.out _).mono ?_; rintro r w_ ⟨rfl, hb_⟩; have HKz := Lib.hid (Blk.below (Blk.drew HK8.out) hb_ (Blk.lt (Blk.drew HK8.out))); have HRz := Lib.hid (Blk.below (Blk.drew HR8.out) hb_ (Blk.lt (Blk.drew HR8.out))); have HQz := Lib.hid (Blk.below (Blk.drew HQ8.out) hb_ (Blk.lt (Blk.drew HQ8.out))); have HEz : Hid (Els 2 tlV w_ A p.t) := Lib.hid (Els.next (w := (w7.alloc (.cells #[.int .u8 0, .int .u8 0, .int .u8 0, .string ⟨#[]⟩, .slice B 0 d] 28)).drew) HE8.out hb_); have HGz : Hid (Els 2 tlV w_ B ([] : List Tl)) := Lib.hid (Els.next (w := (w7.alloc (.cells #[.int .u8 0, .int .u8 0, .int .u8 0, .string ⟨#[]⟩, .slice B 0 d] 28)).drew) HG8.out hb_); have HBz : Hid (Below W.heap.size W w_) := Lib.hid (HB8.out.drew.trans (hb_.mono HB8.out.drew.size)); obtain ⟨k0, k1, k2, k3, k4, k5, k6, k7, k8⟩ := keep14t (W := W) (g3 := w2.heap.size) (g5 := w4.heap.size) (X := (⟨xl, true, xq, xd⟩ : Lo)) (by assumption) (by assumption) (by assumption) (by assumption) (by assumption) (by assumption) (by assumption) (by assumption) (by assumption) hb_; clear hb_)
            | fail "no")
        clear a0 a1 a2 a3 b0 b1 b2 b3 k0 k1 k2 k3 k4 k5 k6 k7 k8
        have b1 := HRz.out.cell 1
        simp only [List.getElem?_toArray, List.getElem?_cons_succ, List.getElem?_cons_zero] at b1
        have e0 := HQz.out.cell 0
        have e1 := HQz.out.cell 1
        have e2 := HQz.out.cell 2
        have e3 := HQz.out.cell 3
        have e4 := HQz.out.cell 4
        simp only [List.getElem?_toArray, List.getElem?_cons_succ, List.getElem?_cons_zero] at e0 e1 e2 e3 e4
        clear HEz
        clear HGz
        clear HKz
        clear HRz
        go_wp2_with fail
        refine (same12_any B none d 0 pd0 _ (els_nilL _ _) (els_nilL _ _) (by decide)).mono ?_
        rintro r w9 ⟨rfl, hb9⟩
        have HB9 : Hid (Below W.heap.size W w9) := Lib.hid (HBz.out.trans (hb9.mono HBz.out.size))
        have HQ9 := Lib.hid (HQz.out.below hb9 HQz.out.lt)
        clear hb9 HBz HQz
        clear e0 e1 e2 e3 e4
        clear HQ9
        go_wp2_with fail
        refine (wakes14 HP.out HT.out HAN.out _).mono ?_
        rintro r w10 ⟨rfl, hb10⟩
        have HB10 : Hid (Below W.heap.size W w10) := Lib.hid (HB9.out.trans (hb10.mono HB9.out.size))
        clear hb10 HB9
        go_wp2
        go_ret
        exact ⟨rfl, HB10.out⟩
      · replace hr : xr = false := hr
        subst hr
        have HXX2 := HXX.out
        have KO := Lib.hid (fun w h => of12_any A k p w h (by have := HTL.out; omega))
        have KT : Hid (∀ A k w, Els 2 tlV w A p.t → Calls Try.prog 12 #[PdV p A k] w fun e w' => e = .returned (.tuple #[.agg #[.int .u8 xl.toNat, .bool false, .int .u32 xq.toNat, .string ⟨xd.toArray⟩], .int .i64 0]) ∧ Below w.heap.size w w') := Lib.hid (fun A k w h => by
          have := HT.out A k p w h HTL.out.1 (by have := HTL.out; omega)
          rw [HXX2, hF] at this
          exact this)
        have KR : Hid (∀ w, Els 2 tlV w A p.t → Calls Try.prog 13 #[PdV p A k] w fun e w' => e = .returned (.tuple #[.agg #[.int .u8 xl.toNat, .bool false, .int .u32 xq.toNat, .string ⟨xd.toArray⟩], .int .i64 0]) ∧ Below w.heap.size w w') := Lib.hid (fun w h => by
          have := reftake14_any A k p w h (by have := HTL.out; omega)
          rw [HXX2, hF] at this
          exact this)
        have KA : Hid (∀ A k w, Els 2 tlV w A p.t → (A = none → k = 0) → Calls Try.prog 14 #[PdV p A k] w fun e w' => ∃ B d, e = .returned (.tuple #[.agg #[.int .u8 p.l.toNat, .int .u8 2, .int .u8 p.g.toNat, .string ⟨p.x.toArray⟩, .slice B p.t.length d], .int .i64 0]) ∧ Els 2 tlV w' B p.t ∧ Below w.heap.size w w') := Lib.hid (fun A k w h hz => by
          have := HAN.out A k p w h hz HTL.out.1 (by have := HTL.out; omega)
          rw [hQ, hG] at this
          exact this.mono (fun e w' ⟨B, d, h1, h2, _, _, h5⟩ => ⟨B, d, h1, h2, h5⟩))
        have q : ∀ w : World, (Op.equalIn 10000 32 (.agg #[.int .u8 xl.toNat, .bool false, .int .u32 xq.toNat, .string ⟨xd.toArray⟩]) (.agg #[.int .u8 xl.toNat, .bool false, .int .u32 xq.toNat, .string ⟨xd.toArray⟩])).run Try.prog w = .ok true w := fun w => by
          have := run_eqLo (⟨xl, false, xq, xd⟩ : Lo) (⟨xl, false, xq, xd⟩ : Lo) w
          simp only [decide_true] at this
          exact this
        have K14 : Hid (∀ w, Calls Try.prog 8 #[.agg #[.int .u8 xl.toNat, .bool false, .int .u32 xq.toNat, .string ⟨xd.toArray⟩]] w fun e w' => e = .returned (.agg #[.int .u8 xl.toNat, .bool false, .int .u32 xq.toNat, .string ⟨xd.toArray⟩]) ∧ Below w.heap.size w w') := Lib.hid (fun w => of14_any (⟨xl, false, xq, xd⟩ : Lo) w)
        clear HXX2 HXX hF hG hQ
        have HOO := Lib.hid ho
        clear ho
        go_enter Try.func4, Try.ntmps4
        go_wp2_with fail
        refine (KO.out _ HEA.out).mono ?_
        rintro r w1 ⟨B1, d1, rfl, hF, hz, hb1⟩
        have HB1 : Hid (Below W.heap.size W w1) := Lib.hid (HB0.out.trans (hb1.mono HB0.out.size))
        have HK1 := Lib.hid (HK0.out.below hb1 HK0.out.lt)
        have HE1 : Hid (Els 2 tlV w1 A p.t) := Lib.hid (HEA.out.next hb1)
        clear hb1 HB0 HK0 HEA
        clear hz
        have HF1 : Hid (Els 2 tlV w1 B1 p.t) := Lib.hid hF
        clear hF
        go_wp2_with fail
        refine (KT.out _ _ _ HF1.out).mono ?_
        rintro r w2 ⟨rfl, hb2⟩
        have HB2 : Hid (Below W.heap.size W w2) := Lib.hid (HB1.out.trans (hb2.mono HB1.out.size))
        have HK2 := Lib.hid (HK1.out.below hb2 HK1.out.lt)
        have HE2 : Hid (Els 2 tlV w2 A p.t) := Lib.hid (HE1.out.next hb2)
        have HF2 : Hid (Els 2 tlV w2 B1 p.t) := Lib.hid (HF1.out.next hb2)
        clear hb2 HB1 HK1 HE1 HF1
        clear HF2
        have HB3 : Hid (Below W.heap.size W (w2.alloc (.cells #[.int .u8 xl.toNat, .bool false, .int .u32 xq.toNat, .string ⟨xd.toArray⟩] 32))) := Lib.hid (HB2.out.alloc HB2.out.size _)
        have HK3 := Lib.hid (HK2.out.alloc (.cells #[.int .u8 xl.toNat, .bool false, .int .u32 xq.toNat, .string ⟨xd.toArray⟩] 32))
        have HE3 : Hid (Els 2 tlV (w2.alloc (.cells #[.int .u8 xl.toNat, .bool false, .int .u32 xq.toNat, .string ⟨xd.toArray⟩] 32)) A p.t) := Lib.hid (HE2.out.next ((Below.refl _ _).alloc (Nat.le_refl _) _))
        have HM3 := Lib.hid (Blk.new w2 32 #[.int .u8 xl.toNat, .bool false, .int .u32 xq.toNat, .string ⟨xd.toArray⟩])
        clear HB2 HK2 HE2
        have k0 := HK3.out.cell 0
        have k1 := HK3.out.cell 1
        have k2 := HK3.out.cell 2
        have k3 := HK3.out.cell 3
        have k4 := HK3.out.cell 4
        simp only [List.getElem?_toArray, List.getElem?_cons_succ, List.getElem?_cons_zero] at k0 k1 k2 k3 k4
        go_wp2_with fail
        refine (KR.out _ HE3.out).mono ?_
        rintro r w4 ⟨rfl, hb4⟩
        have HB4 : Hid (Below W.heap.size W w4) := Lib.hid (HB3.out.trans (hb4.mono HB3.out.size))
        have HK4 := Lib.hid (HK3.out.below hb4 HK3.out.lt)
        have HM4 := Lib.hid (HM3.out.below hb4 HM3.out.lt)
        have HE4 : Hid (Els 2 tlV w4 A p.t) := Lib.hid (HE3.out.next hb4)
        clear hb4 HB3 HK3 HM3 HE3
        clear k0 k1 k2 k3 k4
        have HB5 : Hid (Below W.heap.size W (w4.alloc (.cells #[.int .u8 xl.toNat, .bool false, .int .u32 xq.toNat, .string ⟨xd.toArray⟩] 24))) := Lib.hid (HB4.out.alloc HB4.out.size _)
        have HK5 := Lib.hid (HK4.out.alloc (.cells #[.int .u8 xl.toNat, .bool false, .int .u32 xq.toNat, .string ⟨xd.toArray⟩] 24))
        have HM5 := Lib.hid (HM4.out.alloc (.cells #[.int .u8 xl.toNat, .bool false, .int .u32 xq.toNat, .string ⟨xd.toArray⟩] 24))
        have HE5 : Hid (Els 2 tlV (w4.alloc (.cells #[.int .u8 xl.toNat, .bool false, .int .u32 xq.toNat, .string ⟨xd.toArray⟩] 24)) A p.t) := Lib.hid (HE4.out.next ((Below.refl _ _).alloc (Nat.le_refl _) _))
        have HR5 := Lib.hid (Blk.new w4 24 #[.int .u8 xl.toNat, .bool false, .int .u32 xq.toNat, .string ⟨xd.toArray⟩])
        clear HB4 HK4 HM4 HE4
        have k0 := HK5.out.cell 0
        have k1 := HK5.out.cell 1
        have k2 := HK5.out.cell 2
        have k3 := HK5.out.cell 3
        have k4 := HK5.out.cell 4
        simp only [List.getElem?_toArray, List.getElem?_cons_succ, List.getElem?_cons_zero] at k0 k1 k2 k3 k4
        go_wp2_with fail
        refine (KO.out _ HE5.out).mono ?_
        rintro r w6 ⟨B2, d2, rfl, hF, hz, hb6⟩
        have HB6 : Hid (Below W.heap.size W w6) := Lib.hid (HB5.out.trans (hb6.mono HB5.out.size))
        have HK6 := Lib.hid (HK5.out.below hb6 HK5.out.lt)
        have HM6 := Lib.hid (HM5.out.below hb6 HM5.out.lt)
        have HR6 := Lib.hid (HR5.out.below hb6 HR5.out.lt)
        have HE6 : Hid (Els 2 tlV w6 A p.t) := Lib.hid (HE5.out.next hb6)
        clear hb6 HB5 HK5 HM5 HR5 HE5
        have HZ := Lib.hid hz
        clear hz
        clear k0 k1 k2 k3 k4
        have HF6 : Hid (Els 2 tlV w6 B2 p.t) := Lib.hid hF
        clear hF
        go_wp2_with fail
        refine (KA.out _ _ _ HF6.out HZ.out).mono ?_
        rintro r w7 ⟨B, d, rfl, hF, hb7⟩
        have HB7 : Hid (Below W.heap.size W w7) := Lib.hid (HB6.out.trans (hb7.mono HB6.out.size))
        have HK7 := Lib.hid (HK6.out.below hb7 HK6.out.lt)
        have HM7 := Lib.hid (HM6.out.below hb7 HM6.out.lt)
        have HR7 := Lib.hid (HR6.out.below hb7 HR6.out.lt)
        have HE7 : Hid (Els 2 tlV w7 A p.t) := Lib.hid (HE6.out.next hb7)
        have HF7 : Hid (Els 2 tlV w7 B2 p.t) := Lib.hid (HF6.out.next hb7)
        clear hb7 HB6 HK6 HM6 HR6 HE6 HF6
        clear HF7
        have HG7 : Hid (Els 2 tlV w7 B p.t) := Lib.hid hF
        clear hF
        have HB8 : Hid (Below W.heap.size W (w7.alloc (.cells #[.int .u8 p.l.toNat, .int .u8 2, .int .u8 p.g.toNat, .string ⟨p.x.toArray⟩, .slice B p.t.length d] 28))) := Lib.hid (HB7.out.alloc HB7.out.size _)
        have HK8 := Lib.hid (HK7.out.alloc (.cells #[.int .u8 p.l.toNat, .int .u8 2, .int .u8 p.g.toNat, .string ⟨p.x.toArray⟩, .slice B p.t.length d] 28))
        have HM8 := Lib.hid (HM7.out.alloc (.cells #[.int .u8 p.l.toNat, .int .u8 2, .int .u8 p.g.toNat, .string ⟨p.x.toArray⟩, .slice B p.t.length d] 28))
        have HR8 := Lib.hid (HR7.out.alloc (.cells #[.int .u8 p.l.toNat, .int .u8 2, .int .u8 p.g.toNat, .string ⟨p.x.toArray⟩, .slice B p.t.length d] 28))
        have HE8 : Hid (Els 2 tlV (w7.alloc (.cells #[.int .u8 p.l.toNat, .int .u8 2, .int .u8 p.g.toNat, .string ⟨p.x.toArray⟩, .slice B p.t.length d] 28)) A p.t) := Lib.hid (HE7.out.next ((Below.refl _ _).alloc (Nat.le_refl _) _))
        have HG8 : Hid (Els 2 tlV (w7.alloc (.cells #[.int .u8 p.l.toNat, .int .u8 2, .int .u8 p.g.toNat, .string ⟨p.x.toArray⟩, .slice B p.t.length d] 28)) B p.t) := Lib.hid (HG7.out.next ((Below.refl _ _).alloc (Nat.le_refl _) _))
        have HQ8 := Lib.hid (Blk.new w7 28 #[.int .u8 p.l.toNat, .int .u8 2, .int .u8 p.g.toNat, .string ⟨p.x.toArray⟩, .slice B p.t.length d])
        clear HB7 HK7 HM7 HR7 HE7 HG7
        have a0 := HM8.out.cell 0
        have a1 := HM8.out.cell 1
        have a2 := HM8.out.cell 2
        have a3 := HM8.out.cell 3
        simp only [List.getElem?_toArray, List.getElem?_cons_succ, List.getElem?_cons_zero] at a0 a1 a2 a3
        have b0 := HR8.out.cell 0
        have b1 := HR8.out.cell 1
        have b2 := HR8.out.cell 2
        have b3 := HR8.out.cell 3
        simp only [List.getElem?_toArray, List.getElem?_cons_succ, List.getElem?_cons_zero] at b0 b1 b2 b3
        have HBd : Hid (Below W.heap.size W (w7.alloc (.cells #[.int .u8 p.l.toNat, .int .u8 2, .int .u8 p.g.toNat, .string ⟨p.x.toArray⟩, .slice B p.t.length d] 28)).drew) := Lib.hid HB8.out.drew
        clear HM8
        go_upto_region 6 with (fail)
        go_region_held3 (fun w_ => w_.cell? ⟨w2.heap.size, 0, none⟩ = some (.int .u8 xl.toNat) ∧ w_.cell? ⟨w2.heap.size, 1, none⟩ = some (.bool false) ∧ w_.cell? ⟨w2.heap.size, 2, none⟩ = some (.int .u32 xq.toNat) ∧ w_.cell? ⟨w2.heap.size, 3, none⟩ = some (.string ⟨xd.toArray⟩) ∧ w_.cell? ⟨w4.heap.size, 0, none⟩ = some (.int .u8 xl.toNat) ∧ w_.cell? ⟨w4.heap.size, 1, none⟩ = some (.bool false) ∧ w_.cell? ⟨w4.heap.size, 2, none⟩ = some (.int .u32 xq.toNat) ∧ w_.cell? ⟨w4.heap.size, 3, none⟩ = some (.string ⟨xd.toArray⟩) ∧ Hid (Below W.heap.size W w_)) (go_keep)
          (first
            | (go_at_call 8; refine (K14.out _).mono ?_; rintro r w_ ⟨rfl, hb_⟩; have HKz := Lib.hid (Blk.below (Blk.drew HK8.out) hb_ (Blk.lt (Blk.drew HK8.out))); have HRz := Lib.hid (Blk.below (Blk.drew HR8.out) hb_ (Blk.lt (Blk.drew HR8.out))); have HQz := Lib.hid (Blk.below (Blk.drew HQ8.out) hb_ (Blk.lt (Blk.drew HQ8.out))); have HEz : Hid (Els 2 tlV w_ A p.t) := Lib.hid (Els.next (w := (w7.alloc (.cells #[.int .u8 p.l.toNat, .int .u8 2, .int .u8 p.g.toNat, .string ⟨p.x.toArray⟩, .slice B p.t.length d] 28)).drew) HE8.out hb_); have HGz : Hid (Els 2 tlV w_ B p.t) := Lib.hid (Els.next (w := (w7.alloc (.cells #[.int .u8 p.l.toNat, .int .u8 2, .int .u8 p.g.toNat, .string ⟨p.x.toArray⟩, .slice B p.t.length d] 28)).drew) HG8.out hb_); have HBz : Hid (Below W.heap.size W w_) := Lib.hid (HB8.out.drew.trans (hb_.mono HB8.out.drew.size)); obtain ⟨k0, k1, k2, k3, k4, k5, k6, k7, k8⟩ := keep14t (W := W) (g3 := w2.heap.size) (g5 := w4.heap.size) (X := (⟨xl, false, xq, xd⟩ : Lo)) (by assumption) (by assumption) (by assumption) (by assumption) (by assumption) (by assumption) (by assumption) (by assumption) (by assumption) hb_; clear hb_)
            | fail "no")
        clear a0 a1 a2 a3 b0 b1 b2 b3 k0 k1 k2 k3 k4 k5 k6 k7 k8
        have b1 := HRz.out.cell 1
        simp only [List.getElem?_toArray, List.getElem?_cons_succ, List.getElem?_cons_zero] at b1
        have k0 := HKz.out.cell 0
        have k1 := HKz.out.cell 1
        have k2 := HKz.out.cell 2
        have k3 := HKz.out.cell 3
        have k4 := HKz.out.cell 4
        simp only [List.getElem?_toArray, List.getElem?_cons_succ, List.getElem?_cons_zero] at k0 k1 k2 k3 k4
        have e0 := HQz.out.cell 0
        have e1 := HQz.out.cell 1
        have e2 := HQz.out.cell 2
        have e3 := HQz.out.cell 3
        have e4 := HQz.out.cell 4
        simp only [List.getElem?_toArray, List.getElem?_cons_succ, List.getElem?_cons_zero] at e0 e1 e2 e3 e4
        go_wp2_with fail
        refine (KO.out _ HEz.out).mono ?_
        rintro r w9 ⟨C, c2, rfl, hF, hz, hb9⟩
        have HB9 : Hid (Below W.heap.size W w9) := Lib.hid (HBz.out.trans (hb9.mono HBz.out.size))
        have HK9 := Lib.hid (HKz.out.below hb9 HKz.out.lt)
        have HR9 := Lib.hid (HRz.out.below hb9 HRz.out.lt)
        have HQ9 := Lib.hid (HQz.out.below hb9 HQz.out.lt)
        have HE9 : Hid (Els 2 tlV w9 A p.t) := Lib.hid (HEz.out.next hb9)
        have HG9 : Hid (Els 2 tlV w9 B p.t) := Lib.hid (HGz.out.next hb9)
        clear hb9 HBz HKz HRz HQz HEz HGz
        clear hz
        clear k0 k1 k2 k3 k4
        clear e0 e1 e2 e3 e4
        have HC9 : Hid (Els 2 tlV w9 C p.t) := Lib.hid hF
        clear hF
        clear HE9
        clear HK9
        clear HR9
        have HB10 : Hid (Below W.heap.size W (w9.alloc (.cells #[.int .u8 p.l.toNat, .int .u8 2, .int .u8 p.g.toNat, .string ⟨p.x.toArray⟩, .slice C p.t.length c2] 28))) := Lib.hid (HB9.out.alloc HB9.out.size _)
        have HQ10 := Lib.hid (HQ9.out.alloc (.cells #[.int .u8 p.l.toNat, .int .u8 2, .int .u8 p.g.toNat, .string ⟨p.x.toArray⟩, .slice C p.t.length c2] 28))
        have HG10 : Hid (Els 2 tlV (w9.alloc (.cells #[.int .u8 p.l.toNat, .int .u8 2, .int .u8 p.g.toNat, .string ⟨p.x.toArray⟩, .slice C p.t.length c2] 28)) B p.t) := Lib.hid (HG9.out.next ((Below.refl _ _).alloc (Nat.le_refl _) _))
        have HC10 : Hid (Els 2 tlV (w9.alloc (.cells #[.int .u8 p.l.toNat, .int .u8 2, .int .u8 p.g.toNat, .string ⟨p.x.toArray⟩, .slice C p.t.length c2] 28)) C p.t) := Lib.hid (HC9.out.next ((Below.refl _ _).alloc (Nat.le_refl _) _))
        have HW10 := Lib.hid (Blk.new w9 28 #[.int .u8 p.l.toNat, .int .u8 2, .int .u8 p.g.toNat, .string ⟨p.x.toArray⟩, .slice C p.t.length c2])
        clear HB9 HQ9 HG9 HC9
        have e0 := HQ10.out.cell 0
        have e1 := HQ10.out.cell 1
        have e2 := HQ10.out.cell 2
        have e3 := HQ10.out.cell 3
        have e4 := HQ10.out.cell 4
        simp only [List.getElem?_toArray, List.getElem?_cons_succ, List.getElem?_cons_zero] at e0 e1 e2 e3 e4
        have f0 := HW10.out.cell 0
        have f1 := HW10.out.cell 1
        have f2 := HW10.out.cell 2
        have f3 := HW10.out.cell 3
        have f4 := HW10.out.cell 4
        simp only [List.getElem?_toArray, List.getElem?_cons_succ, List.getElem?_cons_zero] at f0 f1 f2 f3 f4
        go_wp2_with fail
        refine (same12_any B C d c2 ⟨p.l, 2, p.g, p.x, p.t⟩ _ HG10.out HC10.out (by have := HTL.out; show p.t.length ≤ 1000000; omega)).mono ?_
        rintro r w11 ⟨rfl, hb11⟩
        have HB11 : Hid (Below W.heap.size W w11) := Lib.hid (HB10.out.trans (hb11.mono HB10.out.size))
        have HQ11 := Lib.hid (HQ10.out.below hb11 HQ10.out.lt)
        have HW11 := Lib.hid (HW10.out.below hb11 HW10.out.lt)
        have HG11 : Hid (Els 2 tlV w11 B p.t) := Lib.hid (HG10.out.next hb11)
        have HC11 : Hid (Els 2 tlV w11 C p.t) := Lib.hid (HC10.out.next hb11)
        clear hb11 HB10 HQ10 HW10 HG10 HC10
        clear e0 e1 e2 e3 e4
        clear f0 f1 f2 f3 f4
        clear HQ11
        clear HW11
        clear HG11
        clear HC11
        go_wp2_with fail
        refine (wakes14 HP.out HT.out HAN.out _).mono ?_
        rintro r w12 ⟨rfl, hb12⟩
        have HB12 : Hid (Below W.heap.size W w12) := Lib.hid (HB11.out.trans (hb12.mono HB11.out.size))
        clear hb12 HB11
        go_wp2
        go_ret
        exact ⟨rfl, HB12.out⟩
end Go.Proofs.Ytjcfdkchnikbmaa
