/- Layer 13: CcmTakes's walk, over the package's contracts. -/
import Derived.Test.YtmhhhcphdnnopaaLaw13
import Derived.Test.YtmhhhcphdnnopaaRt13
import Derived.Deep.RegionHeld3
import Derived.Deep.DeepCutAuto
namespace Go.Proofs.Ytmhhhcphdnnopaa
open Go.RowKit
set_option linter.unusedVariables false
set_option linter.unusedSimpArgs false
set_option maxRecDepth 100000

theorem keep13t {W w w' : World} {g3 g5 : Nat} {X : Ck} (h0 : w.cell? ⟨g3, 0, none⟩ = some (.int .u8 X.l.toNat)) (h1 : w.cell? ⟨g3, 1, none⟩ = some (.bool X.r)) (h2 : w.cell? ⟨g3, 2, none⟩ = some (.int .u8 X.i.toNat)) (h3 : w.cell? ⟨g3, 3, none⟩ = some (.int .u32 X.q.toNat)) (h4 : w.cell? ⟨g3, 4, none⟩ = some (.int .u16 X.m.toNat)) (h5 : w.cell? ⟨g3, 5, none⟩ = some (.string ⟨X.a.toArray⟩)) (h6 : w.cell? ⟨g5, 0, none⟩ = some (.int .u8 X.l.toNat)) (h7 : w.cell? ⟨g5, 1, none⟩ = some (.bool X.r)) (h8 : w.cell? ⟨g5, 2, none⟩ = some (.int .u8 X.i.toNat)) (h9 : w.cell? ⟨g5, 3, none⟩ = some (.int .u32 X.q.toNat)) (h10 : w.cell? ⟨g5, 4, none⟩ = some (.int .u16 X.m.toNat)) (h11 : w.cell? ⟨g5, 5, none⟩ = some (.string ⟨X.a.toArray⟩))  (hB : Hid (Below W.heap.size W w)) (hb : Below w.heap.size w w') : w'.cell? ⟨g3, 0, none⟩ = some (.int .u8 X.l.toNat) ∧ w'.cell? ⟨g3, 1, none⟩ = some (.bool X.r) ∧ w'.cell? ⟨g3, 2, none⟩ = some (.int .u8 X.i.toNat) ∧ w'.cell? ⟨g3, 3, none⟩ = some (.int .u32 X.q.toNat) ∧ w'.cell? ⟨g3, 4, none⟩ = some (.int .u16 X.m.toNat) ∧ w'.cell? ⟨g3, 5, none⟩ = some (.string ⟨X.a.toArray⟩) ∧ w'.cell? ⟨g5, 0, none⟩ = some (.int .u8 X.l.toNat) ∧ w'.cell? ⟨g5, 1, none⟩ = some (.bool X.r) ∧ w'.cell? ⟨g5, 2, none⟩ = some (.int .u8 X.i.toNat) ∧ w'.cell? ⟨g5, 3, none⟩ = some (.int .u32 X.q.toNat) ∧ w'.cell? ⟨g5, 4, none⟩ = some (.int .u16 X.m.toNat) ∧ w'.cell? ⟨g5, 5, none⟩ = some (.string ⟨X.a.toArray⟩) ∧ Hid (Below W.heap.size W w') := by
  have hk : ∀ {g i : Nat} {v : Value}, w.cell? ⟨g, i, none⟩ = some v → w'.cell? ⟨g, i, none⟩ = some v := fun {g i v} h => (hb.cell (p := ⟨g, i, none⟩) (World.block_lt_of_cell? w _ h)).trans h
  exact ⟨hk h0, hk h1, hk h2, hk h3, hk h4, hk h5, hk h6, hk h7, hk h8, hk h9, hk h10, hk h11, Lib.hid (hB.out.trans (hb.mono hB.out.size))⟩
set_option maxHeartbeats 4000000 in
theorem ccmtakes_walk (HPC : CcPutC) (HTC : CcTakeC) (HNC : CcTicksC) (W : World) (A : Option Addr) (k : Nat) (p : Pd) (hE : Els 2 tlV W A p.t) :
    Calls Try.prog 4 #[PdV p A k] W fun e w' => e = .returned (.bool true) ∧ Below W.heap.size W w' := by
  have HP := Lib.hid HPC
  have HT := Lib.hid HTC
  have HN := Lib.hid HNC
  clear HPC HTC HNC
  have HB0 : Hid (Below W.heap.size W (W.alloc (.cells #[.int .u8 p.l.toNat, .int .u8 p.o.toNat, .int .u8 p.g.toNat, .string ⟨p.x.toArray⟩, .slice A p.t.length k] 37))) := Lib.hid ((Below.refl _ _).alloc (Nat.le_refl _) _)
  have HK0 : Hid (Blk (W.alloc (.cells #[.int .u8 p.l.toNat, .int .u8 p.o.toNat, .int .u8 p.g.toNat, .string ⟨p.x.toArray⟩, .slice A p.t.length k] 37)) W.heap.size 37 #[.int .u8 p.l.toNat, .int .u8 p.o.toNat, .int .u8 p.g.toNat, .string ⟨p.x.toArray⟩, .slice A p.t.length k]) := Lib.hid (Blk.new W _ _)
  have HEA : Hid (Els 2 tlV (W.alloc (.cells #[.int .u8 p.l.toNat, .int .u8 p.o.toNat, .int .u8 p.g.toNat, .string ⟨p.x.toArray⟩, .slice A p.t.length k] 37)) A p.t) := Lib.hid (hE.next HB0.out)
  clear hE
  by_cases hl : 400 < p.x.length
  · have p0 : (400 : Int) < (p.x.length : Int) := by omega
    clear hl
    go_enter Try.func4, Try.ntmps4
    go_wp2_with fail
    refine (wakes13 HP.out HT.out HN.out _).mono ?_
    rintro r w1 ⟨rfl, hb1⟩
    have HB1 : Hid (Below W.heap.size W w1) := Lib.hid (HB0.out.trans (hb1.mono HB0.out.size))
    clear hb1 HB0
    go_wp2
    go_ret
    exact ⟨rfl, HB1.out⟩
  · have p0 : ¬ (400 : Int) < (p.x.length : Int) := by omega
    by_cases ht : 20 < p.t.length
    · have p1 : (20 : Int) < (p.t.length : Int) := by omega
      clear hl ht
      go_enter Try.func4, Try.ntmps4
      go_wp2_with fail
      refine (wakes13 HP.out HT.out HN.out _).mono ?_
      rintro r w1 ⟨rfl, hb1⟩
      have HB1 : Hid (Below W.heap.size W w1) := Lib.hid (HB0.out.trans (hb1.mono HB0.out.size))
      clear hb1 HB0
      go_wp2
      go_ret
      exact ⟨rfl, HB1.out⟩
    · have p1 : ¬ (20 : Int) < (p.t.length : Int) := by omega
      have KO := Lib.hid (fun w h => of12_any A k p w h (by omega))
      have KT := Lib.hid (fun A k w h => HT.out A k p w h (by omega))
      have KR := Lib.hid (fun w => reftake13_any A k p w)
      obtain ⟨X, hX⟩ : ∃ X, ckX p = X := ⟨_, rfl⟩
      obtain ⟨E, hEr⟩ : ∃ E, ckF p = E := ⟨_, rfl⟩
      rw [hX, hEr] at KT KR
      have q := fun w => run_eqCk X X w
      simp only [decide_true] at q
      clear hl ht hX hEr
      go_enter Try.func4, Try.ntmps4
      go_wp2_with fail
      refine (KO.out _ HEA.out).mono ?_
      rintro r w1 ⟨B, d, rfl, hF, hz, hb1⟩
      have HB1 : Hid (Below W.heap.size W w1) := Lib.hid (HB0.out.trans (hb1.mono HB0.out.size))
      have HK1 := Lib.hid (HK0.out.below hb1 HK0.out.lt)
      have HE1 : Hid (Els 2 tlV w1 A p.t) := Lib.hid (HEA.out.next hb1)
      clear hb1 HB0 HK0 HEA
      clear hz
      have HF1 : Hid (Els 2 tlV w1 B p.t) := Lib.hid hF
      clear hF
      go_wp2_with fail
      refine (KT.out _ _ _ HF1.out).mono ?_
      rintro r w2 ⟨rfl, hb2⟩
      have HB2 : Hid (Below W.heap.size W w2) := Lib.hid (HB1.out.trans (hb2.mono HB1.out.size))
      have HK2 := Lib.hid (HK1.out.below hb2 HK1.out.lt)
      have HE2 : Hid (Els 2 tlV w2 A p.t) := Lib.hid (HE1.out.next hb2)
      have HF2 : Hid (Els 2 tlV w2 B p.t) := Lib.hid (HF1.out.next hb2)
      clear hb2 HB1 HK1 HE1 HF1
      clear HF2
      clear HE2
      have HB3 : Hid (Below W.heap.size W (w2.alloc (.cells #[.int .u8 X.l.toNat, .bool X.r, .int .u8 X.i.toNat, .int .u32 X.q.toNat, .int .u16 X.m.toNat, .string ⟨X.a.toArray⟩] 33))) := Lib.hid (HB2.out.alloc HB2.out.size _)
      have HK3 := Lib.hid (HK2.out.alloc (.cells #[.int .u8 X.l.toNat, .bool X.r, .int .u8 X.i.toNat, .int .u32 X.q.toNat, .int .u16 X.m.toNat, .string ⟨X.a.toArray⟩] 33))
      have HM3 := Lib.hid (Blk.new w2 33 #[.int .u8 X.l.toNat, .bool X.r, .int .u8 X.i.toNat, .int .u32 X.q.toNat, .int .u16 X.m.toNat, .string ⟨X.a.toArray⟩])
      clear HB2 HK2
      have k0 := HK3.out.cell 0
      have k1 := HK3.out.cell 1
      have k2 := HK3.out.cell 2
      have k3 := HK3.out.cell 3
      have k4 := HK3.out.cell 4
      simp only [List.getElem?_toArray, List.getElem?_cons_succ, List.getElem?_cons_zero] at k0 k1 k2 k3 k4
      go_wp2_with fail
      refine (KR.out _).mono ?_
      rintro r w4 ⟨rfl, hb4⟩
      have HB4 : Hid (Below W.heap.size W w4) := Lib.hid (HB3.out.trans (hb4.mono HB3.out.size))
      have HK4 := Lib.hid (HK3.out.below hb4 HK3.out.lt)
      have HM4 := Lib.hid (HM3.out.below hb4 HM3.out.lt)
      clear hb4 HB3 HK3 HM3
      clear k0 k1 k2 k3 k4
      clear HK4
      have HB5 : Hid (Below W.heap.size W (w4.alloc (.cells #[.int .u8 X.l.toNat, .bool X.r, .int .u8 X.i.toNat, .int .u32 X.q.toNat, .int .u16 X.m.toNat, .string ⟨X.a.toArray⟩] 25))) := Lib.hid (HB4.out.alloc HB4.out.size _)
      have HM5 := Lib.hid (HM4.out.alloc (.cells #[.int .u8 X.l.toNat, .bool X.r, .int .u8 X.i.toNat, .int .u32 X.q.toNat, .int .u16 X.m.toNat, .string ⟨X.a.toArray⟩] 25))
      have HR5 := Lib.hid (Blk.new w4 25 #[.int .u8 X.l.toNat, .bool X.r, .int .u8 X.i.toNat, .int .u32 X.q.toNat, .int .u16 X.m.toNat, .string ⟨X.a.toArray⟩])
      clear HB4 HM4
      have a0 := HM5.out.cell 0
      have a1 := HM5.out.cell 1
      have a2 := HM5.out.cell 2
      have a3 := HM5.out.cell 3
      have a4 := HM5.out.cell 4
      have a5 := HM5.out.cell 5
      simp only [List.getElem?_toArray, List.getElem?_cons_succ, List.getElem?_cons_zero] at a0 a1 a2 a3 a4 a5
      have b0 := HR5.out.cell 0
      have b1 := HR5.out.cell 1
      have b2 := HR5.out.cell 2
      have b3 := HR5.out.cell 3
      have b4 := HR5.out.cell 4
      have b5 := HR5.out.cell 5
      simp only [List.getElem?_toArray, List.getElem?_cons_succ, List.getElem?_cons_zero] at b0 b1 b2 b3 b4 b5
      have HBd : Hid (Below W.heap.size W (w4.alloc (.cells #[.int .u8 X.l.toNat, .bool X.r, .int .u8 X.i.toNat, .int .u32 X.q.toNat, .int .u16 X.m.toNat, .string ⟨X.a.toArray⟩] 25)).drew) := Lib.hid HB5.out.drew
      go_upto_region 5 with (fail)
      go_region_held3 (fun w_ => w_.cell? ⟨w2.heap.size, 0, none⟩ = some (.int .u8 X.l.toNat) ∧ w_.cell? ⟨w2.heap.size, 1, none⟩ = some (.bool X.r) ∧ w_.cell? ⟨w2.heap.size, 2, none⟩ = some (.int .u8 X.i.toNat) ∧ w_.cell? ⟨w2.heap.size, 3, none⟩ = some (.int .u32 X.q.toNat) ∧ w_.cell? ⟨w2.heap.size, 4, none⟩ = some (.int .u16 X.m.toNat) ∧ w_.cell? ⟨w2.heap.size, 5, none⟩ = some (.string ⟨X.a.toArray⟩) ∧ w_.cell? ⟨w4.heap.size, 0, none⟩ = some (.int .u8 X.l.toNat) ∧ w_.cell? ⟨w4.heap.size, 1, none⟩ = some (.bool X.r) ∧ w_.cell? ⟨w4.heap.size, 2, none⟩ = some (.int .u8 X.i.toNat) ∧ w_.cell? ⟨w4.heap.size, 3, none⟩ = some (.int .u32 X.q.toNat) ∧ w_.cell? ⟨w4.heap.size, 4, none⟩ = some (.int .u16 X.m.toNat) ∧ w_.cell? ⟨w4.heap.size, 5, none⟩ = some (.string ⟨X.a.toArray⟩) ∧ Hid (Below W.heap.size W w_)) (go_keep)
        (first
          | (go_at_call 8; refine (of13_any X _).mono ?_; rintro r w_ ⟨rfl, hb_⟩; obtain ⟨k0, k1, k2, k3, k4, k5, k6, k7, k8, k9, k10, k11, k12⟩ := keep13t (W := W) (g3 := w2.heap.size) (g5 := w4.heap.size) (X := X) (by assumption) (by assumption) (by assumption) (by assumption) (by assumption) (by assumption) (by assumption) (by assumption) (by assumption) (by assumption) (by assumption) (by assumption) (by assumption) hb_; clear hb_)
          | (go_at_call 6; refine (wakes13 HP.out HT.out HN.out _).mono ?_; rintro r w_ ⟨rfl, hb_⟩; obtain ⟨k0, k1, k2, k3, k4, k5, k6, k7, k8, k9, k10, k11, k12⟩ := keep13t (W := W) (g3 := w2.heap.size) (g5 := w4.heap.size) (X := X) (by assumption) (by assumption) (by assumption) (by assumption) (by assumption) (by assumption) (by assumption) (by assumption) (by assumption) (by assumption) (by assumption) (by assumption) (by assumption) hb_; clear hb_)
          | fail "no")
      have HBQ : Hid (Below W.heap.size W w_) := by assumption
      go_wp2
      go_ret
      exact ⟨rfl, HBQ.out⟩
end Go.Proofs.Ytmhhhcphdnnopaa
