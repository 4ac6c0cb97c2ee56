/- VectorTells: which of two vectors is less, and one from farther away, is what the document says: for any two vectors and any cost, without a condition. -/
import Derived.Test.YtbcdkpjfenedmaaWakes
import Derived.Test.YtbcdkpjfenedmaaRef
import Derived.Test.YtbcdkpjfenedmaaVecOpen
import Derived.OpenShut
import Derived.Deep.RegionHeld3
import Derived.ShutString
import Derived.ChangeOld
namespace Go.Proofs.Ytbcdkpjfenedmaa.vectorTells
open Go.ChangeShapes Go.WideShapes Go.ChangeAt Go.RowKit
open Go.ChangeMaps (open_string shut_string)
set_option linter.unusedVariables false
set_option linter.unusedSimpArgs false


/-- a block that holds a vector as the document has it -/
def VR (w : World) (g : Nat) (x : Ve) : Prop := Blk w g 25 #[.int .u64 x.r, .int .u32 x.c, .int .u64 x.b, .int .u8 x.p]
theorem VR.cells {w : World} {g : Nat} {x : Ve} (h : VR w g x) : VC w g x := ⟨Blk.cell h 0, Blk.cell h 1, Blk.cell h 2, Blk.cell h 3⟩
theorem VR.next {w w' : World} {g : Nat} {x : Ve} (h : VR w g x) (hb : Below w.heap.size w w') : VR w' g x := Blk.below h hb (Blk.lt h)
theorem VR.alloc {w : World} {g : Nat} {x : Ve} (h : VR w g x) (o : Obj) : VR (w.alloc o) g x := Blk.alloc h o
theorem keepT {W w w' : World} (g0 g1 g2 g3 : Nat) (x0 : Ve) (x1 : Ve) (x2 : Ve) (x3 : Ve) (h0 : w.cell? ⟨g0, 0, none⟩ = some (.int .u64 x0.r)) (h1 : w.cell? ⟨g0, 1, none⟩ = some (.int .u32 x0.c)) (h2 : w.cell? ⟨g0, 2, none⟩ = some (.int .u64 x0.b)) (h3 : w.cell? ⟨g0, 3, none⟩ = some (.int .u8 x0.p)) (h4 : w.cell? ⟨g1, 0, none⟩ = some (.int .u64 x1.r)) (h5 : w.cell? ⟨g1, 1, none⟩ = some (.int .u32 x1.c)) (h6 : w.cell? ⟨g1, 2, none⟩ = some (.int .u64 x1.b)) (h7 : w.cell? ⟨g1, 3, none⟩ = some (.int .u8 x1.p)) (h8 : w.cell? ⟨g2, 0, none⟩ = some (.int .u64 x2.r)) (h9 : w.cell? ⟨g2, 1, none⟩ = some (.int .u32 x2.c)) (h10 : w.cell? ⟨g2, 2, none⟩ = some (.int .u64 x2.b)) (h11 : w.cell? ⟨g2, 3, none⟩ = some (.int .u8 x2.p)) (h12 : w.cell? ⟨g3, 0, none⟩ = some (.int .u64 x3.r)) (h13 : w.cell? ⟨g3, 1, none⟩ = some (.int .u32 x3.c)) (h14 : w.cell? ⟨g3, 2, none⟩ = some (.int .u64 x3.b)) (h15 : w.cell? ⟨g3, 3, none⟩ = some (.int .u8 x3.p)) (hB : Hid (Below W.heap.size W w)) (hb : Below w.heap.size w w') : w'.cell? ⟨g0, 0, none⟩ = some (.int .u64 x0.r) ∧ w'.cell? ⟨g0, 1, none⟩ = some (.int .u32 x0.c) ∧ w'.cell? ⟨g0, 2, none⟩ = some (.int .u64 x0.b) ∧ w'.cell? ⟨g0, 3, none⟩ = some (.int .u8 x0.p) ∧ w'.cell? ⟨g1, 0, none⟩ = some (.int .u64 x1.r) ∧ w'.cell? ⟨g1, 1, none⟩ = some (.int .u32 x1.c) ∧ w'.cell? ⟨g1, 2, none⟩ = some (.int .u64 x1.b) ∧ w'.cell? ⟨g1, 3, none⟩ = some (.int .u8 x1.p) ∧ w'.cell? ⟨g2, 0, none⟩ = some (.int .u64 x2.r) ∧ w'.cell? ⟨g2, 1, none⟩ = some (.int .u32 x2.c) ∧ w'.cell? ⟨g2, 2, none⟩ = some (.int .u64 x2.b) ∧ w'.cell? ⟨g2, 3, none⟩ = some (.int .u8 x2.p) ∧ w'.cell? ⟨g3, 0, none⟩ = some (.int .u64 x3.r) ∧ w'.cell? ⟨g3, 1, none⟩ = some (.int .u32 x3.c) ∧ w'.cell? ⟨g3, 2, none⟩ = some (.int .u64 x3.b) ∧ w'.cell? ⟨g3, 3, none⟩ = some (.int .u8 x3.p) ∧ Hid (Below W.heap.size W w') := by
  have hk : ∀ {g i : Nat} {v : Value}, w.cell? ⟨g, i, none⟩ = some v → w'.cell? ⟨g, i, none⟩ = some v := fun {g i v} h => (hb.cell (p := ⟨g, i, none⟩) (World.block_lt_of_cell? w _ h)).trans h
  exact ⟨hk h0, hk h1, hk h2, hk h3, hk h4, hk h5, hk h6, hk h7, hk h8, hk h9, hk h10, hk h11, hk h12, hk h13, hk h14, hk h15, Lib.hid (hB.out.trans (hb.mono hB.out.size))⟩

set_option maxRecDepth 100000 in
set_option maxHeartbeats 4000000 in
theorem tells (W : World) (x y : Ve) (n : Int) (h0 : 0 ≤ x.c) (h1 : x.c ≤ 4294967295) (h2 : 0 ≤ n) (h3 : n ≤ 4294967295) (q1 q2 : Bool) (e1 : lessV x y = q1) (e2 : lessV y x = q2) (hq : (q1 && q2) = false) :
    Calls Try.prog 3 #[VV x, VV y, .int .u32 n] W fun e w' => e = .returned (.bool true) ∧ Below W.heap.size W w' := by
  have kL := fun W => refless_any W x y
  have kM := fun W => refless_any W y x
  have kF := fun W => far_any W x n h0 h1 h2 h3
  have kR := fun W => reffar_any W x n h0 h1 h2 h3
  have kC0 := fun W => (compare_any W x y).mono (fun _ _ h => (⟨h.1, h.2.below⟩ : _ ∧ Below W.heap.size W _))
  rw [cmpV_less, e1, e2] at kC0
  rw [e1] at kL
  rw [e2] at kM
  obtain ⟨f, hf⟩ : ∃ f, farV x n = f := ⟨_, rfl⟩
  obtain ⟨b, hb⟩ : ∃ b, farB x n = b := ⟨_, rfl⟩
  rw [hf, hb] at kF kR
  have heq : ∀ w, (Op.equalIn 10000 27 (VV f) (VV f)).run Try.prog w = .ok true w := fun w => by rw [run_eqV]; simp
  clear e1 e2 hf hb h0 h1 h2 h3
  obtain ⟨z, hz⟩ : ∃ z : Int, z = (if q1 = true then -1 else if q2 = true then 1 else 0) := ⟨_, rfl⟩
  have kC : ∀ W, Calls Try.prog 11 #[VV x, VV y] W fun e w' => e = .returned (.int .i64 z) ∧ Below W.heap.size W w' := by
    intro W
    rw [hz]
    exact kC0 W
  clear kC0
  go_enter Try.func3, Try.ntmps3
  go_wp2_with fail
  refine (kL _).mono ?_
  rintro e w1 ⟨rfl, hb1⟩
  have HX1 : Hid (VR w1 W.heap.size x) := Lib.hid ((VR.alloc (Blk.new W 25 #[.int .u64 x.r, .int .u32 x.c, .int .u64 x.b, .int .u8 x.p]) _).next hb1)
  have HY1 : Hid (VR w1 (W.heap.size + 1) y) := Lib.hid (VR.next (by have := Blk.new (W.alloc (.cells #[.int .u64 x.r, .int .u32 x.c, .int .u64 x.b, .int .u8 x.p] 25)) 25 #[.int .u64 y.r, .int .u32 y.c, .int .u64 y.b, .int .u8 y.p]; simpa [VR] using this) hb1)
  have HB1 : Hid (Below W.heap.size W w1) := Lib.hid ((((Below.refl _ W).alloc (Nat.le_refl _) _).alloc (by simp) _).trans (hb1.mono (by simp; omega)))
  clear hb1
  obtain ⟨x0, x1, x2, x3⟩ := HX1.out.cells
  obtain ⟨y0, y1, y2, y3⟩ := HY1.out.cells
  cases q1
  · cases q2
    · subst hz
      simp only [Bool.false_eq_true, if_false] at kC
      go_wp2_with fail
      refine (kM _).mono ?_
      rintro e w2 ⟨rfl, hb2⟩
      have HX2 : Hid (VR w2 W.heap.size x) := Lib.hid (HX1.out.next hb2)
      have HY2 : Hid (VR w2 (W.heap.size + 1) y) := Lib.hid (HY1.out.next hb2)
      have HB2 : Hid (Below W.heap.size W w2) := Lib.hid (HB1.out.trans (hb2.mono HB1.out.size))
      clear hb2 x0 x1 x2 x3 y0 y1 y2 y3 HX1 HY1 HB1
      obtain ⟨x0, x1, x2, x3⟩ := HX2.out.cells
      go_wp2_with fail
      refine (of_any _ x).mono ?_
      rintro e w3 ⟨rfl, hb3⟩
      have HX3 : Hid (VR w3 W.heap.size x) := Lib.hid (HX2.out.next hb3)
      have HY3 : Hid (VR w3 (W.heap.size + 1) y) := Lib.hid (HY2.out.next hb3)
      have HB3 : Hid (Below W.heap.size W w3) := Lib.hid (HB2.out.trans (hb3.mono HB2.out.size))
      clear hb3 x0 x1 x2 x3 HX2 HY2 HB2
      go_wp2_with fail
      refine (kF _).mono ?_
      rintro e w4 ⟨rfl, hb4⟩
      have HX4 : Hid (VR w4 W.heap.size x) := Lib.hid (HX3.out.next hb4)
      have HY4 : Hid (VR w4 (W.heap.size + 1) y) := Lib.hid (HY3.out.next hb4)
      have HB4 : Hid (Below W.heap.size W w4) := Lib.hid (HB3.out.trans (hb4.mono HB3.out.size))
      clear hb4 HX3 HY3 HB3
      obtain ⟨x0, x1, x2, x3⟩ := (HX4.out.alloc (.cells #[.int .u64 f.r, .int .u32 f.c, .int .u64 f.b, .int .u8 f.p] 27)).cells
      have hl4 := Blk.lt HX4.out
      go_wp2_with fail
      refine (kR _).mono ?_
      rintro e w5 ⟨rfl, hb5⟩
      have HX5 : Hid (VR w5 W.heap.size x) := Lib.hid ((HX4.out.alloc _).next hb5)
      have HY5 : Hid (VR w5 (W.heap.size + 1) y) := Lib.hid ((HY4.out.alloc _).next hb5)
      have HF5 : Hid (VA w5 w4.heap.size f) := Lib.hid ((VA.new w4 f).next hb5)
      have HB5 : Hid (Below W.heap.size W w5) := Lib.hid ((HB4.out.alloc HB4.out.size _).trans (hb5.mono (by have := HB4.out.size; simp; omega)))
      clear hb5 HX4 HY4 HB4 x0 x1 x2 x3 hl4
      go_wp2_with fail
      obtain ⟨g8, hg8⟩ : ∃ g, w4.heap.size = g := ⟨_, rfl⟩
      obtain ⟨g10, hg10⟩ : ∃ g, w5.heap.size = g := ⟨_, rfl⟩
      obtain ⟨V, hV⟩ : ∃ V, w5.alloc (.cells #[.int .u64 f.r, .int .u32 f.c, .int .u64 f.b, .int .u8 f.p] 25) = V := ⟨_, rfl⟩
      have HX : VR V W.heap.size x := by rw [← hV]; exact HX5.out.alloc _
      have HY : VR V (W.heap.size + 1) y := by rw [← hV]; exact HY5.out.alloc _
      have HF : VA V g8 f := by rw [← hV, ← hg8]; exact HF5.out.alloc _
      have HR : VR V g10 f := by rw [← hV, ← hg10]; exact Blk.new w5 _ _
      have HB : Below W.heap.size W V := by rw [← hV]; exact HB5.out.alloc HB5.out.size _
      rw [hV, hg8, hg10]
      clear hV hg8 hg10 HX5 HY5 HF5 HB5
      obtain ⟨x0, x1, x2, x3⟩ := HX.cells
      obtain ⟨y0, y1, y2, y3⟩ := HY.cells
      obtain ⟨f0, f1, f2, f3⟩ := HF.cells
      obtain ⟨r0, r1, r2, r3⟩ := HR.cells
      have HBd : Hid (Below W.heap.size W V.drew) := Lib.hid HB.drew
      clear HX HY HF HR HB
      go_region_held3 (fun w_ => w_.cell? ⟨W.heap.size, 0, none⟩ = some (.int .u64 x.r) ∧ w_.cell? ⟨W.heap.size, 1, none⟩ = some (.int .u32 x.c) ∧ w_.cell? ⟨W.heap.size, 2, none⟩ = some (.int .u64 x.b) ∧ w_.cell? ⟨W.heap.size, 3, none⟩ = some (.int .u8 x.p) ∧ w_.cell? ⟨W.heap.size + 1, 0, none⟩ = some (.int .u64 y.r) ∧ w_.cell? ⟨W.heap.size + 1, 1, none⟩ = some (.int .u32 y.c) ∧ w_.cell? ⟨W.heap.size + 1, 2, none⟩ = some (.int .u64 y.b) ∧ w_.cell? ⟨W.heap.size + 1, 3, none⟩ = some (.int .u8 y.p) ∧ w_.cell? ⟨g8, 0, none⟩ = some (.int .u64 f.r) ∧ w_.cell? ⟨g8, 1, none⟩ = some (.int .u32 f.c) ∧ w_.cell? ⟨g8, 2, none⟩ = some (.int .u64 f.b) ∧ w_.cell? ⟨g8, 3, none⟩ = some (.int .u8 f.p) ∧ w_.cell? ⟨g10, 0, none⟩ = some (.int .u64 f.r) ∧ w_.cell? ⟨g10, 1, none⟩ = some (.int .u32 f.c) ∧ w_.cell? ⟨g10, 2, none⟩ = some (.int .u64 f.b) ∧ w_.cell? ⟨g10, 3, none⟩ = some (.int .u8 f.p) ∧ Hid (Below W.heap.size W w_)) (go_keep)
        (first
          | (go_at_call 8; (with_reducible refine (of_any _ x).mono ?_); rintro r w_ ⟨rfl, hb_⟩; obtain ⟨k0, k1, k2, k3, k4, k5, k6, k7, k8, k9, k10, k11, k12, k13, k14, k15, k16⟩ := keepT (W.heap.size) (W.heap.size + 1) (g8) (g10)  (x) (y) (f) (f) (by assumption) (by assumption) (by assumption) (by assumption) (by assumption) (by assumption) (by assumption) (by assumption) (by assumption) (by assumption) (by assumption) (by assumption) (by assumption) (by assumption) (by assumption) (by assumption) (by assumption) hb_; clear hb_)
          | (go_at_call 8; (with_reducible refine (of_any _ y).mono ?_); rintro r w_ ⟨rfl, hb_⟩; obtain ⟨k0, k1, k2, k3, k4, k5, k6, k7, k8, k9, k10, k11, k12, k13, k14, k15, k16⟩ := keepT (W.heap.size) (W.heap.size + 1) (g8) (g10)  (x) (y) (f) (f) (by assumption) (by assumption) (by assumption) (by assumption) (by assumption) (by assumption) (by assumption) (by assumption) (by assumption) (by assumption) (by assumption) (by assumption) (by assumption) (by assumption) (by assumption) (by assumption) (by assumption) hb_; clear hb_)
          | (go_at_call 8; (with_reducible refine (of_any _ f).mono ?_); rintro r w_ ⟨rfl, hb_⟩; obtain ⟨k0, k1, k2, k3, k4, k5, k6, k7, k8, k9, k10, k11, k12, k13, k14, k15, k16⟩ := keepT (W.heap.size) (W.heap.size + 1) (g8) (g10)  (x) (y) (f) (f) (by assumption) (by assumption) (by assumption) (by assumption) (by assumption) (by assumption) (by assumption) (by assumption) (by assumption) (by assumption) (by assumption) (by assumption) (by assumption) (by assumption) (by assumption) (by assumption) (by assumption) hb_; clear hb_)
          | (go_at_call 11; (with_reducible refine (kC _).mono ?_); rintro r w_ ⟨rfl, hb_⟩; obtain ⟨k0, k1, k2, k3, k4, k5, k6, k7, k8, k9, k10, k11, k12, k13, k14, k15, k16⟩ := keepT (W.heap.size) (W.heap.size + 1) (g8) (g10)  (x) (y) (f) (f) (by assumption) (by assumption) (by assumption) (by assumption) (by assumption) (by assumption) (by assumption) (by assumption) (by assumption) (by assumption) (by assumption) (by assumption) (by assumption) (by assumption) (by assumption) (by assumption) (by assumption) hb_; clear hb_)
          | (go_at_call 12; (with_reducible refine (wakes_any _).mono ?_); rintro r w_ ⟨rfl, hb_⟩; obtain ⟨k0, k1, k2, k3, k4, k5, k6, k7, k8, k9, k10, k11, k12, k13, k14, k15, k16⟩ := keepT (W.heap.size) (W.heap.size + 1) (g8) (g10)  (x) (y) (f) (f) (by assumption) (by assumption) (by assumption) (by assumption) (by assumption) (by assumption) (by assumption) (by assumption) (by assumption) (by assumption) (by assumption) (by assumption) (by assumption) (by assumption) (by assumption) (by assumption) (by assumption) hb_; clear hb_))
      all_goals (
        go_wp2
        go_ret
        exact ⟨rfl, Hid.out (by assumption)⟩)

    · subst hz
      simp only [Bool.false_eq_true, if_false, if_true] at kC
      go_wp2_with fail
      refine (kM _).mono ?_
      rintro e w2 ⟨rfl, hb2⟩
      have HX2 : Hid (VR w2 W.heap.size x) := Lib.hid (HX1.out.next hb2)
      have HY2 : Hid (VR w2 (W.heap.size + 1) y) := Lib.hid (HY1.out.next hb2)
      have HB2 : Hid (Below W.heap.size W w2) := Lib.hid (HB1.out.trans (hb2.mono HB1.out.size))
      clear hb2 x0 x1 x2 x3 y0 y1 y2 y3 HX1 HY1 HB1
      obtain ⟨x0, x1, x2, x3⟩ := HX2.out.cells
      go_wp2_with fail
      refine (of_any _ x).mono ?_
      rintro e w3 ⟨rfl, hb3⟩
      have HX3 : Hid (VR w3 W.heap.size x) := Lib.hid (HX2.out.next hb3)
      have HY3 : Hid (VR w3 (W.heap.size + 1) y) := Lib.hid (HY2.out.next hb3)
      have HB3 : Hid (Below W.heap.size W w3) := Lib.hid (HB2.out.trans (hb3.mono HB2.out.size))
      clear hb3 x0 x1 x2 x3 HX2 HY2 HB2
      go_wp2_with fail
      refine (kF _).mono ?_
      rintro e w4 ⟨rfl, hb4⟩
      have HX4 : Hid (VR w4 W.heap.size x) := Lib.hid (HX3.out.next hb4)
      have HY4 : Hid (VR w4 (W.heap.size + 1) y) := Lib.hid (HY3.out.next hb4)
      have HB4 : Hid (Below W.heap.size W w4) := Lib.hid (HB3.out.trans (hb4.mono HB3.out.size))
      clear hb4 HX3 HY3 HB3
      obtain ⟨x0, x1, x2, x3⟩ := (HX4.out.alloc (.cells #[.int .u64 f.r, .int .u32 f.c, .int .u64 f.b, .int .u8 f.p] 27)).cells
      have hl4 := Blk.lt HX4.out
      go_wp2_with fail
      refine (kR _).mono ?_
      rintro e w5 ⟨rfl, hb5⟩
      have HX5 : Hid (VR w5 W.heap.size x) := Lib.hid ((HX4.out.alloc _).next hb5)
      have HY5 : Hid (VR w5 (W.heap.size + 1) y) := Lib.hid ((HY4.out.alloc _).next hb5)
      have HF5 : Hid (VA w5 w4.heap.size f) := Lib.hid ((VA.new w4 f).next hb5)
      have HB5 : Hid (Below W.heap.size W w5) := Lib.hid ((HB4.out.alloc HB4.out.size _).trans (hb5.mono (by have := HB4.out.size; simp; omega)))
      clear hb5 HX4 HY4 HB4 x0 x1 x2 x3 hl4
      go_wp2_with fail
      obtain ⟨g8, hg8⟩ : ∃ g, w4.heap.size = g := ⟨_, rfl⟩
      obtain ⟨g10, hg10⟩ : ∃ g, w5.heap.size = g := ⟨_, rfl⟩
      obtain ⟨V, hV⟩ : ∃ V, w5.alloc (.cells #[.int .u64 f.r, .int .u32 f.c, .int .u64 f.b, .int .u8 f.p] 25) = V := ⟨_, rfl⟩
      have HX : VR V W.heap.size x := by rw [← hV]; exact HX5.out.alloc _
      have HY : VR V (W.heap.size + 1) y := by rw [← hV]; exact HY5.out.alloc _
      have HF : VA V g8 f := by rw [← hV, ← hg8]; exact HF5.out.alloc _
      have HR : VR V g10 f := by rw [← hV, ← hg10]; exact Blk.new w5 _ _
      have HB : Below W.heap.size W V := by rw [← hV]; exact HB5.out.alloc HB5.out.size _
      rw [hV, hg8, hg10]
      clear hV hg8 hg10 HX5 HY5 HF5 HB5
      obtain ⟨x0, x1, x2, x3⟩ := HX.cells
      obtain ⟨y0, y1, y2, y3⟩ := HY.cells
      obtain ⟨f0, f1, f2, f3⟩ := HF.cells
      obtain ⟨r0, r1, r2, r3⟩ := HR.cells
      have HBd : Hid (Below W.heap.size W V.drew) := Lib.hid HB.drew
      clear HX HY HF HR HB
      go_region_held3 (fun w_ => w_.cell? ⟨W.heap.size, 0, none⟩ = some (.int .u64 x.r) ∧ w_.cell? ⟨W.heap.size, 1, none⟩ = some (.int .u32 x.c) ∧ w_.cell? ⟨W.heap.size, 2, none⟩ = some (.int .u64 x.b) ∧ w_.cell? ⟨W.heap.size, 3, none⟩ = some (.int .u8 x.p) ∧ w_.cell? ⟨W.heap.size + 1, 0, none⟩ = some (.int .u64 y.r) ∧ w_.cell? ⟨W.heap.size + 1, 1, none⟩ = some (.int .u32 y.c) ∧ w_.cell? ⟨W.heap.size + 1, 2, none⟩ = some (.int .u64 y.b) ∧ w_.cell? ⟨W.heap.size + 1, 3, none⟩ = some (.int .u8 y.p) ∧ w_.cell? ⟨g8, 0, none⟩ = some (.int .u64 f.r) ∧ w_.cell? ⟨g8, 1, none⟩ = some (.int .u32 f.c) ∧ w_.cell? ⟨g8, 2, none⟩ = some (.int .u64 f.b) ∧ w_.cell? ⟨g8, 3, none⟩ = some (.int .u8 f.p) ∧ w_.cell? ⟨g10, 0, none⟩ = some (.int .u64 f.r) ∧ w_.cell? ⟨g10, 1, none⟩ = some (.int .u32 f.c) ∧ w_.cell? ⟨g10, 2, none⟩ = some (.int .u64 f.b) ∧ w_.cell? ⟨g10, 3, none⟩ = some (.int .u8 f.p) ∧ Hid (Below W.heap.size W w_)) (go_keep)
        (first
          | (go_at_call 8; (with_reducible refine (of_any _ x).mono ?_); rintro r w_ ⟨rfl, hb_⟩; obtain ⟨k0, k1, k2, k3, k4, k5, k6, k7, k8, k9, k10, k11, k12, k13, k14, k15, k16⟩ := keepT (W.heap.size) (W.heap.size + 1) (g8) (g10)  (x) (y) (f) (f) (by assumption) (by assumption) (by assumption) (by assumption) (by assumption) (by assumption) (by assumption) (by assumption) (by assumption) (by assumption) (by assumption) (by assumption) (by assumption) (by assumption) (by assumption) (by assumption) (by assumption) hb_; clear hb_)
          | (go_at_call 8; (with_reducible refine (of_any _ y).mono ?_); rintro r w_ ⟨rfl, hb_⟩; obtain ⟨k0, k1, k2, k3, k4, k5, k6, k7, k8, k9, k10, k11, k12, k13, k14, k15, k16⟩ := keepT (W.heap.size) (W.heap.size + 1) (g8) (g10)  (x) (y) (f) (f) (by assumption) (by assumption) (by assumption) (by assumption) (by assumption) (by assumption) (by assumption) (by assumption) (by assumption) (by assumption) (by assumption) (by assumption) (by assumption) (by assumption) (by assumption) (by assumption) (by assumption) hb_; clear hb_)
          | (go_at_call 8; (with_reducible refine (of_any _ f).mono ?_); rintro r w_ ⟨rfl, hb_⟩; obtain ⟨k0, k1, k2, k3, k4, k5, k6, k7, k8, k9, k10, k11, k12, k13, k14, k15, k16⟩ := keepT (W.heap.size) (W.heap.size + 1) (g8) (g10)  (x) (y) (f) (f) (by assumption) (by assumption) (by assumption) (by assumption) (by assumption) (by assumption) (by assumption) (by assumption) (by assumption) (by assumption) (by assumption) (by assumption) (by assumption) (by assumption) (by assumption) (by assumption) (by assumption) hb_; clear hb_)
          | (go_at_call 11; (with_reducible refine (kC _).mono ?_); rintro r w_ ⟨rfl, hb_⟩; obtain ⟨k0, k1, k2, k3, k4, k5, k6, k7, k8, k9, k10, k11, k12, k13, k14, k15, k16⟩ := keepT (W.heap.size) (W.heap.size + 1) (g8) (g10)  (x) (y) (f) (f) (by assumption) (by assumption) (by assumption) (by assumption) (by assumption) (by assumption) (by assumption) (by assumption) (by assumption) (by assumption) (by assumption) (by assumption) (by assumption) (by assumption) (by assumption) (by assumption) (by assumption) hb_; clear hb_)
          | (go_at_call 12; (with_reducible refine (wakes_any _).mono ?_); rintro r w_ ⟨rfl, hb_⟩; obtain ⟨k0, k1, k2, k3, k4, k5, k6, k7, k8, k9, k10, k11, k12, k13, k14, k15, k16⟩ := keepT (W.heap.size) (W.heap.size + 1) (g8) (g10)  (x) (y) (f) (f) (by assumption) (by assumption) (by assumption) (by assumption) (by assumption) (by assumption) (by assumption) (by assumption) (by assumption) (by assumption) (by assumption) (by assumption) (by assumption) (by assumption) (by assumption) (by assumption) (by assumption) hb_; clear hb_))
      all_goals (
        go_wp2
        go_ret
        exact ⟨rfl, Hid.out (by assumption)⟩)

  · cases q2
    · subst hz
      simp only [if_true] at kC
      go_wp2_with fail
      refine (kM _).mono ?_
      rintro e w2 ⟨rfl, hb2⟩
      have HX2 : Hid (VR w2 W.heap.size x) := Lib.hid (HX1.out.next hb2)
      have HY2 : Hid (VR w2 (W.heap.size + 1) y) := Lib.hid (HY1.out.next hb2)
      have HB2 : Hid (Below W.heap.size W w2) := Lib.hid (HB1.out.trans (hb2.mono HB1.out.size))
      clear hb2 x0 x1 x2 x3 y0 y1 y2 y3 HX1 HY1 HB1
      obtain ⟨x0, x1, x2, x3⟩ := HX2.out.cells
      go_wp2_with fail
      refine (of_any _ x).mono ?_
      rintro e w3 ⟨rfl, hb3⟩
      have HX3 : Hid (VR w3 W.heap.size x) := Lib.hid (HX2.out.next hb3)
      have HY3 : Hid (VR w3 (W.heap.size + 1) y) := Lib.hid (HY2.out.next hb3)
      have HB3 : Hid (Below W.heap.size W w3) := Lib.hid (HB2.out.trans (hb3.mono HB2.out.size))
      clear hb3 x0 x1 x2 x3 HX2 HY2 HB2
      go_wp2_with fail
      refine (kF _).mono ?_
      rintro e w4 ⟨rfl, hb4⟩
      have HX4 : Hid (VR w4 W.heap.size x) := Lib.hid (HX3.out.next hb4)
      have HY4 : Hid (VR w4 (W.heap.size + 1) y) := Lib.hid (HY3.out.next hb4)
      have HB4 : Hid (Below W.heap.size W w4) := Lib.hid (HB3.out.trans (hb4.mono HB3.out.size))
      clear hb4 HX3 HY3 HB3
      obtain ⟨x0, x1, x2, x3⟩ := (HX4.out.alloc (.cells #[.int .u64 f.r, .int .u32 f.c, .int .u64 f.b, .int .u8 f.p] 27)).cells
      have hl4 := Blk.lt HX4.out
      go_wp2_with fail
      refine (kR _).mono ?_
      rintro e w5 ⟨rfl, hb5⟩
      have HX5 : Hid (VR w5 W.heap.size x) := Lib.hid ((HX4.out.alloc _).next hb5)
      have HY5 : Hid (VR w5 (W.heap.size + 1) y) := Lib.hid ((HY4.out.alloc _).next hb5)
      have HF5 : Hid (VA w5 w4.heap.size f) := Lib.hid ((VA.new w4 f).next hb5)
      have HB5 : Hid (Below W.heap.size W w5) := Lib.hid ((HB4.out.alloc HB4.out.size _).trans (hb5.mono (by have := HB4.out.size; simp; omega)))
      clear hb5 HX4 HY4 HB4 x0 x1 x2 x3 hl4
      go_wp2_with fail
      obtain ⟨g8, hg8⟩ : ∃ g, w4.heap.size = g := ⟨_, rfl⟩
      obtain ⟨g10, hg10⟩ : ∃ g, w5.heap.size = g := ⟨_, rfl⟩
      obtain ⟨V, hV⟩ : ∃ V, w5.alloc (.cells #[.int .u64 f.r, .int .u32 f.c, .int .u64 f.b, .int .u8 f.p] 25) = V := ⟨_, rfl⟩
      have HX : VR V W.heap.size x := by rw [← hV]; exact HX5.out.alloc _
      have HY : VR V (W.heap.size + 1) y := by rw [← hV]; exact HY5.out.alloc _
      have HF : VA V g8 f := by rw [← hV, ← hg8]; exact HF5.out.alloc _
      have HR : VR V g10 f := by rw [← hV, ← hg10]; exact Blk.new w5 _ _
      have HB : Below W.heap.size W V := by rw [← hV]; exact HB5.out.alloc HB5.out.size _
      rw [hV, hg8, hg10]
      clear hV hg8 hg10 HX5 HY5 HF5 HB5
      obtain ⟨x0, x1, x2, x3⟩ := HX.cells
      obtain ⟨y0, y1, y2, y3⟩ := HY.cells
      obtain ⟨f0, f1, f2, f3⟩ := HF.cells
      obtain ⟨r0, r1, r2, r3⟩ := HR.cells
      have HBd : Hid (Below W.heap.size W V.drew) := Lib.hid HB.drew
      clear HX HY HF HR HB
      go_region_held3 (fun w_ => w_.cell? ⟨W.heap.size, 0, none⟩ = some (.int .u64 x.r) ∧ w_.cell? ⟨W.heap.size, 1, none⟩ = some (.int .u32 x.c) ∧ w_.cell? ⟨W.heap.size, 2, none⟩ = some (.int .u64 x.b) ∧ w_.cell? ⟨W.heap.size, 3, none⟩ = some (.int .u8 x.p) ∧ w_.cell? ⟨W.heap.size + 1, 0, none⟩ = some (.int .u64 y.r) ∧ w_.cell? ⟨W.heap.size + 1, 1, none⟩ = some (.int .u32 y.c) ∧ w_.cell? ⟨W.heap.size + 1, 2, none⟩ = some (.int .u64 y.b) ∧ w_.cell? ⟨W.heap.size + 1, 3, none⟩ = some (.int .u8 y.p) ∧ w_.cell? ⟨g8, 0, none⟩ = some (.int .u64 f.r) ∧ w_.cell? ⟨g8, 1, none⟩ = some (.int .u32 f.c) ∧ w_.cell? ⟨g8, 2, none⟩ = some (.int .u64 f.b) ∧ w_.cell? ⟨g8, 3, none⟩ = some (.int .u8 f.p) ∧ w_.cell? ⟨g10, 0, none⟩ = some (.int .u64 f.r) ∧ w_.cell? ⟨g10, 1, none⟩ = some (.int .u32 f.c) ∧ w_.cell? ⟨g10, 2, none⟩ = some (.int .u64 f.b) ∧ w_.cell? ⟨g10, 3, none⟩ = some (.int .u8 f.p) ∧ Hid (Below W.heap.size W w_)) (go_keep)
        (first
          | (go_at_call 8; (with_reducible refine (of_any _ x).mono ?_); rintro r w_ ⟨rfl, hb_⟩; obtain ⟨k0, k1, k2, k3, k4, k5, k6, k7, k8, k9, k10, k11, k12, k13, k14, k15, k16⟩ := keepT (W.heap.size) (W.heap.size + 1) (g8) (g10)  (x) (y) (f) (f) (by assumption) (by assumption) (by assumption) (by assumption) (by assumption) (by assumption) (by assumption) (by assumption) (by assumption) (by assumption) (by assumption) (by assumption) (by assumption) (by assumption) (by assumption) (by assumption) (by assumption) hb_; clear hb_)
          | (go_at_call 8; (with_reducible refine (of_any _ y).mono ?_); rintro r w_ ⟨rfl, hb_⟩; obtain ⟨k0, k1, k2, k3, k4, k5, k6, k7, k8, k9, k10, k11, k12, k13, k14, k15, k16⟩ := keepT (W.heap.size) (W.heap.size + 1) (g8) (g10)  (x) (y) (f) (f) (by assumption) (by assumption) (by assumption) (by assumption) (by assumption) (by assumption) (by assumption) (by assumption) (by assumption) (by assumption) (by assumption) (by assumption) (by assumption) (by assumption) (by assumption) (by assumption) (by assumption) hb_; clear hb_)
          | (go_at_call 8; (with_reducible refine (of_any _ f).mono ?_); rintro r w_ ⟨rfl, hb_⟩; obtain ⟨k0, k1, k2, k3, k4, k5, k6, k7, k8, k9, k10, k11, k12, k13, k14, k15, k16⟩ := keepT (W.heap.size) (W.heap.size + 1) (g8) (g10)  (x) (y) (f) (f) (by assumption) (by assumption) (by assumption) (by assumption) (by assumption) (by assumption) (by assumption) (by assumption) (by assumption) (by assumption) (by assumption) (by assumption) (by assumption) (by assumption) (by assumption) (by assumption) (by assumption) hb_; clear hb_)
          | (go_at_call 11; (with_reducible refine (kC _).mono ?_); rintro r w_ ⟨rfl, hb_⟩; obtain ⟨k0, k1, k2, k3, k4, k5, k6, k7, k8, k9, k10, k11, k12, k13, k14, k15, k16⟩ := keepT (W.heap.size) (W.heap.size + 1) (g8) (g10)  (x) (y) (f) (f) (by assumption) (by assumption) (by assumption) (by assumption) (by assumption) (by assumption) (by assumption) (by assumption) (by assumption) (by assumption) (by assumption) (by assumption) (by assumption) (by assumption) (by assumption) (by assumption) (by assumption) hb_; clear hb_)
          | (go_at_call 12; (with_reducible refine (wakes_any _).mono ?_); rintro r w_ ⟨rfl, hb_⟩; obtain ⟨k0, k1, k2, k3, k4, k5, k6, k7, k8, k9, k10, k11, k12, k13, k14, k15, k16⟩ := keepT (W.heap.size) (W.heap.size + 1) (g8) (g10)  (x) (y) (f) (f) (by assumption) (by assumption) (by assumption) (by assumption) (by assumption) (by assumption) (by assumption) (by assumption) (by assumption) (by assumption) (by assumption) (by assumption) (by assumption) (by assumption) (by assumption) (by assumption) (by assumption) hb_; clear hb_))
      all_goals (
        go_wp2
        go_ret
        exact ⟨rfl, Hid.out (by assumption)⟩)

    · simp at hq


set_option maxRecDepth 100000 in
set_option maxHeartbeats 4000000 in
theorem walk {H : Type} {enc : TypeId × Value → H} (W : World) (base : Nat) {v0 v1 v2 : Value} {d0 d1 d2 : DataW H} {p0 p1 p2 : List MemPlace}
    (o0 : Value.okWide Try.prog W .any base 25 v0) (h0 : DataW.Trod enc Try.prog W 0 (fun _ => true) true 25 v0 d0 p0) (o1 : Value.okWide Try.prog W .any base 25 v1) (h1 : DataW.Trod enc Try.prog W 0 (fun _ => true) true 25 v1 d1 p1) (o2 : Value.okWide Try.prog W .any base 23 v2) (h2 : DataW.Trod enc Try.prog W 0 (fun _ => true) true 23 v2 d2 p2) :
    Calls Try.prog 3 #[v0, v1, v2] W fun e w' => e = .returned (.bool true) ∧ Below W.heap.size W w' := by
  obtain ⟨l0, u0, y0, rfl, hl0, hf0⟩ := open_struct Try.underlying25 o0 h0
  obtain ⟨x, hx, rfl⟩ := ve_trod Try.underlying25 ⟨rfl, rfl, rfl, rfl⟩ ⟨rfl, rfl, rfl, rfl⟩ (hl0.trans (by kernel_rfl)) hf0
  obtain ⟨l1, u1, y1, rfl, hl1, hf1⟩ := open_struct Try.underlying25 o1 h1
  obtain ⟨y, hy, rfl⟩ := ve_trod Try.underlying25 ⟨rfl, rfl, rfl, rfl⟩ ⟨rfl, rfl, rfl, rfl⟩ (hl1.trans (by kernel_rfl)) hf1
  obtain ⟨n, rfl, hn⟩ := open_num Try.underlying23 o2 h2
  have hn' := wf_u32 hn
  refine tells W x y n hx.cost.1 hx.cost.2 hn'.1 hn'.2 _ _ rfl rfl ?_
  by_cases h : lessV x y = true
  · have h' : lessV y x = false := by
      by_cases h'' : lessV y x = true
      · exact absurd (lessV_trans h h'') (by simp [lessV_irrefl])
      · simpa using h''
    simp [h']
  · have h' : lessV x y = false := by simpa using h
    simp [h']

theorem own : ownKnob Try.prog.godebug = none := by kernel_rfl
theorem laidOut : laidOutB Try.prog = true := by kernel_rfl
set_option maxRecDepth 100000 in
theorem lifted (os : Os) (started : os.Started) (H : Type) (enc : TypeId × Value → H) :
    ReturnsInHanded {} Try.checked os 3 .any (Rows.vectorTellsSpec.pre6 enc Try.prog Try.f3 Rows.vectorTellsRow.domain false) (Rows.vectorTellsSpec.post enc Try.prog Try.f3 false true false false) := by
  refine returnsInHanded_of_change (C := Try.checked) own started (by kernel_rfl) Try.func3
    (ChangeSpec.witness6 (enc := enc) (C := Try.checked) false ⟨#[], #[.agg #[.int .u64 0, .int .u32 0, .int .u64 0, .int .u8 0], .agg #[.int .u64 0, .int .u32 0, .int .u64 0, .int .u8 0], .int .u32 0], []⟩ 8 (by kernel_rfl) (by kernel_rfl) (by kernel_rfl) (by kernel_rfl)) ?_
  intro W base args ds gs before hval0 hW hcnd _
  have hval : ∀ (j : Nat) t v, Try.f3.params[j]? = some t → args[j]? = some v → Value.okWide Try.prog W .any base t v := hval0
  have hW' := hW
  obtain ⟨p, q, hA0, hV, rfl, hfz, hnd⟩ := hW
  have hA : DataW.TrodAll enc Try.prog W 0 (fun _ => true) true Try.f3.params.toList args.toList ds p := hA0
  rw [Try.params3] at hA hval
  obtain ⟨v0, vs0, d0, ds0, p0, q0, hargs, rfl, rfl, h0, r0⟩ := trodAll_cons hA
  obtain ⟨v1, vs1, d1, ds1, p1, q1, rfl, rfl, rfl, h1, r1⟩ := trodAll_cons r0
  obtain ⟨v2, vs2, d2, ds2, p2, q2, rfl, rfl, rfl, h2, r2⟩ := trodAll_cons r1
  obtain ⟨rfl, rfl, rfl⟩ := trodAll_nil r2
  obtain rfl : args = #[v0, v1, v2] := by cases args; simp_all
  obtain ⟨rfl, rfl⟩ := trodVars_none hV
  have o0 := hval 0 25 v0 rfl rfl
  have lt0 : ∀ x ∈ p0, x.block < W.heap.size := by obtain ⟨m, hm⟩ := h0; exact DataW.trod_lt m _ _ _ hm
  have o1 := hval 1 25 v1 rfl rfl
  have lt1 : ∀ x ∈ p1, x.block < W.heap.size := by obtain ⟨m, hm⟩ := h1; exact DataW.trod_lt m _ _ _ hm
  have o2 := hval 2 23 v2 rfl rfl
  have lt2 : ∀ x ∈ p2, x.block < W.heap.size := by obtain ⟨m, hm⟩ := h2; exact DataW.trod_lt m _ _ _ hm
  clear hA0 hval0
  refine (walk W base o0 h0 o1 h1 o2 h2).mono fun e W' ⟨he, bel⟩ => ?_
  subst he
  exact ⟨_, rfl, _, _, _, [], _, [], hW', trodAll_mk1 (shut_bool Try.underlying4 _), (trodAll_cons_mk (Below.trod laidOut (by kernel_rfl) (of_decide_eq_true (by kernel_rfl)) h0 bel lt0) (trodAll_cons_mk (Below.trod laidOut (by kernel_rfl) (of_decide_eq_true (by kernel_rfl)) h1 bel lt1) (trodAll_cons_mk (Below.trod laidOut (by kernel_rfl) (of_decide_eq_true (by kernel_rfl)) h2 bel lt2) trodAll_mk0))), rfl, bel.frame _, fun h => by cases h⟩

theorem over : Rows.vectorTellsRow.holds Try.pinned (OpenSpec.ofChange Rows.vectorTellsSpec) :=
  OpenClaim.holds_of_wide 3 Try.f3 rfl rfl rfl rfl rfl rfl rfl ⟨rfl, rfl, rfl, rfl, rfl⟩ rfl rfl rfl rfl rfl (by kernel_rfl) Try.func3 (by kernel_rfl)
    (of_decide_eq_true (by kernel_rfl)) (by unfold Func.isWrapper; first | (rw [if_pos (by decide +kernel)]; kernel_rfl) | (rw [if_neg (by decide +kernel)]; exact ⟨rfl, rfl⟩))
    (fun os started H enc _ => lifted os started H enc)

/-- THE STATEMENT -/
theorem proved : Rows.VectorTellsSaid := over
end Go.Proofs.Ytbcdkpjfenedmaa.vectorTells
