/- Layer 5: the law's Of, the document's May, Bytes, num. -/
import Derived.Test.YtbkfbaloolbkdaaDoorBpSpec
import Derived.Test.YtbkfbaloolbkdaaDoorRefNum
import Derived.Test.YtbkfbaloolbkdaaDoorRefRd
import Derived.Deep.RegionHeld3
import Derived.Deep.DeepCutAuto
import Derived.Laws.Concat
namespace Go.Proofs.YtbkfbaloolbkdaaDoor
open Go.RowKit
set_option linter.unusedVariables false
set_option linter.unusedSimpArgs false
set_option maxRecDepth 100000

theorem keepc {w w' : World} {p : Addr} {v : Value} (h : w.cell? p = some v) (hb : Below w.heap.size w w') : w'.cell? p = some v := by
  have hg := World.block_lt_of_cell? w _ h
  rw [hb.cell (p := p) hg]; exact h
theorem keepb {W w w' : World} (hB : Hid (Below W.heap.size W w)) (hb : Below w.heap.size w w') : Hid (Below W.heap.size W w') := Lib.hid (hB.out.trans (hb.mono hB.out.size))
set_option maxHeartbeats 1000000 in
theorem of5_any (w : World) (x : Bp) : Calls Tryd.prog 8 #[BV x] w fun e w' => e = .returned (BV x) ∧ Below w.heap.size w w' := by
  have HX : Hid (BpA 27 (w.alloc (.cells #[.int .u64 x.v.r, .int .u32 x.v.c, .int .u64 x.v.b, .int .u8 x.v.p, .int .u8 x.h, .int .u64 x.ver, .int .u8 x.role, .bool x.pr, .bool x.ag, .bool x.tp, .int .u64 x.ec] 27)) w.heap.size x) := Lib.hid (BpA.new _ _ _)
  have HZ : Hid (BpA 33 (((w.alloc (.cells #[.int .u64 x.v.r, .int .u32 x.v.c, .int .u64 x.v.b, .int .u8 x.v.p, .int .u8 x.h, .int .u64 x.ver, .int .u8 x.role, .bool x.pr, .bool x.ag, .bool x.tp, .int .u64 x.ec] 27)).alloc (.cells #[.int .u64 0, .int .u32 0, .int .u64 0, .int .u8 0, .int .u8 0, .int .u64 0, .int .u8 0, .bool false, .bool false, .bool false, .int .u64 0] 33)).alloc (.cells #[.int .u64 x.v.r, .int .u32 x.v.c, .int .u64 x.v.b, .int .u8 x.v.p] 31)) (w.heap.size + 1) Bp.zero) :=
    Lib.hid (by have := (BpA.zero 33 (w.alloc (.cells #[.int .u64 x.v.r, .int .u32 x.v.c, .int .u64 x.v.b, .int .u8 x.v.p, .int .u8 x.h, .int .u64 x.ver, .int .u8 x.role, .bool x.pr, .bool x.ag, .bool x.tp, .int .u64 x.ec] 27))).alloc (.cells #[.int .u64 x.v.r, .int .u32 x.v.c, .int .u64 x.v.b, .int .u8 x.v.p] 31); simpa only [World.size_alloc] using this)
  have HB : Hid (Below w.heap.size w (((w.alloc (.cells #[.int .u64 x.v.r, .int .u32 x.v.c, .int .u64 x.v.b, .int .u8 x.v.p, .int .u8 x.h, .int .u64 x.ver, .int .u8 x.role, .bool x.pr, .bool x.ag, .bool x.tp, .int .u64 x.ec] 27)).alloc (.cells #[.int .u64 0, .int .u32 0, .int .u64 0, .int .u8 0, .int .u8 0, .int .u64 0, .int .u8 0, .bool false, .bool false, .bool false, .int .u64 0] 33)).alloc (.cells #[.int .u64 x.v.r, .int .u32 x.v.c, .int .u64 x.v.b, .int .u8 x.v.p] 31))) := Lib.hid ((((Below.refl _ _).alloc (Nat.le_refl _) _).alloc (by simp) _).alloc (by simp; omega) _)
  have C := HX.out.cells
  have C2 : BpC ((w.alloc (.cells #[.int .u64 x.v.r, .int .u32 x.v.c, .int .u64 x.v.b, .int .u8 x.v.p, .int .u8 x.h, .int .u64 x.ver, .int .u8 x.role, .bool x.pr, .bool x.ag, .bool x.tp, .int .u64 x.ec] 27)).alloc (.cells #[.int .u64 0, .int .u32 0, .int .u64 0, .int .u8 0, .int .u8 0, .int .u64 0, .int .u8 0, .bool false, .bool false, .bool false, .int .u64 0] 33)) w.heap.size x := (HX.out.alloc _).cells
  have C3 : BpC (((w.alloc (.cells #[.int .u64 x.v.r, .int .u32 x.v.c, .int .u64 x.v.b, .int .u8 x.v.p, .int .u8 x.h, .int .u64 x.ver, .int .u8 x.role, .bool x.pr, .bool x.ag, .bool x.tp, .int .u64 x.ec] 27)).alloc (.cells #[.int .u64 0, .int .u32 0, .int .u64 0, .int .u8 0, .int .u8 0, .int .u64 0, .int .u8 0, .bool false, .bool false, .bool false, .int .u64 0] 33)).alloc (.cells #[.int .u64 x.v.r, .int .u32 x.v.c, .int .u64 x.v.b, .int .u8 x.v.p] 31)) w.heap.size x := ((HX.out.alloc _).alloc _).cells
  clear C
  obtain ⟨a0, a1, a2, a3, _, _, _, _, _, _, _⟩ := C2
  obtain ⟨_, _, _, _, c4, c5, c6, c7, c8, c9, c10⟩ := C3
  go_enter Tryd.func8, Tryd.ntmps8
  go_wp2_with (refine store_bp rfl 2 32 rfl (w.heap.size + 1) x Bp.zero rfl rfl HZ.out ?_)
  exact bodyPost_ret (v := BV x) (results_cell_row (p := 2) (by kernel_rfl) _ _ (w.heap.size + 1) 33 _ (0, 0) _ rfl (Blk.row HZ.out _) Tryd.underlying33 rfl (by kernel_rfl)) rfl ⟨rfl, below_row HB.out (by omega) _⟩

set_option maxHeartbeats 4000000 in
theorem refmay5_gro (w : World) (x : Bp) (hx0 : 0 ≤ x.role) :
    Calls Tryd.prog 9 #[BV x] w fun r w' => r = .returned (.bool (bmay x)) ∧ Gro w w' := by
  obtain ⟨v, h, ver, role, pr, ag, tp, ec⟩ := x
  by_cases k0 : 7 < v.p
  · have d0 : decide ((7 : Int) < v.p) = true := by simp; omega
    obtain ⟨c0, c1, c2, c3, c4, c5, c6, c7, c8, c9, c10⟩ := (BpA.new 27 w ⟨v, h, ver, role, pr, ag, tp, ec⟩).cells
    dsimp only at c0 c1 c2 c3 c4 c5 c6 c7 c8 c9 c10
    have HM : Hid (bmay ⟨v, h, ver, role, pr, ag, tp, ec⟩ = false) := Lib.hid (by simp [bmay]; omega)
    rw [HM.out]
    clear k0 c7 c8 c9 c10
    go_enter Tryd.func9, Tryd.ntmps9
    go_wp2
    go_ret
    exact ⟨rfl, (Gro.refl _).alloc _⟩
  have d0 : decide ((7 : Int) < v.p) = false := by simp; omega
  by_cases k1 : 16777216 < v.c
  · have d1 : decide ((16777216 : Int) < v.c) = true := by simp; omega
    obtain ⟨c0, c1, c2, c3, c4, c5, c6, c7, c8, c9, c10⟩ := (BpA.new 27 w ⟨v, h, ver, role, pr, ag, tp, ec⟩).cells
    dsimp only at c0 c1 c2 c3 c4 c5 c6 c7 c8 c9 c10
    have HM : Hid (bmay ⟨v, h, ver, role, pr, ag, tp, ec⟩ = false) := Lib.hid (by simp [bmay]; omega)
    rw [HM.out]
    clear k0 k1 c7 c8 c9 c10
    go_enter Tryd.func9, Tryd.ntmps9
    go_wp2
    go_ret
    exact ⟨rfl, (Gro.refl _).alloc _⟩
  have d1 : decide ((16777216 : Int) < v.c) = false := by simp; omega
  by_cases k2 : 20 < h
  · have d2 : decide ((20 : Int) < h) = true := by simp; omega
    obtain ⟨c0, c1, c2, c3, c4, c5, c6, c7, c8, c9, c10⟩ := (BpA.new 27 w ⟨v, h, ver, role, pr, ag, tp, ec⟩).cells
    dsimp only at c0 c1 c2 c3 c4 c5 c6 c7 c8 c9 c10
    have HM : Hid (bmay ⟨v, h, ver, role, pr, ag, tp, ec⟩ = false) := Lib.hid (by simp [bmay]; omega)
    rw [HM.out]
    clear k0 k1 k2 c7 c8 c9 c10
    go_enter Tryd.func9, Tryd.ntmps9
    go_wp2
    go_ret
    exact ⟨rfl, (Gro.refl _).alloc _⟩
  have d2 : decide ((20 : Int) < h) = false := by simp; omega
  by_cases k3 : role = 0
  · have d3 : (role == 0) = true := by simp; omega
    obtain ⟨c0, c1, c2, c3, c4, c5, c6, c7, c8, c9, c10⟩ := (BpA.new 27 w ⟨v, h, ver, role, pr, ag, tp, ec⟩).cells
    dsimp only at c0 c1 c2 c3 c4 c5 c6 c7 c8 c9 c10
    have HM : Hid (bmay ⟨v, h, ver, role, pr, ag, tp, ec⟩ = false) := Lib.hid (by simp [bmay]; omega)
    rw [HM.out]
    clear k0 k1 k2 k3 c7 c8 c9 c10
    go_enter Tryd.func9, Tryd.ntmps9
    go_wp2
    go_ret
    exact ⟨rfl, (Gro.refl _).alloc _⟩
  have d3 : (role == 0) = false := by simp; omega
  by_cases k4 : 3 < role
  · have d4 : decide ((3 : Int) < role) = true := by simp; omega
    obtain ⟨c0, c1, c2, c3, c4, c5, c6, c7, c8, c9, c10⟩ := (BpA.new 27 w ⟨v, h, ver, role, pr, ag, tp, ec⟩).cells
    dsimp only at c0 c1 c2 c3 c4 c5 c6 c7 c8 c9 c10
    have HM : Hid (bmay ⟨v, h, ver, role, pr, ag, tp, ec⟩ = false) := Lib.hid (by simp [bmay]; omega)
    rw [HM.out]
    clear k0 k1 k2 k3 k4 c7 c8 c9 c10
    go_enter Tryd.func9, Tryd.ntmps9
    go_wp2
    go_ret
    exact ⟨rfl, (Gro.refl _).alloc _⟩
  have d4 : decide ((3 : Int) < role) = false := by simp; omega
  have hr : role = 1 ∨ role = 2 ∨ role = 3 := by dsimp only at hx0; omega
  obtain ⟨c0, c1, c2, c3, c4, c5, c6, c7, c8, c9, c10⟩ := (BpA.new 27 w ⟨v, h, ver, role, pr, ag, tp, ec⟩).cells
  dsimp only at c0 c1 c2 c3 c4 c5 c6 c7 c8 c9 c10
  have HM : Hid (bmay ⟨v, h, ver, role, pr, ag, tp, ec⟩ = ((!pr || role == 2) && ((!ag || role == 1) && (ag || ec == 0)))) := Lib.hid (by
    unfold bmay
    simp only
    rw [show decide (v.p < 8) = true by simp; omega, show decide (v.c ≤ 16777216) = true by simp; omega, show decide (h ≤ 20) = true by simp; omega, show decide (1 ≤ role) = true by simp; omega, show decide (role ≤ 3) = true by simp; omega]
    simp only [Bool.true_and])
  rw [HM.out]
  clear HM k0 k1 k2 k3 k4 hx0
  rcases hr with rfl | rfl | rfl <;> cases pr <;> cases ag
  all_goals (
    go_enter Tryd.func9, Tryd.ntmps9
    go_wp2
    go_ret
    exact ⟨ret_ (congrArg Value.bool (by simp)), (Gro.refl _).alloc _⟩)
theorem refmay5_any (w : World) (x : Bp) (hx0 : 0 ≤ x.role) :
    Calls Tryd.prog 9 #[BV x] w fun r w' => r = .returned (.bool (bmay x)) ∧ Below w.heap.size w w' := (refmay5_gro w x hx0).mono fun _ _ ⟨h1, h2⟩ => ⟨h1, h2.below⟩
theorem refmay5_grow (w : World) (x : Bp) (hx0 : 0 ≤ x.role) (q : Bool) (h : bmay x = q) : Calls Tryd.prog 9 #[BV x] w fun e w' => e = .returned (.bool q) ∧ ∃ n os', w' = Sort.grow (w.drewN n) os' :=
  (refmay5_gro w x hx0).mono fun _ _ ⟨he, hg⟩ => ⟨by rw [he, h], hg.out⟩
end Go.Proofs.YtbkfbaloolbkdaaDoor
