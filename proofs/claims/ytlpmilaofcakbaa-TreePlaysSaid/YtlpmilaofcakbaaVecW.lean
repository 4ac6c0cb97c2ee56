/- vector.Compare, Far, comparePaths. -/
import Derived.Test.YtlpmilaofcakbaaCmp
namespace Go.Proofs.Ytlpmilaofcakbaa
open Go.RowKit
set_option linter.unusedVariables false
set_option linter.unusedSimpArgs false
set_option maxRecDepth 100000

/-- a block that holds a vector -/
def VA (w : World) (g : Nat) (x : Ve) : Prop := Blk w g 52 #[.int .u64 x.r, .int .u32 x.c, .int .u64 x.b, .int .u8 x.p]
structure VC (w : World) (g : Nat) (x : Ve) : Prop where
  c0 : w.cell? ⟨g, 0, none⟩ = some (.int .u64 x.r)
  c1 : w.cell? ⟨g, 1, none⟩ = some (.int .u32 x.c)
  c2 : w.cell? ⟨g, 2, none⟩ = some (.int .u64 x.b)
  c3 : w.cell? ⟨g, 3, none⟩ = some (.int .u8 x.p)
theorem VA.cells {w : World} {g : Nat} {x : Ve} (h : VA w g x) : VC w g x := ⟨Blk.cell h 0, Blk.cell h 1, Blk.cell h 2, Blk.cell h 3⟩
theorem VA.new (w : World) (x : Ve) : VA (w.alloc (.cells #[.int .u64 x.r, .int .u32 x.c, .int .u64 x.b, .int .u8 x.p] 52)) w.heap.size x := Blk.new w _ _
theorem VA.lt {w : World} {g : Nat} {x : Ve} (h : VA w g x) : g < w.heap.size := Blk.lt h
theorem VA.gro {w w' : World} {g : Nat} {x : Ve} (h : VA w g x) (hg : Gro w w') : VA w' g x := hg.blk h
theorem VA.next {w w' : World} {g : Nat} {x : Ve} (h : VA w g x) (hb : Below w.heap.size w w') : VA w' g x := Blk.below h hb (Blk.lt h)
theorem VA.below {w w' : World} {g B : Nat} {x : Ve} (h : VA w g x) (hb : Below B w w') (hg : g < B) : VA w' g x := Blk.below h hb hg
theorem VA.alloc {w : World} {g : Nat} {x : Ve} (h : VA w g x) (o : Obj) : VA (w.alloc o) g x := Blk.alloc h o
theorem VC.next {w w' : World} {g : Nat} {x : Ve} (h : VC w g x) (hb : Below w.heap.size w w') : VC w' g x := by
  have hg := World.block_lt_of_cell? w _ h.c0
  have hk : ∀ i, w'.cell? ⟨g, i, none⟩ = w.cell? ⟨g, i, none⟩ := fun i => hb.cell (p := ⟨g, i, none⟩) hg
  exact ⟨(hk 0).trans h.c0, (hk 1).trans h.c1, (hk 2).trans h.c2, (hk 3).trans h.c3⟩

theorem or4_any (w : World) (g c : Nat) (x0 x1 x2 x3 : Int) (h0 : w.cell? ⟨g, 0, none⟩ = some (.int .i64 x0)) (h1 : w.cell? ⟨g, 1, none⟩ = some (.int .i64 x1)) (h2 : w.cell? ⟨g, 2, none⟩ = some (.int .i64 x2)) (h3 : w.cell? ⟨g, 3, none⟩ = some (.int .i64 x3)) :
    Calls Try.prog 63 #[.slice (some ⟨g, 0, none⟩) 4 c] w fun e w' => e = .returned (.int .i64 (orI [x0, x1, x2, x3])) ∧ w = w' :=
  or_any w g c [x0, x1, x2, x3] (by simp) (fun j h => by
    simp only [List.length_cons, List.length_nil] at h
    match j, h with
    | 0, _ => exact h0
    | 1, _ => exact h1
    | 2, _ => exact h2
    | 3, _ => exact h3)
set_option maxHeartbeats 1000000 in
theorem compare_any (w : World) (x y : Ve) : Calls Try.prog 49 #[VV x, VV y] w fun e w' => e = .returned (.int .i64 (cmpV x y)) ∧ Gro w w' := by
  obtain ⟨q0, e0⟩ : ∃ q, cmpI x.r y.r = q := ⟨_, rfl⟩
  obtain ⟨q1, e1⟩ : ∃ q, cmpI x.c y.c = q := ⟨_, rfl⟩
  obtain ⟨q2, e2⟩ : ∃ q, cmpI x.b y.b = q := ⟨_, rfl⟩
  obtain ⟨q3, e3⟩ : ∃ q, cmpI x.p y.p = q := ⟨_, rfl⟩
  have E : Hid (orI [q0, q1, q2, q3] = cmpV x y) := Lib.hid (by rw [← e0, ← e1, ← e2, ← e3]; rfl)
  have k0 := fun W => cmp64_any W x.r y.r
  have k1 := fun W => cmp32_any W x.c y.c
  have k2 := fun W => cmp64_any W x.b y.b
  have k3 := fun W => cmp8_any W x.p y.p
  rw [e0] at k0
  rw [e1] at k1
  rw [e2] at k2
  rw [e3] at k3
  obtain ⟨o, ho⟩ : ∃ o, orI [q0, q1, q2, q3] = o := ⟨_, rfl⟩
  rw [ho] at E
  have HO := Lib.hid ho
  clear e0 e1 e2 e3 ho
  go_enter Try.func49, Try.ntmps49
  go_wp2_with fail
  obtain ⟨W, hW⟩ : ∃ W, (w.alloc (.cells #[.int .u64 x.r, .int .u32 x.c, .int .u64 x.b, .int .u8 x.p] 52)).alloc (.cells #[.int .u64 y.r, .int .u32 y.c, .int .u64 y.b, .int .u8 y.p] 52) = W := ⟨_, rfl⟩
  have hx : VC W w.heap.size x := by rw [← hW]; exact ((VA.new w x).alloc _).cells
  have hy : VC W (w.heap.size + 1) y := by rw [← hW]; have := (VA.new (w.alloc (.cells #[.int .u64 x.r, .int .u32 x.c, .int .u64 x.b, .int .u8 x.p] 52)) y).cells; simpa using this
  have hg : Gro w W := by rw [← hW]; exact ((Gro.refl w).alloc _).alloc _
  rw [hW]
  clear hW
  have HG : Hid (Gro w W.drew) := Lib.hid hg.drew
  obtain ⟨a0, a1, a2, a3⟩ := hx
  obtain ⟨b0, b1, b2, b3⟩ := hy
  have HG0 : Hid (Gro w W) := Lib.hid hg
  clear hg
  go_region_held3 (fun w_ => w_.cell? ⟨w.heap.size, 0, none⟩ = some (.int .u64 x.r) ∧ w_.cell? ⟨w.heap.size, 1, none⟩ = some (.int .u32 x.c) ∧ w_.cell? ⟨w.heap.size, 2, none⟩ = some (.int .u64 x.b) ∧ w_.cell? ⟨w.heap.size, 3, none⟩ = some (.int .u8 x.p) ∧ w_.cell? ⟨w.heap.size + 1, 0, none⟩ = some (.int .u64 y.r) ∧ w_.cell? ⟨w.heap.size + 1, 1, none⟩ = some (.int .u32 y.c) ∧ w_.cell? ⟨w.heap.size + 1, 2, none⟩ = some (.int .u64 y.b) ∧ w_.cell? ⟨w.heap.size + 1, 3, none⟩ = some (.int .u8 y.p) ∧ Hid (Gro w w_)) (refine ⟨by go_keep, by go_keep, by go_keep, by go_keep, by go_keep, by go_keep, by go_keep, by go_keep, Lib.hid (by repeat (first | exact Hid.out (by assumption) | (refine Gro.drew ?_) | (refine Gro.alloc ?_ _)))⟩)
    (first
      | (go_at_call 64; (with_reducible refine (k0 _).mono ?_); rintro r w_ ⟨rfl, rfl⟩)
      | (go_at_call 65; (with_reducible refine (k1 _).mono ?_); rintro r w_ ⟨rfl, rfl⟩)
      | (go_at_call 64; (with_reducible refine (k2 _).mono ?_); rintro r w_ ⟨rfl, rfl⟩)
      | (go_at_call 66; (with_reducible refine (k3 _).mono ?_); rintro r w_ ⟨rfl, rfl⟩)
      | (go_at_call 63; refine (or4_any _ _ _ q0 q1 q2 q3 (by simp) (by simp) (by simp) (by simp)).mono ?_; rw [HO.out]; rintro r w_ ⟨rfl, rfl⟩))
  all_goals (
    go_wp2
    go_ret
    exact ⟨ret_i64 E.out, (by repeat (first | exact HG0.out | (refine Gro.drew ?_) | (refine Gro.alloc ?_ _)))⟩)
end Go.Proofs.Ytlpmilaofcakbaa
