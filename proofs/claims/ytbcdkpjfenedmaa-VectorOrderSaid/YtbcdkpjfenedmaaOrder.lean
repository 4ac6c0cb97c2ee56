/- VectorOrder: vectors stand in one order; what is farther is greater, and just so much: for any three vectors and any cost, without a condition. -/
import Derived.Test.YtbcdkpjfenedmaaWakes
import Derived.Test.YtbcdkpjfenedmaaVecOpen
import Derived.OpenShut
import Derived.Deep.RegionHeld3
import Derived.Deep.DeepCutAuto
import Derived.ShutString
import Derived.ChangeOld
namespace Go.Proofs.Ytbcdkpjfenedmaa.vectorOrder
open Go.ChangeShapes Go.WideShapes Go.ChangeAt Go.RowKit
open Go.ChangeMaps (open_string shut_string)
set_option linter.unusedVariables false
set_option linter.unusedSimpArgs false


theorem cmpV_far (x y : Ve) (n : Int) : cmpV ⟨x.r, x.c + n, x.b, x.p⟩ ⟨y.r, y.c + n, y.b, y.p⟩ = cmpV x y := by
  have h : cmpI (x.c + n) (y.c + n) = cmpI x.c y.c := by unfold cmpI; repeat' split
                                                         all_goals omega
  simp only [cmpV, h]
theorem cmpV_on (x : Ve) (c : Int) (h : x.c < c) : cmpV x ⟨x.r, c, x.b, x.p⟩ = -1 := by
  simp only [cmpV, orI, cmpI_self]
  simp [cmpI, h]
theorem farO_yes (w : World) (x : Ve) (n c : Int) (h0 : 0 ≤ x.c) (h1 : x.c ≤ 4294967295) (h2 : 0 < n) (h3 : n ≤ 4294967295) (hf : x.c + n ≤ 16777216) (hc : x.c + n = c) :
    Calls Try.prog 9 #[VV x, .int .u32 n] w fun e w' => e = .returned (.tuple #[VV ⟨x.r, c, x.b, x.p⟩, .bool true]) ∧ Below w.heap.size w w' := by
  subst hc
  exact far_yes w x n h0 h1 h2 h3 hf
/-- what the first line finds: one order -/
structure Ord (x y : Ve) (p q s : Int) : Prop where
  eq : (p = 0) ↔ x = y
  one : -1 ≤ p ∧ p ≤ 1
  less : p < 0 → q < 0 → s < 0
  same : p = 0 → q = s
theorem ord_any (x y z : Ve) : Ord x y (cmpV x y) (cmpV y z) (cmpV x z) where
  eq := cmpV_zero
  one := cmpV_one x y
  less h1 h2 := by rw [cmpV_lt] at *; exact lessV_trans h1 h2
  same h := by rw [cmpV_zero] at h; rw [h]
/-- behind the two sides of the first line -/
structure Here (W wx : World) (x y z : Ve) : Prop where
  x : VC wx W.heap.size x
  y : VC wx (W.heap.size + 1) y
  z : VC wx (W.heap.size + 2) z
  b : Below W.heap.size W wx
theorem Here.next {W w w' : World} {x y z : Ve} (h : Here W w x y z) (hb : Below w.heap.size w w') : Here W w' x y z := ⟨h.x.next hb, h.y.next hb, h.z.next hb, h.b.trans (hb.mono h.b.size)⟩
theorem Here.alloc {W w : World} {x y z : Ve} (h : Here W w x y z) (o : Obj) : Here W (w.alloc o) x y z := h.next ((Below.refl _ w).alloc (Nat.le_refl _) o)
theorem keepO {W w w' : World} (g0 g1 g2 : Nat) (x0 : Ve) (x1 : Ve) (x2 : Ve) (h0 : w.cell? ⟨g0, 0, none⟩ = some (.int .u64 x0.r)) (h1 : w.cell? ⟨g0, 1, none⟩ = some (.int .u32 x0.c)) (h2 : w.cell? ⟨g0, 2, none⟩ = some (.int .u64 x0.b)) (h3 : w.cell? ⟨g0, 3, none⟩ = some (.int .u8 x0.p)) (h4 : w.cell? ⟨g1, 0, none⟩ = some (.int .u64 x1.r)) (h5 : w.cell? ⟨g1, 1, none⟩ = some (.int .u32 x1.c)) (h6 : w.cell? ⟨g1, 2, none⟩ = some (.int .u64 x1.b)) (h7 : w.cell? ⟨g1, 3, none⟩ = some (.int .u8 x1.p)) (h8 : w.cell? ⟨g2, 0, none⟩ = some (.int .u64 x2.r)) (h9 : w.cell? ⟨g2, 1, none⟩ = some (.int .u32 x2.c)) (h10 : w.cell? ⟨g2, 2, none⟩ = some (.int .u64 x2.b)) (h11 : w.cell? ⟨g2, 3, none⟩ = some (.int .u8 x2.p)) (hB : Hid (Below W.heap.size W w)) (hb : Below w.heap.size w w') : w'.cell? ⟨g0, 0, none⟩ = some (.int .u64 x0.r) ∧ w'.cell? ⟨g0, 1, none⟩ = some (.int .u32 x0.c) ∧ w'.cell? ⟨g0, 2, none⟩ = some (.int .u64 x0.b) ∧ w'.cell? ⟨g0, 3, none⟩ = some (.int .u8 x0.p) ∧ w'.cell? ⟨g1, 0, none⟩ = some (.int .u64 x1.r) ∧ w'.cell? ⟨g1, 1, none⟩ = some (.int .u32 x1.c) ∧ w'.cell? ⟨g1, 2, none⟩ = some (.int .u64 x1.b) ∧ w'.cell? ⟨g1, 3, none⟩ = some (.int .u8 x1.p) ∧ w'.cell? ⟨g2, 0, none⟩ = some (.int .u64 x2.r) ∧ w'.cell? ⟨g2, 1, none⟩ = some (.int .u32 x2.c) ∧ w'.cell? ⟨g2, 2, none⟩ = some (.int .u64 x2.b) ∧ w'.cell? ⟨g2, 3, none⟩ = some (.int .u8 x2.p) ∧ Hid (Below W.heap.size W w') := by
  have hk : ∀ {g i : Nat} {v : Value}, w.cell? ⟨g, i, none⟩ = some v → w'.cell? ⟨g, i, none⟩ = some v := fun {g i v} h => (hb.cell (p := ⟨g, i, none⟩) (World.block_lt_of_cell? w _ h)).trans h
  exact ⟨hk h0, hk h1, hk h2, hk h3, hk h4, hk h5, hk h6, hk h7, hk h8, hk h9, hk h10, hk h11, Lib.hid (hB.out.trans (hb.mono hB.out.size))⟩

set_option maxRecDepth 100000 in
set_option maxHeartbeats 4000000 in
theorem order (W : World) (x y z : Ve) (n : Int) (hx0 : 0 ≤ x.c) (hx1 : x.c ≤ 4294967295) (hy0 : 0 ≤ y.c) (hy1 : y.c ≤ 4294967295) (h2 : 0 ≤ n) (h3 : n ≤ 4294967295) :
    Calls Try.prog 5 #[VV x, VV y, VV z, .int .u32 n] W fun e w' => e = .returned (.bool true) ∧ Below W.heap.size W w' := by
  have kP := fun W => (compare_any W x y).mono (fun _ _ h => (⟨h.1, h.2.below⟩ : _ ∧ Below W.heap.size W _))
  have kQ := fun W => (compare_any W y z).mono (fun _ _ h => (⟨h.1, h.2.below⟩ : _ ∧ Below W.heap.size W _))
  have kS := fun W => (compare_any W x z).mono (fun _ _ h => (⟨h.1, h.2.below⟩ : _ ∧ Below W.heap.size W _))
  have kR := fun W => (compare_any W y x).mono (fun _ _ h => (⟨h.1, h.2.below⟩ : _ ∧ Below W.heap.size W _))
  have ho := ord_any x y z
  rw [cmpV_neg x y] at kR
  obtain ⟨p, hp⟩ : ∃ p, cmpV x y = p := ⟨_, rfl⟩
  obtain ⟨q, hq⟩ : ∃ q, cmpV y z = q := ⟨_, rfl⟩
  obtain ⟨s, hs⟩ : ∃ s, cmpV x z = s := ⟨_, rfl⟩
  rw [hp] at kP kR ho
  rw [hq] at kQ ho
  rw [hs] at kS ho
  have HO := Lib.hid ho
  have HP := Lib.hid hp
  have HN := Lib.hid (And.intro hx0 (And.intro hx1 (And.intro hy0 (And.intro hy1 (And.intro h2 h3)))))
  clear hp hq hs ho hx0 hx1 hy0 hy1 h2 h3
  go_enter Try.func5, Try.ntmps5
  go_upto_region 1 with fail
  obtain ⟨V, hV⟩ : ∃ V, ((W.alloc (.cells #[.int .u64 x.r, .int .u32 x.c, .int .u64 x.b, .int .u8 x.p] 27)).alloc (.cells #[.int .u64 y.r, .int .u32 y.c, .int .u64 y.b, .int .u8 y.p] 27)).alloc (.cells #[.int .u64 z.r, .int .u32 z.c, .int .u64 z.b, .int .u8 z.p] 27) = V := ⟨_, rfl⟩
  have hxV : VC V W.heap.size x := by rw [← hV]; exact (((VA.new W x).alloc _).alloc _).cells
  have hyV : VC V (W.heap.size + 1) y := by rw [← hV]; have := ((VA.new (W.alloc (.cells #[.int .u64 x.r, .int .u32 x.c, .int .u64 x.b, .int .u8 x.p] 27)) y).alloc (.cells #[.int .u64 z.r, .int .u32 z.c, .int .u64 z.b, .int .u8 z.p] 27)).cells; simpa using this
  have hzV : VC V (W.heap.size + 2) z := by rw [← hV]; have := (VA.new ((W.alloc (.cells #[.int .u64 x.r, .int .u32 x.c, .int .u64 x.b, .int .u8 x.p] 27)).alloc (.cells #[.int .u64 y.r, .int .u32 y.c, .int .u64 y.b, .int .u8 y.p] 27)) z).cells; simpa using this
  have hBV : Below W.heap.size W V := by rw [← hV]; exact (((Below.refl _ W).alloc (Nat.le_refl _) _).alloc (by simp) _).alloc (by simp; omega) _
  rw [hV]
  clear hV
  obtain ⟨x0, x1, x2, x3⟩ := hxV
  obtain ⟨y0, y1, y2, y3⟩ := hyV
  obtain ⟨z0, z1, z2, z3⟩ := hzV
  have HBd : Hid (Below W.heap.size W V.drew) := Lib.hid hBV.drew
  clear hBV
  go_cut [9, 10, 11] (fun s9 s10 s11 wx => s9 = .int .i64 p ∧ s10 = .int .i64 q ∧ s11 = .int .i64 s ∧ Here W wx x y z)
  case first =>
    go_region_held3 (fun w_ => w_.cell? ⟨W.heap.size, 0, none⟩ = some (.int .u64 x.r) ∧ w_.cell? ⟨W.heap.size, 1, none⟩ = some (.int .u32 x.c) ∧ w_.cell? ⟨W.heap.size, 2, none⟩ = some (.int .u64 x.b) ∧ w_.cell? ⟨W.heap.size, 3, none⟩ = some (.int .u8 x.p) ∧ w_.cell? ⟨W.heap.size + 1, 0, none⟩ = some (.int .u64 y.r) ∧ w_.cell? ⟨W.heap.size + 1, 1, none⟩ = some (.int .u32 y.c) ∧ w_.cell? ⟨W.heap.size + 1, 2, none⟩ = some (.int .u64 y.b) ∧ w_.cell? ⟨W.heap.size + 1, 3, none⟩ = some (.int .u8 y.p) ∧ w_.cell? ⟨W.heap.size + 2, 0, none⟩ = some (.int .u64 z.r) ∧ w_.cell? ⟨W.heap.size + 2, 1, none⟩ = some (.int .u32 z.c) ∧ w_.cell? ⟨W.heap.size + 2, 2, none⟩ = some (.int .u64 z.b) ∧ w_.cell? ⟨W.heap.size + 2, 3, none⟩ = some (.int .u8 z.p) ∧ Hid (Below W.heap.size W w_)) (go_keep)
      (first
        | (go_at_call 11; (with_reducible refine (kP _).mono ?_); rintro r w_ ⟨rfl, hb_⟩; obtain ⟨k0, k1, k2, k3, k4, k5, k6, k7, k8, k9, k10, k11, k12⟩ := keepO (W.heap.size) (W.heap.size + 1) (W.heap.size + 2)  (x) (y) (z) (by assumption) (by assumption) (by assumption) (by assumption) (by assumption) (by assumption) (by assumption) (by assumption) (by assumption) (by assumption) (by assumption) (by assumption) (by assumption) hb_; clear hb_)
        | (go_at_call 11; (with_reducible refine (kQ _).mono ?_); rintro r w_ ⟨rfl, hb_⟩; obtain ⟨k0, k1, k2, k3, k4, k5, k6, k7, k8, k9, k10, k11, k12⟩ := keepO (W.heap.size) (W.heap.size + 1) (W.heap.size + 2)  (x) (y) (z) (by assumption) (by assumption) (by assumption) (by assumption) (by assumption) (by assumption) (by assumption) (by assumption) (by assumption) (by assumption) (by assumption) (by assumption) (by assumption) hb_; clear hb_)
        | (go_at_call 11; (with_reducible refine (kS _).mono ?_); rintro r w_ ⟨rfl, hb_⟩; obtain ⟨k0, k1, k2, k3, k4, k5, k6, k7, k8, k9, k10, k11, k12⟩ := keepO (W.heap.size) (W.heap.size + 1) (W.heap.size + 2)  (x) (y) (z) (by assumption) (by assumption) (by assumption) (by assumption) (by assumption) (by assumption) (by assumption) (by assumption) (by assumption) (by assumption) (by assumption) (by assumption) (by assumption) hb_; clear hb_))
    all_goals (
      go_wp2_with fail
      go_meet
      obtain ⟨a0, a1, a2, a3, b0, b1, b2, b3, c0, c1, c2, c3, hh⟩ := ‹_ ∧ _›
      exact ⟨rfl, rfl, rfl, ⟨a0, a1, a2, a3⟩, ⟨b0, b1, b2, b3⟩, ⟨c0, c1, c2, c3⟩, hh.out⟩)
  case rest =>
    obtain ⟨rfl, rfl, rfl, hH⟩ := hcut
    go_upto_region 2 with fail
    go_cut [67] (fun t wx => t = .bool false ∧ Here W wx x y z)
    case first =>
      obtain ⟨x0, x1, x2, x3⟩ := hH.x
      obtain ⟨y0, y1, y2, y3⟩ := hH.y
      have HH := Lib.hid hH
      clear hH
      by_cases hp0 : p < 0
      · obtain rfl : p = -1 := by have := HO.out.one; omega
        have hne : ¬ x = y := fun e => by have := HO.out.eq.2 e; omega
        have heq : ∀ w, (Op.equalIn 10000 27 (VV x) (VV y)).run Try.prog w = .ok false w := fun w => by rw [run_eqV]; simp [hne]
        rw [show (-(-1) : Int) = 1 from rfl] at kR
        by_cases hq : q < 0
        · have hs := HO.out.less hp0 hq
          have d1 : decide (q < 0) = true := by simpa using hq
          have d2 : decide (0 ≤ s) = false := by simpa using hs
          clear hne hp0 hq hs
          go_wp2_with fail
          refine (kR _).mono ?_
          rintro e w1 ⟨rfl, hb⟩
          have HH1 := Lib.hid (HH.out.next hb)
          clear hb x0 x1 x2 x3 y0 y1 y2 y3 HH
          obtain ⟨x0, x1, x2, x3⟩ := HH1.out.x
          obtain ⟨y0, y1, y2, y3⟩ := HH1.out.y
          go_wp2
          go_meet
          exact ⟨rfl, HH1.out⟩
        · have d1 : decide (q < 0) = false := by simpa using hq
          clear hne hp0 hq
          go_wp2_with fail
          refine (kR _).mono ?_
          rintro e w1 ⟨rfl, hb⟩
          have HH1 := Lib.hid (HH.out.next hb)
          clear hb x0 x1 x2 x3 y0 y1 y2 y3 HH
          obtain ⟨x0, x1, x2, x3⟩ := HH1.out.x
          obtain ⟨y0, y1, y2, y3⟩ := HH1.out.y
          go_wp2
          go_meet
          exact ⟨rfl, HH1.out⟩
      · by_cases hp1 : p = 0
        · subst hp1
          obtain rfl : x = y := HO.out.eq.1 rfl
          obtain rfl : q = s := HO.out.same rfl
          have heq : ∀ w, (Op.equalIn 10000 27 (VV x) (VV x)).run Try.prog w = .ok true w := fun w => by rw [run_eqV]; simp
          rw [show (-(0) : Int) = 0 from rfl] at kR
          clear hp0
          go_wp2_with fail
          refine (kR _).mono ?_
          rintro e w1 ⟨rfl, hb⟩
          have HH1 := Lib.hid (HH.out.next hb)
          clear hb x0 x1 x2 x3 y0 y1 y2 y3 HH
          obtain ⟨x0, x1, x2, x3⟩ := HH1.out.x
          obtain ⟨y0, y1, y2, y3⟩ := HH1.out.y
          go_wp2
          go_meet
          exact ⟨rfl, HH1.out⟩
        · obtain rfl : p = 1 := by have := HO.out.one; omega
          have hne : ¬ x = y := fun e => hp1 (HO.out.eq.2 e)
          have heq : ∀ w, (Op.equalIn 10000 27 (VV x) (VV y)).run Try.prog w = .ok false w := fun w => by rw [run_eqV]; simp [hne]
          clear hne hp0 hp1
          go_wp2_with fail
          refine (kR _).mono ?_
          rintro e w1 ⟨rfl, hb⟩
          have HH1 := Lib.hid (HH.out.next hb)
          clear hb x0 x1 x2 x3 y0 y1 y2 y3 HH
          obtain ⟨x0, x1, x2, x3⟩ := HH1.out.x
          obtain ⟨y0, y1, y2, y3⟩ := HH1.out.y
          go_wp2
          go_meet
          exact ⟨rfl, HH1.out⟩
    case rest =>
      obtain ⟨rfl, hH⟩ := hcut
      obtain ⟨hx0, hx1, hy0, hy1, h2, h3⟩ := HN.out
      obtain ⟨x0, x1, x2, x3⟩ := hH.x
      have HH := Lib.hid hH
      clear hH kP kQ kS kR HO
      by_cases hn : n = 0
      · subst hn
        have heq : ∀ w, (Op.equalIn 10000 27 (.agg #[.int .u64 0, .int .u32 0, .int .u64 0, .int .u8 0]) (.agg #[.int .u64 0, .int .u32 0, .int .u64 0, .int .u8 0])).run Try.prog w = .ok true w := fun w => by have := run_eqV ⟨0, 0, 0, 0⟩ ⟨0, 0, 0, 0⟩ w; simpa using this
        have kF := fun W => far_no0 W x hx0 hx1
        clear hy0 hy1 h2 h3
        go_wp2_with fail
        refine (kF _).mono ?_
        rintro e w1 ⟨rfl, hb⟩
        have HH1 := Lib.hid ((HH.out.next hb).alloc (.cells #[.int .u64 0, .int .u32 0, .int .u64 0, .int .u8 0] 27))
        clear hb x0 x1 x2 x3 HH
        obtain ⟨x0, x1, x2, x3⟩ := HH1.out.x
        go_wp2_with fail
        refine (wakes_any _).mono ?_
        rintro e w2 ⟨rfl, hb⟩
        have HB := Lib.hid (HH1.out.next hb).b
        clear hb x0 x1 x2 x3 HH1
        go_wp2
        go_ret
        exact ⟨rfl, HB.out⟩
      · by_cases hf : x.c + n ≤ 16777216
        · have hn0 : 0 < n := by omega
          obtain ⟨c, hc⟩ : ∃ c, x.c + n = c := ⟨_, rfl⟩
          have kF := fun W => farO_yes W x n c hx0 hx1 hn0 h3 hf hc
          have kC := fun W => (compare_any W x ⟨x.r, c, x.b, x.p⟩).mono (fun _ _ h => (⟨h.1, h.2.below⟩ : _ ∧ Below W.heap.size W _))
          rw [cmpV_on x c (by omega)] at kC
          have hsub : c - x.c = n := by omega
          have hw : IntKind.u32.wrap (c - x.c) = n := by rw [hsub]; simp [IntKind.wrap, IntKind.signed, IntKind.bits]; omega
          have HC := Lib.hid hc
          have HF := Lib.hid hf
          clear hc hf hn
          go_wp2_with fail
          refine (kF _).mono ?_
          rintro e w1 ⟨rfl, hb⟩
          have HH1 := Lib.hid ((HH.out.next hb).alloc (.cells #[.int .u64 x.r, .int .u32 c, .int .u64 x.b, .int .u8 x.p] 27))
          have hl1 : W.heap.size + 2 < w1.heap.size := World.block_lt_of_cell? w1 _ (HH.out.next hb).z.c0
          clear hb x0 x1 x2 x3 HH
          obtain ⟨x0, x1, x2, x3⟩ := HH1.out.x
          go_wp2_with fail
          refine (kC _).mono ?_
          rintro e w2 ⟨rfl, hb⟩
          have HH2 := Lib.hid (HH1.out.next hb)
          have HF2 : Hid (VC w2 w1.heap.size ⟨x.r, c, x.b, x.p⟩) := Lib.hid ((VA.new w1 ⟨x.r, c, x.b, x.p⟩).next hb).cells
          clear hb x0 x1 x2 x3 HH1
          obtain ⟨x0, x1, x2, x3⟩ := HH2.out.x
          obtain ⟨y0, y1, y2, y3⟩ := HH2.out.y
          obtain ⟨f0, f1, f2, f3⟩ := HF2.out
          by_cases hg : y.c + n ≤ 16777216
          · obtain ⟨d, hd⟩ : ∃ d, y.c + n = d := ⟨_, rfl⟩
            have kG := fun W => farO_yes W y n d hy0 hy1 hn0 h3 hg hd
            have kD := fun W => (compare_any W ⟨x.r, c, x.b, x.p⟩ ⟨y.r, d, y.b, y.p⟩).mono (fun _ _ h => (⟨h.1, h.2.below⟩ : _ ∧ Below W.heap.size W _))
            rw [← HC.out, ← hd, cmpV_far, HP.out, HC.out, hd] at kD
            clear hd hg
            go_wp2_with fail
            refine (kG _).mono ?_
            rintro e w3 ⟨rfl, hb⟩
            have HH3 := Lib.hid ((HH2.out.next hb).alloc (.cells #[.int .u64 y.r, .int .u32 d, .int .u64 y.b, .int .u8 y.p] 27))
            have HF3 := Lib.hid ((HF2.out.next hb).next ((Below.refl _ w3).alloc (Nat.le_refl _) (.cells #[.int .u64 y.r, .int .u32 d, .int .u64 y.b, .int .u8 y.p] 27)))
            have hl3 : w1.heap.size < w3.heap.size := World.block_lt_of_cell? w3 _ (HF2.out.next hb).c0
            clear hb x0 x1 x2 x3 y0 y1 y2 y3 f0 f1 f2 f3 HH2 HF2
            obtain ⟨f0, f1, f2, f3⟩ := HF3.out
            go_wp2_with fail
            refine (kD _).mono ?_
            rintro e w4 ⟨rfl, hb⟩
            have HH4 := Lib.hid (HH3.out.next hb)
            clear hb f0 f1 f2 f3 HH3 HF3
            go_wp2_with fail
            refine (wakes_any _).mono ?_
            rintro e w5 ⟨rfl, hb⟩
            have HB := Lib.hid (HH4.out.next hb).b
            clear hb HH4
            go_wp2
            go_ret
            exact ⟨rfl, HB.out⟩
          · have kG := fun W => far_no1 W y n hy0 hy1 hn0 h3 (by omega)
            clear hg
            go_wp2_with fail
            refine (kG _).mono ?_
            rintro e w3 ⟨rfl, hb⟩
            have HH3 := Lib.hid ((HH2.out.next hb).alloc (.cells #[.int .u64 0, .int .u32 0, .int .u64 0, .int .u8 0] 27))
            clear hb x0 x1 x2 x3 y0 y1 y2 y3 f0 f1 f2 f3 HH2 HF2
            go_wp2_with fail
            refine (wakes_any _).mono ?_
            rintro e w4 ⟨rfl, hb⟩
            have HB := Lib.hid (HH3.out.next hb).b
            clear hb HH3
            go_wp2
            go_ret
            exact ⟨rfl, HB.out⟩
        · have heq : ∀ w, (Op.equalIn 10000 27 (.agg #[.int .u64 0, .int .u32 0, .int .u64 0, .int .u8 0]) (.agg #[.int .u64 0, .int .u32 0, .int .u64 0, .int .u8 0])).run Try.prog w = .ok true w := fun w => by have := run_eqV ⟨0, 0, 0, 0⟩ ⟨0, 0, 0, 0⟩ w; simpa using this
          have kF := fun W => far_no1 W x n hx0 hx1 (by omega) h3 (by omega)
          have d0 : (n == 0) = false := by simpa using hn
          have d1 : decide ((16777216 : Int) < x.c + n) = true := by simpa using hf
          clear hy0 hy1 hf hn
          go_wp2_with fail
          refine (kF _).mono ?_
          rintro e w1 ⟨rfl, hb⟩
          have HH1 := Lib.hid ((HH.out.next hb).alloc (.cells #[.int .u64 0, .int .u32 0, .int .u64 0, .int .u8 0] 27))
          clear hb x0 x1 x2 x3 HH
          obtain ⟨x0, x1, x2, x3⟩ := HH1.out.x
          have hl1 : W.heap.size < w1.heap.size + 1 := by have := World.block_lt_of_cell? _ _ x0; simpa using this
          go_wp2_with fail
          refine (wakes_any _).mono ?_
          rintro e w2 ⟨rfl, hb⟩
          have HB := Lib.hid (HH1.out.next hb).b
          clear hb x0 x1 x2 x3 HH1
          go_wp2
          go_ret
          exact ⟨rfl, HB.out⟩

set_option maxRecDepth 100000 in
set_option maxHeartbeats 4000000 in
theorem walk {H : Type} {enc : TypeId × Value → H} (W : World) (base : Nat) {v0 v1 v2 v3 : Value} {d0 d1 d2 d3 : DataW H} {p0 p1 p2 p3 : List MemPlace}
    (o0 : Value.okWide Try.prog W .any base 27 v0) (h0 : DataW.Trod enc Try.prog W 0 (fun _ => true) true 27 v0 d0 p0) (o1 : Value.okWide Try.prog W .any base 27 v1) (h1 : DataW.Trod enc Try.prog W 0 (fun _ => true) true 27 v1 d1 p1) (o2 : Value.okWide Try.prog W .any base 27 v2) (h2 : DataW.Trod enc Try.prog W 0 (fun _ => true) true 27 v2 d2 p2) (o3 : Value.okWide Try.prog W .any base 23 v3) (h3 : DataW.Trod enc Try.prog W 0 (fun _ => true) true 23 v3 d3 p3) :
    Calls Try.prog 5 #[v0, v1, v2, v3] W fun e w' => e = .returned (.bool true) ∧ Below W.heap.size W w' := by
  obtain ⟨l0, u0, y0, rfl, hl0, hf0⟩ := open_struct Try.underlying27 o0 h0
  obtain ⟨x, hx, rfl⟩ := ve_trod Try.underlying27 ⟨rfl, rfl, rfl, rfl⟩ ⟨rfl, rfl, rfl, rfl⟩ (hl0.trans (by kernel_rfl)) hf0
  obtain ⟨l1, u1, y1, rfl, hl1, hf1⟩ := open_struct Try.underlying27 o1 h1
  obtain ⟨y, hy, rfl⟩ := ve_trod Try.underlying27 ⟨rfl, rfl, rfl, rfl⟩ ⟨rfl, rfl, rfl, rfl⟩ (hl1.trans (by kernel_rfl)) hf1
  obtain ⟨l2, u2, y2, rfl, hl2, hf2⟩ := open_struct Try.underlying27 o2 h2
  obtain ⟨z, hz, rfl⟩ := ve_trod Try.underlying27 ⟨rfl, rfl, rfl, rfl⟩ ⟨rfl, rfl, rfl, rfl⟩ (hl2.trans (by kernel_rfl)) hf2
  obtain ⟨n, rfl, hn⟩ := open_num Try.underlying23 o3 h3
  have hn' := wf_u32 hn
  exact order W x y z n hx.cost.1 hx.cost.2 hy.cost.1 hy.cost.2 hn'.1 hn'.2

theorem own : ownKnob Try.prog.godebug = none := by kernel_rfl
theorem laidOut : laidOutB Try.prog = true := by kernel_rfl
set_option maxRecDepth 100000 in
theorem lifted (os : Os) (started : os.Started) (H : Type) (enc : TypeId × Value → H) :
    ReturnsInHanded {} Try.checked os 5 .any (Rows.vectorOrderSpec.pre6 enc Try.prog Try.f5 Rows.vectorOrderRow.domain false) (Rows.vectorOrderSpec.post enc Try.prog Try.f5 false true false false) := by
  refine returnsInHanded_of_change (C := Try.checked) own started (by kernel_rfl) Try.func5
    (ChangeSpec.witness6 (enc := enc) (C := Try.checked) false ⟨#[], #[.agg #[.int .u64 0, .int .u32 0, .int .u64 0, .int .u8 0], .agg #[.int .u64 0, .int .u32 0, .int .u64 0, .int .u8 0], .agg #[.int .u64 0, .int .u32 0, .int .u64 0, .int .u8 0], .int .u32 0], []⟩ 8 (by kernel_rfl) (by kernel_rfl) (by kernel_rfl) (by kernel_rfl)) ?_
  intro W base args ds gs before hval0 hW hcnd _
  have hval : ∀ (j : Nat) t v, Try.f5.params[j]? = some t → args[j]? = some v → Value.okWide Try.prog W .any base t v := hval0
  have hW' := hW
  obtain ⟨p, q, hA0, hV, rfl, hfz, hnd⟩ := hW
  have hA : DataW.TrodAll enc Try.prog W 0 (fun _ => true) true Try.f5.params.toList args.toList ds p := hA0
  rw [Try.params5] at hA hval
  obtain ⟨v0, vs0, d0, ds0, p0, q0, hargs, rfl, rfl, h0, r0⟩ := trodAll_cons hA
  obtain ⟨v1, vs1, d1, ds1, p1, q1, rfl, rfl, rfl, h1, r1⟩ := trodAll_cons r0
  obtain ⟨v2, vs2, d2, ds2, p2, q2, rfl, rfl, rfl, h2, r2⟩ := trodAll_cons r1
  obtain ⟨v3, vs3, d3, ds3, p3, q3, rfl, rfl, rfl, h3, r3⟩ := trodAll_cons r2
  obtain ⟨rfl, rfl, rfl⟩ := trodAll_nil r3
  obtain rfl : args = #[v0, v1, v2, v3] := by cases args; simp_all
  obtain ⟨rfl, rfl⟩ := trodVars_none hV
  have o0 := hval 0 27 v0 rfl rfl
  have lt0 : ∀ x ∈ p0, x.block < W.heap.size := by obtain ⟨m, hm⟩ := h0; exact DataW.trod_lt m _ _ _ hm
  have o1 := hval 1 27 v1 rfl rfl
  have lt1 : ∀ x ∈ p1, x.block < W.heap.size := by obtain ⟨m, hm⟩ := h1; exact DataW.trod_lt m _ _ _ hm
  have o2 := hval 2 27 v2 rfl rfl
  have lt2 : ∀ x ∈ p2, x.block < W.heap.size := by obtain ⟨m, hm⟩ := h2; exact DataW.trod_lt m _ _ _ hm
  have o3 := hval 3 23 v3 rfl rfl
  have lt3 : ∀ x ∈ p3, x.block < W.heap.size := by obtain ⟨m, hm⟩ := h3; exact DataW.trod_lt m _ _ _ hm
  clear hA0 hval0
  refine (walk W base o0 h0 o1 h1 o2 h2 o3 h3).mono fun e W' ⟨he, bel⟩ => ?_
  subst he
  exact ⟨_, rfl, _, _, _, [], _, [], hW', trodAll_mk1 (shut_bool Try.underlying4 _), (trodAll_cons_mk (Below.trod laidOut (by kernel_rfl) (of_decide_eq_true (by kernel_rfl)) h0 bel lt0) (trodAll_cons_mk (Below.trod laidOut (by kernel_rfl) (of_decide_eq_true (by kernel_rfl)) h1 bel lt1) (trodAll_cons_mk (Below.trod laidOut (by kernel_rfl) (of_decide_eq_true (by kernel_rfl)) h2 bel lt2) (trodAll_cons_mk (Below.trod laidOut (by kernel_rfl) (of_decide_eq_true (by kernel_rfl)) h3 bel lt3) trodAll_mk0)))), rfl, bel.frame _, fun h => by cases h⟩

theorem over : Rows.vectorOrderRow.holds Try.pinned (OpenSpec.ofChange Rows.vectorOrderSpec) :=
  OpenClaim.holds_of_wide 5 Try.f5 rfl rfl rfl rfl rfl rfl rfl ⟨rfl, rfl, rfl, rfl, rfl⟩ rfl rfl rfl rfl rfl (by kernel_rfl) Try.func5 (by kernel_rfl)
    (of_decide_eq_true (by kernel_rfl)) (by unfold Func.isWrapper; first | (rw [if_pos (by decide +kernel)]; kernel_rfl) | (rw [if_neg (by decide +kernel)]; exact ⟨rfl, rfl⟩))
    (fun os started H enc _ => lifted os started H enc)

/-- THE STATEMENT -/
theorem proved : Rows.VectorOrderSaid := over
end Go.Proofs.Ytbcdkpjfenedmaa.vectorOrder
