/- The document's Least. -/
import Derived.Test.YtlpmilaofcakbaaRef
import Derived.Test.YtlpmilaofcakbaaMin
import Derived.Shelf.SlSortCmp.QuietGrown
import Derived.BigQuiet
namespace Go.Proofs.Ytlpmilaofcakbaa
open Go.RowKit Go.Shelf
open Go.Sort (grow)
set_option linter.unusedVariables false
set_option linter.unusedSimpArgs false
set_option maxRecDepth 100000

theorem run_eqRd (d : Nat) (x y : Ve) (w : World) : (Op.equalIn (d + 2) 35 (VV x) (VV y)).run Try.prog w = .ok (decide (x = y)) w := by
  have u8 := Try.underlying5
  have u32 := Try.underlying33
  have u64 := Try.underlying22
  have h0 := run_equalIn_int (P := Try.prog) w d 22 .u64 .u64 x.r y.r u64
  have h1 := run_equalIn_int (P := Try.prog) w d 33 .u32 .u32 x.c y.c u32
  have h2 := run_equalIn_int (P := Try.prog) w d 22 .u64 .u64 x.b y.b u64
  have h3 := run_equalIn_int (P := Try.prog) w d 5 .u8 .u8 x.p y.p u8
  have hall : decide (x = y) = ((x.r == y.r) && ((x.c == y.c) && ((x.b == y.b) && ((x.p == y.p) && true)))) := by
    obtain ⟨x1, x2, x3, x4⟩ := x
    obtain ⟨y1, y2, y3, y4⟩ := y
    rw [Bool.eq_iff_iff]
    simp
  rw [run_equalIn_struct w (d + 1) 35 _ _ (by rw [Program.fieldsOf, Try.underlying35]) (by kernel_rfl)]
  simp only [Program.fieldsOf, Try.underlying35]
  rw [hall]
  refine eqs_step (by decide) (by kernel_rfl) (by kernel_rfl) h0 ?_
  refine eqs_step (by decide) (by kernel_rfl) (by kernel_rfl) h1 ?_
  refine eqs_step (by decide) (by kernel_rfl) (by kernel_rfl) h2 ?_
  refine eqs_step (by decide) (by kernel_rfl) (by kernel_rfl) h3 ?_
  exact eqs_nil
theorem run_eqR (x y : Ve) (w : World) : (Op.equalIn 10000 35 (VV x) (VV y)).run Try.prog w = .ok (decide (x = y)) w := run_eqRd 9998 x y w
/-- a block that holds a path as the document has it -/
def PR (w : World) (g : Nat) (x : Pa) : Prop := Blk w g 131 #[.int .u64 x.v.r, .int .u32 x.v.c, .int .u64 x.v.b, .int .u8 x.v.p, .int .u8 x.i]
theorem PR.cells {w : World} {g : Nat} {x : Pa} (h : PR w g x) : PC w g x := ⟨Blk.cell h 0, Blk.cell h 1, Blk.cell h 2, Blk.cell h 3, Blk.cell h 4⟩
theorem PR.new (w : World) (x : Pa) : PR (w.alloc (.cells #[.int .u64 x.v.r, .int .u32 x.v.c, .int .u64 x.v.b, .int .u8 x.v.p, .int .u8 x.i] 131)) w.heap.size x := Blk.new w _ _
theorem PR.lt {w : World} {g : Nat} {x : Pa} (h : PR w g x) : g < w.heap.size := Blk.lt h
theorem PR.next {w w' : World} {g : Nat} {x : Pa} (h : PR w g x) (hb : Below w.heap.size w w') : PR w' g x := Blk.below h hb (Blk.lt h)
theorem PR.alloc {w : World} {g : Nat} {x : Pa} (h : PR w g x) (o : Obj) : PR (w.alloc o) g x := Blk.alloc h o
theorem refless_grow (w : World) (x y : Ve) (q : Bool) (h : lessV x y = q) : Calls Try.prog 62 #[VV x, VV y] w fun e w' => e = .returned (.bool q) ∧ ∃ n os', w' = grow (w.drewN n) os' :=
  (refless_gro w x y).mono fun _ _ ⟨he, hg⟩ => ⟨by rw [he, h], hg.out⟩
theorem cmpP_lt (x m : Pa) : cmpP x m < 0 ↔ lessV x.v m.v = true ∨ x.v = m.v ∧ x.i < m.i := by
  unfold cmpP
  split
  · rename_i h
    rw [cmpI_lt, h]
    simp [lessV_irrefl]
  · rename_i h
    rw [cmpV_lt]
    simp [h]
/-- the five cells of a path from place o on -/
structure PX (w : World) (b o : Nat) (x : Pa) : Prop where
  c0 : w.cell? ⟨b, o, none⟩ = some (.int .u64 x.v.r)
  c1 : w.cell? ⟨b, o + 1, none⟩ = some (.int .u32 x.v.c)
  c2 : w.cell? ⟨b, o + 2, none⟩ = some (.int .u64 x.v.b)
  c3 : w.cell? ⟨b, o + 3, none⟩ = some (.int .u8 x.v.p)
  c4 : w.cell? ⟨b, o + 4, none⟩ = some (.int .u8 x.i)
theorem PX.next {w w' : World} {b o : Nat} {x : Pa} (h : PX w b o x) (hb : Below w.heap.size w w') : PX w' b o x := by
  have hg := World.block_lt_of_cell? w _ h.c0
  have hk : ∀ i, w'.cell? ⟨b, i, none⟩ = w.cell? ⟨b, i, none⟩ := fun i => hb.cell (p := ⟨b, i, none⟩) hg
  exact ⟨(hk _).trans h.c0, (hk _).trans h.c1, (hk _).trans h.c2, (hk _).trans h.c3, (hk _).trans h.c4⟩
/-- what a round of the document's Least keeps, of memory -/
structure RlS (w0 : World) (w : World) (m : Pa) : Prop where
  out : PR w (w0.heap.size + 1) m
  res : Blk w w0.heap.size 131 #[.int .u64 0, .int .u32 0, .int .u64 0, .int .u8 0, .int .u8 0]
  b : Below w0.heap.size w0 w
theorem RlS.next {w0 w w' : World} {m : Pa} (h : RlS w0 w m) (hb : Below w.heap.size w w') : RlS w0 w' m := ⟨h.out.next hb, Blk.below h.res hb h.res.lt, h.b.trans (hb.mono h.b.size)⟩
theorem RlS.drew {w0 w : World} {m : Pa} (h : RlS w0 w m) : RlS w0 w.drew m := h.next (Below.drew (Below.refl _ _))
theorem RlS.put {w0 w : World} {m : Pa} (h : RlS w0 w m) (x : Pa) : RlS w0 (w.setRow (w0.heap.size + 1) #[.int .u64 x.v.r, .int .u32 x.v.c, .int .u64 x.v.b, .int .u8 x.v.p, .int .u8 x.i]) x := ⟨Blk.row h.out _, Blk.rowFar h.res (by omega) _, below_row h.b (by omega) _⟩

theorem keepRL {w0 w w' : World} {r : Pa} (g0 o0 g1 : Nat) (x0 : Pa) (x1 : Pa) (h0 : w.cell? ⟨g0, o0, none⟩ = some (.int .u64 x0.v.r)) (h1 : w.cell? ⟨g0, o0 + 1, none⟩ = some (.int .u32 x0.v.c)) (h2 : w.cell? ⟨g0, o0 + 2, none⟩ = some (.int .u64 x0.v.b)) (h3 : w.cell? ⟨g0, o0 + 3, none⟩ = some (.int .u8 x0.v.p)) (h4 : w.cell? ⟨g0, o0 + 4, none⟩ = some (.int .u8 x0.i)) (h5 : w.cell? ⟨g1, 0, none⟩ = some (.int .u64 x1.v.r)) (h6 : w.cell? ⟨g1, 1, none⟩ = some (.int .u32 x1.v.c)) (h7 : w.cell? ⟨g1, 2, none⟩ = some (.int .u64 x1.v.b)) (h8 : w.cell? ⟨g1, 3, none⟩ = some (.int .u8 x1.v.p)) (h9 : w.cell? ⟨g1, 4, none⟩ = some (.int .u8 x1.i)) (hB : Hid (RlS w0 w r)) (hb : Below w.heap.size w w') : w'.cell? ⟨g0, o0, none⟩ = some (.int .u64 x0.v.r) ∧ w'.cell? ⟨g0, o0 + 1, none⟩ = some (.int .u32 x0.v.c) ∧ w'.cell? ⟨g0, o0 + 2, none⟩ = some (.int .u64 x0.v.b) ∧ w'.cell? ⟨g0, o0 + 3, none⟩ = some (.int .u8 x0.v.p) ∧ w'.cell? ⟨g0, o0 + 4, none⟩ = some (.int .u8 x0.i) ∧ w'.cell? ⟨g1, 0, none⟩ = some (.int .u64 x1.v.r) ∧ w'.cell? ⟨g1, 1, none⟩ = some (.int .u32 x1.v.c) ∧ w'.cell? ⟨g1, 2, none⟩ = some (.int .u64 x1.v.b) ∧ w'.cell? ⟨g1, 3, none⟩ = some (.int .u8 x1.v.p) ∧ w'.cell? ⟨g1, 4, none⟩ = some (.int .u8 x1.i) ∧ Hid (RlS w0 w' r) := by
  have hk : ∀ {g i : Nat} {v : Value}, w.cell? ⟨g, i, none⟩ = some v → w'.cell? ⟨g, i, none⟩ = some v := fun {g i v} h => (hb.cell (p := ⟨g, i, none⟩) (World.block_lt_of_cell? w _ h)).trans h
  exact ⟨hk h0, hk h1, hk h2, hk h3, hk h4, hk h5, hk h6, hk h7, hk h8, hk h9, Lib.hid (hB.out.next hb)⟩


theorem refleast_nil (w : World) (A : Option Addr) (c : Nat) : Calls Try.prog 59 #[.slice A 0 c] w fun e w' => e = .returned (.tuple #[PV Pa.zero, .bool false]) ∧ Below w.heap.size w w' := by
  go_enter Try.func59, Try.ntmps59
  go_wp2
  exact bodyPost_ret (v := .tuple #[PV Pa.zero, .bool false]) (by simp [results, Try.results59, go_sem]; exact ⟨rfl, rfl, rfl, rfl, rfl⟩) rfl ⟨rfl, (by repeat (first | exact Below.refl _ _ | (refine Below.drew ?_) | (refine Below.alloc ?_ (by simp; try omega) _) | (refine Below.setCell ?_ (by simp; try omega) _)))⟩
set_option maxRecDepth 100000 in
set_option maxHeartbeats 1500000 in
theorem refleast_some (w : World) (A : Option Addr) (c : Nat) (l : List Pa) (h0 : 0 < l.length) (hl : l.length < 4611686018427387904) (hE : Els 5 encP w A l) :
    Calls Try.prog 59 #[.slice A l.length c] w fun e w' => e = .returned (.tuple #[PV (minP l), .bool true]) ∧ Below w.heap.size w w' := by
  obtain ⟨b, off, rfl, hb, hc⟩ := hE h0
  obtain ⟨n, hn⟩ : ∃ n, l.length = n := ⟨_, rfl⟩
  have HN := Lib.hid hn
  have HC := Lib.hid hc
  rw [hn] at h0 hl
  rw [hn]
  obtain ⟨x0, hx0⟩ : ∃ x, l[0]'(by rw [hn]; exact h0) = x := ⟨_, rfl⟩
  have hp0 := pcells hc 0 (by rw [hn]; exact h0) x0 hx0
  have HX0 : Hid (x0 = minP (l.take 1)) := Lib.hid (by rw [minP_one (by rw [hn]; exact h0)]; exact hx0.symm)
  obtain ⟨c0, c1, c2, c3, c4⟩ := hp0
  simp only [Nat.zero_mul, Nat.add_zero] at c0 c1 c2 c3 c4
  have HB := Lib.hid hb
  have d0 : ((n : Int) == 0) = false := by simp; omega
  have mixed : Try.prog.follows .mixedOrders = true := by kernel_rfl
  clear hn hc hx0 hE
  go_enter Try.func59, Try.ntmps59
  go_wp2
  go_loopw [5] (fun i wr => ∃ (k : Nat) (m : Pa), 1 ≤ k ∧ k ≤ n ∧ i = .int .i64 k ∧ Hid (m = minP (l.take k)) ∧ RlS w wr m) (fun i _ => n - (intOf i).toNat)
  case atStart =>
    refine ⟨1, x0, by omega, by omega, rfl, HX0, ?_, ?_, ?_⟩
    · have := PR.new (w.alloc (.cells #[.int .u64 0, .int .u32 0, .int .u64 0, .int .u8 0, .int .u8 0] 131)) x0
      simpa using this
    · exact Blk.alloc (Blk.new w _ _) _
    · exact (by repeat (first | exact Below.refl _ _ | (refine Below.drew ?_) | (refine Below.alloc ?_ (by simp; try omega) _) | (refine Below.setCell ?_ (by simp; try omega) _)))
  case round =>
    obtain ⟨k, m, hk1, hk, rfl, hm, hS⟩ := hrel
    by_cases hlt : k < n
    · have hlt' : k < l.length := by rw [HN.out]; exact hlt
      obtain ⟨x, hx⟩ : ∃ x, l[k] = x := ⟨_, rfl⟩
      obtain ⟨x0, x1, x2, x3, x4⟩ := pcells (w := wr) (fun i h j v hv => (hS.b.cell (p := ⟨b, off + i * 5 + j, none⟩) HB.out).trans (HC.out i h j v hv)) k hlt' x hx
      obtain ⟨m0, m1, m2, m3, m4⟩ := hS.out.cells
      have HS : Hid (minP (l.take (k + 1)) = stepP m x) := Lib.hid (by rw [minP_take hk1 hlt', ← hm.out, hx])
      have hg1 := hS.out.lt
      have HR : Hid (RlS w wr m) := Lib.hid hS
      have hbw : b < wr.heap.size := Nat.lt_of_lt_of_le HB.out hS.b.size
      have HX : Hid (PX wr b (off + k * 5) x) := Lib.hid ⟨x0, x1, x2, x3, x4⟩
      have g0 := fun n os => cell_grown (w := wr) (a := ⟨b, off + k * 5, none⟩) hbw x0 n os
      have g1 := fun n os => cell_grown (w := wr) (a := ⟨b, off + k * 5 + 1, none⟩) hbw x1 n os
      have g2 := fun n os => cell_grown (w := wr) (a := ⟨b, off + k * 5 + 2, none⟩) hbw x2 n os
      have g3 := fun n os => cell_grown (w := wr) (a := ⟨b, off + k * 5 + 3, none⟩) hbw x3 n os
      have g4 := fun n os => cell_grown (w := wr) (a := ⟨b, off + k * 5 + 4, none⟩) hbw x4 n os
      have g5 := fun n os => cell_grown (w := wr) (a := ⟨w.heap.size + 1, 0, none⟩) hg1 m0 n os
      have g6 := fun n os => cell_grown (w := wr) (a := ⟨w.heap.size + 1, 1, none⟩) hg1 m1 n os
      have g7 := fun n os => cell_grown (w := wr) (a := ⟨w.heap.size + 1, 2, none⟩) hg1 m2 n os
      have g8 := fun n os => cell_grown (w := wr) (a := ⟨w.heap.size + 1, 3, none⟩) hg1 m3 n os
      have g9 := fun n os => cell_grown (w := wr) (a := ⟨w.heap.size + 1, 4, none⟩) hg1 m4 n os
      have HBW := Lib.hid hbw
      clear hx hS hm HC HB HX0 x0 x1 x2 x3 x4 m0 m1 m2 m3 m4 hg1 hbw
      by_cases hl : lessV x.v m.v = true
      · have HE : Hid (x = minP (l.take (k + 1))) := Lib.hid (by rw [HS.out, stepP, if_pos ((cmpP_lt x m).2 (Or.inl hl))])
        have kL := fun W => refless_grow W x.v m.v true hl
        clear hl
        go_wp2_with fail
        refine wp_region_quiet_grown mixed (by kernel_rfl) ?_
        repeat (first | go_big_quiet_step ((go_at_call 62; exact Calls.grown_of (kL _))) | quiet_step ((go_at_call 62; exact Calls.grown_of (kL _))))
        refine wpQuiet_nil ?_
        intro _ hw'
        obtain ⟨⟨nq, osq⟩, hw''⟩ := hw'
        subst hw''
        have HRS : Hid (RlS w (grow (wr.drewN nq) osq) m) := Lib.hid (HR.out.next (Gro.of_grow nq osq).below)
        obtain ⟨x0, x1, x2, x3, x4⟩ : PX (grow (wr.drewN nq) osq) b (off + k * 5) x := HX.out.next (Gro.of_grow nq osq).below
        clear HR HX HBW g0 g1 g2 g3 g4 g5 g6 g7 g8 g9
        generalize grow (wr.drewN nq) osq = wg at *
        (
          go_wp2_with (refine wpList_store_row rfl 131 (.tmp 4) (.tmp 50) rfl (w.heap.size + 1) rfl #[.int .u64 x.v.r, .int .u32 x.v.c, .int .u64 x.v.b, .int .u8 x.v.p, .int .u8 x.i] rfl 131 _ HRS.out.out (by kernel_rfl) rfl (by kernel_rfl) ?_)
          go_roundw
          case rel => exact ⟨k + 1, x, by omega, by omega, by go_num, HE, HRS.out.put x⟩
          case measure => simp [intOf]; omega)
      · have hl' : lessV x.v m.v = false := by simpa using hl
        have kL := fun W => refless_grow W x.v m.v false hl'
        by_cases he : x.v = m.v
        · have heq : ∀ w, (Op.equalIn 10000 35 (VV x.v) (VV m.v)).run Try.prog w = .ok true w := fun w => by rw [run_eqR]; simp [he]
          by_cases hi : x.i < m.i
          · have HE : Hid (x = minP (l.take (k + 1))) := Lib.hid (by rw [HS.out, stepP, if_pos ((cmpP_lt x m).2 (Or.inr ⟨he, hi⟩))])
            have hd : decide (x.i < m.i) = true := by simpa using hi
            clear hl hl' he hi
            go_wp2_with fail
            refine wp_region_quiet_grown mixed (by kernel_rfl) ?_
            repeat (first | go_big_quiet_step ((go_at_call 62; exact Calls.grown_of (kL _))) | quiet_step ((go_at_call 62; exact Calls.grown_of (kL _))))
            refine wpQuiet_nil ?_
            intro _ hw'
            obtain ⟨⟨nq, osq⟩, hw''⟩ := hw'
            subst hw''
            have HRS : Hid (RlS w (grow (wr.drewN nq) osq) m) := Lib.hid (HR.out.next (Gro.of_grow nq osq).below)
            obtain ⟨x0, x1, x2, x3, x4⟩ : PX (grow (wr.drewN nq) osq) b (off + k * 5) x := HX.out.next (Gro.of_grow nq osq).below
            clear HR HX HBW g0 g1 g2 g3 g4 g5 g6 g7 g8 g9
            generalize grow (wr.drewN nq) osq = wg at *
            (
              go_wp2_with (refine wpList_store_row rfl 131 (.tmp 4) (.tmp 50) rfl (w.heap.size + 1) rfl #[.int .u64 x.v.r, .int .u32 x.v.c, .int .u64 x.v.b, .int .u8 x.v.p, .int .u8 x.i] rfl 131 _ HRS.out.out (by kernel_rfl) rfl (by kernel_rfl) ?_)
              go_roundw
              case rel => exact ⟨k + 1, x, by omega, by omega, by go_num, HE, HRS.out.put x⟩
              case measure => simp [intOf]; omega)
          · have HE : Hid (m = minP (l.take (k + 1))) := Lib.hid (by rw [HS.out, stepP, if_neg (fun h => ((cmpP_lt x m).1 h).elim hl (fun h => hi h.2))])
            have hd : decide (x.i < m.i) = false := by simpa using hi
            clear hl hl' he hi
            go_wp2_with fail
            refine wp_region_quiet_grown mixed (by kernel_rfl) ?_
            repeat (first | go_big_quiet_step ((go_at_call 62; exact Calls.grown_of (kL _))) | quiet_step ((go_at_call 62; exact Calls.grown_of (kL _))))
            refine wpQuiet_nil ?_
            intro _ hw'
            obtain ⟨⟨nq, osq⟩, hw''⟩ := hw'
            subst hw''
            have HRS : Hid (RlS w (grow (wr.drewN nq) osq) m) := Lib.hid (HR.out.next (Gro.of_grow nq osq).below)
            obtain ⟨x0, x1, x2, x3, x4⟩ : PX (grow (wr.drewN nq) osq) b (off + k * 5) x := HX.out.next (Gro.of_grow nq osq).below
            clear HR HX HBW g0 g1 g2 g3 g4 g5 g6 g7 g8 g9
            generalize grow (wr.drewN nq) osq = wg at *
            (
              go_wp2
              go_roundw
              case rel => exact ⟨k + 1, m, by omega, by omega, by go_num, HE, HRS.out⟩
              case measure => simp [intOf]; omega)
        · have heq : ∀ w, (Op.equalIn 10000 35 (VV x.v) (VV m.v)).run Try.prog w = .ok false w := fun w => by rw [run_eqR]; simp [he]
          have HE : Hid (m = minP (l.take (k + 1))) := Lib.hid (by rw [HS.out, stepP, if_neg (fun h => ((cmpP_lt x m).1 h).elim hl (fun h => he h.1))])
          clear hl hl' he
          go_wp2_with fail
          refine wp_region_quiet_grown mixed (by kernel_rfl) ?_
          repeat (first | go_big_quiet_step ((go_at_call 62; exact Calls.grown_of (kL _))) | quiet_step ((go_at_call 62; exact Calls.grown_of (kL _))))
          refine wpQuiet_nil ?_
          intro _ hw'
          obtain ⟨⟨nq, osq⟩, hw''⟩ := hw'
          subst hw''
          have HRS : Hid (RlS w (grow (wr.drewN nq) osq) m) := Lib.hid (HR.out.next (Gro.of_grow nq osq).below)
          obtain ⟨x0, x1, x2, x3, x4⟩ : PX (grow (wr.drewN nq) osq) b (off + k * 5) x := HX.out.next (Gro.of_grow nq osq).below
          clear HR HX HBW g0 g1 g2 g3 g4 g5 g6 g7 g8 g9
          generalize grow (wr.drewN nq) osq = wg at *
          (
            go_wp2
            go_roundw
            case rel => exact ⟨k + 1, m, by omega, by omega, by go_num, HE, HRS.out⟩
            case measure => simp [intOf]; omega)
    · obtain rfl : k = n := by omega
      obtain ⟨m0, m1, m2, m3, m4⟩ := hS.out.cells
      have HM : Hid (m = minP l) := Lib.hid (by rw [hm.out, ← HN.out, List.take_length])
      have HRS := Lib.hid hS
      clear hS hm
      go_wp2_with (refine wpList_store_row rfl 131 (.tmp 2) (.tmp 51) rfl w.heap.size rfl #[.int .u64 m.v.r, .int .u32 m.v.c, .int .u64 m.v.b, .int .u8 m.v.p, .int .u8 m.i] rfl 131 _ HRS.out.res (by kernel_rfl) rfl (by kernel_rfl) ?_)
      exact bodyPost_ret (v := .tuple #[PV m, .bool true]) (results_cell_slot (p := 2) (q := 3) (by kernel_rfl) _ _ w.heap.size 131 _ _ rfl (Blk.row HRS.out.res _) Try.underlying131 rfl (by kernel_rfl) _ rfl) rfl ⟨by rw [HM.out], below_row HRS.out.b (Nat.le_refl _) _⟩
theorem refleast_any (w : World) (A : Option Addr) (c : Nat) (l : List Pa) (hl : l.length < 4611686018427387904) (hE : Els 5 encP w A l) :
    Calls Try.prog 59 #[.slice A l.length c] w fun e w' => e = .returned (.tuple #[PV (minP l), .bool (!l.isEmpty)]) ∧ Below w.heap.size w w' := by
  cases l with
  | nil => exact refleast_nil w A c
  | cons x l => exact refleast_some w A c (x :: l) (by simp) hl hE
end Go.Proofs.Ytlpmilaofcakbaa
