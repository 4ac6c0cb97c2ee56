/- Layer 9: Forwards, Root, Flush, less, far. -/
import Derived.Test.YtlpmilaofcakbaaTw2
import Derived.Deep.DeepCutAuto
namespace Go.Proofs.Ytlpmilaofcakbaa
open Go.RowKit Go.Shelf
open Go.Sort (grow)
set_option linter.unusedVariables false
set_option linter.unusedSimpArgs false
set_option maxRecDepth 100000

/-- four cells of a vector put -/
def put4W (w : World) (b : Nat) (y : Ve) : World := (((w.setCell ⟨b, 0, none⟩ (.int .u64 y.r)).setCell ⟨b, 1, none⟩ (.int .u32 y.c)).setCell ⟨b, 2, none⟩ (.int .u64 y.b)).setCell ⟨b, 3, none⟩ (.int .u8 y.p)
theorem put4 {w : World} {b : Nat} {t : TypeId} {a0 a1 a2 a3 : Value} (h : Blk w b t #[a0, a1, a2, a3]) (y : Ve) : Blk ((((w.setCell ⟨b, 0, none⟩ (.int .u64 y.r)).setCell ⟨b, 1, none⟩ (.int .u32 y.c)).setCell ⟨b, 2, none⟩ (.int .u64 y.b)).setCell ⟨b, 3, none⟩ (.int .u8 y.p)) b t #[.int .u64 y.r, .int .u32 y.c, .int .u64 y.b, .int .u8 y.p] := by
  simpa using Blk.put (Blk.put (Blk.put (Blk.put h 0 (.int .u64 y.r)) 1 (.int .u32 y.c)) 2 (.int .u64 y.b)) 3 (.int .u8 y.p)
theorem below4 {B : Nat} {w0 w : World} (h : Below B w0 w) (b : Nat) (hb : B ≤ b) (y : Ve) : Below B w0 ((((w.setCell ⟨b, 0, none⟩ (.int .u64 y.r)).setCell ⟨b, 1, none⟩ (.int .u32 y.c)).setCell ⟨b, 2, none⟩ (.int .u64 y.b)).setCell ⟨b, 3, none⟩ (.int .u8 y.p)) :=
  (((h.setCell hb _).setCell hb _).setCell hb _).setCell hb _
theorem Mch.role_lt {M : Mch} {i r : Nat} (h : M.role i = r) (h0 : r ≠ 0) : i < M.ps.length := by
  unfold Mch.role at h
  split at h
  · assumption
  · omega

set_option maxHeartbeats 1000000 in
theorem fwd_edge {w : World} {g i r : Nat} {M : Mch} (hM : MaP w g M) (h8 : M.ps.length ≤ 8) (hr : M.role i = r) (h5 : r = 5) :
    Calls Try.prog 25 #[.pointer (some ⟨g, 0, none⟩), .int .u8 (i : Nat)] w fun e w' => e = .returned (.bool (true)) ∧ Gro w w' := by
  have kR := role_any (i := i) hM h8
  rw [hr] at kR
  subst h5
  have HM := Lib.hid hM
  have HR := Lib.hid hr
  clear hM hr
  go_enter Try.func25, Try.ntmps25
  go_wp2_with fail
  refine kR.mono ?_
  rintro e w' ⟨rfl, hg⟩
  have HG := Lib.hid hg
  clear hg kR
  go_wp2
  go_ret
  exact ⟨rfl, HG.out⟩

set_option maxHeartbeats 1000000 in
theorem fwd_root {w : World} {g i r : Nat} {M : Mch} (hM : MaP w g M) (h8 : M.ps.length ≤ 8) (hr : M.role i = r) (h5 : r = 1) :
    Calls Try.prog 25 #[.pointer (some ⟨g, 0, none⟩), .int .u8 (i : Nat)] w fun e w' => e = .returned (.bool (true)) ∧ Gro w w' := by
  have kR := role_any (i := i) hM h8
  rw [hr] at kR
  subst h5
  have HM := Lib.hid hM
  have HR := Lib.hid hr
  clear hM hr
  go_enter Try.func25, Try.ntmps25
  go_wp2_with fail
  refine kR.mono ?_
  rintro e w' ⟨rfl, hg⟩
  have HG := Lib.hid hg
  clear hg kR
  go_wp2
  go_ret
  exact ⟨rfl, HG.out⟩

set_option maxHeartbeats 1000000 in
theorem fwd_des {w : World} {g i r : Nat} {M : Mch} (hM : MaP w g M) (h8 : M.ps.length ≤ 8) (hr : M.role i = r) (h5 : r = 2) (hi : i < M.ps.length) :
    Calls Try.prog 25 #[.pointer (some ⟨g, 0, none⟩), .int .u8 (i : Nat)] w fun e w' => e = .returned (.bool ((M.port i).ag)) ∧ Gro w w' := by
  have kR := role_any (i := i) hM h8
  rw [hr] at kR
  subst h5
  have hi8 : i < 8 := by omega
  have HI := Lib.hid hi
  have H8 := Lib.hid h8
  clear h8 hi
  have HM := Lib.hid hM
  have HR := Lib.hid hr
  clear hM hr
  go_enter Try.func25, Try.ntmps25
  go_wp2_with fail
  refine kR.mono ?_
  rintro e w' ⟨rfl, hg⟩
  have HG := Lib.hid hg
  have c14 := ((HM.out.gro hg).sd H8.out HI.out).c14
  clear hg kR
  go_wp2
  go_ret
  exact ⟨rfl, HG.out⟩

set_option maxHeartbeats 1000000 in
theorem fwd_no {w : World} {g i r : Nat} {M : Mch} (hM : MaP w g M) (h8 : M.ps.length ≤ 8) (hr : M.role i = r) (h5 : ((r : Int) == 5) = false) (h1 : ((r : Int) == 1) = false) (h2 : ((r : Int) == 2) = false) :
    Calls Try.prog 25 #[.pointer (some ⟨g, 0, none⟩), .int .u8 (i : Nat)] w fun e w' => e = .returned (.bool (false)) ∧ Gro w w' := by
  have kR := role_any (i := i) hM h8
  rw [hr] at kR

  have HM := Lib.hid hM
  have HR := Lib.hid hr
  clear hM hr
  go_enter Try.func25, Try.ntmps25
  go_wp2_with fail
  refine kR.mono ?_
  rintro e w' ⟨rfl, hg⟩
  have HG := Lib.hid hg
  clear hg kR
  go_wp2
  go_ret
  exact ⟨rfl, HG.out⟩

/-- Forwards -/
theorem forwards_any {w : World} {g i : Nat} {M : Mch} (hM : MaP w g M) (h8 : M.ps.length ≤ 8) :
    Calls Try.prog 25 #[.pointer (some ⟨g, 0, none⟩), .int .u8 (i : Nat)] w fun e w' => e = .returned (.bool (M.fwd i)) ∧ Gro w w' := by
  obtain ⟨r, hr⟩ : ∃ r, M.role i = r := ⟨_, rfl⟩
  have e : M.fwd i = (r == 5 || r == 1 || (r == 2 && (M.port i).ag)) := by unfold Mch.fwd; rw [hr]
  rw [e]
  by_cases h5 : r = 5
  · subst h5; exact fwd_edge hM h8 hr rfl
  · by_cases h1 : r = 1
    · subst h1; exact fwd_root hM h8 hr rfl
    · by_cases h2 : r = 2
      · subst h2; exact fwd_des hM h8 hr rfl (Mch.role_lt hr (by omega))
      · have e2 : (r == 5 || r == 1 || (r == 2 && (M.port i).ag)) = false := by simp [h5, h1, h2]
        rw [e2]
        exact fwd_no hM h8 hr (by simp; omega) (by simp; omega) (by simp; omega)
theorem forwards_nil {w : World} {i : Nat} : Calls Try.prog 25 #[.pointer none, .int .u8 (i : Nat)] w fun e w' => e = .returned (.bool false) ∧ w = w' := by
  have kR : Calls Try.prog 24 #[.pointer none, .int .u8 (i : Nat)] w fun e w' => e = .returned (.int .u8 0) ∧ w = w' := by
    have kH := has_nil (w := w) (i := i)
    go_enter Try.func24, Try.ntmps24
    go_wp2_with fail
    refine kH.mono ?_
    rintro e w' ⟨rfl, rfl⟩
    go_wp2
    go_ret
    exact ⟨rfl, rfl⟩
  go_enter Try.func25, Try.ntmps25
  go_wp2_with fail
  refine kR.mono ?_
  rintro e w' ⟨rfl, rfl⟩
  go_wp2
  go_ret
  exact ⟨rfl, rfl⟩
theorem role_nil {w : World} {i : Nat} : Calls Try.prog 24 #[.pointer none, .int .u8 (i : Nat)] w fun e w' => e = .returned (.int .u8 0) ∧ w = w' := by
  have kH := has_nil (w := w) (i := i)
  go_enter Try.func24, Try.ntmps24
  go_wp2_with fail
  refine kH.mono ?_
  rintro e w' ⟨rfl, rfl⟩
  go_wp2
  go_ret
  exact ⟨rfl, rfl⟩
/-- Root -/
theorem root_any {w : World} {g : Nat} {M : Mch} (hM : MaP w g M) (h8 : M.ps.length ≤ 8) :
    Calls Try.prog 23 #[.pointer (some ⟨g, 0, none⟩)] w fun e w' => e = .returned (.tuple #[.int .u64 M.root, .int .u32 M.cost, .int .u64 M.ver]) ∧ Gro w w' := by
  have c130 := (hM.hd h8).c130
  have c131 := (hM.hd h8).c131
  have c134 := (hM.hd h8).c134
  clear hM h8
  go_enter Try.func23, Try.ntmps23
  go_wp2_with fail
  go_quiet (fail)
  go_wp2
  exact bodyPost_ret (v := .tuple #[.int .u64 M.root, .int .u32 M.cost, .int .u64 M.ver]) (by simp [results, Try.results23, go_sem]) rfl ⟨rfl, (Gro.refl _).drewN _⟩
theorem root_nil {w : World} : Calls Try.prog 23 #[.pointer none] w fun e w' => e = .returned (.tuple #[.int .u64 0, .int .u32 0, .int .u64 0]) ∧ w = w' := by
  go_enter Try.func23, Try.ntmps23
  go_wp2
  exact bodyPost_ret (v := .tuple #[.int .u64 0, .int .u32 0, .int .u64 0]) (by simp [results, Try.results23, go_sem]) rfl ⟨rfl, rfl⟩
/-- Flush -/
theorem flush_tree {w : World} {g : Nat} {M : Mch} (hM : MaP w g M) (h8 : M.ps.length ≤ 8) :
    Calls Try.prog 16 #[.pointer (some ⟨g, 0, none⟩)] w fun e w' => e = .returned (.int .u8 (flN M.fl : Nat)) ∧ MaP w' g { M with fl := M.fl.map fun _ => false } ∧ Chg (· = g) w w' := by
  have c135 := (hM.hd h8).c135
  have f135 := hM.fz 135
  have hz : ∀ l : List Bool, flN (l.map fun _ => false) = 0 := by
    intro l
    induction l with
    | nil => rfl
    | cons b l ih => simp [flN, ih]
  have HP := Lib.hid (hM.putT h8 5 (.int .u8 0) { M with fl := M.fl.map fun _ => false } rfl rfl (by simp [hz]))
  have HC := Lib.hid ((Chg.refl (· = g) w).setCell (p := ⟨g, 135, none⟩) (.inr rfl) (.int .u8 0))
  clear hM h8 hz
  go_enter Try.func16, Try.ntmps16
  go_wp2
  go_ret
  exact ⟨rfl, HP.out, HC.out⟩
theorem flush_nil {w : World} : Calls Try.prog 16 #[.pointer none] w fun e w' => e = .returned (.int .u8 0) ∧ w = w' := by
  go_enter Try.func16, Try.ntmps16
  go_wp2
  go_ret
  exact ⟨rfl, rfl⟩
theorem less_any {w : World} {g k : Nat} {n : Int} (h0 : 0 ≤ n) (h1 : n ≤ 1000) (hc : w.cell? ⟨g, k, none⟩ = some (.int .i64 n)) (hf : w.frozen? ⟨g, k, none⟩ = false) :
    Calls Try.prog 38 #[.pointer (some ⟨g, k, none⟩)] w fun e w' => e = .returned (.tuple #[]) ∧ w' = w.setCell ⟨g, k, none⟩ (.int .i64 (max 0 (n - 1))) := by
  go_enter Try.func38, Try.ntmps38
  by_cases h : 1 < n
  · have e : max 0 (n - 1) = n - 1 := by omega
    rw [e]
    clear e
    go_wp2
    all_goals (first | omega | (go_end0; exact ⟨rfl, rfl⟩))
  · have e : max 0 (n - 1) = 0 := by omega
    rw [e]
    clear e
    go_wp2
    all_goals (first | omega | (go_end0; exact ⟨rfl, rfl⟩))

theorem tfar_la {w : World} {g o : Nat} {p : Sd} {id : Int} (S : SdC w g o p) (hl : (p.la == 0) = true) :
    Calls Try.prog 55 #[.pointer (some ⟨g, o, none⟩), .int .u64 id] w fun e w' => e = .returned (.tuple #[.agg #[.int .u64 0, .int .u32 0, .int .u64 0, .int .u8 0], .bool false]) ∧ Below w.heap.size w w' := by
  obtain ⟨wa, hwa⟩ : ∃ wa, w.alloc (.cells #[.int .u64 0, .int .u32 0, .int .u64 0, .int .u8 0] 52) = wa := ⟨_, rfl⟩
  obtain ⟨b, hbb⟩ : ∃ b, w.heap.size = b := ⟨_, rfl⟩
  have HG : Hid (Below b w wa) := Lib.hid (by rw [← hwa, ← hbb]; exact (Below.refl _ w).alloc (Nat.le_refl _) _)
  have HB : Hid (Blk wa b 52 #[.int .u64 0, .int .u32 0, .int .u64 0, .int .u8 0]) := Lib.hid (by rw [← hwa, ← hbb]; exact Blk.new w _ _)
  have S2 := S.next (w' := wa) (by rw [← hwa]; exact (Below.refl _ w).alloc (Nat.le_refl _) _)
  have c13 := S2.c13
  have HW := Lib.hid hwa
  have HBB := Lib.hid hbb
  clear S S2 hwa hbb
  go_enter Try.func55, Try.ntmps55
  go_upto_region 1 with fail
  rw [HW.out, HBB.out]
  clear HW
  have f0 := Blk.frozen HB.out
  go_wp2_with (refine wpList_store_row rfl 52 (.tmp 4) (.tmp 38) rfl b rfl #[.int .u64 0, .int .u32 0, .int .u64 0, .int .u8 0] rfl 52 _ HB.out (by kernel_rfl) rfl (by kernel_rfl) ?_)
  exact bodyPost_ret (v := .tuple #[.agg #[.int .u64 0, .int .u32 0, .int .u64 0, .int .u8 0], .bool false]) (results_cell_slot (p := 4) (q := 5) (by kernel_rfl) _ _ b 52 _ _ rfl (Blk.row HB.out _) Try.underlying52 rfl (by kernel_rfl) _ rfl) rfl ⟨rfl, by rw [HBB.out]; exact below_row HG.out (Nat.le_refl _) _⟩

theorem tfar_role {w : World} {g o : Nat} {p : Sd} {id : Int} (S : SdC w g o p) (hl : (p.la == 0) = false) (hr : (p.b.role == 2) = false) (hrx : (p.b.role != 2) = true) :
    Calls Try.prog 55 #[.pointer (some ⟨g, o, none⟩), .int .u64 id] w fun e w' => e = .returned (.tuple #[.agg #[.int .u64 0, .int .u32 0, .int .u64 0, .int .u8 0], .bool false]) ∧ Below w.heap.size w w' := by
  obtain ⟨wa, hwa⟩ : ∃ wa, w.alloc (.cells #[.int .u64 0, .int .u32 0, .int .u64 0, .int .u8 0] 52) = wa := ⟨_, rfl⟩
  obtain ⟨b, hbb⟩ : ∃ b, w.heap.size = b := ⟨_, rfl⟩
  have HG : Hid (Below b w wa) := Lib.hid (by rw [← hwa, ← hbb]; exact (Below.refl _ w).alloc (Nat.le_refl _) _)
  have HB : Hid (Blk wa b 52 #[.int .u64 0, .int .u32 0, .int .u64 0, .int .u8 0]) := Lib.hid (by rw [← hwa, ← hbb]; exact Blk.new w _ _)
  have S2 := S.next (w' := wa) (by rw [← hwa]; exact (Below.refl _ w).alloc (Nat.le_refl _) _)
  have c13 := S2.c13
  have c8 := S2.c8
  have HW := Lib.hid hwa
  have HBB := Lib.hid hbb
  clear S S2 hwa hbb
  go_enter Try.func55, Try.ntmps55
  go_upto_region 1 with fail
  rw [HW.out, HBB.out]
  clear HW
  have f0 := Blk.frozen HB.out
  go_wp2_with (refine wpList_store_row rfl 52 (.tmp 4) (.tmp 38) rfl b rfl #[.int .u64 0, .int .u32 0, .int .u64 0, .int .u8 0] rfl 52 _ HB.out (by kernel_rfl) rfl (by kernel_rfl) ?_)
  exact bodyPost_ret (v := .tuple #[.agg #[.int .u64 0, .int .u32 0, .int .u64 0, .int .u8 0], .bool false]) (results_cell_slot (p := 4) (q := 5) (by kernel_rfl) _ _ b 52 _ _ rfl (Blk.row HB.out _) Try.underlying52 rfl (by kernel_rfl) _ rfl) rfl ⟨rfl, by rw [HBB.out]; exact below_row HG.out (Nat.le_refl _) _⟩

theorem tfar_id {w : World} {g o : Nat} {p : Sd} {id : Int} (S : SdC w g o p) (hl : (p.la == 0) = false) (hr : (p.b.role == 2) = true) (hrx : (p.b.role != 2) = false) (hb : (p.b.v.b == id) = true) :
    Calls Try.prog 55 #[.pointer (some ⟨g, o, none⟩), .int .u64 id] w fun e w' => e = .returned (.tuple #[.agg #[.int .u64 0, .int .u32 0, .int .u64 0, .int .u8 0], .bool false]) ∧ Below w.heap.size w w' := by
  obtain ⟨wa, hwa⟩ : ∃ wa, w.alloc (.cells #[.int .u64 0, .int .u32 0, .int .u64 0, .int .u8 0] 52) = wa := ⟨_, rfl⟩
  obtain ⟨b, hbb⟩ : ∃ b, w.heap.size = b := ⟨_, rfl⟩
  have HG : Hid (Below b w wa) := Lib.hid (by rw [← hwa, ← hbb]; exact (Below.refl _ w).alloc (Nat.le_refl _) _)
  have HB : Hid (Blk wa b 52 #[.int .u64 0, .int .u32 0, .int .u64 0, .int .u8 0]) := Lib.hid (by rw [← hwa, ← hbb]; exact Blk.new w _ _)
  have S2 := S.next (w' := wa) (by rw [← hwa]; exact (Below.refl _ w).alloc (Nat.le_refl _) _)
  have c13 := S2.c13
  have c8 := S2.c8
  have c4 := S2.c4
  have HW := Lib.hid hwa
  have HBB := Lib.hid hbb
  clear S S2 hwa hbb
  go_enter Try.func55, Try.ntmps55
  go_upto_region 1 with fail
  rw [HW.out, HBB.out]
  clear HW
  have f0 := Blk.frozen HB.out
  go_wp2_with (refine wpList_store_row rfl 52 (.tmp 4) (.tmp 38) rfl b rfl #[.int .u64 0, .int .u32 0, .int .u64 0, .int .u8 0] rfl 52 _ HB.out (by kernel_rfl) rfl (by kernel_rfl) ?_)
  exact bodyPost_ret (v := .tuple #[.agg #[.int .u64 0, .int .u32 0, .int .u64 0, .int .u8 0], .bool false]) (results_cell_slot (p := 4) (q := 5) (by kernel_rfl) _ _ b 52 _ _ rfl (Blk.row HB.out _) Try.underlying52 rfl (by kernel_rfl) _ rfl) rfl ⟨rfl, by rw [HBB.out]; exact below_row HG.out (Nat.le_refl _) _⟩

theorem tfar_hops {w : World} {g o : Nat} {p : Sd} {id : Int} (S : SdC w g o p) (hl : (p.la == 0) = false) (hr : (p.b.role == 2) = true) (hrx : (p.b.role != 2) = false) (hb : (p.b.v.b == id) = false) (hh : decide (20 ≤ p.b.h) = true) :
    Calls Try.prog 55 #[.pointer (some ⟨g, o, none⟩), .int .u64 id] w fun e w' => e = .returned (.tuple #[.agg #[.int .u64 0, .int .u32 0, .int .u64 0, .int .u8 0], .bool false]) ∧ Below w.heap.size w w' := by
  obtain ⟨wa, hwa⟩ : ∃ wa, w.alloc (.cells #[.int .u64 0, .int .u32 0, .int .u64 0, .int .u8 0] 52) = wa := ⟨_, rfl⟩
  obtain ⟨b, hbb⟩ : ∃ b, w.heap.size = b := ⟨_, rfl⟩
  have HG : Hid (Below b w wa) := Lib.hid (by rw [← hwa, ← hbb]; exact (Below.refl _ w).alloc (Nat.le_refl _) _)
  have HB : Hid (Blk wa b 52 #[.int .u64 0, .int .u32 0, .int .u64 0, .int .u8 0]) := Lib.hid (by rw [← hwa, ← hbb]; exact Blk.new w _ _)
  have S2 := S.next (w' := wa) (by rw [← hwa]; exact (Below.refl _ w).alloc (Nat.le_refl _) _)
  have c13 := S2.c13
  have c8 := S2.c8
  have c4 := S2.c4
  have c6 := S2.c6
  have HW := Lib.hid hwa
  have HBB := Lib.hid hbb
  clear S S2 hwa hbb
  go_enter Try.func55, Try.ntmps55
  go_upto_region 1 with fail
  rw [HW.out, HBB.out]
  clear HW
  have f0 := Blk.frozen HB.out
  go_wp2_with (refine wpList_store_row rfl 52 (.tmp 4) (.tmp 38) rfl b rfl #[.int .u64 0, .int .u32 0, .int .u64 0, .int .u8 0] rfl 52 _ HB.out (by kernel_rfl) rfl (by kernel_rfl) ?_)
  exact bodyPost_ret (v := .tuple #[.agg #[.int .u64 0, .int .u32 0, .int .u64 0, .int .u8 0], .bool false]) (results_cell_slot (p := 4) (q := 5) (by kernel_rfl) _ _ b 52 _ _ rfl (Blk.row HB.out _) Try.underlying52 rfl (by kernel_rfl) _ rfl) rfl ⟨rfl, by rw [HBB.out]; exact below_row HG.out (Nat.le_refl _) _⟩

set_option maxHeartbeats 2000000 in
theorem tfar_go {w : World} {g o : Nat} {p : Sd} {id : Int} (S : SdC w g o p) (hl : (p.la == 0) = false) (hr : (p.b.role == 2) = true) (hrx : (p.b.role != 2) = false) (hb : (p.b.v.b == id) = false) (hh : decide (20 ≤ p.b.h) = false)
    (h0 : 0 ≤ p.b.v.c) (h1 : p.b.v.c ≤ 4294967295) (h2 : 0 ≤ p.cost) (h3 : p.cost ≤ 4294967295) :
    Calls Try.prog 55 #[.pointer (some ⟨g, o, none⟩), .int .u64 id] w fun e w' => e = .returned (.tuple #[VV (farV p.b.v p.cost), .bool (farB p.b.v p.cost)]) ∧ Below w.heap.size w w' := by
  obtain ⟨y, hy⟩ : ∃ y, farV p.b.v p.cost = y := ⟨_, rfl⟩
  obtain ⟨q, hq⟩ : ∃ q, farB p.b.v p.cost = q := ⟨_, rfl⟩
  have kF := fun W => far_any W p.b.v p.cost h0 h1 h2 h3
  rw [hy, hq] at kF
  rw [hy, hq]
  obtain ⟨wa, hwa⟩ : ∃ wa, w.alloc (.cells #[.int .u64 0, .int .u32 0, .int .u64 0, .int .u8 0] 52) = wa := ⟨_, rfl⟩
  obtain ⟨b, hbb⟩ : ∃ b, w.heap.size = b := ⟨_, rfl⟩
  have HG : Hid (Below b w wa) := Lib.hid (by rw [← hwa, ← hbb]; exact (Below.refl _ w).alloc (Nat.le_refl _) _)
  have HB : Hid (Blk wa b 52 #[.int .u64 0, .int .u32 0, .int .u64 0, .int .u8 0]) := Lib.hid (by rw [← hwa, ← hbb]; exact Blk.new w _ _)
  have S2 := S.next (w' := wa) (by rw [← hwa]; exact (Below.refl _ w).alloc (Nat.le_refl _) _)
  have c0 := S2.c0
  have c2 := S2.c2
  have c3 := S2.c3
  have c4 := S2.c4
  have c5 := S2.c5
  have c6 := S2.c6
  have c8 := S2.c8
  have c13 := S2.c13
  have HW := Lib.hid hwa
  have HBB := Lib.hid hbb
  clear S S2 hwa hbb
  clear hy hq h0 h1 h2 h3
  go_enter Try.func55, Try.ntmps55
  go_upto_region 1 with fail
  rw [HW.out, HBB.out]
  clear HW
  go_wp2_with fail
  have HL : Hid (b < wa.heap.size) := Lib.hid HB.out.lt
  have HBd : Hid (Blk wa.drew b 52 #[.int .u64 0, .int .u32 0, .int .u64 0, .int .u8 0]) := HB
  go_region_with (first
    | (go_at_call 67; (with_reducible refine (kF _).mono ?_); rintro e w2 ⟨rfl, hbl⟩; have HG3 : Hid (Below b w w2) := Lib.hid (HG.out.drew.trans (hbl.mono (Nat.le_of_lt HL.out))); have HB3 : Hid (Blk w2 b 52 #[.int .u64 0, .int .u32 0, .int .u64 0, .int .u8 0]) := Lib.hid (Blk.below HBd.out hbl HL.out); have b0 := Blk.cell HB3.out 0; have b1 := Blk.cell HB3.out 1; have b2 := Blk.cell HB3.out 2; have b3 := Blk.cell HB3.out 3; have bf := Blk.frozen HB3.out; clear hbl)
    | fail "no")
  all_goals (
    clear b0 b1 b2 b3 bf
    have HR := Lib.hid (put4 HB3.out y)
    have HG4 := Lib.hid (below4 HG3.out b (Nat.le_refl _) y)
    go_wp2
    exact bodyPost_ret (v := .tuple #[VV y, .bool q]) (results_cell_slot (p := 4) (q := 5) (by kernel_rfl) _ _ b 52 _ _ rfl HR.out Try.underlying52 rfl (by kernel_rfl) _ rfl) rfl ⟨rfl, by rw [HBB.out]; exact HG4.out⟩)
/-- far -/
theorem tfar_any {w : World} {g o : Nat} {p : Sd} {id : Int} (S : SdC w g o p) (h0 : 0 ≤ p.b.v.c) (h1 : p.b.v.c ≤ 4294967295) (h2 : 0 ≤ p.cost) (h3 : p.cost ≤ 4294967295) :
    Calls Try.prog 55 #[.pointer (some ⟨g, o, none⟩), .int .u64 id] w fun e w' => e = .returned (.tuple #[VV (if p.okFar id = true then farV p.b.v p.cost else Ve.zero), .bool (p.okFar id)]) ∧ Below w.heap.size w w' := by
  cases hl : p.la == 0 with
  | true =>
    have e : p.okFar id = false := by unfold Sd.okFar; rw [hl]; simp
    rw [e]
    exact tfar_la S hl
  | false =>
    cases hr : p.b.role == 2 with
    | false =>
      have e : p.okFar id = false := by unfold Sd.okFar; rw [hl, hr]; simp
      rw [e]
      exact tfar_role S hl hr (by simp [bne, hr])
    | true =>
      cases hb : p.b.v.b == id with
      | true =>
        have e : p.okFar id = false := by unfold Sd.okFar; rw [hl, hr, hb]; simp
        rw [e]
        exact tfar_id S hl hr (by simp [bne, hr]) hb
      | false =>
        cases hh : decide (20 ≤ p.b.h) with
        | true =>
          have e : p.okFar id = false := by unfold Sd.okFar; rw [hl, hr, hb, hh]; simp
          rw [e]
          exact tfar_hops S hl hr (by simp [bne, hr]) hb hh
        | false =>
          have e : p.okFar id = farB p.b.v p.cost := by unfold Sd.okFar; rw [hl, hr, hb, hh]; simp
          rw [e]
          have e2 : (if farB p.b.v p.cost = true then farV p.b.v p.cost else Ve.zero) = farV p.b.v p.cost := by unfold farV; split <;> simp_all
          rw [e2]
          exact tfar_go S hl hr (by simp [bne, hr]) hb hh h0 h1 h2 h3
end Go.Proofs.Ytlpmilaofcakbaa
