/- comparePaths; slices.MinFunc at paths; Least. -/
import Derived.Test.YtlpmilaofcakbaaFar
import Derived.Test.YtlpmilaofcakbaaOpenS
namespace Go.Proofs.Ytlpmilaofcakbaa
open Go.RowKit
set_option linter.unusedVariables false
set_option linter.unusedSimpArgs false
set_option maxRecDepth 100000

/-- a block that holds a path -/
def PA (w : World) (g : Nat) (x : Pa) : Prop := Blk w g 124 #[.int .u64 x.v.r, .int .u32 x.v.c, .int .u64 x.v.b, .int .u8 x.v.p, .int .u8 x.i]
structure PC (w : World) (g : Nat) (x : Pa) : Prop where
  c0 : w.cell? ⟨g, 0, none⟩ = some (.int .u64 x.v.r)
  c1 : w.cell? ⟨g, 1, none⟩ = some (.int .u32 x.v.c)
  c2 : w.cell? ⟨g, 2, none⟩ = some (.int .u64 x.v.b)
  c3 : w.cell? ⟨g, 3, none⟩ = some (.int .u8 x.v.p)
  c4 : w.cell? ⟨g, 4, none⟩ = some (.int .u8 x.i)
theorem PA.cells {w : World} {g : Nat} {x : Pa} (h : PA w g x) : PC w g x := ⟨Blk.cell h 0, Blk.cell h 1, Blk.cell h 2, Blk.cell h 3, Blk.cell h 4⟩
theorem PA.new (w : World) (x : Pa) : PA (w.alloc (.cells #[.int .u64 x.v.r, .int .u32 x.v.c, .int .u64 x.v.b, .int .u8 x.v.p, .int .u8 x.i] 124)) w.heap.size x := Blk.new w _ _
theorem PA.lt {w : World} {g : Nat} {x : Pa} (h : PA w g x) : g < w.heap.size := Blk.lt h
theorem PA.gro {w w' : World} {g : Nat} {x : Pa} (h : PA w g x) (hg : Gro w w') : PA w' g x := hg.blk h
theorem PA.next {w w' : World} {g : Nat} {x : Pa} (h : PA w g x) (hb : Below w.heap.size w w') : PA w' g x := Blk.below h hb (Blk.lt h)
theorem PA.alloc {w : World} {g : Nat} {x : Pa} (h : PA w g x) (o : Obj) : PA (w.alloc o) g x := Blk.alloc h o

set_option maxHeartbeats 1000000 in
theorem compareP_any (w : World) (x y : Pa) : Calls Try.prog 69 #[PV x, PV y] w fun e w' => e = .returned (.int .i64 (cmpP x y)) ∧ Gro w w' := by
  by_cases hv : x.v = y.v
  · have E : Hid (cmpI x.i y.i = cmpP x y) := Lib.hid (by simp [cmpP, hv])
    have heq : ∀ w, (Op.equalIn 10000 52 (VV x.v) (VV y.v)).run Try.prog w = .ok true w := fun w => by rw [run_eqV]; simp [hv]
    clear hv
    go_enter Try.func69, Try.ntmps69
    go_wp2_with fail
    refine (cmp8_any _ x.i y.i).mono ?_
    rintro e w' ⟨rfl, rfl⟩
    go_wp2
    go_ret
    exact ⟨ret_i64 E.out, ((Gro.refl w).alloc _).alloc _⟩
  · have E : Hid (cmpV x.v y.v = cmpP x y) := Lib.hid (by simp [cmpP, hv])
    have heq : ∀ w, (Op.equalIn 10000 52 (VV x.v) (VV y.v)).run Try.prog w = .ok false w := fun w => by rw [run_eqV]; simp [hv]
    clear hv
    go_enter Try.func69, Try.ntmps69
    go_wp2_with fail
    refine (compare_any _ x.v y.v).mono ?_
    rintro e w' ⟨rfl, hg⟩
    go_wp2
    go_ret
    exact ⟨ret_i64 E.out, Gro.trans (((Gro.refl w).alloc _).alloc _) hg⟩

def stepP (m x : Pa) : Pa := if cmpP x m < 0 then x else m
def Pa.zero : Pa := ⟨Ve.zero, 0⟩
/-- the least path -/
def minP : List Pa → Pa
  | [] => Pa.zero
  | x :: l => l.foldl stepP x
theorem minP_take {l : List Pa} {k : Nat} (h1 : 1 ≤ k) (hk : k < l.length) : minP (l.take (k + 1)) = stepP (minP (l.take k)) l[k] := by
  rw [List.take_succ_eq_append_getElem hk]
  cases l with
  | nil => simp at hk
  | cons x l =>
    obtain ⟨j, rfl⟩ : ∃ j, k = j + 1 := ⟨k - 1, by omega⟩
    simp only [List.take_succ_cons, List.cons_append, minP, List.foldl_append, List.foldl_cons, List.foldl_nil]
theorem minP_one {l : List Pa} (h : 0 < l.length) : minP (l.take 1) = l[0] := by
  cases l with
  | nil => simp at h
  | cons x l => simp [minP]

theorem pcells {w : World} {b off : Nat} {l : List Pa} (hc : ∀ i (h : i < l.length) j v, (encP l[i])[j]? = some v → w.cell? ⟨b, off + i * 5 + j, none⟩ = some v) (i : Nat) (hi : i < l.length) (x : Pa) (hx : l[i] = x) :
    w.cell? ⟨b, off + i * 5, none⟩ = some (.int .u64 x.v.r) ∧ w.cell? ⟨b, off + i * 5 + 1, none⟩ = some (.int .u32 x.v.c) ∧ w.cell? ⟨b, off + i * 5 + 2, none⟩ = some (.int .u64 x.v.b) ∧ w.cell? ⟨b, off + i * 5 + 3, none⟩ = some (.int .u8 x.v.p) ∧ w.cell? ⟨b, off + i * 5 + 4, none⟩ = some (.int .u8 x.i) := by
  subst hx
  exact ⟨hc i hi 0 _ rfl, hc i hi 1 _ rfl, hc i hi 2 _ rfl, hc i hi 3 _ rfl, hc i hi 4 _ rfl⟩
set_option maxRecDepth 100000 in
set_option maxHeartbeats 2000000 in
theorem minfunc_any (w : World) (b off c : Nat) (l : List Pa) (h0 : 0 < l.length) (hl : l.length < 4611686018427387904) (hb : b < w.heap.size) (hc : ∀ i (h : i < l.length) j v, (encP l[i])[j]? = some v → w.cell? ⟨b, off + i * 5 + j, none⟩ = some v) :
    Calls Try.prog 68 #[.slice (some ⟨b, off, none⟩) l.length c, .func (.func 69) #[] #[]] w fun e w' => e = .returned (PV (minP l)) ∧ Below w.heap.size w w' := by
  obtain ⟨n, hn⟩ : ∃ n, l.length = n := ⟨_, rfl⟩
  have HN := Lib.hid hn
  have HC := Lib.hid hc
  rw [hn] at h0 hl
  rw [hn]
  obtain ⟨x0, hx0⟩ : ∃ x, l[0]'(by rw [hn]; exact h0) = x := ⟨_, rfl⟩
  have hp0 := pcells hc 0 (by rw [hn]; exact h0) x0 hx0
  have HX0 : Hid (x0 = minP (l.take 1)) := Lib.hid (by rw [minP_one (by rw [hn]; exact h0)]; exact hx0.symm)
  obtain ⟨c0, c1, c2, c3, c4⟩ := hp0
  simp only [Nat.zero_mul, Nat.add_zero] at c0 c1 c2 c3 c4
  have HB := Lib.hid hb
  clear hn hc hx0
  go_enter Try.func68, Try.ntmps68
  go_wp2
  go_loopw [6] (fun i wr => ∃ (k : Nat) (m : Pa), 1 ≤ k ∧ k ≤ n ∧ i = .int .i64 k ∧ Hid (m = minP (l.take k)) ∧ PA wr (w.heap.size + 1) m ∧ Blk wr w.heap.size 124 #[.int .u64 0, .int .u32 0, .int .u64 0, .int .u8 0, .int .u8 0] ∧ Below w.heap.size w wr) (fun i _ => n - (intOf i).toNat)
  case atStart =>
    refine ⟨1, x0, by omega, by omega, rfl, HX0, ?_, ?_, ?_⟩
    · have := PA.new (w.alloc (.cells #[.int .u64 0, .int .u32 0, .int .u64 0, .int .u8 0, .int .u8 0] 124)) x0
      simpa using this
    · exact Blk.alloc (Blk.new w _ _) _
    · exact (by repeat (first | exact Below.refl _ _ | (refine Below.drew ?_) | (refine Below.alloc ?_ (by simp; try omega) _) | (refine Below.setCell ?_ (by simp; try omega) _)))
  case round =>
    obtain ⟨k, m, hk1, hk, rfl, hm, hp, hz, hB⟩ := hrel
    by_cases hlt : k < n
    · have hlt' : k < l.length := by rw [HN.out]; exact hlt
      obtain ⟨x, hx⟩ : ∃ x, l[k] = x := ⟨_, rfl⟩
      have hB' := hB
      obtain ⟨x0, x1, x2, x3, x4⟩ := pcells (w := wr) (fun i h j v hv => (hB.cell (p := ⟨b, off + i * 5 + j, none⟩) HB.out).trans (HC.out i h j v hv)) k hlt' x hx
      obtain ⟨m0, m1, m2, m3, m4⟩ := hp.cells
      have HS : Hid (minP (l.take (k + 1)) = stepP m x) := Lib.hid (by rw [minP_take hk1 hlt', ← hm.out, hx])
      have hg1 := hp.lt
      have HP := Lib.hid hp
      have HZ := Lib.hid hz
      have HX := Lib.hid hx
      have HBel := Lib.hid hB
      clear hp hz hB hB' hm hx
      obtain ⟨q, hq⟩ : ∃ q, cmpP x m = q := ⟨_, rfl⟩
      have hcmp := fun W => compareP_any W x m
      rw [hq] at hcmp
      have HQ := Lib.hid hq
      clear hq
      go_wp2_with fail
      go_still_tail 6, (by kernel_rfl)
      change wpList _ _ _ _ _ wr.drew
      obtain ⟨wd, hwd⟩ : ∃ wd, wr.drew = wd := ⟨_, rfl⟩
      have HPd : Hid (PA wd (w.heap.size + 1) m) := by rw [← hwd]; exact HP
      have HZd : Hid (Blk wd w.heap.size 124 #[.int .u64 0, .int .u32 0, .int .u64 0, .int .u8 0, .int .u8 0]) := by rw [← hwd]; exact HZ
      have HBd : Hid (Below w.heap.size w wd) := by rw [← hwd]; exact Lib.hid HBel.out.drew
      rw [hwd]
      clear hwd x0 x1 x2 x3 x4 m0 m1 m2 m3 m4 HP HZ HBel hg1
      go_wp2_with fail
      refine (hcmp _).mono ?_
      rintro e w2 ⟨rfl, hg⟩
      have HP2 := Lib.hid (HPd.out.gro hg)
      have HZ2 := Lib.hid (Blk.below HZd.out hg.below HZd.out.lt)
      have hB2 : Below w.heap.size w w2 := HBd.out.trans (hg.below.mono HBd.out.size)
      obtain ⟨x0, x1, x2, x3, x4⟩ := pcells (w := w2) (fun i h j v hv => (hB2.cell (p := ⟨b, off + i * 5 + j, none⟩) HB.out).trans (HC.out i h j v hv)) k hlt' x HX.out
      obtain ⟨m0, m1, m2, m3, m4⟩ := HP2.out.cells
      have f0 := Blk.frozen HP2.out 0
      have f1 := Blk.frozen HP2.out 1
      have f2 := Blk.frozen HP2.out 2
      have f3 := Blk.frozen HP2.out 3
      have f4 := Blk.frozen HP2.out 4
      have HB2 := Lib.hid hB2
      clear hg hB2 HPd HZd HBd
      by_cases hlq : q < 0
      · have HE : Hid (x = minP (l.take (k + 1))) := Lib.hid (by rw [HS.out, stepP, HQ.out, if_pos hlq])
        have hd : decide (q < 0) = true := by simpa using hlq
        clear hlq
        go_wp2_with (refine wpList_store_row rfl 124 (.tmp 5) (.tmp 31) rfl (w.heap.size + 1) rfl #[.int .u64 x.v.r, .int .u32 x.v.c, .int .u64 x.v.b, .int .u8 x.v.p, .int .u8 x.i] rfl 124 _ HP2.out (by kernel_rfl) rfl (by kernel_rfl) ?_)
        go_roundw
        case rel => exact ⟨k + 1, x, by omega, by omega, by go_num, HE, Blk.row HP2.out _, Blk.rowFar HZ2.out (by omega) _, below_row HB2.out (by omega) _⟩
        case measure => simp [intOf]; omega
      · have HE : Hid (m = minP (l.take (k + 1))) := Lib.hid (by rw [HS.out, stepP, HQ.out, if_neg hlq])
        have hd : decide (q < 0) = false := by simpa using hlq
        clear hlq
        go_wp2
        go_roundw
        case rel => exact ⟨k + 1, m, by omega, by omega, by go_num, HE, HP2.out, HZ2.out, HB2.out⟩
        case measure => simp [intOf]; omega
    · obtain rfl : k = n := by omega
      obtain ⟨m0, m1, m2, m3, m4⟩ := hp.cells
      have HZ := Lib.hid hz
      have HM : Hid (m = minP l) := Lib.hid (by rw [hm.out, ← HN.out, List.take_length])
      have HBel := Lib.hid hB
      have hzl := hz.lt
      clear hp hz hm hB
      go_wp2_with (refine wpList_store_row rfl 124 (.tmp 4) (.tmp 32) rfl w.heap.size rfl #[.int .u64 m.v.r, .int .u32 m.v.c, .int .u64 m.v.b, .int .u8 m.v.p, .int .u8 m.i] rfl 124 _ HZ.out (by kernel_rfl) rfl (by kernel_rfl) ?_)
      exact bodyPost_ret (v := PV m) (results_cell_row (p := 4) (by kernel_rfl) _ _ w.heap.size 124 _ (0, 0) _ rfl (Blk.row HZ.out _) Try.underlying124 rfl (by kernel_rfl)) rfl ⟨by rw [HM.out], below_row HBel.out (Nat.le_refl _) _⟩

theorem least_nil (w : World) (A : Option Addr) (c : Nat) : Calls Try.prog 56 #[.slice A 0 c] w fun e w' => e = .returned (.tuple #[PV Pa.zero, .bool false]) ∧ Below w.heap.size w w' := by
  go_enter Try.func56, Try.ntmps56
  go_wp2
  exact bodyPost_ret (v := .tuple #[PV Pa.zero, .bool false]) (by simp [results, Try.results56, go_sem]; exact ⟨rfl, rfl, rfl, rfl, rfl⟩) rfl ⟨rfl, (by repeat (first | exact Below.refl _ _ | (refine Below.drew ?_) | (refine Below.alloc ?_ (by simp; try omega) _) | (refine Below.setCell ?_ (by simp; try omega) _)))⟩
theorem least_some (w : World) (A : Option Addr) (c : Nat) (l : List Pa) (h0 : 0 < l.length) (hl : l.length < 4611686018427387904) (hE : Els 5 encP w A l) :
    Calls Try.prog 56 #[.slice A l.length c] w fun e w' => e = .returned (.tuple #[PV (minP l), .bool true]) ∧ Below w.heap.size w w' := by
  obtain ⟨b, off, rfl, hb, hc⟩ := hE h0
  have hcall := fun (W : World) (hW : Below w.heap.size w W) => minfunc_any W b off c l h0 hl (Nat.lt_of_lt_of_le hb hW.size) (fun i h j v hv => (hW.cell (p := ⟨b, off + i * 5 + j, none⟩) hb).trans (hc i h j v hv))
  have HC := Lib.hid hcall
  obtain ⟨n, hn⟩ : ∃ n, l.length = n := ⟨_, rfl⟩
  obtain ⟨m, hm⟩ : ∃ m, minP l = m := ⟨_, rfl⟩
  rw [hn, hm] at HC
  rw [hn, hm]
  rw [hn] at h0 hl
  have d0 : ((n : Int) == 0) = false := by simp; omega
  clear hcall hc hb hn hm
  go_enter Try.func56, Try.ntmps56
  go_wp2_with fail
  refine (HC.out _ ((Below.refl _ w).alloc (Nat.le_refl _) _)).mono ?_
  rintro e w2 ⟨rfl, hb⟩
  have hz := Lib.hid (Blk.below (Blk.new w 124 #[.int .u64 0, .int .u32 0, .int .u64 0, .int .u8 0, .int .u8 0]) hb (by simp))
  have hB : Hid (Below w.heap.size w w2) := Lib.hid (((Below.refl _ w).alloc (Nat.le_refl _) _).trans (hb.mono (by simp)))
  clear hb
  go_wp2_with (refine wpList_store_row rfl 124 (.tmp 2) (.tmp 9) rfl w.heap.size rfl #[.int .u64 m.v.r, .int .u32 m.v.c, .int .u64 m.v.b, .int .u8 m.v.p, .int .u8 m.i] rfl 124 _ hz.out (by kernel_rfl) rfl (by kernel_rfl) ?_)
  exact bodyPost_ret (v := .tuple #[PV m, .bool true]) (results_cell_slot (p := 2) (q := 3) (by kernel_rfl) _ _ w.heap.size 124 _ _ rfl (Blk.row hz.out _) Try.underlying124 rfl (by kernel_rfl) _ rfl) rfl ⟨rfl, below_row hB.out (Nat.le_refl _) _⟩
/-- Least: the least path of a row, and whether there is one -/
theorem least_any (w : World) (A : Option Addr) (c : Nat) (l : List Pa) (hl : l.length < 4611686018427387904) (hE : Els 5 encP w A l) :
    Calls Try.prog 56 #[.slice A l.length c] w fun e w' => e = .returned (.tuple #[PV (minP l), .bool (!l.isEmpty)]) ∧ Below w.heap.size w w' := by
  cases l with
  | nil => exact least_nil w A c
  | cons x l => exact least_some w A c (x :: l) (by simp) hl hE
end Go.Proofs.Ytlpmilaofcakbaa
