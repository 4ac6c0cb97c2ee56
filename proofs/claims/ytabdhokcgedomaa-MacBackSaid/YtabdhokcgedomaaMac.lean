/- api.Mac: arrays of six bytes; package mac's groups. -/
import Derived.Test.YtabdhokcgedomaaOpen
import Derived.Stop.BytesEq
import Derived.BigQuiet
import Derived.Deep.DeepCutAuto
namespace Go.Proofs.Ytabdhokcgedomaa
open Go.RowKit
set_option linter.unusedVariables false
set_option linter.unusedSimpArgs false

/-- an array of six bytes, as a value -/
abbrev MA (a b c d e f : UInt8) : Value := .agg #[.int .u8 a.toNat, .int .u8 b.toNat, .int .u8 c.toNat, .int .u8 d.toNat, .int .u8 e.toNat, .int .u8 f.toNat]
abbrev MZ : Value := .agg #[.int .u8 0, .int .u8 0, .int .u8 0, .int .u8 0, .int .u8 0, .int .u8 0]

theorem ma_eql (a b c d e f a' b' c' d' e' f' : UInt8) (w : World) :
    (binOp .eql 23 (MA a b c d e f) (MA a' b' c' d' e' f')).run Try.prog w = .ok (.bool ([a, b, c, d, e, f] == [a', b', c', d', e', f'])) w :=
  run_eql_bytes w 23 5 6 Try.underlying23 Try.underlying5 (fun w => by have := Try.sizeOf5; exact this w) [a, b, c, d, e, f] [a', b', c', d', e', f'] rfl rfl

theorem run_eq6 (a b c d e f a' b' c' d' e' f' : UInt8) (w : World) :
    (Op.equalIn 10000 23 (MA a b c d e f) (MA a' b' c' d' e' f')).run Try.prog w = .ok ([a, b, c, d, e, f] == [a', b', c', d', e', f']) w :=
  run_equalIn_bytes w 9998 23 5 6 Try.underlying23 Try.underlying5 (fun w => by have := Try.sizeOf5; exact this w) [a, b, c, d, e, f] [a', b', c', d', e', f'] rfl rfl
/-- two arrays held against each other, as the walk shows it -/
theorem run_eqN (a b c d e f y : UInt8) : ∀ w, (Op.equalIn 10000 23 (MA a b c d e f) (.agg #[.int .u8 1, .int .u8 128, .int .u8 194, .int .u8 0, .int .u8 0, .int .u8 y.toNat])).run Try.prog w = .ok ([a, b, c, d, e, f] == [1, 128, 194, 0, 0, y]) w :=
  fun w => run_eq6 a b c d e f 1 128 194 0 0 y w

theorem near_any (w : World) (x : UInt8) :
    Calls Try.prog 27 #[.int .u8 x.toNat] w fun e w' => e = .returned (MA 1 128 194 0 0 x) ∧ Below w.heap.size w w' := by
  go_enter Try.func27, Try.ntmps27
  go_wp2
  exact bodyPost_ret (v := MA 1 128 194 0 0 x) (by simp [results, Try.results27, go_sem]) rfl ⟨rfl, (by repeat (first | exact Below.refl _ _ | (refine Below.drew ?_) | (refine Below.alloc ?_ (by simp; try omega) _) | (refine Below.setCell ?_ (by simp; try omega) _)))⟩

/-- the last byte of the group of a level: of checks from 48 on, of traces from 56 on -/
def gby (b k : Nat) : UInt8 := UInt8.ofNat (b + k)
theorem gby_nat {b k : Nat} (h : b + k < 256) : (gby b k).toNat = b + k := by
  unfold gby
  simp
  omega

/-- a block that holds an array of six bytes -/
def Arr (w : World) (g : Nat) (a b c d e f : UInt8) : Prop := Blk w g 23 #[.int .u8 a.toNat, .int .u8 b.toNat, .int .u8 c.toNat, .int .u8 d.toNat, .int .u8 e.toNat, .int .u8 f.toNat]
theorem Arr.cells {w : World} {g : Nat} {a b c d e f : UInt8} (h : Arr w g a b c d e f) : w.cell? ⟨g, 0, none⟩ = some (.int .u8 a.toNat) ∧ w.cell? ⟨g, 1, none⟩ = some (.int .u8 b.toNat) ∧ w.cell? ⟨g, 2, none⟩ = some (.int .u8 c.toNat) ∧
    w.cell? ⟨g, 3, none⟩ = some (.int .u8 d.toNat) ∧ w.cell? ⟨g, 4, none⟩ = some (.int .u8 e.toNat) ∧ w.cell? ⟨g, 5, none⟩ = some (.int .u8 f.toNat) :=
  ⟨Blk.cell h 0, Blk.cell h 1, Blk.cell h 2, Blk.cell h 3, Blk.cell h 4, Blk.cell h 5⟩
theorem Arr.frozens {w : World} {g : Nat} {a b c d e f : UInt8} (h : Arr w g a b c d e f) : w.frozen? ⟨g, 0, none⟩ = false ∧ w.frozen? ⟨g, 1, none⟩ = false ∧ w.frozen? ⟨g, 2, none⟩ = false ∧
    w.frozen? ⟨g, 3, none⟩ = false ∧ w.frozen? ⟨g, 4, none⟩ = false ∧ w.frozen? ⟨g, 5, none⟩ = false :=
  ⟨Blk.frozen h 0, Blk.frozen h 1, Blk.frozen h 2, Blk.frozen h 3, Blk.frozen h 4, Blk.frozen h 5⟩
theorem Arr.below {w w' : World} {g B : Nat} {a b c d e f : UInt8} (h : Arr w g a b c d e f) (hb : Below B w w') (hg : g < B) : Arr w' g a b c d e f := Blk.below h hb hg
theorem Arr.zero (w : World) : Arr (w.alloc (.cells #[.int .u8 0, .int .u8 0, .int .u8 0, .int .u8 0, .int .u8 0, .int .u8 0] 23)) w.heap.size 0 0 0 0 0 0 := Blk.new w _ _
theorem Arr.new (w : World) (a b c d e f : UInt8) : Arr (w.alloc (.cells #[.int .u8 a.toNat, .int .u8 b.toNat, .int .u8 c.toNat, .int .u8 d.toNat, .int .u8 e.toNat, .int .u8 f.toNat] 23)) w.heap.size a b c d e f := Blk.new w _ _
theorem Arr.alloc {w : World} {g : Nat} {a b c d e f : UInt8} (h : Arr w g a b c d e f) (o : Obj) : Arr (w.alloc o) g a b c d e f := Blk.alloc h o
theorem Arr.next {w w' : World} {g : Nat} {a b c d e f : UInt8} (h : Arr w g a b c d e f) (hb : Below w.heap.size w w') : Arr w' g a b c d e f := Blk.below h hb (Blk.lt h)
theorem Arr.drew {w : World} {g : Nat} {a b c d e f : UInt8} (h : Arr w g a b c d e f) : Arr w.drew g a b c d e f := h
theorem Arr.drewN {w : World} {g : Nat} {a b c d e f : UInt8} (h : Arr w g a b c d e f) (n : Nat) : Arr (w.drewN n) g a b c d e f := h
theorem Arr.lt {w : World} {g : Nat} {a b c d e f : UInt8} (h : Arr w g a b c d e f) : g < w.heap.size := Blk.lt h

theorem put6_below {B : Nat} {w w' : World} {g : Nat} (h : Below B w w') (hg : B ≤ g) (v0 v1 v2 v3 v4 v5 : Value) :
    Below B w ((((((w'.setCell ⟨g, 0, none⟩ v0).setCell ⟨g, 1, none⟩ v1).setCell ⟨g, 2, none⟩ v2).setCell ⟨g, 3, none⟩ v3).setCell ⟨g, 4, none⟩ v4).setCell ⟨g, 5, none⟩ v5) :=
  (((((h.setCell hg _).setCell hg _).setCell hg _).setCell hg _).setCell hg _).setCell hg _
theorem put6_arr {w : World} {g : Nat} {a b c d e f : UInt8} (h : Arr w g a b c d e f) (a' b' c' d' e' f' : UInt8) :
    Arr ((((((w.setCell ⟨g, 0, none⟩ (.int .u8 a'.toNat)).setCell ⟨g, 1, none⟩ (.int .u8 b'.toNat)).setCell ⟨g, 2, none⟩ (.int .u8 c'.toNat)).setCell ⟨g, 3, none⟩ (.int .u8 d'.toNat)).setCell ⟨g, 4, none⟩ (.int .u8 e'.toNat)).setCell ⟨g, 5, none⟩ (.int .u8 f'.toNat)) g a' b' c' d' e' f' := by
  have := Blk.put (Blk.put (Blk.put (Blk.put (Blk.put (Blk.put h 0 (.int .u8 a'.toNat)) 1 (.int .u8 b'.toNat)) 2 (.int .u8 c'.toNat)) 3 (.int .u8 d'.toNat)) 4 (.int .u8 e'.toNat)) 5 (.int .u8 f'.toNat)
  simpa [Arr] using this

theorem group_in (w : World) (b k : Nat) (hk : k < 8) (hb : b < 100) :
    Calls Try.prog 31 #[.int .u8 b, .int .u8 k] w fun e w' => e = .returned (.tuple #[MA 1 128 194 0 0 (gby b k), .bool true]) ∧ Below w.heap.size w w' := by
  have hy := gby_nat (b := b) (k := k) (by omega)
  generalize gby b k = y at *
  have ey : (b : Int) + (k : Int) = (y.toNat : Int) := by omega
  have HE := Lib.hid ey
  clear hy ey
  go_enter Try.func31, Try.ntmps31
  go_wp2_with fail
  rw [HE.out]
  refine (near_any _ _).mono ?_
  rintro e w' ⟨rfl, hb⟩
  have ha : Arr w' w.heap.size 0 0 0 0 0 0 := (Arr.zero w).below hb (by simp)
  have hs := hb.size
  simp only [World.size_alloc] at hs
  obtain ⟨h0, h1, h2, h3, h4, h5⟩ := ha.cells
  obtain ⟨f0, f1, f2, f3, f4, f5⟩ := ha.frozens
  have HB : Below w.heap.size w w' := Below.trans ((Below.refl _ _).alloc (by simp) _) (hb.mono (by simp))
  clear ha hb
  go_wp2
  exact bodyPost_ret (v := .tuple #[MA 1 128 194 0 0 y, .bool true]) (by simp [results, Try.results31, go_sem, h0, h1, h2, h3, h4, h5]) rfl ⟨rfl, put6_below HB (Nat.le_refl _) _ _ _ _ _ _⟩

theorem group_out (w : World) (b k : Nat) (hk : 8 ≤ k) :
    Calls Try.prog 31 #[.int .u8 b, .int .u8 k] w fun e w' => e = .returned (.tuple #[MZ, .bool false]) ∧ Below w.heap.size w w' := by
  go_enter Try.func31, Try.ntmps31
  go_wp2_with fail
  exact bodyPost_ret (v := .tuple #[MZ, .bool false]) (by simp [results, Try.results31, go_sem]) rfl ⟨rfl, (by repeat (first | exact Below.refl _ _ | (refine Below.drew ?_) | (refine Below.alloc ?_ (by simp; try omega) _) | (refine Below.setCell ?_ (by simp; try omega) _)))⟩

theorem check_in (w : World) (k : Nat) (hk : k < 8) :
    Calls Try.prog 18 #[.int .u8 k] w fun e w' => e = .returned (.tuple #[MA 1 128 194 0 0 (gby 48 k), .bool true]) ∧ Below w.heap.size w w' := by
  go_enter Try.func18, Try.ntmps18
  go_wp2_with fail
  refine (group_in _ 48 k hk (by omega)).mono ?_
  rintro e w' ⟨rfl, hb⟩
  have ha : Arr w' w.heap.size 0 0 0 0 0 0 := (Arr.zero w).below hb (by simp)
  have hs := hb.size
  simp only [World.size_alloc] at hs
  obtain ⟨h0, h1, h2, h3, h4, h5⟩ := ha.cells
  obtain ⟨f0, f1, f2, f3, f4, f5⟩ := ha.frozens
  have HB : Below w.heap.size w w' := Below.trans ((Below.refl _ _).alloc (by simp) _) (hb.mono (by simp))
  clear ha hb
  go_wp2
  exact bodyPost_ret (v := .tuple #[MA 1 128 194 0 0 (gby 48 k), .bool true]) (by simp [results, Try.results18, go_sem, h0, h1, h2, h3, h4, h5]) rfl ⟨rfl, put6_below HB (Nat.le_refl _) _ _ _ _ _ _⟩

theorem check_out (w : World) (k : Nat) (hk : 8 ≤ k) :
    Calls Try.prog 18 #[.int .u8 k] w fun e w' => e = .returned (.tuple #[MZ, .bool false]) ∧ Below w.heap.size w w' := by
  go_enter Try.func18, Try.ntmps18
  go_wp2_with fail
  refine (group_out _ 48 k hk).mono ?_
  rintro e w' ⟨rfl, hb⟩
  have ha : Arr w' w.heap.size 0 0 0 0 0 0 := (Arr.zero w).below hb (by simp)
  have hs := hb.size
  simp only [World.size_alloc] at hs
  obtain ⟨h0, h1, h2, h3, h4, h5⟩ := ha.cells
  obtain ⟨f0, f1, f2, f3, f4, f5⟩ := ha.frozens
  have HB : Below w.heap.size w w' := Below.trans ((Below.refl _ _).alloc (by simp) _) (hb.mono (by simp))
  clear ha hb
  go_wp2
  exact bodyPost_ret (v := .tuple #[MZ, .bool false]) (by simp [results, Try.results18, go_sem, h0, h1, h2, h3, h4, h5]) rfl ⟨rfl, put6_below HB (Nat.le_refl _) _ _ _ _ _ _⟩

theorem trace_in (w : World) (k : Nat) (hk : k < 8) :
    Calls Try.prog 19 #[.int .u8 k] w fun e w' => e = .returned (.tuple #[MA 1 128 194 0 0 (gby 56 k), .bool true]) ∧ Below w.heap.size w w' := by
  go_enter Try.func19, Try.ntmps19
  go_wp2_with fail
  refine (group_in _ 56 k hk (by omega)).mono ?_
  rintro e w' ⟨rfl, hb⟩
  have ha : Arr w' w.heap.size 0 0 0 0 0 0 := (Arr.zero w).below hb (by simp)
  have hs := hb.size
  simp only [World.size_alloc] at hs
  obtain ⟨h0, h1, h2, h3, h4, h5⟩ := ha.cells
  obtain ⟨f0, f1, f2, f3, f4, f5⟩ := ha.frozens
  have HB : Below w.heap.size w w' := Below.trans ((Below.refl _ _).alloc (by simp) _) (hb.mono (by simp))
  clear ha hb
  go_wp2
  exact bodyPost_ret (v := .tuple #[MA 1 128 194 0 0 (gby 56 k), .bool true]) (by simp [results, Try.results19, go_sem, h0, h1, h2, h3, h4, h5]) rfl ⟨rfl, put6_below HB (Nat.le_refl _) _ _ _ _ _ _⟩

theorem trace_out (w : World) (k : Nat) (hk : 8 ≤ k) :
    Calls Try.prog 19 #[.int .u8 k] w fun e w' => e = .returned (.tuple #[MZ, .bool false]) ∧ Below w.heap.size w w' := by
  go_enter Try.func19, Try.ntmps19
  go_wp2_with fail
  refine (group_out _ 56 k hk).mono ?_
  rintro e w' ⟨rfl, hb⟩
  have ha : Arr w' w.heap.size 0 0 0 0 0 0 := (Arr.zero w).below hb (by simp)
  have hs := hb.size
  simp only [World.size_alloc] at hs
  obtain ⟨h0, h1, h2, h3, h4, h5⟩ := ha.cells
  obtain ⟨f0, f1, f2, f3, f4, f5⟩ := ha.frozens
  have HB : Below w.heap.size w w' := Below.trans ((Below.refl _ _).alloc (by simp) _) (hb.mono (by simp))
  clear ha hb
  go_wp2
  exact bodyPost_ret (v := .tuple #[MZ, .bool false]) (by simp [results, Try.results19, go_sem, h0, h1, h2, h3, h4, h5]) rfl ⟨rfl, put6_below HB (Nat.le_refl _) _ _ _ _ _ _⟩

theorem all_any (w : World) :
    Calls Try.prog 23 #[] w fun e w' => e = .returned (MA 255 255 255 255 255 255) ∧ Below w.heap.size w w' := by
  go_enter Try.func23, Try.ntmps23
  go_wp2
  exact bodyPost_ret (v := MA 255 255 255 255 255 255) (by simp [results, Try.results23, go_sem]) rfl ⟨rfl, (by repeat (first | exact Below.refl _ _ | (refine Below.drew ?_) | (refine Below.alloc ?_ (by simp; try omega) _) | (refine Below.setCell ?_ (by simp; try omega) _)))⟩

theorem own_any (w : World) :
    Calls Try.prog 24 #[] w fun e w' => e = .returned (MA 1 128 194 0 0 0) ∧ Below w.heap.size w w' := by
  go_enter Try.func24, Try.ntmps24
  go_wp2_with fail
  refine (near_any _ 0).mono ?_
  rintro e w' ⟨rfl, hb⟩
  have ha : Arr w' w.heap.size 0 0 0 0 0 0 := (Arr.zero w).below hb (by simp)
  have hs := hb.size
  simp only [World.size_alloc] at hs
  obtain ⟨h0, h1, h2, h3, h4, h5⟩ := ha.cells
  obtain ⟨f0, f1, f2, f3, f4, f5⟩ := ha.frozens
  have HB : Below w.heap.size w w' := Below.trans ((Below.refl _ _).alloc (by simp) _) (hb.mono (by simp))
  clear ha hb
  go_wp2
  exact bodyPost_ret (v := MA 1 128 194 0 0 0) (by simp [results, Try.results24, go_sem, h0, h1, h2, h3, h4, h5]) rfl ⟨rfl, put6_below HB (Nat.le_refl _) _ _ _ _ _ _⟩

/-- whether an address is a group's -/
theorem and_one (a : UInt8) : bits BinOp.and IntKind.u8 (a.toNat : Int) 1 = ((a.toNat % 2 : Nat) : Int) := by
  have h : ∀ n : Fin 256, bits BinOp.and IntKind.u8 ((n.val : Nat) : Int) 1 = ((n.val % 2 : Nat) : Int) := by decide +kernel
  exact h ⟨a.toNat, a.toNat_lt⟩
theorem isgroup_any (w : World) (a b c d e f : UInt8) :
    Calls Try.prog 10 #[MA a b c d e f] w fun r w' => r = .returned (.bool (a.toNat % 2 == 1)) ∧ Below w.heap.size w w' := by
  have ha := and_one a
  have hb : ((((a.toNat % 2 : Nat) : Int)) == 1) = (a.toNat % 2 == 1) := by rw [Bool.eq_iff_iff]; simp; omega
  have HA := Lib.hid ha
  have HB := Lib.hid hb
  clear ha hb
  go_enter Try.func10, Try.ntmps10
  go_wp2
  rw [HA.out, HB.out]
  exact bodyPost_ret (v := .bool (a.toNat % 2 == 1)) (by simp [results, Try.results10, go_sem]) rfl ⟨rfl, (by repeat (first | exact Below.refl _ _ | (refine Below.drew ?_) | (refine Below.alloc ?_ (by simp; try omega) _) | (refine Below.setCell ?_ (by simp; try omega) _)))⟩

/-- whether an address is one of the two groups of a level -/
def hitb (l : List UInt8) (k : Nat) : Bool := l == [1, 128, 194, 0, 0, gby 48 k] || l == [1, 128, 194, 0, 0, gby 56 k]
/-- the level of whose groups an address is one -/
def lvl (l : List UInt8) : Option Nat := (List.range 8).find? (hitb l)
theorem lvl_hit {l : List UInt8} {k : Nat} (hk : k < 8) (hb : ∀ j, j < k → hitb l j = false) (h : hitb l k = true) : lvl l = some k := by
  unfold lvl
  rw [List.find?_eq_some_iff_getElem]
  refine ⟨h, k, by simpa using hk, by simp, fun j hj => ?_⟩
  simp [hb j hj]
theorem lvl_none {l : List UInt8} (hb : ∀ j, j < 8 → hitb l j = false) : lvl l = none := by
  unfold lvl
  rw [List.find?_eq_none]
  intro j hj
  simp [hb j (by simpa using hj)]
theorem no_step {p : Nat → Bool} {k : Nat} (h : Hid (∀ j, j < k → p j = false)) (hk : p k = false) : Hid (∀ j, j < k + 1 → p j = false) := Lib.hid (fun j hj => by
  rcases Nat.lt_succ_iff_lt_or_eq.1 hj with h1 | h1
  · exact h.out j h1
  · subst h1; exact hk)
/-- what Level answers -/
def lvlV (l : List UInt8) : Value := match lvl l with
  | some k => .tuple #[.int .u8 k, .bool true]
  | none => .tuple #[.int .u8 0, .bool false]

set_option maxHeartbeats 1000000 in
theorem level_any (w : World) (a b c d e f : UInt8) :
    Calls Try.prog 8 #[MA a b c d e f] w fun r w' => r = .returned (lvlV [a, b, c, d, e, f]) ∧ Below w.heap.size w w' := by
  go_enter Try.func8, Try.ntmps8
  go_wp2
  go_loopw [9] (fun i wr => ∃ k : Nat, k ≤ 8 ∧ i = .int .u8 k ∧ Hid (∀ j, j < k → hitb [a, b, c, d, e, f] j = false) ∧ Below w.heap.size w wr ∧ Arr wr w.heap.size a b c d e f) (fun i _ => 8 - (intOf i).toNat)
  case atStart => exact ⟨0, by omega, rfl, Lib.hid (fun j hj => by omega), (Below.refl _ _).alloc (Nat.le_refl _) _, Arr.new _ _ _ _ _ _ _⟩
  case round =>
    obtain ⟨k, hk, rfl, hno, hb, ha⟩ := hrel
    by_cases hlt : k < 8
    · go_wp2_with fail
      refine (check_in _ k hlt).mono ?_
      rintro r w1 ⟨rfl, hb1⟩
      have ha1 : Arr w1 w.heap.size a b c d e f := ha.below hb1 ha.lt
      have HB1 : Below w.heap.size w w1 := hb.trans (hb1.mono hb.size)
      clear hb1 ha hb
      go_wp2_with fail
      refine (trace_in _ k hlt).mono ?_
      rintro r w2 ⟨rfl, hb2⟩
      have ha2 : Arr w2 w.heap.size a b c d e f := (ha1.below ((Below.refl w1.heap.size w1).alloc (Nat.le_refl _) _) ha1.lt).below hb2 (by simp; have := ha1.lt; omega)
      have hc2 : Arr w2 w1.heap.size 1 128 194 0 0 (gby 48 k) := (Arr.new w1 _ _ _ _ _ _).below hb2 (by simp)
      have HB2 : Below w.heap.size w w2 := (HB1.alloc HB1.size _).trans (hb2.mono (by simp; have := HB1.size; omega))
      have hl2 := ha2.lt
      have hl1 := hc2.lt
      obtain ⟨h0, h1, h2, h3, h4, h5⟩ := ha2.cells
      obtain ⟨c0, c1, c2, c3, c4, c5⟩ := hc2.cells
      have e1 := run_eqN a b c d e f (gby 48 k)
      have e2 := run_eqN a b c d e f (gby 56 k)
      generalize hq1 : ([a, b, c, d, e, f] == [1, 128, 194, 0, 0, gby 48 k]) = q1 at e1
      generalize hq2 : ([a, b, c, d, e, f] == [1, 128, 194, 0, 0, gby 56 k]) = q2 at e2
      have hh : Hid (hitb [a, b, c, d, e, f] k = (q1 || q2)) := Lib.hid (by unfold hitb; rw [hq1, hq2])
      have HA2 := Lib.hid ha2
      have HB2 := Lib.hid HB2
      clear hb2 ha1 HB1 hq1 hq2 hc2 ha2
      cases q1
      · cases q2
        · go_wp2
          go_roundw
          case rel => exact ⟨k + 1, by omega, by go_num, no_step hno hh.out, HB2.out.alloc HB2.out.size _, Arr.below HA2.out ((Below.refl w2.heap.size w2).alloc (Nat.le_refl _) _) HA2.out.lt⟩
          case measure => simp [intOf]; omega
        · go_wp2
          have hv : lvlV [a, b, c, d, e, f] = .tuple #[.int .u8 k, .bool true] := by unfold lvlV; rw [lvl_hit hlt hno.out hh.out]
          rw [hv]
          exact bodyPost_ret (v := .tuple #[.int .u8 k, .bool true]) (by simp [results, Try.results8, go_sem]) rfl ⟨rfl, HB2.out.alloc HB2.out.size _⟩
      · go_wp2
        have hv : lvlV [a, b, c, d, e, f] = .tuple #[.int .u8 k, .bool true] := by unfold lvlV; rw [lvl_hit hlt hno.out hh.out]
        rw [hv]
        exact bodyPost_ret (v := .tuple #[.int .u8 k, .bool true]) (by simp [results, Try.results8, go_sem]) rfl ⟨rfl, HB2.out.alloc HB2.out.size _⟩
    · go_wp2
      obtain rfl : k = 8 := by omega
      have hv : lvlV [a, b, c, d, e, f] = .tuple #[.int .u8 0, .bool false] := by unfold lvlV; rw [lvl_none hno.out]
      rw [hv]
      exact bodyPost_ret (v := .tuple #[.int .u8 0, .bool false]) (by simp [results, Try.results8, go_sem]) rfl ⟨rfl, hb⟩

/-- whether an address is reserved -/
def rsv (a b c d e f : UInt8) : Bool := decide (f.toNat ≤ 15) && [a, b, c, d, e, f] == [1, 128, 194, 0, 0, f]
set_option maxHeartbeats 1000000 in
theorem reserved_any (w : World) (a b c d e f : UInt8) :
    Calls Try.prog 11 #[MA a b c d e f] w fun r w' => r = .returned (.bool (rsv a b c d e f)) ∧ Below w.heap.size w w' := by
  have e1 := run_eqN a b c d e f f
  generalize hq1 : ([a, b, c, d, e, f] == [1, 128, 194, 0, 0, f]) = q1 at e1
  have ha : Arr (w.alloc (.cells #[.int .u8 a.toNat, .int .u8 b.toNat, .int .u8 c.toNat, .int .u8 d.toNat, .int .u8 e.toNat, .int .u8 f.toNat] 23)) w.heap.size a b c d e f := Arr.new w a b c d e f
  have HA := Lib.hid ha
  clear ha
  by_cases hf : f.toNat ≤ 15
  · have hr : rsv a b c d e f = q1 := by unfold rsv; rw [hq1]; simp [hf]
    have hd : decide ((f.toNat : Int) ≤ 15) = true := by simp; omega
    rw [hr]
    clear hr hq1
    go_enter Try.func11, Try.ntmps11
    go_wp2_with fail
    go_region_with (go_at_call 27; refine (near_any _ f).mono ?_; rintro r w1 ⟨rfl, hb1⟩; have ha1 := Arr.below HA.out.drew hb1 (by simp); obtain ⟨h0, h1, h2, h3, h4, h5⟩ := ha1.cells; have HB1 := Lib.hid hb1; clear hb1)
    all_goals (
      have HB2 : Below w.heap.size w w1 := (((Below.refl _ _).alloc (Nat.le_refl _) _).drew).trans (HB1.out.mono (by simp))
      clear HB1
      go_wp2
      exact bodyPost_ret (v := .bool q1) (by simp [results, Try.results11, go_sem]) rfl ⟨rfl, HB2⟩)
  · have hr : rsv a b c d e f = false := by unfold rsv; simp [hf]
    have hd : decide ((f.toNat : Int) ≤ 15) = false := by simp; omega
    rw [hr]
    clear hr hq1
    go_enter Try.func11, Try.ntmps11
    go_wp2_with fail
    go_region
    all_goals (
      go_wp2
      exact bodyPost_ret (v := .bool false) (by simp [results, Try.results11, go_sem]) rfl ⟨rfl, (by repeat (first | exact Below.refl _ _ | (refine Below.drew ?_) | (refine Below.alloc ?_ (by simp; try omega) _) | (refine Below.setCell ?_ (by simp; try omega) _)))⟩)

end Go.Proofs.Ytabdhokcgedomaa
