/- api.Mac: arrays of six bytes; package mac's groups. -/
import Derived.Test.YtieopgmmjpmflaaOpen
import Derived.Stop.BytesEq
import Derived.BigQuiet
import Derived.Deep.DeepCutAuto
namespace Go.Proofs.Ytieopgmmjpmflaa
open Go.RowKit
set_option linter.unusedVariables false
set_option linter.unusedSimpArgs false
set_option maxRecDepth 100000

/-- an array of six bytes, as a value -/
abbrev MA (a b c d e f : UInt8) : Value := .agg #[.int .u8 a.toNat, .int .u8 b.toNat, .int .u8 c.toNat, .int .u8 d.toNat, .int .u8 e.toNat, .int .u8 f.toNat]
abbrev MZ : Value := .agg #[.int .u8 0, .int .u8 0, .int .u8 0, .int .u8 0, .int .u8 0, .int .u8 0]

theorem ma_eql (a b c d e f a' b' c' d' e' f' : UInt8) (w : World) :
    (binOp .eql 24 (MA a b c d e f) (MA a' b' c' d' e' f')).run Try.prog w = .ok (.bool ([a, b, c, d, e, f] == [a', b', c', d', e', f'])) w :=
  run_eql_bytes w 24 5 6 Try.underlying24 Try.underlying5 (fun w => by have := Try.sizeOf5; exact this w) [a, b, c, d, e, f] [a', b', c', d', e', f'] rfl rfl

theorem run_eq6 (a b c d e f a' b' c' d' e' f' : UInt8) (w : World) :
    (Op.equalIn 10000 24 (MA a b c d e f) (MA a' b' c' d' e' f')).run Try.prog w = .ok ([a, b, c, d, e, f] == [a', b', c', d', e', f']) w :=
  run_equalIn_bytes w 9998 24 5 6 Try.underlying24 Try.underlying5 (fun w => by have := Try.sizeOf5; exact this w) [a, b, c, d, e, f] [a', b', c', d', e', f'] rfl rfl
/-- two arrays held against each other, as the walk shows it -/
theorem run_eqN (a b c d e f y : UInt8) : ∀ w, (Op.equalIn 10000 24 (MA a b c d e f) (.agg #[.int .u8 1, .int .u8 128, .int .u8 194, .int .u8 0, .int .u8 0, .int .u8 y.toNat])).run Try.prog w = .ok ([a, b, c, d, e, f] == [1, 128, 194, 0, 0, y]) w :=
  fun w => run_eq6 a b c d e f 1 128 194 0 0 y w


/-- the last byte of the group of a level: of checks from 48 on, of traces from 56 on -/
def gby (b k : Nat) : UInt8 := UInt8.ofNat (b + k)
theorem gby_nat {b k : Nat} (h : b + k < 256) : (gby b k).toNat = b + k := by
  unfold gby
  simp
  omega

/-- a block that holds an array of six bytes -/
def Arr (w : World) (g : Nat) (a b c d e f : UInt8) : Prop := Blk w g 24 #[.int .u8 a.toNat, .int .u8 b.toNat, .int .u8 c.toNat, .int .u8 d.toNat, .int .u8 e.toNat, .int .u8 f.toNat]
theorem Arr.cells {w : World} {g : Nat} {a b c d e f : UInt8} (h : Arr w g a b c d e f) : w.cell? ⟨g, 0, none⟩ = some (.int .u8 a.toNat) ∧ w.cell? ⟨g, 1, none⟩ = some (.int .u8 b.toNat) ∧ w.cell? ⟨g, 2, none⟩ = some (.int .u8 c.toNat) ∧
    w.cell? ⟨g, 3, none⟩ = some (.int .u8 d.toNat) ∧ w.cell? ⟨g, 4, none⟩ = some (.int .u8 e.toNat) ∧ w.cell? ⟨g, 5, none⟩ = some (.int .u8 f.toNat) :=
  ⟨Blk.cell h 0, Blk.cell h 1, Blk.cell h 2, Blk.cell h 3, Blk.cell h 4, Blk.cell h 5⟩
theorem Arr.frozens {w : World} {g : Nat} {a b c d e f : UInt8} (h : Arr w g a b c d e f) : w.frozen? ⟨g, 0, none⟩ = false ∧ w.frozen? ⟨g, 1, none⟩ = false ∧ w.frozen? ⟨g, 2, none⟩ = false ∧
    w.frozen? ⟨g, 3, none⟩ = false ∧ w.frozen? ⟨g, 4, none⟩ = false ∧ w.frozen? ⟨g, 5, none⟩ = false :=
  ⟨Blk.frozen h 0, Blk.frozen h 1, Blk.frozen h 2, Blk.frozen h 3, Blk.frozen h 4, Blk.frozen h 5⟩
theorem Arr.below {w w' : World} {g B : Nat} {a b c d e f : UInt8} (h : Arr w g a b c d e f) (hb : Below B w w') (hg : g < B) : Arr w' g a b c d e f := Blk.below h hb hg
theorem Arr.zero (w : World) : Arr (w.alloc (.cells #[.int .u8 0, .int .u8 0, .int .u8 0, .int .u8 0, .int .u8 0, .int .u8 0] 24)) w.heap.size 0 0 0 0 0 0 := Blk.new w _ _
theorem Arr.new (w : World) (a b c d e f : UInt8) : Arr (w.alloc (.cells #[.int .u8 a.toNat, .int .u8 b.toNat, .int .u8 c.toNat, .int .u8 d.toNat, .int .u8 e.toNat, .int .u8 f.toNat] 24)) w.heap.size a b c d e f := Blk.new w _ _
theorem Arr.alloc {w : World} {g : Nat} {a b c d e f : UInt8} (h : Arr w g a b c d e f) (o : Obj) : Arr (w.alloc o) g a b c d e f := Blk.alloc h o
theorem Arr.next {w w' : World} {g : Nat} {a b c d e f : UInt8} (h : Arr w g a b c d e f) (hb : Below w.heap.size w w') : Arr w' g a b c d e f := Blk.below h hb (Blk.lt h)
theorem Arr.drew {w : World} {g : Nat} {a b c d e f : UInt8} (h : Arr w g a b c d e f) : Arr w.drew g a b c d e f := h
theorem Arr.drewN {w : World} {g : Nat} {a b c d e f : UInt8} (h : Arr w g a b c d e f) (n : Nat) : Arr (w.drewN n) g a b c d e f := h
theorem Arr.lt {w : World} {g : Nat} {a b c d e f : UInt8} (h : Arr w g a b c d e f) : g < w.heap.size := Blk.lt h

theorem put6_below {B : Nat} {w w' : World} {g : Nat} (h : Below B w w') (hg : B ≤ g) (v0 v1 v2 v3 v4 v5 : Value) :
    Below B w ((((((w'.setCell ⟨g, 0, none⟩ v0).setCell ⟨g, 1, none⟩ v1).setCell ⟨g, 2, none⟩ v2).setCell ⟨g, 3, none⟩ v3).setCell ⟨g, 4, none⟩ v4).setCell ⟨g, 5, none⟩ v5) :=
  (((((h.setCell hg _).setCell hg _).setCell hg _).setCell hg _).setCell hg _).setCell hg _
theorem put6_arr {w : World} {g : Nat} {a b c d e f : UInt8} (h : Arr w g a b c d e f) (a' b' c' d' e' f' : UInt8) :
    Arr ((((((w.setCell ⟨g, 0, none⟩ (.int .u8 a'.toNat)).setCell ⟨g, 1, none⟩ (.int .u8 b'.toNat)).setCell ⟨g, 2, none⟩ (.int .u8 c'.toNat)).setCell ⟨g, 3, none⟩ (.int .u8 d'.toNat)).setCell ⟨g, 4, none⟩ (.int .u8 e'.toNat)).setCell ⟨g, 5, none⟩ (.int .u8 f'.toNat)) g a' b' c' d' e' f' := by
  have := Blk.put (Blk.put (Blk.put (Blk.put (Blk.put (Blk.put h 0 (.int .u8 a'.toNat)) 1 (.int .u8 b'.toNat)) 2 (.int .u8 c'.toNat)) 3 (.int .u8 d'.toNat)) 4 (.int .u8 e'.toNat)) 5 (.int .u8 f'.toNat)
  simpa [Arr] using this






/-- whether an address is a group's -/
theorem and_one (a : UInt8) : bits BinOp.and IntKind.u8 (a.toNat : Int) 1 = ((a.toNat % 2 : Nat) : Int) := by
  have h : ∀ n : Fin 256, bits BinOp.and IntKind.u8 ((n.val : Nat) : Int) 1 = ((n.val % 2 : Nat) : Int) := by decide +kernel
  exact h ⟨a.toNat, a.toNat_lt⟩

/-- whether an address is one of the two groups of a level -/
def hitb (l : List UInt8) (k : Nat) : Bool := l == [1, 128, 194, 0, 0, gby 48 k] || l == [1, 128, 194, 0, 0, gby 56 k]
/-- the level of whose groups an address is one -/
def lvl (l : List UInt8) : Option Nat := (List.range 8).find? (hitb l)
theorem lvl_hit {l : List UInt8} {k : Nat} (hk : k < 8) (hb : ∀ j, j < k → hitb l j = false) (h : hitb l k = true) : lvl l = some k := by
  unfold lvl
  rw [List.find?_eq_some_iff_getElem]
  refine ⟨h, k, by simpa using hk, by simp, fun j hj => ?_⟩
  simp [hb j hj]
theorem lvl_none {l : List UInt8} (hb : ∀ j, j < 8 → hitb l j = false) : lvl l = none := by
  unfold lvl
  rw [List.find?_eq_none]
  intro j hj
  simp [hb j (by simpa using hj)]
theorem no_step {p : Nat → Bool} {k : Nat} (h : Hid (∀ j, j < k → p j = false)) (hk : p k = false) : Hid (∀ j, j < k + 1 → p j = false) := Lib.hid (fun j hj => by
  rcases Nat.lt_succ_iff_lt_or_eq.1 hj with h1 | h1
  · exact h.out j h1
  · subst h1; exact hk)
/-- what Level answers -/
def lvlV (l : List UInt8) : Value := match lvl l with
  | some k => .tuple #[.int .u8 k, .bool true]
  | none => .tuple #[.int .u8 0, .bool false]


/-- whether an address is reserved -/
def rsv (a b c d e f : UInt8) : Bool := decide (f.toNat ≤ 15) && [a, b, c, d, e, f] == [1, 128, 194, 0, 0, f]

end Go.Proofs.Ytieopgmmjpmflaa
