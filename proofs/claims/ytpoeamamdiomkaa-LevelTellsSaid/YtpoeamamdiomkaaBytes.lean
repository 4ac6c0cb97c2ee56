/- Slices of bytes: what they read as, those of a call's own, append of bytes; wire.Put. -/
import Derived.Test.YtpoeamamdiomkaaBase
import Derived.Test.YtpoeamamdiomkaaLeaf
import Derived.Maps.AppendAt
import Derived.Laws.AppendOwnNone
import Derived.OwnWalk
namespace Go.Proofs.Ytpoeamamdiomkaa
open Go.RowKit
set_option linter.unusedVariables false
set_option linter.unusedSimpArgs false
set_option maxRecDepth 100000

def bval (u : UInt8) : Value := .int .u8 u.toNat
def bvals (l : List UInt8) : List Value := l.map bval
theorem bvals_len (l : List UInt8) : (bvals l).length = l.length := by simp [bvals]
theorem bvals_app (l r : List UInt8) : bvals (l ++ r) = bvals l ++ bvals r := by simp [bvals]
theorem bvals_one (l : List UInt8) : ∀ u ∈ bvals l, u.oneCell' = true := by
  intro u hu
  obtain ⟨x, _, rfl⟩ := List.mem_map.1 hu
  rfl

/-- the slice at A reads as the bytes l -/
def Byt (w : World) (A : Option Addr) (l : List UInt8) : Prop :=
  0 < l.length → ∃ ad, A = some ad ∧ ∀ j u, (bvals l)[j]? = some u → w.cell? (ad.add j) = some u
theorem Byt.nil_ (w : World) (A : Option Addr) : Byt w A [] := fun h => absurd h (by simp)

/-- the slice v is the call's own, from block base on, and is the bytes l -/
def OwnB (w : World) (base : Nat) (v : Value) (l : List UInt8) : Prop := w.ownsRow base 5 1 v l.length (bvals l)

theorem u8_info : (Try.prog.info? 5).map (fun i => (i.zero, i.size, i.bytes)) = some (some (.int .u8 0), 1, 1) := by kernel_rfl

/-- a number's bytes, the highest first -/
def dig : Nat → Nat → List UInt8
  | 0, _ => []
  | k + 1, n => dig k (n / 256) ++ [UInt8.ofNat (n % 256)]
theorem dig_len (k n : Nat) : (dig k n).length = k := by
  induction k generalizing n with
  | zero => rfl
  | succ k ih => simp [dig, ih]

theorem Byt.below {w w' : World} {A : Option Addr} {l : List UInt8} (h : Byt w A l) (hb : Below w.heap.size w w') : Byt w' A l := by
  intro hl
  obtain ⟨ad, hA, hc⟩ := h hl
  refine ⟨ad, hA, fun j u hu => ?_⟩
  rw [hb.cell (World.block_lt_of_cell? w _ (hc j u hu))]
  exact hc j u hu

theorem Byt.one (w : World) (t : TypeId) (v : Value) (u : UInt8) (h : v = bval u) : Byt (w.alloc (.cells #[v] t)) (some ⟨w.heap.size, 0, none⟩) [u] := by
  subst h
  intro _
  refine ⟨_, rfl, fun j y hy => ?_⟩
  match j, hy with
  | 0, hy =>
    have := (Blk.new w t #[bval u]).cell 0
    simp only [bvals, List.map_cons, List.map_nil, List.getElem?_cons_zero] at hy
    rw [← hy]
    exact this
theorem OwnB.alloc {w : World} {base : Nat} {v : Value} {l : List UInt8} (h : OwnB w base v l) (o : Obj) : OwnB (w.alloc o) base v l := World.ownsRow.alloc h o
theorem OwnB.drewN {w : World} {base : Nat} {v : Value} {l : List UInt8} (h : OwnB w base v l) (n : Nat) : OwnB (w.drewN n) base v l := h
theorem OwnB.ge {w : World} {base : Nat} {v : Value} {l : List UInt8} (h : OwnB w base v l) : ∀ k, v.ownBlock = some k → base ≤ k := fun k hk => (World.ownsRow.lt h k hk).1

theorem shr_byte (x : Int) (h : 0 ≤ x) (j : Nat) : x / 2 ^ (8 * j) % 256 = ((UInt8.ofNat (x.toNat / 256 ^ j % 256)).toNat : Int) := by
  obtain ⟨n, rfl⟩ := Int.eq_ofNat_of_zero_le h
  rw [Int.toNat_natCast]
  have e : ((UInt8.ofNat (n / 256 ^ j % 256)).toNat : Nat) = n / 256 ^ j % 256 := by
    simp
  rw [e]
  have : (2 : Int) ^ (8 * j) = ((256 ^ j : Nat) : Int) := by rw [Int.pow_mul]; simp
  rw [this]
  omega
theorem byte_zero (x : Int) (h : 0 ≤ x) (h1 : x ≤ 255) : Value.int .u8 x = bval (UInt8.ofNat (x.toNat / 256 ^ (0 - 0) % 256)) := by
  have := shr_byte x h 0
  unfold bval
  rw [← this]
  simp only [Nat.mul_zero, Int.pow_zero, Int.ediv_one]
  rw [Int.emod_eq_of_lt h (by omega)]
theorem dig_succ (w k n : Nat) (h : k < w) : dig (k + 1) (n / 256 ^ (w - (k + 1))) = dig k (n / 256 ^ (w - k)) ++ [UInt8.ofNat (n / 256 ^ (w - 1 - k) % 256)] := by
  have e : w - k = (w - (k + 1)) + 1 := by omega
  have e' : w - 1 - k = w - (k + 1) := by omega
  rw [e', e, Nat.pow_succ, ← Nat.div_div_eq_div_mul]
  rfl





end Go.Proofs.Ytpoeamamdiomkaa
