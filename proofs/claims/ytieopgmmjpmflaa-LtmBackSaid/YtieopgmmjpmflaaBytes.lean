/- Slices of bytes: what they read as, those of a call's own, append of bytes; wire.Put. -/
import Derived.Test.YtieopgmmjpmflaaBase
import Derived.Test.YtieopgmmjpmflaaLeaf
import Derived.Maps.AppendAt
import Derived.Laws.AppendOwnNone
import Derived.OwnWalk
namespace Go.Proofs.Ytieopgmmjpmflaa
open Go.RowKit
set_option linter.unusedVariables false
set_option linter.unusedSimpArgs false
set_option maxRecDepth 100000

def bval (u : UInt8) : Value := .int .u8 u.toNat
def bvals (l : List UInt8) : List Value := l.map bval
theorem bvals_len (l : List UInt8) : (bvals l).length = l.length := by simp [bvals]
theorem bvals_app (l r : List UInt8) : bvals (l ++ r) = bvals l ++ bvals r := by simp [bvals]
theorem bvals_one (l : List UInt8) : ∀ u ∈ bvals l, u.oneCell' = true := by
  intro u hu
  obtain ⟨x, _, rfl⟩ := List.mem_map.1 hu
  rfl

/-- the slice at A reads as the bytes l -/
def Byt (w : World) (A : Option Addr) (l : List UInt8) : Prop :=
  0 < l.length → ∃ ad, A = some ad ∧ ∀ j u, (bvals l)[j]? = some u → w.cell? (ad.add j) = some u
theorem Byt.nil_ (w : World) (A : Option Addr) : Byt w A [] := fun h => absurd h (by simp)

/-- the slice v is the call's own, from block base on, and is the bytes l -/
def OwnB (w : World) (base : Nat) (v : Value) (l : List UInt8) : Prop := w.ownsRow base 5 1 v l.length (bvals l)

theorem u8_info : (Try.prog.info? 5).map (fun i => (i.zero, i.size, i.bytes)) = some (some (.int .u8 0), 1, 1) := by kernel_rfl

/-- append of bytes onto a slice of the call's own -/
theorem append_bytes {w : World} {ops : Array Oper} {rest : List Oper} {o : Oper} {a : Act} {Q : Exit → Act → World → Prop} (hgd : o.guard = none) (s x : Operand)
    (ho : o.op = .call { callee := .builtin .append, args := #[s, x], argTypes := #[58, 58] })
    (base : Nat) (v : Value) (l : List UInt8) (hs : a.eval s = v) (hown : OwnB w base v l)
    (A : Option Addr) (m c : Nat) (r : List UInt8) (hx : a.eval x = .slice A m c) (hm : m = r.length) (hz : A = none → c = 0) (hr : Byt w A r)
    (hlen : l.length + r.length ≤ 140737488355328) (hbase : base ≤ w.heap.size)
    (h : ∀ v' w', OwnB w' base v' (l ++ r) → w.grownBy w' v.ownBlock → wpList Try.prog ops Q rest (a.put o.dst v') w') : wpList Try.prog ops Q (o :: rest) a w := by
  obtain ⟨i, hi, hz0, hz1, hz2⟩ := info_parts u8_info
  subst hm
  have key : ∀ ad, A = some ad → (∀ j u, (bvals r)[j]? = some u → w.cell? (ad.add j) = some u) → wpList Try.prog ops Q (o :: rest) a w := by
    rintro ad rfl hc
    refine wpList_append_own_at w hgd s x _ ho base 5 i _ 1 1 Try.underlying58 hi hz0 hz1 hz2 rfl (by omega) v l.length (bvals l) hs hown ad r.length c (bvals r) hx (by simp [bvals]) hc (bvals_one r)
      (by simp only [maxLen]; omega) (by omega) hbase ?_
    intro v' w' h1 h2 _ _
    exact h v' w' (by unfold OwnB; rw [List.length_append, bvals_app]; exact h1) h2
  rcases Nat.eq_zero_or_pos r.length with h0 | h0
  · have hr0 : r = [] := List.eq_nil_of_length_eq_zero h0
    subst hr0
    cases A with
    | none =>
      have hc := hz rfl
      subst hc
      refine wpList_append_own_none hgd s x _ ho base 5 i 1 Try.underlying58 hi v l.length (bvals l) hs hown hx ?_
      exact h v w (by simpa using hown) ⟨rfl, rfl, rfl, Nat.le_refl _, fun _ _ _ => rfl⟩
    | some ad => exact key ad rfl (by simp [bvals])
  · obtain ⟨ad, hA, hc⟩ := hr h0
    exact key ad hA hc

/-- a number's bytes, the highest first -/
def dig : Nat → Nat → List UInt8
  | 0, _ => []
  | k + 1, n => dig k (n / 256) ++ [UInt8.ofNat (n % 256)]
theorem dig_len (k n : Nat) : (dig k n).length = k := by
  induction k generalizing n with
  | zero => rfl
  | succ k ih => simp [dig, ih]

theorem Byt.below {w w' : World} {A : Option Addr} {l : List UInt8} (h : Byt w A l) (hb : Below w.heap.size w w') : Byt w' A l := by
  intro hl
  obtain ⟨ad, hA, hc⟩ := h hl
  refine ⟨ad, hA, fun j u hu => ?_⟩
  rw [hb.cell (World.block_lt_of_cell? w _ (hc j u hu))]
  exact hc j u hu

theorem Byt.one (w : World) (t : TypeId) (v : Value) (u : UInt8) (h : v = bval u) : Byt (w.alloc (.cells #[v] t)) (some ⟨w.heap.size, 0, none⟩) [u] := by
  subst h
  intro _
  refine ⟨_, rfl, fun j y hy => ?_⟩
  match j, hy with
  | 0, hy =>
    have := (Blk.new w t #[bval u]).cell 0
    simp only [bvals, List.map_cons, List.map_nil, List.getElem?_cons_zero] at hy
    rw [← hy]
    exact this
theorem OwnB.alloc {w : World} {base : Nat} {v : Value} {l : List UInt8} (h : OwnB w base v l) (o : Obj) : OwnB (w.alloc o) base v l := World.ownsRow.alloc h o
theorem OwnB.drewN {w : World} {base : Nat} {v : Value} {l : List UInt8} (h : OwnB w base v l) (n : Nat) : OwnB (w.drewN n) base v l := h
theorem OwnB.ge {w : World} {base : Nat} {v : Value} {l : List UInt8} (h : OwnB w base v l) : ∀ k, v.ownBlock = some k → base ≤ k := fun k hk => (World.ownsRow.lt h k hk).1

theorem shr_byte (x : Int) (h : 0 ≤ x) (j : Nat) : x / 2 ^ (8 * j) % 256 = ((UInt8.ofNat (x.toNat / 256 ^ j % 256)).toNat : Int) := by
  obtain ⟨n, rfl⟩ := Int.eq_ofNat_of_zero_le h
  rw [Int.toNat_natCast]
  have e : ((UInt8.ofNat (n / 256 ^ j % 256)).toNat : Nat) = n / 256 ^ j % 256 := by
    simp
  rw [e]
  have : (2 : Int) ^ (8 * j) = ((256 ^ j : Nat) : Int) := by rw [Int.pow_mul]; simp
  rw [this]
  omega
theorem byte_zero (x : Int) (h : 0 ≤ x) (h1 : x ≤ 255) : Value.int .u8 x = bval (UInt8.ofNat (x.toNat / 256 ^ (0 - 0) % 256)) := by
  have := shr_byte x h 0
  unfold bval
  rw [← this]
  simp only [Nat.mul_zero, Int.pow_zero, Int.ediv_one]
  rw [Int.emod_eq_of_lt h (by omega)]
theorem dig_succ (w k n : Nat) (h : k < w) : dig (k + 1) (n / 256 ^ (w - (k + 1))) = dig k (n / 256 ^ (w - k)) ++ [UInt8.ofNat (n / 256 ^ (w - 1 - k) % 256)] := by
  have e : w - k = (w - (k + 1)) + 1 := by omega
  have e' : w - 1 - k = w - (k + 1) := by omega
  rw [e', e, Nat.pow_succ, ← Nat.div_div_eq_div_mul]
  rfl

set_option maxHeartbeats 400000 in
theorem put8_any {w : World} (A : Option Addr) (c : Nat) (l : List UInt8) (x : Int) (hA : Byt w A l) (hz : A = none → c = 0) (hl : l.length ≤ 70368744177664) (h0 : 0 ≤ x) (h1 : x ≤ 255) :
    Calls Try.prog 18 #[.slice A l.length c, .int .u8 x] w fun e w' => ∃ v, e = .returned v ∧ OwnB w' w.heap.size v (l ++ dig 1 x.toNat) ∧ Below w.heap.size w w' := by
  obtain ⟨i, hi, hz0, hz1, hz2⟩ := info_parts u8_info
  have HA := Lib.hid hA
  have HZ := Lib.hid hz
  clear hA hz
  go_enter Try.func18, Try.ntmps18
  go_wp2_with fail
  refine (width8 _).mono ?_
  rintro e w' ⟨rfl, rfl⟩
  go_wp2_with (at_make; refine wpList_make_own _ rfl _ _ 58 rfl w.heap.size 5 i _ 1 Try.underlying58 hi hz0 hz1 _ _ _ (l.length + 1) rfl rfl (by omega) (by rw [hz2]; omega) (by simp only [maxLen]; omega) (Nat.le_refl _) ?_)
  intro w1 hown1 hg1
  have hb1 : Below w.heap.size w w1 := (Below.refl _ _).grown hg1 (Nat.le_refl _) (fun k hk => by cases hk)
  have HO1 := Lib.hid hown1
  have HB1 := Lib.hid hb1
  clear hown1 hg1 hb1
  go_wp2_with (at_builtin; refine append_bytes rfl (.tmp 13) (.tmp 14) rfl w.heap.size _ [] rfl HO1.out A l.length c l rfl rfl HZ.out (HA.out.below HB1.out) (by simp; omega) HB1.out.size ?_)
  intro v2 w2 hown2 hg2
  have hb2 : Below w.heap.size w w2 := HB1.out.grown hg2 HB1.out.size (fun k hk => (HO1.out.lt k hk).1)
  have HO2 := Lib.hid hown2
  have HB2 := Lib.hid hb2
  clear hown2 hg2 hb2
  go_wp2
  go_loopw [6, 17] (fun v i wr => ∃ k : Nat, k ≤ 1 ∧ i = .int .i64 k ∧ OwnB wr w.heap.size v (l ++ dig k (x.toNat / 256 ^ (1 - k))) ∧ Below w.heap.size w wr) (fun _ i _ => 1 - (intOf i).toNat)
  case atStart => exact ⟨0, Nat.zero_le _, rfl, by simpa [dig] using HO2.out, HB2.out⟩
  case round =>
    obtain ⟨k, hk, rfl, hown, hb⟩ := hrel
    have HO := Lib.hid hown
    have HB := Lib.hid hb
    clear hown hb
    by_cases hlt : k < 1
    · obtain rfl : k = 0 := by omega
      go_wp2_with (at_builtin; refine append_bytes rfl (.tmp 20) (.tmp 28) rfl w.heap.size _ (l ++ dig 0 (x.toNat / 256 ^ (1 - 0))) rfl (HO.out.alloc _) (some ⟨wr.heap.size, 0, none⟩) 1 1 [UInt8.ofNat (x.toNat / 256 ^ (0 - 0) % 256)] rfl rfl (by simp) (Byt.one _ _ _ _ (byte_zero x h0 h1)) (by simp [dig_len]; omega) (by have := HB.out.size; simp; omega) ?_)
      intro v3 w3 hown3 hg3
      have hb3 : Below w.heap.size w w3 := (HB.out.alloc HB.out.size _).grown hg3 (by have := HB.out.size; simp; omega) HO.out.ge
      have hown4 : OwnB w3 w.heap.size v3 (l ++ dig 1 (x.toNat / 256 ^ (1 - 1))) := by simpa [dig] using hown3
      have HO3 := Lib.hid hown4
      have HB3 := Lib.hid hb3
      clear hown3 hown4 hg3 hb3
      go_wp2
      go_roundw
      case rel => exact ⟨1, by omega, by go_num, HO3.out, HB3.out⟩
      case measure => simp [intOf]
    · go_wp2
      go_ret
      obtain rfl : k = 1 := by omega
      exact ⟨_, rfl, by simpa using HO.out, HB.out⟩

set_option maxHeartbeats 400000 in
theorem put16_any {w : World} (A : Option Addr) (c : Nat) (l : List UInt8) (x : Int) (hA : Byt w A l) (hz : A = none → c = 0) (hl : l.length ≤ 70368744177664) (h0 : 0 ≤ x) (h1 : x ≤ 65535) :
    Calls Try.prog 42 #[.slice A l.length c, .int .u16 x] w fun e w' => ∃ v, e = .returned v ∧ OwnB w' w.heap.size v (l ++ dig 2 x.toNat) ∧ Below w.heap.size w w' := by
  obtain ⟨i, hi, hz0, hz1, hz2⟩ := info_parts u8_info
  have HA := Lib.hid hA
  have HZ := Lib.hid hz
  clear hA hz
  go_enter Try.func42, Try.ntmps42
  go_wp2_with fail
  refine (width16 _).mono ?_
  rintro e w' ⟨rfl, rfl⟩
  go_wp2_with (at_make; refine wpList_make_own _ rfl _ _ 58 rfl w.heap.size 5 i _ 1 Try.underlying58 hi hz0 hz1 _ _ _ (l.length + 2) rfl rfl (by omega) (by rw [hz2]; omega) (by simp only [maxLen]; omega) (Nat.le_refl _) ?_)
  intro w1 hown1 hg1
  have hb1 : Below w.heap.size w w1 := (Below.refl _ _).grown hg1 (Nat.le_refl _) (fun k hk => by cases hk)
  have HO1 := Lib.hid hown1
  have HB1 := Lib.hid hb1
  clear hown1 hg1 hb1
  go_wp2_with (at_builtin; refine append_bytes rfl (.tmp 13) (.tmp 14) rfl w.heap.size _ [] rfl HO1.out A l.length c l rfl rfl HZ.out (HA.out.below HB1.out) (by simp; omega) HB1.out.size ?_)
  intro v2 w2 hown2 hg2
  have hb2 : Below w.heap.size w w2 := HB1.out.grown hg2 HB1.out.size (fun k hk => (HO1.out.lt k hk).1)
  have HO2 := Lib.hid hown2
  have HB2 := Lib.hid hb2
  clear hown2 hg2 hb2
  go_wp2
  go_loopw [6, 17] (fun v i wr => ∃ k : Nat, k ≤ 2 ∧ i = .int .i64 k ∧ OwnB wr w.heap.size v (l ++ dig k (x.toNat / 256 ^ (2 - k))) ∧ Below w.heap.size w wr) (fun _ i _ => 2 - (intOf i).toNat)
  case atStart => exact ⟨0, Nat.zero_le _, rfl, by simpa [dig] using HO2.out, HB2.out⟩
  case round =>
    obtain ⟨k, hk, rfl, hown, hb⟩ := hrel
    have HO := Lib.hid hown
    have HB := Lib.hid hb
    clear hown hb
    by_cases hlt : k < 2
    · go_wp2_with (at_builtin; refine append_bytes rfl (.tmp 20) (.tmp 29) rfl w.heap.size _ (l ++ dig k (x.toNat / 256 ^ (2 - k))) rfl (HO.out.alloc _) (some ⟨wr.heap.size, 0, none⟩) 1 1 [UInt8.ofNat (x.toNat / 256 ^ (1 - k) % 256)] rfl rfl (by simp) (Byt.one _ _ _ _ (congrArg (Value.int IntKind.u8) (shr_byte x h0 (1 - k)))) (by simp [dig_len]; omega) (by have := HB.out.size; simp; omega) ?_)
      intro v3 w3 hown3 hg3
      have hb3 : Below w.heap.size w w3 := (HB.out.alloc HB.out.size _).grown hg3 (by have := HB.out.size; simp; omega) HO.out.ge
      rw [← dig_succ 2 k x.toNat hlt] at hown3
      have HO3 := Lib.hid hown3
      have HB3 := Lib.hid hb3
      clear hown3 hg3 hb3
      go_wp2
      go_roundw
      case rel => exact ⟨k + 1, by omega, by go_num, HO3.out, HB3.out⟩
      case measure => simp [intOf]; omega
    · go_wp2
      go_ret
      obtain rfl : k = 2 := by omega
      exact ⟨_, rfl, by simpa using HO.out, HB.out⟩

set_option maxHeartbeats 400000 in
theorem put32_any {w : World} (A : Option Addr) (c : Nat) (l : List UInt8) (x : Int) (hA : Byt w A l) (hz : A = none → c = 0) (hl : l.length ≤ 70368744177664) (h0 : 0 ≤ x) (h1 : x ≤ 4294967295) :
    Calls Try.prog 19 #[.slice A l.length c, .int .u32 x] w fun e w' => ∃ v, e = .returned v ∧ OwnB w' w.heap.size v (l ++ dig 4 x.toNat) ∧ Below w.heap.size w w' := by
  obtain ⟨i, hi, hz0, hz1, hz2⟩ := info_parts u8_info
  have HA := Lib.hid hA
  have HZ := Lib.hid hz
  clear hA hz
  go_enter Try.func19, Try.ntmps19
  go_wp2_with fail
  refine (width32 _).mono ?_
  rintro e w' ⟨rfl, rfl⟩
  go_wp2_with (at_make; refine wpList_make_own _ rfl _ _ 58 rfl w.heap.size 5 i _ 1 Try.underlying58 hi hz0 hz1 _ _ _ (l.length + 4) rfl rfl (by omega) (by rw [hz2]; omega) (by simp only [maxLen]; omega) (Nat.le_refl _) ?_)
  intro w1 hown1 hg1
  have hb1 : Below w.heap.size w w1 := (Below.refl _ _).grown hg1 (Nat.le_refl _) (fun k hk => by cases hk)
  have HO1 := Lib.hid hown1
  have HB1 := Lib.hid hb1
  clear hown1 hg1 hb1
  go_wp2_with (at_builtin; refine append_bytes rfl (.tmp 13) (.tmp 14) rfl w.heap.size _ [] rfl HO1.out A l.length c l rfl rfl HZ.out (HA.out.below HB1.out) (by simp; omega) HB1.out.size ?_)
  intro v2 w2 hown2 hg2
  have hb2 : Below w.heap.size w w2 := HB1.out.grown hg2 HB1.out.size (fun k hk => (HO1.out.lt k hk).1)
  have HO2 := Lib.hid hown2
  have HB2 := Lib.hid hb2
  clear hown2 hg2 hb2
  go_wp2
  go_loopw [6, 17] (fun v i wr => ∃ k : Nat, k ≤ 4 ∧ i = .int .i64 k ∧ OwnB wr w.heap.size v (l ++ dig k (x.toNat / 256 ^ (4 - k))) ∧ Below w.heap.size w wr) (fun _ i _ => 4 - (intOf i).toNat)
  case atStart => exact ⟨0, Nat.zero_le _, rfl, by simpa [dig] using HO2.out, HB2.out⟩
  case round =>
    obtain ⟨k, hk, rfl, hown, hb⟩ := hrel
    have HO := Lib.hid hown
    have HB := Lib.hid hb
    clear hown hb
    by_cases hlt : k < 4
    · go_wp2_with (at_builtin; refine append_bytes rfl (.tmp 20) (.tmp 29) rfl w.heap.size _ (l ++ dig k (x.toNat / 256 ^ (4 - k))) rfl (HO.out.alloc _) (some ⟨wr.heap.size, 0, none⟩) 1 1 [UInt8.ofNat (x.toNat / 256 ^ (3 - k) % 256)] rfl rfl (by simp) (Byt.one _ _ _ _ (congrArg (Value.int IntKind.u8) (shr_byte x h0 (3 - k)))) (by simp [dig_len]; omega) (by have := HB.out.size; simp; omega) ?_)
      intro v3 w3 hown3 hg3
      have hb3 : Below w.heap.size w w3 := (HB.out.alloc HB.out.size _).grown hg3 (by have := HB.out.size; simp; omega) HO.out.ge
      rw [← dig_succ 4 k x.toNat hlt] at hown3
      have HO3 := Lib.hid hown3
      have HB3 := Lib.hid hb3
      clear hown3 hg3 hb3
      go_wp2
      go_roundw
      case rel => exact ⟨k + 1, by omega, by go_num, HO3.out, HB3.out⟩
      case measure => simp [intOf]; omega
    · go_wp2
      go_ret
      obtain rfl : k = 4 := by omega
      exact ⟨_, rfl, by simpa using HO.out, HB.out⟩


end Go.Proofs.Ytieopgmmjpmflaa
