/- Numbers and their bytes (plain); contracts of put, read, most. -/
import Derived.Test.YtjcgnclhickfgaaWakes
import Derived.Laws.BitsAllLaws
namespace Go.Proofs.Ytjcgnclhickfgaa
open Go.RowKit
set_option linter.unusedVariables false
set_option linter.unusedSimpArgs false

theorem num64 (m : List UInt8) (h : m.length ≤ 8) : IntKind.u64.wrap (num m : Int) = num m := by
  have h1 := num_lt m
  have h2 : num m < 256 ^ 8 := Nat.lt_of_lt_of_le h1 (Nat.pow_le_pow_right (by omega) h)
  exact IntWalk.u64_in _ (by omega)
theorem wrap16_ (x : Int) : IntKind.u16.wrap x = x % 65536 := by simp [IntKind.wrap, IntKind.signed, IntKind.bits]
theorem dig_mod (k n : Nat) : dig k (n % 256 ^ k) = dig k n := by
  induction k generalizing n with
  | zero => rfl
  | succ k ih =>
    simp only [dig]
    have h1 : n % 256 ^ (k + 1) / 256 = (n / 256) % 256 ^ k := by rw [Nat.pow_succ, Nat.mul_comm, Nat.mod_mul_right_div_self]
    have h2 : n % 256 ^ (k + 1) % 256 = n % 256 := Nat.mod_mod_of_dvd _ ⟨256 ^ k, by rw [Nat.pow_succ, Nat.mul_comm]⟩
    rw [h1, h2, ih]
theorem num_dig (k n : Nat) : num (dig k n) = n % 256 ^ k := by
  induction k generalizing n with
  | zero => simp [dig, num_nil, Nat.mod_one]
  | succ k ih =>
    simp only [dig]
    rw [num_snoc, ih]
    have : (UInt8.ofNat (n % 256)).toNat = n % 256 := by simp
    rw [this, Nat.pow_succ, Nat.mul_comm (256 ^ k) 256, Nat.mod_mul]
    omega
theorem dig_num (l : List UInt8) : dig l.length (num l) = l := by
  have h : ∀ (r : List UInt8), dig r.length (num r.reverse) = r.reverse := by
    intro r
    induction r with
    | nil => rfl
    | cons b r ih =>
      simp only [List.length_cons, List.reverse_cons, num_snoc, dig]
      have hb := b.toNat_lt
      rw [show (num r.reverse * 256 + b.toNat) / 256 = num r.reverse by omega, show (num r.reverse * 256 + b.toNat) % 256 = b.toNat by omega, ih]
      simp
  have := h l.reverse
  simpa using this

/-- the width that a part's first number says -/
def wd (d : Int) : Nat := if d = 0 then 1 else if d = 1 then 2 else if d = 2 then 4 else 8
theorem wd_pos (d : Int) : 0 < wd d := by unfold wd; split; omega; split; omega; split <;> omega
theorem wd_le (d : Int) : wd d ≤ 8 := by unfold wd; split; omega; split; omega; split <;> omega

/-- a slice that reads as the bytes l, with the room that it has -/
def StrC (w : World) (v : Value) (l : List UInt8) : Prop := ∃ A c, v = .slice A l.length c ∧ (A = none → c = 0) ∧ Byt w A l ∧ l.length ≤ c
theorem StrC.str {w : World} {v : Value} {l : List UInt8} (h : StrC w v l) : Str w v l := by
  obtain ⟨A, c, e, hz, hb, _⟩ := h
  exact ⟨A, c, e, hz, hb⟩
theorem OwnB.strc {w : World} {base : Nat} {v : Value} {l : List UInt8} (h : OwnB w base v l) : StrC w v l := by
  rcases h.2 with ⟨rfl, hn⟩ | ⟨g, cap, cur, rfl, _, _, hc, _⟩
  · exact ⟨none, 0, by rw [hn], fun _ => rfl, fun h0 => absurd h0 (by omega), by omega⟩
  · exact ⟨_, cap, rfl, (by simp), fun _ => ⟨_, rfl, fun j u hu => World.ownsRow.cells h (g := g) rfl j u hu⟩, hc⟩
theorem put_any {w : World} {v : Value} {l : List UInt8} (d x : Int) (hv : Str w v l) (hl : l.length ≤ 70368744177664) (hd : 0 ≤ d) (h0 : 0 ≤ x) (h1 : x ≤ 18446744073709551615) :
    Calls Try.prog 29 #[v, .agg #[.int .u8 d, .int .u64 x]] w fun e w' => ∃ v', e = .returned v' ∧ StrC w' v' (l ++ dig (wd d) x.toNat) ∧ Below w.heap.size w w' := by
  have hcase : d = 0 ∨ d = 1 ∨ d = 2 ∨ 2 < d := by omega
  have e1 : dig 1 (x % 256).toNat = dig 1 x.toNat := by
    rw [show (x % 256).toNat = x.toNat % 256 ^ 1 by omega, dig_mod]
  have e2 : dig 2 (x % 65536).toNat = dig 2 x.toNat := by
    rw [show (x % 65536).toNat = x.toNat % 256 ^ 2 by omega, dig_mod]
  have e4 : dig 4 (x % 4294967296).toNat = dig 4 x.toNat := by
    rw [show (x % 4294967296).toNat = x.toNat % 256 ^ 4 by omega, dig_mod]
  have E1 := Lib.hid e1
  have E2 := Lib.hid e2
  have E4 := Lib.hid e4
  clear e1 e2 e4
  have HV := Lib.hid hv
  have hb0 : Below w.heap.size w (w.alloc (.cells #[.int .u8 d, .int .u64 x] 59)) := (Below.refl _ _).alloc (Nat.le_refl _) _
  obtain ⟨A, c, rfl, hz, hy⟩ := hv.below hb0
  have HZ := Lib.hid hz
  have HY := Lib.hid hy
  have HB := Lib.hid hb0
  clear hz hy hb0
  rcases hcase with rfl | rfl | rfl | hd2
  · go_enter Try.func29, Try.ntmps29
    go_wp2_with fail
    refine (put8_any A c l (x % 256) HY.out HZ.out hl (by omega) (by omega)).mono ?_
    rintro e w' ⟨v', rfl, ho, hb⟩
    go_wp2
    go_ret
    exact ⟨_, rfl, by have := ho.strc; rw [E1.out] at this; exact this, HB.out.trans (hb.mono HB.out.size)⟩
  · go_enter Try.func29, Try.ntmps29
    go_wp2_with fail
    rw [wrap16_]
    refine (put16_any A c l (x % 65536) HY.out HZ.out hl (by omega) (by omega)).mono ?_
    rintro e w' ⟨v', rfl, ho, hb⟩
    go_wp2
    go_ret
    exact ⟨_, rfl, by have := ho.strc; rw [E2.out] at this; exact this, HB.out.trans (hb.mono HB.out.size)⟩
  · go_enter Try.func29, Try.ntmps29
    go_wp2_with fail
    refine (put32_any A c l (x % 4294967296) HY.out HZ.out hl (by omega) (by omega)).mono ?_
    rintro e w' ⟨v', rfl, ho, hb⟩
    go_wp2
    go_ret
    exact ⟨_, rfl, by have := ho.strc; rw [E4.out] at this; exact this, HB.out.trans (hb.mono HB.out.size)⟩
  · have z0 : (d == 0) = false := by simp; omega
    have z1 : (d == 1) = false := by simp; omega
    have z2 : (d == 2) = false := by simp; omega
    have hm : wd d = 8 := by unfold wd; rw [if_neg (by omega), if_neg (by omega), if_neg (by omega)]
    rw [hm]
    clear hm
    go_enter Try.func29, Try.ntmps29
    go_wp2_with fail
    refine (put64_any A c l x HY.out HZ.out hl (by omega) (by omega)).mono ?_
    rintro e w' ⟨v', rfl, ho, hb⟩
    go_wp2
    go_ret
    exact ⟨_, rfl, ho.strc, HB.out.trans (hb.mono HB.out.size)⟩
theorem read_any {w : World} {b : Nat} {l : List UInt8} {er : Int} (d : Int) (h : Rdr w b l er) (hd : 0 ≤ d) :
    Calls Try.prog 30 #[.pointer (some ⟨b, 0, none⟩), .int .u8 d] w fun e w' => e = .returned (.int .u64 (num (tkV (wd d) l er))) ∧ Rdr w' b (tkL (wd d) l er) (tkE (wd d) l er) ∧ Chg (only b) w w' := by
  have hcase : d = 0 ∨ d = 1 ∨ d = 2 ∨ 2 < d := by omega
  rcases hcase with rfl | rfl | rfl | hd2
  · go_enter Try.func30, Try.ntmps30
    go_wp2_with fail
    refine (u8_any h).mono ?_
    rintro e w' ⟨rfl, hr, hc⟩
    go_wp2
    go_ret
    exact ⟨ret_ (congrArg (Value.int .u64) (num64 _ (Nat.le_trans (tkV_len _ _ _) (by omega)))), hr, hc⟩
  · go_enter Try.func30, Try.ntmps30
    go_wp2_with fail
    refine (u16_any h).mono ?_
    rintro e w' ⟨rfl, hr, hc⟩
    go_wp2
    go_ret
    exact ⟨ret_ (congrArg (Value.int .u64) (num64 _ (Nat.le_trans (tkV_len _ _ _) (by omega)))), hr, hc⟩
  · go_enter Try.func30, Try.ntmps30
    go_wp2_with fail
    refine (u32_any h).mono ?_
    rintro e w' ⟨rfl, hr, hc⟩
    go_wp2
    go_ret
    exact ⟨ret_ (congrArg (Value.int .u64) (num64 _ (Nat.le_trans (tkV_len _ _ _) (by omega)))), hr, hc⟩
  · have z0 : (d == 0) = false := by simp; omega
    have z1 : (d == 1) = false := by simp; omega
    have z2 : (d == 2) = false := by simp; omega
    have hm : wd d = 8 := by unfold wd; rw [if_neg (by omega), if_neg (by omega), if_neg (by omega)]
    rw [hm]
    clear hm
    go_enter Try.func30, Try.ntmps30
    go_wp2_with fail
    refine (u64_any h).mono ?_
    rintro e w' ⟨rfl, hr, hc⟩
    go_wp2
    go_ret
    exact ⟨rfl, hr, hc⟩
/-- the greatest number of a width -/
def mx (d : Int) : Int := if d = 0 then 255 else if d = 1 then 65535 else if d = 2 then 4294967295 else 18446744073709551615
theorem most_any {w : World} (d : Int) (hd : 0 ≤ d) :
    Calls Try.prog 31 #[.int .u8 d] w fun e w' => e = .returned (.int .u64 (mx d)) ∧ w = w' := by
  have hcase : d = 0 ∨ d = 1 ∨ d = 2 ∨ 2 < d := by omega
  rcases hcase with rfl | rfl | rfl | hd2
  · go_enter Try.func31, Try.ntmps31
    go_wp2
    go_ret
    exact ⟨rfl, rfl⟩
  · go_enter Try.func31, Try.ntmps31
    go_wp2
    go_ret
    exact ⟨rfl, rfl⟩
  · go_enter Try.func31, Try.ntmps31
    go_wp2
    go_ret
    exact ⟨rfl, rfl⟩
  · have z0 : (d == 0) = false := by simp; omega
    have z1 : (d == 1) = false := by simp; omega
    have z2 : (d == 2) = false := by simp; omega
    have hm : mx d = 18446744073709551615 := by unfold mx; rw [if_neg (by omega), if_neg (by omega), if_neg (by omega)]
    rw [hm]
    clear hm
    go_enter Try.func31, Try.ntmps31
    go_wp2
    go_ret
    exact ⟨rfl, rfl⟩
end Go.Proofs.Ytjcgnclhickfgaa
