/- Layer 17: package level's calls. -/
import Derived.Test.YtpoeamamdiomkaaLaw17
import Derived.BigQuiet
import Derived.Deep.QuietTactic
namespace Go.Proofs.Ytpoeamamdiomkaa
open Go.RowKit
set_option linter.unusedVariables false
set_option linter.unusedSimpArgs false
set_option maxRecDepth 100000

theorem shrIn (s : UInt8) (n : Nat) : (bits BinOp.and IntKind.u8 ((s.toNat : Int) / 2 ^ n) 1 == 1) = bt s n := by
  have h := s.toNat_lt
  obtain ⟨k, hk⟩ : ∃ k, s.toNat / 2 ^ n = k := ⟨_, rfl⟩
  have e : ((s.toNat : Int) / 2 ^ n) = (k : Int) := by rw [← hk]; push_cast; rfl
  have hk2 : k < 256 := Nat.lt_of_le_of_lt (hk ▸ Nat.div_le_self _ _) h
  rw [e]
  unfold bt
  rw [hk]
  have : ∀ k : Fin 256, (bits BinOp.and IntKind.u8 (k.val : Int) 1 == 1) = (k.val % 2 == 1) := by decide +kernel
  exact this ⟨k, hk2⟩
theorem minSh (s : UInt8) (n : Nat) : ((s.toNat : Int) / 2 ^ min n 8) = ((s.toNat : Int) / 2 ^ n) := by
  by_cases h : n ≤ 8
  · rw [Nat.min_eq_left h]
  · have h1 := s.toNat_lt
    rw [Nat.min_eq_right (by omega)]
    have h8 : s.toNat / 2 ^ 8 = 0 := Nat.div_eq_of_lt (by omega)
    have hn : s.toNat / 2 ^ n = 0 := Nat.div_eq_of_lt (Nat.lt_of_lt_of_le h1 (by
      have : 2 ^ 8 ≤ 2 ^ n := Nat.pow_le_pow_right (by omega) (by omega)
      simpa using this))
    have e8 : ((s.toNat : Int) / 2 ^ 8) = ((s.toNat / 2 ^ 8 : Nat) : Int) := by push_cast; rfl
    have en : ((s.toNat : Int) / 2 ^ n) = ((s.toNat / 2 ^ n : Nat) : Int) := by push_cast; rfl
    rw [e8, en, h8, hn]
theorem orU8 (d u : UInt8) : bits BinOp.or IntKind.u8 (d.toNat : Int) (u.toNat : Int) = (((d ||| u).toNat : Nat) : Int) := by
  have h1 := d.toNat_lt
  have h2 := u.toNat_lt
  have h3 := (d ||| u).toNat_lt
  have ea : (BitVec.ofInt 8 (d.toNat : Int)) = d.toBitVec := by
    apply BitVec.eq_of_toNat_eq
    rw [BitVec.toNat_ofInt]
    show _ = d.toNat
    omega
  have eb : (BitVec.ofInt 8 (u.toNat : Int)) = u.toBitVec := by
    apply BitVec.eq_of_toNat_eq
    rw [BitVec.toNat_ofInt]
    show _ = u.toNat
    omega
  show IntKind.u8.wrap ((BitVec.ofInt 8 (d.toNat : Int) ||| BitVec.ofInt 8 (u.toNat : Int)).toNat : Int) = _
  rw [ea, eb]
  have e : (d.toBitVec ||| u.toBitVec).toNat = (d ||| u).toNat := rfl
  rw [e]
  obtain ⟨n, hn⟩ : ∃ n, (d ||| u).toNat = n := ⟨_, rfl⟩
  rw [hn] at h3 ⊢
  simp [IntKind.wrap, IntKind.signed, IntKind.bits]
  omega
theorem shrUp (s : UInt8) (n : Nat) : (((s.toNat : Int) / 2 ^ n) == 0) = !hi s n := by
  unfold hi
  have e : ((s.toNat : Int) / 2 ^ n) = ((s.toNat / 2 ^ n : Nat) : Int) := by push_cast; rfl
  rw [e, Bool.not_not, Bool.eq_iff_iff]
  simp only [beq_iff_eq]
  omega
theorem isIn_any (s l : UInt8) (w : World) :
    Calls Try.prog 15 #[.int .u8 s.toNat, .int .u8 l.toNat] w fun e w' => e = .returned (.bool (bt s l.toNat)) ∧ Below w.heap.size w w' := by
  have e := shrIn s l.toNat
  rw [← minSh] at e
  obtain ⟨q, hq⟩ : ∃ q, bt s l.toNat = q := ⟨_, rfl⟩
  rw [hq] at e ⊢
  clear hq
  go_enter Try.func15, Try.ntmps15
  go_wp2
  go_ret
  exact ⟨rfl, Below.refl _ _⟩
theorem isUpTo_any (s l : UInt8) (w : World) :
    Calls Try.prog 16 #[.int .u8 s.toNat, .int .u8 l.toNat] w fun e w' => e = .returned (.bool (hi s l.toNat)) ∧ Below w.heap.size w w' := by
  have e := shrUp s l.toNat
  rw [← minSh] at e
  obtain ⟨q, hq⟩ : ∃ q, hi s l.toNat = q := ⟨_, rfl⟩
  rw [hq] at e ⊢
  clear hq
  go_enter Try.func16, Try.ntmps16
  go_wp2
  go_ret
  exact ⟨by rw [show (((s.toNat : Int) / 2 ^ min l.toNat 8) != 0) = !(((s.toNat : Int) / 2 ^ min l.toNat 8) == 0) from rfl, e]; simp, Below.refl _ _⟩
set_option maxHeartbeats 1000000 in
theorem fromWire_any (d u : UInt8) (w : World) :
    Calls Try.prog 12 #[.agg #[.int .u8 d.toNat, .int .u8 u.toNat]] w fun e w' => e = .returned (.tuple #[.int .u8 d.toNat, .int .u8 u.toNat]) ∧ Below w.heap.size w w' := by
  go_enter Try.func12, Try.ntmps12
  go_wp2_with fail
  go_quiet (fail)
  all_goals (
    go_wp2
    go_ret2
    exact ⟨rfl, ((Below.refl _ _).alloc (Nat.le_refl _) _).trans ⟨rfl, rfl, rfl, Nat.le_refl _, fun _ _ => rfl⟩⟩)
set_option maxHeartbeats 1000000 in
theorem fromRelay_any (d u : UInt8) (w : World) :
    Calls Try.prog 14 #[.agg #[.int .u8 d.toNat, .int .u8 u.toNat]] w fun e w' => e = .returned (.tuple #[.int .u8 u.toNat, .int .u8 d.toNat]) ∧ Below w.heap.size w w' := by
  go_enter Try.func14, Try.ntmps14
  go_wp2_with fail
  go_quiet (fail)
  all_goals (
    go_wp2
    go_ret2
    exact ⟨rfl, ((Below.refl _ _).alloc (Nat.le_refl _) _).trans ⟨rfl, rfl, rfl, Nat.le_refl _, fun _ _ => rfl⟩⟩)
/-- what fate makes of both sets -/
theorem fa_case (f o : UInt8) (m : Int) (l : UInt8) : fa f o m l.toNat = if 7 < l.toNat then 0 else if bt f l.toNat then 2 else if hi (f ||| o) l.toNat then 0 else if m = (l.toNat : Int) then 3 else 1 := by
  unfold fa
  by_cases h : 7 < l.toNat
  · simp [h]
  · have := or_hi f o l.toNat (by omega)
    have e : hi (f ||| o) l.toNat = (hi f l.toNat || hi o l.toNat) := by
      have h2 : hi (f ||| o) l.toNat = !((f.toNat ||| o.toNat) / 2 ^ l.toNat == 0) := by unfold hi; rw [UInt8.toNat_or]
      rw [h2, this]
      simp
    rw [e]
    cases hi f l.toNat <;> cases hi o l.toNat <;> simp
set_option maxHeartbeats 4000000 in
theorem fateWire_any (d u : UInt8) (m : Int) (l : UInt8) (w : World) :
    Calls Try.prog 11 #[.int .i64 m, .int .u8 l.toNat, .func (.func 12) #[.agg #[.int .u8 d.toNat, .int .u8 u.toNat]] #[]] w fun e w' => e = .returned (.int .u8 (fa d u m l.toNat : Nat)) ∧ Below w.heap.size w w' := by
  have e9 := fa_case d u m l
  have eor := orU8 d u
  have hwl : IntKind.i64.wrap (l.toNat : Int) = (l.toNat : Int) := by have := l.toNat_lt; simp [IntKind.wrap, IntKind.signed, IntKind.bits]; omega
  rw [e9]
  clear e9
  have K1 := Lib.hid (fun w => fromWire_any d u w)
  have K2 := Lib.hid (fun w => isIn_any d l w)
  have K3 := Lib.hid (fun w => isUpTo_any (d ||| u) l w)
  obtain ⟨q, hq⟩ : ∃ q, bt d l.toNat = q := ⟨_, rfl⟩
  obtain ⟨q2, hq2⟩ : ∃ q, hi (d ||| u) l.toNat = q := ⟨_, rfl⟩
  rw [hq] at K2
  rw [hq2] at K3
  rw [hq, hq2]
  obtain ⟨R, hR⟩ : ∃ R : Nat, (if 7 < l.toNat then 0 else if q then 2 else if q2 then 0 else if m = (l.toNat : Int) then 3 else 1) = R := ⟨_, rfl⟩
  rw [hR]
  have HR := Lib.hid hR
  clear hq hq2 hR
  go_enter Try.func11, Try.ntmps11
  go_wp2_with fail
  refine (K1.out _).mono ?_
  rintro e w1 ⟨rfl, b1⟩
  by_cases h7 : (7 : Int) < (l.toNat : Int)
  · go_wp2
    go_ret
    exact ⟨by rw [← HR.out, if_pos (by omega)]; rfl, b1⟩
  go_wp2_with fail
  refine (K2.out _).mono ?_
  rintro e w2 ⟨rfl, b2⟩
  have B2 := b1.trans (b2.mono b1.size)
  cases q
  case true =>
    go_wp2
    go_ret
    exact ⟨by rw [← HR.out, if_neg (by omega)]; rfl, B2⟩
  go_wp2_with fail
  refine (K3.out _).mono ?_
  rintro e w3 ⟨rfl, b3⟩
  have B3 := B2.trans (b3.mono B2.size)
  cases q2
  case true =>
    go_wp2
    go_ret
    exact ⟨by rw [← HR.out, if_neg (by omega)]; rfl, B3⟩
  by_cases hm : m = (l.toNat : Int)
  · go_wp2
    go_ret
    exact ⟨by rw [← HR.out, if_neg (by omega)]; simp [hm], B3⟩
  · go_wp2
    go_ret
    exact ⟨by rw [← HR.out, if_neg (by omega)]; simp [hm], B3⟩
set_option maxHeartbeats 4000000 in
theorem lvwire_impl : LvWireC := by
  intro d u m l w
  have hmf : ∀ (fn : Fn) (first cap : Array Value) (w : World), (Instr.makeFunc fn first cap).run Try.prog w = .ok (.func fn first cap) w := fun _ _ _ _ => rfl
  have K1 := Lib.hid (fun w => fateWire_any d u m l w)
  go_enter Try.func6, Try.ntmps6
  go_wp2_with fail
  refine (K1.out _).mono ?_
  rintro e w1 ⟨rfl, b1⟩
  go_wp2
  go_ret
  exact ⟨rfl, ((Below.refl _ _).alloc (Nat.le_refl _) _).trans (b1.mono (by simp))⟩
set_option maxHeartbeats 4000000 in
theorem fateRelay_any (d u : UInt8) (m : Int) (l : UInt8) (w : World) :
    Calls Try.prog 11 #[.int .i64 m, .int .u8 l.toNat, .func (.func 14) #[.agg #[.int .u8 d.toNat, .int .u8 u.toNat]] #[]] w fun e w' => e = .returned (.int .u8 (fa u d m l.toNat : Nat)) ∧ Below w.heap.size w w' := by
  have e9 := fa_case u d m l
  have eor := orU8 u d
  have hwl : IntKind.i64.wrap (l.toNat : Int) = (l.toNat : Int) := by have := l.toNat_lt; simp [IntKind.wrap, IntKind.signed, IntKind.bits]; omega
  rw [e9]
  clear e9
  have K1 := Lib.hid (fun w => fromRelay_any d u w)
  have K2 := Lib.hid (fun w => isIn_any u l w)
  have K3 := Lib.hid (fun w => isUpTo_any (u ||| d) l w)
  obtain ⟨q, hq⟩ : ∃ q, bt u l.toNat = q := ⟨_, rfl⟩
  obtain ⟨q2, hq2⟩ : ∃ q, hi (u ||| d) l.toNat = q := ⟨_, rfl⟩
  rw [hq] at K2
  rw [hq2] at K3
  rw [hq, hq2]
  obtain ⟨R, hR⟩ : ∃ R : Nat, (if 7 < l.toNat then 0 else if q then 2 else if q2 then 0 else if m = (l.toNat : Int) then 3 else 1) = R := ⟨_, rfl⟩
  rw [hR]
  have HR := Lib.hid hR
  clear hq hq2 hR
  go_enter Try.func11, Try.ntmps11
  go_wp2_with fail
  refine (K1.out _).mono ?_
  rintro e w1 ⟨rfl, b1⟩
  by_cases h7 : (7 : Int) < (l.toNat : Int)
  · go_wp2
    go_ret
    exact ⟨by rw [← HR.out, if_pos (by omega)]; rfl, b1⟩
  go_wp2_with fail
  refine (K2.out _).mono ?_
  rintro e w2 ⟨rfl, b2⟩
  have B2 := b1.trans (b2.mono b1.size)
  cases q
  case true =>
    go_wp2
    go_ret
    exact ⟨by rw [← HR.out, if_neg (by omega)]; rfl, B2⟩
  go_wp2_with fail
  refine (K3.out _).mono ?_
  rintro e w3 ⟨rfl, b3⟩
  have B3 := B2.trans (b3.mono B2.size)
  cases q2
  case true =>
    go_wp2
    go_ret
    exact ⟨by rw [← HR.out, if_neg (by omega)]; rfl, B3⟩
  by_cases hm : m = (l.toNat : Int)
  · go_wp2
    go_ret
    exact ⟨by rw [← HR.out, if_neg (by omega)]; simp [hm], B3⟩
  · go_wp2
    go_ret
    exact ⟨by rw [← HR.out, if_neg (by omega)]; simp [hm], B3⟩
set_option maxHeartbeats 4000000 in
theorem lvrelay_impl : LvRelayC := by
  intro d u m l w
  have hmf : ∀ (fn : Fn) (first cap : Array Value) (w : World), (Instr.makeFunc fn first cap).run Try.prog w = .ok (.func fn first cap) w := fun _ _ _ _ => rfl
  have K1 := Lib.hid (fun w => fateRelay_any d u m l w)
  go_enter Try.func8, Try.ntmps8
  go_wp2_with fail
  refine (K1.out _).mono ?_
  rintro e w1 ⟨rfl, b1⟩
  go_wp2
  go_ret
  exact ⟨rfl, ((Below.refl _ _).alloc (Nat.le_refl _) _).trans (b1.mono (by simp))⟩
end Go.Proofs.Ytpoeamamdiomkaa
