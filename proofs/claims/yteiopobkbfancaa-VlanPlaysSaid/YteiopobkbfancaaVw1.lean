/- Package vlan: the small functions. -/
import Derived.Test.YteiopobkbfancaaVt
import Derived.Laws.BitsAllLaws
import Derived.IntWalk
import Derived.BigQuiet
import Derived.Deep.QuietTactic
namespace Go.Proofs.Yteiopobkbfancaa
open Go.RowKit
set_option linter.unusedVariables false
set_option linter.unusedSimpArgs false
set_option maxRecDepth 100000

/-- is the port in the set? -/
def has8 (s p : UInt8) : Bool := s.toNat / 2 ^ p.toNat % 2 == 1
def okV (v : UInt16) : Bool := decide (1 ≤ v.toNat) && decide (v.toNat ≤ 4094)

theorem has8_run (s p : UInt8) : (bits BinOp.and IntKind.u8 ((s.toNat : Int) / 2 ^ min p.toNat 8) 1 == 1) = has8 s p := by
  have hs : s.toNat < 256 := s.toNat_lt
  have e : ((s.toNat : Int) / 2 ^ min p.toNat 8) = ((s.toNat / 2 ^ min p.toNat 8 : Nat) : Int) := by simp
  have hlt : s.toNat / 2 ^ min p.toNat 8 < 256 := Nat.lt_of_le_of_lt (Nat.div_le_self _ _) hs
  rw [e]
  have := u8_and_nat (s.toNat / 2 ^ min p.toNat 8) 1 hlt (by decide)
  rw [show ((1 : Nat) : Int) = 1 from rfl] at this
  rw [this, nat_mask1]
  unfold has8
  rcases Nat.lt_or_ge p.toNat 8 with h | h
  · rw [Nat.min_eq_left (by omega)]
    rw [Bool.eq_iff_iff]; simp only [beq_iff_eq]; omega
  · rw [Nat.min_eq_right h]
    have e1 : s.toNat / 2 ^ 8 = 0 := Nat.div_eq_of_lt (by simpa using hs)
    have e2 : s.toNat / 2 ^ p.toNat = 0 := Nat.div_eq_of_lt (Nat.lt_of_lt_of_le (show s.toNat < 2 ^ 8 by simpa using hs) (Nat.pow_le_pow_right (by decide) h))
    rw [e1, e2]
    rfl
theorem mask_lt {N : Nat} (h : N ≤ 8) : mask N < 256 := by
  unfold mask
  have : 2 ^ N ≤ 2 ^ 8 := Nat.pow_le_pow_right (by decide) h
  omega

set_option maxHeartbeats 1000000 in
theorem canBe_any {w : World} (v : UInt16) :
    Calls Try.prog 33 #[.int .u16 v.toNat] w fun e w' => e = .returned (.bool (okV v)) ∧ w = w' := by
  go_enter Try.func33, Try.ntmps33
  go_wp2
  all_goals go_ret
  all_goals refine ⟨ret_ (congrArg Value.bool ?_), rfl⟩
  all_goals (simp only [okV])
  all_goals (rw [Bool.eq_iff_iff]; simp; omega)

set_option maxHeartbeats 1000000 in
theorem in1_any {w : World} (s p : UInt8) {g : Nat} (hc : w.cell? ⟨g, 0, none⟩ = some (.int .u8 p.toNat)) :
    Calls Try.prog 39 #[.int .u8 s.toNat, .pointer (some ⟨g, 0, none⟩)] w fun e w' => e = .returned (.bool (has8 s p)) ∧ w = w' := by
  go_enter Try.func39, Try.ntmps39
  go_wp2
  go_ret
  exact ⟨ret_ (congrArg Value.bool (has8_run s p)), rfl⟩

set_option maxHeartbeats 1000000 in
theorem in_any {w : World} (p : UInt8) :
    Calls Try.prog 28 #[.int .u8 p.toNat] w fun e w' => e = .returned (.func (.func 39) #[] #[.pointer (some ⟨w.heap.size, 0, none⟩)]) ∧ w' = w.alloc (.cells #[.int .u8 p.toNat] 5) := by
  go_enter Try.func28, Try.ntmps28
  go_wp2
  go_ret
  exact ⟨rfl, rfl⟩

set_option maxHeartbeats 1000000 in
theorem set1_any {w : World} {t N : Nat} {mb : Option Nat} {L : List Vn} {own : List UInt16} (h : Tbl w t mb N L own) (s : UInt8) {g : Nat} (hc : w.cell? ⟨g, 0, none⟩ = some (.pointer (some ⟨t, 0, none⟩))) :
    Calls Try.prog 32 #[.int .u8 s.toNat, .pointer (some ⟨g, 0, none⟩)] w fun e w' => e = .returned (.bool (s.toNat &&& (255 - mask N) == 0)) ∧ w = w' := by
  have c0 := h.c0
  have hm := mask_lt h.n8
  have he : (bits BinOp.andNot IntKind.u8 (s.toNat : Int) (mask N : Nat) == 0) = (s.toNat &&& (255 - mask N) == 0) := by
    rw [u8_andNot_nat _ _ s.toNat_lt hm, Bool.eq_iff_iff]
    simp only [beq_iff_eq]; omega
  clear h
  go_enter Try.func32, Try.ntmps32
  go_wp2
  go_ret
  refine ⟨ret_ (congrArg Value.bool ?_), rfl⟩
  first | exact he | rfl

set_option maxHeartbeats 1000000 in
theorem has_any {w : World} {t N : Nat} {mb : Option Nat} {L : List Vn} {own : List UInt16} (h : Tbl w t mb N L own) (v : UInt16) :
    Calls Try.prog 34 #[.pointer (some ⟨t, 0, none⟩), .int .u16 v.toNat] w fun e w' => e = .returned (.bool (vhas L v)) ∧ Below w.heap.size w w' := by
  have c1 := h.c1
  have hl := h.vof.run v true
  clear h
  go_enter Try.func34, Try.ntmps34
  go_wp2
  go_ret
  exact ⟨rfl, (Below.refl _ _).alloc (Nat.le_refl _) _⟩

set_option maxHeartbeats 1000000 in
theorem of_any {w : World} {t N : Nat} {mb : Option Nat} {L : List Vn} {own : List UInt16} (h : Tbl w t mb N L own) (v : UInt16) :
    Calls Try.prog 25 #[.pointer (some ⟨t, 0, none⟩), .int .u16 v.toNat] w fun e w' => e = .returned (.agg #[.int .u8 (vm L v).toNat, .int .u8 (vu L v).toNat]) ∧ Below w.heap.size w w' := by
  have hlt := h.lt t (.inl rfl)
  have c1 := h.c1
  have hl := (h.next ((Below.refl _ w).alloc (Nat.le_refl _) (.cells #[.int .u8 0, .int .u8 0] 69))).vof.run v false
  clear h
  go_enter Try.func25, Try.ntmps25
  go_wp2
  exact bodyPost_ret (v := .agg #[.int .u8 (vm L v).toNat, .int .u8 (vu L v).toNat]) (by simp [results, Try.results25, go_sem]) rfl ⟨rfl, (Below.refl _ _).alloc (Nat.le_refl _) _⟩
set_option maxHeartbeats 1000000 in
theorem of_nil {w : World} (v : UInt16) :
    Calls Try.prog 25 #[.pointer none, .int .u16 v.toNat] w fun e w' => e = .returned (.agg #[.int .u8 0, .int .u8 0]) ∧ Below w.heap.size w w' := by
  go_enter Try.func25, Try.ntmps25
  go_wp2
  exact bodyPost_ret (v := .agg #[.int .u8 0, .int .u8 0]) (by simp [results, Try.results25, go_sem]) rfl ⟨rfl, (Below.refl _ _).alloc (Nat.le_refl _) _⟩

theorem fld0 (a b : Int) : ∀ w, (Instr.field 69 (.agg #[.int .u8 a, .int .u8 b]) 0).run Try.prog w = .ok (.int .u8 a) w := fun w => by kernel_rfl
set_option maxHeartbeats 1000000 in
theorem members_any {w : World} {t N : Nat} {mb : Option Nat} {L : List Vn} {own : List UInt16} (h : Tbl w t mb N L own) (v : UInt16) :
    Calls Try.prog 11 #[.pointer (some ⟨t, 0, none⟩), .int .u16 v.toNat] w fun e w' => e = .returned (.int .u8 (vm L v).toNat) ∧ Below w.heap.size w w' := by
  go_enter Try.func11, Try.ntmps11
  go_wp2_with fail
  refine (of_any h v).mono ?_
  rintro e w2 ⟨rfl, hb⟩
  clear h
  have hf := fld0 (vm L v).toNat (vu L v).toNat
  go_wp2
  go_ret
  exact ⟨rfl, hb⟩
set_option maxHeartbeats 1000000 in
theorem members_nil {w : World} (v : UInt16) :
    Calls Try.prog 11 #[.pointer none, .int .u16 v.toNat] w fun e w' => e = .returned (.int .u8 0) ∧ Below w.heap.size w w' := by
  go_enter Try.func11, Try.ntmps11
  go_wp2_with fail
  refine (of_nil v).mono ?_
  rintro e w2 ⟨rfl, hb⟩
  have hf := fld0 0 0
  go_wp2
  go_ret
  exact ⟨rfl, hb⟩
end Go.Proofs.Yteiopobkbfancaa
