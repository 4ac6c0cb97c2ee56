/- strings.Trim at noughts. -/
import Derived.Test.YtbkfbaloolbkdaaDoorBase
import Derived.Deep.QuietTactic
import Derived.BigQuiet
namespace Go.Proofs.YtbkfbaloolbkdaaDoor
open Go.RowKit
set_option linter.unusedVariables false
set_option linter.unusedSimpArgs false
set_option maxRecDepth 100000

def lenS (v : Value) : Nat := match v with | .string b => b.size | _ => 0
theorem lenS_str (l : List UInt8) : lenS (.string ⟨l.toArray⟩) = l.length := rfl
theorem u8_ne0 {x : UInt8} (h : ¬ x = 0) : ((x.toNat : Int) == 0) = false := by
  rw [beq_eq_false_iff_ne]
  intro e
  exact h (UInt8.toNat_inj.1 (by show x.toNat = 0; omega))
theorem qleft_ {f : FuncId} {args : Array Value} {w : World} {n : Nat} {v : Value} (h : Calls Tryd.prog f args (w.drewN n) fun e w' => e = .returned v ∧ w.drewN n = w') :
    Calls Tryd.prog f args (w.drewN n) fun e w'' => e = .returned v ∧ ∃ m, w'' = w.drewN m := h.mono fun _ _ ⟨he, hm⟩ => ⟨he, n, hm.symm⟩
theorem below_drewN' {B : Nat} {a w : World} (h : Below B a w) (n : Nat) : Below B a (w.drewN n) := ⟨h.os, h.tape, h.output, h.size, h.block⟩
/-- without the noughts ahead; behind -/
def trl (l : List UInt8) : List UInt8 := l.dropWhile (· == 0)
def trr (l : List UInt8) : List UInt8 := (l.reverse.dropWhile (· == 0)).reverse
theorem trl_zero (m : List UInt8) : trl (0 :: m) = trl m := by simp [trl]
theorem trl_other {x : UInt8} (m : List UInt8) (h : ¬ x = 0) : trl (x :: m) = x :: m := by simp [trl, h]
theorem trr_zero (m : List UInt8) : trr (m ++ [0]) = trr m := by simp [trr]
theorem trr_other {x : UInt8} (m : List UInt8) (h : ¬ x = 0) : trr (m ++ [x]) = m ++ [x] := by simp [trr, h]
theorem trl_nil (l : List UInt8) : trl l = [] ↔ l.all (· == 0) = true := by
  induction l with
  | nil => simp [trl]
  | cons x l ih =>
    by_cases h : x = 0
    · subst h; rw [trl_zero, ih]; simp
    · rw [trl_other l h]; simp [h]
theorem trr_all (l : List UInt8) : (trr l).all (· == 0) = l.all (· == 0) := by
  have h : ∀ r : List UInt8, (trr r.reverse).all (· == 0) = r.reverse.all (· == 0) := by
    intro r
    induction r with
    | nil => rfl
    | cons x r ih =>
      rw [List.reverse_cons]
      by_cases h : x = 0
      · subst h; rw [trr_zero, ih]; simp
      · rw [trr_other _ h]
  simpa using h l.reverse
theorem trim_nil (l : List UInt8) : trl (trr l) = [] ↔ l.all (· == 0) = true := by rw [trl_nil, trr_all]
theorem trr_le (l : List UInt8) : (trr l).length ≤ l.length := by
  unfold trr
  have := (List.dropWhile_sublist (· == (0 : UInt8)) (l := l.reverse)).length_le
  simpa using this
set_option maxHeartbeats 1000000 in
theorem triml_any (l : List UInt8) (w : World) :
    Calls Tryd.prog 38 #[.string ⟨l.toArray⟩, .int .u8 0] w fun e w' => e = .returned (.string ⟨(trl l).toArray⟩) ∧ w = w' := by
  go_enter Tryd.func38, Tryd.ntmps38
  go_wp2
  go_loop [0] (fun v => ∃ m : List UInt8, v = .string ⟨m.toArray⟩ ∧ trl m = trl l) (fun v => lenS v)
  case atStart => exact ⟨l, rfl, rfl⟩
  case round =>
    obtain ⟨m, rfl, hm⟩ := hrel
    cases m with
    | nil =>
      have HM := Lib.hid hm
      clear hm
      go_wp2
      go_ret
      exact ⟨by rw [← HM.out]; rfl, rfl⟩
    | cons x m =>
      have HM := Lib.hid hm
      clear hm
      by_cases hx : x = 0
      · subst hx
        have hb0 : ∀ h, (⟨((0 : UInt8) :: m).toArray⟩ : ByteArray)[0]'h = 0 := fun _ => rfl
        have hx1 : (⟨((0 : UInt8) :: m).toArray⟩ : ByteArray).extract 1 (m.length + 1) = ⟨m.toArray⟩ := extract_drop (0 :: m) 1
        rw [trl_zero] at HM
        go_wp2
        exact ⟨⟨m, rfl, HM.out⟩, by rw [lenS_str, lenS_str]; simp⟩
      · have hb0 : ∀ h, (⟨(x :: m).toArray⟩ : ByteArray)[0]'h = x := fun _ => rfl
        have hxb := u8_ne0 hx
        rw [trl_other m hx] at HM
        clear hx
        go_wp2
        go_ret
        exact ⟨by rw [← HM.out]; rfl, rfl⟩
set_option maxHeartbeats 1000000 in
theorem trimr_any (l : List UInt8) (hl : l.length ≤ 4611686018427387904) (w : World) :
    Calls Tryd.prog 39 #[.string ⟨l.toArray⟩, .int .u8 0] w fun e w' => e = .returned (.string ⟨(trr l).toArray⟩) ∧ w = w' := by
  go_enter Tryd.func39, Tryd.ntmps39
  go_wp2
  go_loop [0] (fun v => ∃ m : List UInt8, v = .string ⟨m.toArray⟩ ∧ m.length ≤ l.length ∧ trr m = trr l) (fun v => lenS v)
  case atStart => exact ⟨l, rfl, Nat.le_refl _, rfl⟩
  case round =>
    obtain ⟨m, rfl, hml, hm⟩ := hrel
    rcases List.eq_nil_or_concat m with rfl | ⟨k, x, rfl⟩
    · have HM := Lib.hid hm
      clear hm
      go_wp2
      go_ret
      exact ⟨by rw [← HM.out]; rfl, rfl⟩
    · rw [List.concat_eq_append] at *
      have HM := Lib.hid hm
      have hkl : k.length + 1 ≤ 4611686018427387904 := by have := hml; simp at this; omega
      have HK := Lib.hid hml
      have e1 : wrap64 (k.length : Int) = k.length := IntWalk.wrap64_in _ (by omega)
      have hb0 : ∀ h, (⟨(k ++ [x]).toArray⟩ : ByteArray)[k.length]'h = x := fun h => by
        show (k ++ [x])[k.length]'_ = x
        simp
      have hx1 : (⟨(k ++ [x]).toArray⟩ : ByteArray).extract 0 k.length = ⟨k.toArray⟩ := by
        have := extract_take (k ++ [x]) k.length
        simpa using this
      clear hm hml hkl
      by_cases hx : x = 0
      · subst hx
        rw [trr_zero] at HM
        go_wp2
        exact ⟨⟨k, rfl, by have := HK.out; simp at this; omega, HM.out⟩, by rw [lenS_str, lenS_str]; simp⟩
      · have hxb := u8_ne0 hx
        rw [trr_other k hx] at HM
        clear hx
        go_wp2
        go_ret
        exact ⟨by rw [← HM.out]; rfl, rfl⟩
set_option maxHeartbeats 1000000 in
theorem trim_any (l : List UInt8) (hl : l.length ≤ 4611686018427387904) (w : World) :
    Calls Tryd.prog 23 #[.string ⟨l.toArray⟩, .string ⟨#[0]⟩] w fun e w' => e = .returned (.string ⟨(trl (trr l)).toArray⟩) ∧ Below w.heap.size w w' := by
  cases l with
  | nil =>
    go_enter Tryd.func23, Tryd.ntmps23
    go_wp2_with fail
    go_ret
    exact ⟨rfl, Below.refl _ _⟩
  | cons x l =>
    have HR := Lib.hid (fun w => trimr_any (x :: l) hl w)
    have HL := Lib.hid (fun w => triml_any (trr (x :: l)) w)
    obtain ⟨a, ha⟩ : ∃ a, trr (x :: l) = a := ⟨_, rfl⟩
    obtain ⟨b, hb⟩ : ∃ b, trl a = b := ⟨_, rfl⟩
    rw [ha] at HR HL ⊢
    rw [hb] at HL ⊢
    clear ha hb hl
    have h0 : ∀ h, (⟨#[(0 : UInt8)]⟩ : ByteArray)[0]'h = 0 := fun _ => rfl
    go_enter Tryd.func23, Tryd.ntmps23
    go_wp2_with fail
    go_quiet (first | (go_at_call 38; exact qleft_ (HL.out _)) | (go_at_call 39; exact qleft_ (HR.out _)))
    go_wp2_with fail
    go_ret
    exact ⟨rfl, below_drewN' (Below.refl _ _) _⟩
end Go.Proofs.YtbkfbaloolbkdaaDoor
