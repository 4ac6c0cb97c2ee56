/- Layer 5: the document's Bytes, num. -/
import Derived.Test.YtbkfbaloolbkdaaDoorRef
namespace Go.Proofs.YtbkfbaloolbkdaaDoor
open Go.RowKit
set_option linter.unusedVariables false
set_option linter.unusedSimpArgs false
set_option maxRecDepth 100000

theorem num5_any (l : List UInt8) (hl : l.length ≤ 8) (w : World) :
    Calls Tryd.prog 27 #[.string ⟨l.toArray⟩] w fun r w' => r = .returned (.int .u64 (num l)) ∧ Below w.heap.size w w' := by
  have hv : rtV l.length l 0 = l := by
    unfold rtV
    split
    · rename_i h; have : l = [] := List.eq_nil_of_length_eq_zero (by omega); exact this.symm
    · rw [if_neg (by omega), Int.toNat_natCast, List.take_length]
  have HV := Lib.hid hv
  clear hv
  go_enter Tryd.func27, Tryd.ntmps27
  go_wp2_with fail
  refine (refnum_any 0 (l.length : Int) (by omega) (by omega)).mono ?_
  rw [HV.out]
  obtain ⟨l2, h2⟩ : ∃ l2, rtL (l.length : Int) l 0 = l2 := ⟨_, rfl⟩
  obtain ⟨e2, h3⟩ : ∃ l2, rtE (l.length : Int) l 0 = l2 := ⟨_, rfl⟩
  rw [h2, h3]
  clear h2 h3
  rintro r w1 ⟨rfl, hb1⟩
  have HB1 := Lib.hid hb1
  clear hb1
  go_wp2
  go_ret
  refine ⟨rfl, ?_⟩
  have := HB1.out
  repeat (first | exact this | (refine Below.alloc ?_ (this.size) _) | (refine Below.setCell ?_ (by simp; exact this.size) _))
theorem num5s (k : Nat) (n : Int) (w : World) (h0 : 0 ≤ n) (h1 : n ≤ 18446744073709551615) (hk : k ≤ 1000) (kk : Int) (hkk : kk = (k : Int)) : Calls Tryd.prog 20 #[.int .u64 n, .int .i64 kk] w fun e w' => e = .returned (.string ⟨(dig k n.toNat).toArray⟩) ∧ Below w.heap.size w w' := by
  subst hkk; exact numstr_any k n w h0 h1 hk
set_option maxHeartbeats 4000000 in
theorem refbytes5_any (w : World) (x : Bp) (hx : x.ok) :
    Calls Tryd.prog 11 #[BV x] w fun r w' => r = .returned (.string ⟨(bbytes x).toArray⟩) ∧ Below w.heap.size w w' := by
  have n0 := u64wf hx.v.r
  have n1 := u32wf hx.v.c
  have n2 := u64wf hx.v.b
  have n3 := u8wf hx.v.p
  have n4 := u8wf hx.h
  have n5 := u64wf hx.ver
  have n6 := u8wf hx.role
  have n10 := u64wf hx.ec
  have K0 := fun w => num5s 8 x.v.r w (by omega) (by omega) (by omega) 8 rfl
  have K1 := fun w => num5s 4 x.v.c w (by omega) (by omega) (by omega) 4 rfl
  have K2 := fun w => num5s 8 x.v.b w (by omega) (by omega) (by omega) 8 rfl
  have K3 := fun w => num5s 1 x.v.p w (by omega) (by omega) (by omega) 1 rfl
  have K4 := fun w => num5s 1 x.h w (by omega) (by omega) (by omega) 1 rfl
  have K5 := fun w => num5s 8 x.ver w (by omega) (by omega) (by omega) 8 rfl
  have K6 := fun w => num5s 1 x.role w (by omega) (by omega) (by omega) 1 rfl
  have K10 := fun w => num5s 8 x.ec w (by omega) (by omega) (by omega) 8 rfl
  have hfl := bfl_lt x
  have KF := fun w => num5s 1 (bfl x : Int) w (by omega) (by omega) (by omega) 1 rfl
  rw [Int.toNat_natCast] at KF
  have e1 : IntKind.u64.wrap x.v.c = x.v.c := IntWalk.u64_in _ (by omega)
  have e3 : IntKind.u64.wrap x.v.p = x.v.p := IntWalk.u64_in _ (by omega)
  have e4 : IntKind.u64.wrap x.h = x.h := IntWalk.u64_in _ (by omega)
  have e6 : IntKind.u64.wrap x.role = x.role := IntWalk.u64_in _ (by omega)
  have hbb : bbytes x = [67, 77] ++ dig 1 x.role.toNat ++ dig 1 (bfl x) ++ dig 8 x.v.r.toNat ++ dig 4 x.v.c.toNat ++ dig 8 x.v.b.toNat ++ dig 1 x.v.p.toNat ++ dig 1 x.h.toNat ++ dig 8 x.ver.toNat ++ dig 8 x.ec.toNat := rfl
  obtain ⟨D0, hD0⟩ : ∃ D, dig 8 x.v.r.toNat = D := ⟨_, rfl⟩
  have lD0 : D0.length = 8 := by rw [← hD0]; exact dig_len _ _
  rw [hD0] at hbb K0
  have HK0 := Lib.hid K0
  clear hD0 K0
  obtain ⟨D1, hD1⟩ : ∃ D, dig 4 x.v.c.toNat = D := ⟨_, rfl⟩
  have lD1 : D1.length = 4 := by rw [← hD1]; exact dig_len _ _
  rw [hD1] at hbb K1
  have HK1 := Lib.hid K1
  clear hD1 K1
  obtain ⟨D2, hD2⟩ : ∃ D, dig 8 x.v.b.toNat = D := ⟨_, rfl⟩
  have lD2 : D2.length = 8 := by rw [← hD2]; exact dig_len _ _
  rw [hD2] at hbb K2
  have HK2 := Lib.hid K2
  clear hD2 K2
  obtain ⟨D3, hD3⟩ : ∃ D, dig 1 x.v.p.toNat = D := ⟨_, rfl⟩
  have lD3 : D3.length = 1 := by rw [← hD3]; exact dig_len _ _
  rw [hD3] at hbb K3
  have HK3 := Lib.hid K3
  clear hD3 K3
  obtain ⟨D4, hD4⟩ : ∃ D, dig 1 x.h.toNat = D := ⟨_, rfl⟩
  have lD4 : D4.length = 1 := by rw [← hD4]; exact dig_len _ _
  rw [hD4] at hbb K4
  have HK4 := Lib.hid K4
  clear hD4 K4
  obtain ⟨D5, hD5⟩ : ∃ D, dig 8 x.ver.toNat = D := ⟨_, rfl⟩
  have lD5 : D5.length = 8 := by rw [← hD5]; exact dig_len _ _
  rw [hD5] at hbb K5
  have HK5 := Lib.hid K5
  clear hD5 K5
  obtain ⟨D6, hD6⟩ : ∃ D, dig 1 x.role.toNat = D := ⟨_, rfl⟩
  have lD6 : D6.length = 1 := by rw [← hD6]; exact dig_len _ _
  rw [hD6] at hbb K6
  have HK6 := Lib.hid K6
  clear hD6 K6
  obtain ⟨D10, hD10⟩ : ∃ D, dig 8 x.ec.toNat = D := ⟨_, rfl⟩
  have lD10 : D10.length = 8 := by rw [← hD10]; exact dig_len _ _
  rw [hD10] at hbb K10
  have HK10 := Lib.hid K10
  clear hD10 K10
  obtain ⟨DF, hDF⟩ : ∃ D, dig 1 (bfl x) = D := ⟨_, rfl⟩
  have lDF : DF.length = 1 := by rw [← hDF]; exact dig_len _ _
  rw [hDF] at hbb KF
  have HKF := Lib.hid KF
  clear hDF KF
  obtain ⟨A1, hA1⟩ : ∃ A, [67, 77] ++ D6 = A := ⟨_, rfl⟩
  have lA1 : A1.length = 3 := by rw [← hA1]; simp [lD6]
  have aA1 : ∀ W : World, (Op.stringOp .add ⟨#[67, 77]⟩ ⟨D6.toArray⟩).run Tryd.prog W = .ok (.string ⟨A1.toArray⟩) W := fun W => by rw [← hA1]; exact run_string_add_lists W [67, 77] D6 (by first | decide | omega) (by omega)
  rw [hA1] at hbb
  have SA1 := Lib.hid aA1
  clear hA1 aA1
  obtain ⟨A2, hA2⟩ : ∃ A, A1 ++ DF = A := ⟨_, rfl⟩
  have lA2 : A2.length = 4 := by rw [← hA2]; simp [lA1, lDF]
  have aA2 : ∀ W : World, (Op.stringOp .add ⟨A1.toArray⟩ ⟨DF.toArray⟩).run Tryd.prog W = .ok (.string ⟨A2.toArray⟩) W := fun W => by rw [← hA2]; exact run_string_add_lists W A1 DF (by first | decide | omega) (by omega)
  rw [hA2] at hbb
  have SA2 := Lib.hid aA2
  clear hA2 aA2
  obtain ⟨A3, hA3⟩ : ∃ A, A2 ++ D0 = A := ⟨_, rfl⟩
  have lA3 : A3.length = 12 := by rw [← hA3]; simp [lA2, lD0]
  have aA3 : ∀ W : World, (Op.stringOp .add ⟨A2.toArray⟩ ⟨D0.toArray⟩).run Tryd.prog W = .ok (.string ⟨A3.toArray⟩) W := fun W => by rw [← hA3]; exact run_string_add_lists W A2 D0 (by first | decide | omega) (by omega)
  rw [hA3] at hbb
  have SA3 := Lib.hid aA3
  clear hA3 aA3
  obtain ⟨A4, hA4⟩ : ∃ A, A3 ++ D1 = A := ⟨_, rfl⟩
  have lA4 : A4.length = 16 := by rw [← hA4]; simp [lA3, lD1]
  have aA4 : ∀ W : World, (Op.stringOp .add ⟨A3.toArray⟩ ⟨D1.toArray⟩).run Tryd.prog W = .ok (.string ⟨A4.toArray⟩) W := fun W => by rw [← hA4]; exact run_string_add_lists W A3 D1 (by first | decide | omega) (by omega)
  rw [hA4] at hbb
  have SA4 := Lib.hid aA4
  clear hA4 aA4
  obtain ⟨A5, hA5⟩ : ∃ A, A4 ++ D2 = A := ⟨_, rfl⟩
  have lA5 : A5.length = 24 := by rw [← hA5]; simp [lA4, lD2]
  have aA5 : ∀ W : World, (Op.stringOp .add ⟨A4.toArray⟩ ⟨D2.toArray⟩).run Tryd.prog W = .ok (.string ⟨A5.toArray⟩) W := fun W => by rw [← hA5]; exact run_string_add_lists W A4 D2 (by first | decide | omega) (by omega)
  rw [hA5] at hbb
  have SA5 := Lib.hid aA5
  clear hA5 aA5
  obtain ⟨A6, hA6⟩ : ∃ A, A5 ++ D3 = A := ⟨_, rfl⟩
  have lA6 : A6.length = 25 := by rw [← hA6]; simp [lA5, lD3]
  have aA6 : ∀ W : World, (Op.stringOp .add ⟨A5.toArray⟩ ⟨D3.toArray⟩).run Tryd.prog W = .ok (.string ⟨A6.toArray⟩) W := fun W => by rw [← hA6]; exact run_string_add_lists W A5 D3 (by first | decide | omega) (by omega)
  rw [hA6] at hbb
  have SA6 := Lib.hid aA6
  clear hA6 aA6
  obtain ⟨A7, hA7⟩ : ∃ A, A6 ++ D4 = A := ⟨_, rfl⟩
  have lA7 : A7.length = 26 := by rw [← hA7]; simp [lA6, lD4]
  have aA7 : ∀ W : World, (Op.stringOp .add ⟨A6.toArray⟩ ⟨D4.toArray⟩).run Tryd.prog W = .ok (.string ⟨A7.toArray⟩) W := fun W => by rw [← hA7]; exact run_string_add_lists W A6 D4 (by first | decide | omega) (by omega)
  rw [hA7] at hbb
  have SA7 := Lib.hid aA7
  clear hA7 aA7
  obtain ⟨A8, hA8⟩ : ∃ A, A7 ++ D5 = A := ⟨_, rfl⟩
  have lA8 : A8.length = 34 := by rw [← hA8]; simp [lA7, lD5]
  have aA8 : ∀ W : World, (Op.stringOp .add ⟨A7.toArray⟩ ⟨D5.toArray⟩).run Tryd.prog W = .ok (.string ⟨A8.toArray⟩) W := fun W => by rw [← hA8]; exact run_string_add_lists W A7 D5 (by first | decide | omega) (by omega)
  rw [hA8] at hbb
  have SA8 := Lib.hid aA8
  clear hA8 aA8
  obtain ⟨A9, hA9⟩ : ∃ A, A8 ++ D10 = A := ⟨_, rfl⟩
  have lA9 : A9.length = 42 := by rw [← hA9]; simp [lA8, lD10]
  have aA9 : ∀ W : World, (Op.stringOp .add ⟨A8.toArray⟩ ⟨D10.toArray⟩).run Tryd.prog W = .ok (.string ⟨A9.toArray⟩) W := fun W => by rw [← hA9]; exact run_string_add_lists W A8 D10 (by first | decide | omega) (by omega)
  rw [hA9] at hbb
  have SA9 := Lib.hid aA9
  clear hA9 aA9
  have HBB := Lib.hid hbb
  have hfl2 : Hid ((if x.tp then (if x.ag then (if x.pr then (1 : Int) else 0) + 2 else (if x.pr then (1 : Int) else 0)) + 4 else (if x.ag then (if x.pr then (1 : Int) else 0) + 2 else (if x.pr then (1 : Int) else 0))) = (bfl x : Int)) := Lib.hid (by
    unfold bfl; cases x.pr <;> cases x.ag <;> cases x.tp <;> rfl)
  have E1 := Lib.hid e1
  have E3 := Lib.hid e3
  have E4 := Lib.hid e4
  have E6 := Lib.hid e6
  clear n0 n1 n2 n3 n4 n5 n6 n10 hx hbb hfl e1 e3 e4 e6
  obtain ⟨w1, hw1⟩ : ∃ w1, w.alloc (.cells #[.int .u64 x.v.r, .int .u32 x.v.c, .int .u64 x.v.b, .int .u8 x.v.p, .int .u8 x.h, .int .u64 x.ver, .int .u8 x.role, .bool x.pr, .bool x.ag, .bool x.tp, .int .u64 x.ec] 27) = w1 := ⟨_, rfl⟩
  have HX1 : Hid (BpA 27 w1 w.heap.size x) := Lib.hid (by rw [← hw1]; exact BpA.new _ _ _)
  have HB1 : Hid (Below w.heap.size w w1) := Lib.hid (by rw [← hw1]; exact (Below.refl _ _).alloc (Nat.le_refl _) _)
  have c7 := HX1.out.cells.c7
  have c8 := HX1.out.cells.c8
  have c9 := HX1.out.cells.c9
  go_enter Tryd.func11, Tryd.ntmps11
  go_upto_if 6 with (fail)
  clear hw1
  go_cut [3] (fun n wx => n = .int .u64 (if x.pr then 1 else 0) ∧ wx = w1)
  case first =>
    cases hp : x.pr
    all_goals (
      rw [hp] at c7
      go_wp2
      go_meet
      exact ⟨by rw [hp]; rfl, rfl⟩)
  obtain ⟨rfl, hw⟩ := hcut
  rw [hw]
  clear hw c7
  go_upto_if 10 with (fail)
  go_cut [3] (fun n wx => n = .int .u64 (if x.ag then (if x.pr then (1 : Int) else 0) + 2 else (if x.pr then (1 : Int) else 0)) ∧ wx = w1)
  case first =>
    cases hp : x.pr <;> cases ha : x.ag
    all_goals (
      rw [ha] at c8
      go_wp2
      go_meet
      exact ⟨by rw [hp, ha]; rfl, rfl⟩)
  obtain ⟨rfl, hw⟩ := hcut
  rw [hw]
  clear hw c8
  go_upto_if 14 with (fail)
  go_cut [3] (fun n wx => n = .int .u64 (if x.tp then (if x.ag then (if x.pr then (1 : Int) else 0) + 2 else (if x.pr then (1 : Int) else 0)) + 4 else (if x.ag then (if x.pr then (1 : Int) else 0) + 2 else (if x.pr then (1 : Int) else 0))) ∧ wx = w1)
  case first =>
    cases hp : x.pr <;> cases ha : x.ag <;> cases ht : x.tp
    all_goals (
      rw [ht] at c9
      go_wp2
      go_meet
      exact ⟨by rw [hp, ha, ht]; rfl, rfl⟩)
  obtain ⟨rfl, hw⟩ := hcut
  rw [hw, hfl2.out]
  clear hw c9 hfl2
  have c6 := HX1.out.cells.c6
  have e6 := E6.out
  go_wp2_with fail
  refine (HK6.out _).mono ?_
  rintro r w2 ⟨rfl, hb2⟩
  have HX2 := Lib.hid (HX1.out.next hb2)
  have HB2 : Hid (Below w.heap.size w w2) := Lib.hid (HB1.out.trans (hb2.mono HB1.out.size))
  have a1 := SA1.out
  clear hb2 c6 e6 HX1 HB1
  go_wp2_with fail
  refine (HKF.out _).mono ?_
  rintro r w3 ⟨rfl, hb3⟩
  have HX3 := Lib.hid (HX2.out.next hb3)
  have HB3 : Hid (Below w.heap.size w w3) := Lib.hid (HB2.out.trans (hb3.mono HB2.out.size))
  have a2 := SA2.out
  clear hb3 HX2 HB2 a1
  go_upto_region 9 with (fail)
  clear a2
  have HBd : Hid (Below w.heap.size w w3.drew) := Lib.hid (Below.drew HB3.out)
  have c0 := HX3.out.cells.c0
  have c1 := HX3.out.cells.c1
  have c2 := HX3.out.cells.c2
  have c3 := HX3.out.cells.c3
  have c4 := HX3.out.cells.c4
  have c5 := HX3.out.cells.c5
  have c10 := HX3.out.cells.c10
  have a3 := SA3.out
  have a4 := SA4.out
  have a5 := SA5.out
  have e1 := E1.out
  go_cut [4] (fun t wx => t = .string ⟨A5.toArray⟩ ∧ wx.cell? ⟨w.heap.size, 3, none⟩ = some (.int .u8 x.v.p) ∧ wx.cell? ⟨w.heap.size, 4, none⟩ = some (.int .u8 x.h) ∧ wx.cell? ⟨w.heap.size, 5, none⟩ = some (.int .u64 x.ver) ∧ wx.cell? ⟨w.heap.size, 10, none⟩ = some (.int .u64 x.ec) ∧ Hid (Below w.heap.size w wx))
  case first =>
    go_region_held3 (fun w_ => w_.cell? ⟨w.heap.size, 0, none⟩ = some (.int .u64 x.v.r) ∧ w_.cell? ⟨w.heap.size, 1, none⟩ = some (.int .u32 x.v.c) ∧ w_.cell? ⟨w.heap.size, 2, none⟩ = some (.int .u64 x.v.b) ∧ w_.cell? ⟨w.heap.size, 3, none⟩ = some (.int .u8 x.v.p) ∧ w_.cell? ⟨w.heap.size, 4, none⟩ = some (.int .u8 x.h) ∧ w_.cell? ⟨w.heap.size, 5, none⟩ = some (.int .u64 x.ver) ∧ w_.cell? ⟨w.heap.size, 10, none⟩ = some (.int .u64 x.ec) ∧ Hid (Below w.heap.size w w_)) (go_keep)
      (first
        | (go_at_call_of 20 (Value.int IntKind.u64 x.v.r); refine (HK0.out _).mono ?_; rintro r w_ ⟨rfl, hb_⟩; have k0 := keepc (p := ⟨w.heap.size, 0, none⟩) (v := .int .u64 x.v.r) (by assumption) hb_; have k1 := keepc (p := ⟨w.heap.size, 1, none⟩) (v := .int .u32 x.v.c) (by assumption) hb_; have k2 := keepc (p := ⟨w.heap.size, 2, none⟩) (v := .int .u64 x.v.b) (by assumption) hb_; have k3 := keepc (p := ⟨w.heap.size, 3, none⟩) (v := .int .u8 x.v.p) (by assumption) hb_; have k4 := keepc (p := ⟨w.heap.size, 4, none⟩) (v := .int .u8 x.h) (by assumption) hb_; have k5 := keepc (p := ⟨w.heap.size, 5, none⟩) (v := .int .u64 x.ver) (by assumption) hb_; have k10 := keepc (p := ⟨w.heap.size, 10, none⟩) (v := .int .u64 x.ec) (by assumption) hb_; have kB := keepb (by assumption) hb_; clear hb_)
        | (go_at_call_of 20 (Value.int IntKind.u64 x.v.b); refine (HK2.out _).mono ?_; rintro r w_ ⟨rfl, hb_⟩; have k0 := keepc (p := ⟨w.heap.size, 0, none⟩) (v := .int .u64 x.v.r) (by assumption) hb_; have k1 := keepc (p := ⟨w.heap.size, 1, none⟩) (v := .int .u32 x.v.c) (by assumption) hb_; have k2 := keepc (p := ⟨w.heap.size, 2, none⟩) (v := .int .u64 x.v.b) (by assumption) hb_; have k3 := keepc (p := ⟨w.heap.size, 3, none⟩) (v := .int .u8 x.v.p) (by assumption) hb_; have k4 := keepc (p := ⟨w.heap.size, 4, none⟩) (v := .int .u8 x.h) (by assumption) hb_; have k5 := keepc (p := ⟨w.heap.size, 5, none⟩) (v := .int .u64 x.ver) (by assumption) hb_; have k10 := keepc (p := ⟨w.heap.size, 10, none⟩) (v := .int .u64 x.ec) (by assumption) hb_; have kB := keepb (by assumption) hb_; clear hb_)
        | (go_at_call 20; refine (HK1.out _).mono ?_; rintro r w_ ⟨rfl, hb_⟩; have k0 := keepc (p := ⟨w.heap.size, 0, none⟩) (v := .int .u64 x.v.r) (by assumption) hb_; have k1 := keepc (p := ⟨w.heap.size, 1, none⟩) (v := .int .u32 x.v.c) (by assumption) hb_; have k2 := keepc (p := ⟨w.heap.size, 2, none⟩) (v := .int .u64 x.v.b) (by assumption) hb_; have k3 := keepc (p := ⟨w.heap.size, 3, none⟩) (v := .int .u8 x.v.p) (by assumption) hb_; have k4 := keepc (p := ⟨w.heap.size, 4, none⟩) (v := .int .u8 x.h) (by assumption) hb_; have k5 := keepc (p := ⟨w.heap.size, 5, none⟩) (v := .int .u64 x.ver) (by assumption) hb_; have k10 := keepc (p := ⟨w.heap.size, 10, none⟩) (v := .int .u64 x.ec) (by assumption) hb_; have kB := keepb (by assumption) hb_; clear hb_))
    all_goals (
      go_wp2_with fail
      go_meet
      exact ⟨rfl, by assumption, by assumption, by assumption, by assumption, by assumption⟩)
  obtain ⟨rfl, g3, g4, g5, g10, HBc⟩ := hcut
  obtain ⟨w4, rfl⟩ : ∃ w4, w4 = wc := ⟨_, rfl⟩
  clear HBd c0 c1 c2 c3 c4 c5 c10 a3 a4 a5 e1 HX3 HB3
  go_upto_region 10 with (fail)
  have HBd : Hid (Below w.heap.size w w4.drew) := Lib.hid (Below.drew HBc.out)
  have a6 := SA6.out
  have a7 := SA7.out
  have e3 := E3.out
  have e4 := E4.out
  go_cut [4] (fun t wx => t = .string ⟨A7.toArray⟩ ∧ wx.cell? ⟨w.heap.size, 5, none⟩ = some (.int .u64 x.ver) ∧ wx.cell? ⟨w.heap.size, 10, none⟩ = some (.int .u64 x.ec) ∧ Hid (Below w.heap.size w wx))
  case first =>
    go_region_held3 (fun w_ => w_.cell? ⟨w.heap.size, 3, none⟩ = some (.int .u8 x.v.p) ∧ w_.cell? ⟨w.heap.size, 4, none⟩ = some (.int .u8 x.h) ∧ w_.cell? ⟨w.heap.size, 5, none⟩ = some (.int .u64 x.ver) ∧ w_.cell? ⟨w.heap.size, 10, none⟩ = some (.int .u64 x.ec) ∧ Hid (Below w.heap.size w w_)) (go_keep)
      (first
        | (go_at_call_of 20 (Value.int IntKind.u64 x.v.p); refine (HK3.out _).mono ?_; rintro r w_ ⟨rfl, hb_⟩; have k3 := keepc (p := ⟨w.heap.size, 3, none⟩) (v := .int .u8 x.v.p) (by assumption) hb_; have k4 := keepc (p := ⟨w.heap.size, 4, none⟩) (v := .int .u8 x.h) (by assumption) hb_; have k5 := keepc (p := ⟨w.heap.size, 5, none⟩) (v := .int .u64 x.ver) (by assumption) hb_; have k10 := keepc (p := ⟨w.heap.size, 10, none⟩) (v := .int .u64 x.ec) (by assumption) hb_; have kB := keepb (by assumption) hb_; clear hb_)
        | (go_at_call 20; refine (HK4.out _).mono ?_; rintro r w_ ⟨rfl, hb_⟩; have k3 := keepc (p := ⟨w.heap.size, 3, none⟩) (v := .int .u8 x.v.p) (by assumption) hb_; have k4 := keepc (p := ⟨w.heap.size, 4, none⟩) (v := .int .u8 x.h) (by assumption) hb_; have k5 := keepc (p := ⟨w.heap.size, 5, none⟩) (v := .int .u64 x.ver) (by assumption) hb_; have k10 := keepc (p := ⟨w.heap.size, 10, none⟩) (v := .int .u64 x.ec) (by assumption) hb_; have kB := keepb (by assumption) hb_; clear hb_))
    all_goals (
      go_wp2_with fail
      go_meet
      exact ⟨rfl, by assumption, by assumption, by assumption⟩)
  obtain ⟨rfl, f5, f10, HBe⟩ := hcut
  obtain ⟨w5, rfl⟩ : ∃ w5, w5 = wc := ⟨_, rfl⟩
  clear HBd g3 g4 g5 g10 a6 a7 e3 e4 HBc
  go_upto_region 11 with (fail)
  have HBd : Hid (Below w.heap.size w w5.drew) := Lib.hid (Below.drew HBe.out)
  have a8 := SA8.out
  have a9 := SA9.out
  go_region_held3 (fun w_ => w_.cell? ⟨w.heap.size, 5, none⟩ = some (.int .u64 x.ver) ∧ w_.cell? ⟨w.heap.size, 10, none⟩ = some (.int .u64 x.ec) ∧ Hid (Below w.heap.size w w_)) (go_keep)
    (first
      | (go_at_call_of 20 (Value.int IntKind.u64 x.ver); refine (HK5.out _).mono ?_; rintro r w_ ⟨rfl, hb_⟩; have k5 := keepc (p := ⟨w.heap.size, 5, none⟩) (v := .int .u64 x.ver) (by assumption) hb_; have k10 := keepc (p := ⟨w.heap.size, 10, none⟩) (v := .int .u64 x.ec) (by assumption) hb_; have kB := keepb (by assumption) hb_; clear hb_)
      | (go_at_call 20; refine (HK10.out _).mono ?_; rintro r w_ ⟨rfl, hb_⟩; have k5 := keepc (p := ⟨w.heap.size, 5, none⟩) (v := .int .u64 x.ver) (by assumption) hb_; have k10 := keepc (p := ⟨w.heap.size, 10, none⟩) (v := .int .u64 x.ec) (by assumption) hb_; have kB := keepb (by assumption) hb_; clear hb_))
  all_goals (
    go_wp2
    go_ret
    rw [HBB.out]
    exact ⟨rfl, Hid.out (by assumption)⟩)
end Go.Proofs.YtbkfbaloolbkdaaDoor
