/- Layer 3: the document's own functions (viaductref03). -/
import Derived.Test.YteiopobkbfancaaFrameKit
import Derived.Test.YteiopobkbfancaaRefNum
import Derived.Deep.QuietTactic
import Derived.BigQuiet
import Derived.Deep.RegionHeld3
import Derived.Laws.Concat
namespace Go.Proofs.Yteiopobkbfancaa
open Go.RowKit
set_option linter.unusedVariables false
set_option linter.unusedSimpArgs false
set_option maxRecDepth 100000

set_option maxHeartbeats 1000000 in
theorem refmay_any (w : World) (f : Fr) :
    Calls Try.prog 44 #[FV f] w fun r w' => r = .returned (.bool (fmay f)) ∧ Below w.heap.size w w' := by
  cases ht : f.tag
  · rw [fmay_bare f ht]
    have p1 : ((f.pri.toNat : Int) == 0) = (f.pri == 0) := u8_beq f.pri 0
    have p2 : ((f.vid.toNat : Int) == 0) = (f.vid == 0) := u16_beq f.vid 0
    have p3 : ((f.ty.toNat : Int) == 33024) = (f.ty == 33024) := u16_beq f.ty 33024
    have p4 : ((f.ty.toNat : Int) != 33024) = (f.ty != 33024) := by unfold bne; rw [p3]
    generalize (f.pri == 0) = q1 at *
    generalize (f.vid == 0) = q2 at *
    generalize (f.ty != 33024) = q3 at *
    clear p3
    cases q1 <;> cases q2
    all_goals (
      go_enter Try.func44, Try.ntmps44
      skip
      go_wp2
      go_ret
      exact ⟨rfl, (Below.refl _ _).alloc (Nat.le_refl _) _⟩)
  · rw [fmay_tag f ht]
    have p1 : decide ((f.pri.toNat : Int) ≤ 7) = decide (f.pri.toNat ≤ 7) := by rw [Bool.eq_iff_iff]; simp; omega
    have p2 : decide ((f.vid.toNat : Int) ≤ 4095) = decide (f.vid.toNat ≤ 4095) := by rw [Bool.eq_iff_iff]; simp; omega
    generalize decide (f.pri.toNat ≤ 7) = q1 at *
    generalize decide (f.vid.toNat ≤ 4095) = q2 at *
    cases q1
    all_goals (
      go_enter Try.func44, Try.ntmps44
      skip
      go_wp2
      go_ret
      exact ⟨rfl, (Below.refl _ _).alloc (Nat.le_refl _) _⟩)

theorem num2_any (x : Nat) (w : World) (h : x ≤ 18446744073709551615) :
    Calls Try.prog 52 #[.int .u64 (x : Int), .int .i64 2] w fun e w' => e = .returned (.string ⟨(dig 2 x).toArray⟩) ∧ Below w.heap.size w w' := numstr_any 2 (x : Int) w (by omega) (by omega) (by omega)
theorem numtag_any (w : World) :
    Calls Try.prog 52 #[.int .u64 33024, .int .i64 2] w fun e w' => e = .returned (.string ⟨(dig 2 33024).toArray⟩) ∧ Below w.heap.size w w' := numstr_any 2 33024 w (by omega) (by omega) (by omega)
set_option maxHeartbeats 4000000 in
set_option maxRecDepth 100000 in
theorem refbytes_any (w : World) (f : Fr) (hl : f.data.length ≤ 8388000) :
    Calls Try.prog 45 #[FV f] w fun r w' => r = .returned (.string ⟨(fbytes f).toArray⟩) ∧ Below w.heap.size w w' := by
  have hw1 := FrA.new w f
  have hcells := hw1.cells
  have hcd := fun n => ((hcells.drewN n).dst 6).conv
  have hcs := fun n => ((hcells.drewN n).src 6).conv
  have hbw : Below w.heap.size w (w.alloc (.cells #[.int .u8 f.d0.toNat, .int .u8 f.d1.toNat, .int .u8 f.d2.toNat, .int .u8 f.d3.toNat, .int .u8 f.d4.toNat, .int .u8 f.d5.toNat, .int .u8 f.s0.toNat, .int .u8 f.s1.toNat, .int .u8 f.s2.toNat, .int .u8 f.s3.toNat, .int .u8 f.s4.toNat, .int .u8 f.s5.toNat, .bool f.tag, .int .u8 f.pri.toNat, .int .u16 f.vid.toNat, .int .u16 f.ty.toNat, .string ⟨f.data.toArray⟩] 27)) := (Below.refl _ _).alloc (Nat.le_refl _) _
  have HBW := Lib.hid hbw
  have HC := Lib.hid hcells
  have ha1 : ∀ W : World, (Op.stringOp .add ⟨f.dst.toArray⟩ ⟨f.src.toArray⟩).run Try.prog W = .ok (.string ⟨(f.dst ++ f.src).toArray⟩) W := fun W => run_string_add_lists W _ _ (by show ((6 : Nat) : Int) ≤ 8388608; omega) (by show ((6 : Nat) : Int) ≤ 8388608; omega)
  clear hw1 hcells hbw
  go_enter Try.func45, Try.ntmps45
  go_wp2_with fail
  go_quiet (fail)
  have C := HC.out.drewN nq
  have HBq : Below w.heap.size w ((w.alloc (.cells #[.int .u8 f.d0.toNat, .int .u8 f.d1.toNat, .int .u8 f.d2.toNat, .int .u8 f.d3.toNat, .int .u8 f.d4.toNat, .int .u8 f.d5.toNat, .int .u8 f.s0.toNat, .int .u8 f.s1.toNat, .int .u8 f.s2.toNat, .int .u8 f.s3.toNat, .int .u8 f.s4.toNat, .int .u8 f.s5.toNat, .bool f.tag, .int .u8 f.pri.toNat, .int .u16 f.vid.toNat, .int .u16 f.ty.toNat, .string ⟨f.data.toArray⟩] 27)).drewN nq) := below_drewN HBW.out nq
  have c12 := C.c12
  have c13 := C.c13
  have c14 := C.c14
  have c15 := C.c15
  have c16 := C.c16
  generalize (w.alloc (.cells #[.int .u8 f.d0.toNat, .int .u8 f.d1.toNat, .int .u8 f.d2.toNat, .int .u8 f.d3.toNat, .int .u8 f.d4.toNat, .int .u8 f.d5.toNat, .int .u8 f.s0.toNat, .int .u8 f.s1.toNat, .int .u8 f.s2.toNat, .int .u8 f.s3.toNat, .int .u8 f.s4.toNat, .int .u8 f.s5.toNat, .bool f.tag, .int .u8 f.pri.toNat, .int .u16 f.vid.toNat, .int .u16 f.ty.toNat, .string ⟨f.data.toArray⟩] 27)).drewN nq = w1 at *
  clear C hcd hcs ha1 HC HBW
  have HBQ := Lib.hid HBq
  clear HBq
  have e7 : IntKind.u64.wrap (f.ty.toNat : Int) = (f.ty.toNat : Int) := IntWalk.u64_in _ (by have := f.ty.toNat_lt; omega)
  have E7 := Lib.hid e7
  clear e7
  have hA6 : (f.dst ++ f.src).length = 12 := rfl
  obtain ⟨A, hA⟩ : ∃ A, f.dst ++ f.src = A := ⟨_, rfl⟩
  have hAl : A.length = 12 := by rw [← hA]; exact hA6
  have HA := Lib.hid hA
  rw [hA]
  clear hA6 hA
  cases ht : f.tag
  · rw [ht] at c12
    have hv : fbytes f = A ++ dig 2 f.ty.toNat ++ f.data := by unfold fbytes fhead; rw [ht, HA.out]; simp
    have HV := Lib.hid hv
    clear hv
    have HT := Lib.hid ht
    clear ht
    go_wp2_with fail
    obtain ⟨D, hD⟩ : ∃ D, dig 2 f.ty.toNat = D := ⟨_, rfl⟩
    have HD := Lib.hid hD
    have hDl : D.length = 2 := by rw [← hD]; exact dig_len 2 _
    have ha2 : ∀ W : World, (Op.stringOp .add ⟨A.toArray⟩ ⟨D.toArray⟩).run Try.prog W = .ok (.string ⟨(A ++ D).toArray⟩) W := fun W => run_string_add_lists W A D (by have := hAl; omega) (by omega)
    have ha3 : ∀ W : World, (Op.stringOp .add ⟨(A ++ D).toArray⟩ ⟨f.data.toArray⟩).run Try.prog W = .ok (.string ⟨(A ++ D ++ f.data).toArray⟩) W := fun W => run_string_add_lists W (A ++ D) f.data (by have := hAl; simp; omega) (by omega)
    have HBd : Hid (Below w.heap.size w w1.drew) := Lib.hid (Below.drew HBQ.out)
    have e7 := E7.out
    clear hD hDl
    go_region_held3 (fun w_ => w_.cell? ⟨w.heap.size, 15, none⟩ = some (.int .u16 f.ty.toNat) ∧ w_.cell? ⟨w.heap.size, 16, none⟩ = some (.string ⟨f.data.toArray⟩) ∧ Hid (Below w.heap.size w w_)) (go_keep)
      (first
        | (go_at_call 52; refine (num2_any f.ty.toNat _ (by have := f.ty.toNat_lt; omega)).mono ?_; rw [HD.out]; rintro r w_ ⟨rfl, hb_⟩; have k15 := keep1 (p := ⟨w.heap.size, 15, none⟩) (v := .int .u16 f.ty.toNat) (by assumption) hb_; have k16 := keep1 (p := ⟨w.heap.size, 16, none⟩) (v := .string ⟨f.data.toArray⟩) (by assumption) hb_; have kB := keepB (by assumption) hb_; clear hb_))
    all_goals (
      go_wp2
      go_ret
      rw [HV.out, HD.out, List.append_assoc]
      exact ⟨rfl, Hid.out (by assumption)⟩)
  · rw [ht] at c12
    obtain ⟨N, hN⟩ : ∃ N, f.pri.toNat * 8192 + f.vid.toNat = N := ⟨_, rfl⟩
    have hv : fbytes f = A ++ dig 2 33024 ++ dig 2 N ++ dig 2 f.ty.toNat ++ f.data := by unfold fbytes fhead; rw [ht, HA.out, hN]; simp
    have HV := Lib.hid hv
    clear hv
    have HT := Lib.hid ht
    clear ht
    have hb1 := f.pri.toNat_lt
    have hb2 := f.vid.toNat_lt
    obtain ⟨D1, hD1⟩ : ∃ D, dig 2 33024 = D := ⟨_, rfl⟩
    obtain ⟨D2, hD2⟩ : ∃ D, dig 2 N = D := ⟨_, rfl⟩
    have HD1 := Lib.hid hD1
    have HD2 := Lib.hid hD2
    have hl1 : D1.length = 2 := by rw [← hD1]; exact dig_len 2 _
    have hl2 : D2.length = 2 := by rw [← hD2]; exact dig_len 2 _
    have hab : ∀ W : World, (Op.stringOp .add ⟨A.toArray⟩ ⟨D1.toArray⟩).run Try.prog W = .ok (.string ⟨(A ++ D1).toArray⟩) W := fun W => run_string_add_lists W A D1 (by omega) (by omega)
    have hac : ∀ W : World, (Op.stringOp .add ⟨(A ++ D1).toArray⟩ ⟨D2.toArray⟩).run Try.prog W = .ok (.string ⟨(A ++ D1 ++ D2).toArray⟩) W := fun W => run_string_add_lists W (A ++ D1) D2 (by simp; omega) (by omega)
    have hN64 : N ≤ 18446744073709551615 := by omega
    have HN64 := Lib.hid hN64
    have e1 : IntKind.u64.wrap (f.pri.toNat : Int) = (f.pri.toNat : Int) := IntWalk.u64_in _ (by omega)
    have e2 : IntKind.u64.wrap ((f.pri.toNat : Int) * 8192) = (f.pri.toNat : Int) * 8192 := IntWalk.u64_in _ (by omega)
    have e3 : IntKind.u64.wrap (f.vid.toNat : Int) = (f.vid.toNat : Int) := IntWalk.u64_in _ (by omega)
    have e4 : IntKind.u64.wrap ((f.pri.toNat : Int) * 8192 + (f.vid.toNat : Int)) = (N : Int) := by rw [IntWalk.u64_in _ (by omega)]; omega
    have HBd : Hid (Below w.heap.size w w1.drew) := Lib.hid (Below.drew HBQ.out)
    clear hD1 hD2 hN hb1 hb2 hN64
    go_wp2_with fail
    go_region_held3 (fun w_ => w_.cell? ⟨w.heap.size, 13, none⟩ = some (.int .u8 f.pri.toNat) ∧ w_.cell? ⟨w.heap.size, 14, none⟩ = some (.int .u16 f.vid.toNat) ∧ w_.cell? ⟨w.heap.size, 15, none⟩ = some (.int .u16 f.ty.toNat) ∧ w_.cell? ⟨w.heap.size, 16, none⟩ = some (.string ⟨f.data.toArray⟩) ∧ Hid (Below w.heap.size w w_)) (go_keep)
      (first
        | (go_at_call_of 52 N; refine (num2_any N _ HN64.out).mono ?_; rw [HD2.out]; rintro r w_ ⟨rfl, hb_⟩; have k13 := keep1 (p := ⟨w.heap.size, 13, none⟩) (v := .int .u8 f.pri.toNat) (by assumption) hb_; have k14 := keep1 (p := ⟨w.heap.size, 14, none⟩) (v := .int .u16 f.vid.toNat) (by assumption) hb_; have k15 := keep1 (p := ⟨w.heap.size, 15, none⟩) (v := .int .u16 f.ty.toNat) (by assumption) hb_; have k16 := keep1 (p := ⟨w.heap.size, 16, none⟩) (v := .string ⟨f.data.toArray⟩) (by assumption) hb_; have kB := keepB (by assumption) hb_; clear hb_)
        | (go_at_call 52; refine (numtag_any _).mono ?_; rw [HD1.out]; rintro r w_ ⟨rfl, hb_⟩; have k13 := keep1 (p := ⟨w.heap.size, 13, none⟩) (v := .int .u8 f.pri.toNat) (by assumption) hb_; have k14 := keep1 (p := ⟨w.heap.size, 14, none⟩) (v := .int .u16 f.vid.toNat) (by assumption) hb_; have k15 := keep1 (p := ⟨w.heap.size, 15, none⟩) (v := .int .u16 f.ty.toNat) (by assumption) hb_; have k16 := keep1 (p := ⟨w.heap.size, 16, none⟩) (v := .string ⟨f.data.toArray⟩) (by assumption) hb_; have kB := keepB (by assumption) hb_; clear hb_))
    all_goals (
      have HBQ : Hid (Below w.heap.size w w_) := by assumption
      obtain ⟨B, hB⟩ : ∃ B, A ++ (D1 ++ D2) = B := ⟨_, rfl⟩
      have hBl : B.length = 16 := by rw [← hB]; simp; omega
      have hv : fbytes f = B ++ dig 2 f.ty.toNat ++ f.data := by rw [HV.out, HD1.out, HD2.out, ← hB]; simp
      clear HV
      have HV := Lib.hid hv
      rw [hB]
      clear hv hB hab hac e1 e2 e3 e4 hl1 hl2 c12 c13 c14 c15 c16 HBd
      go_wp2_with fail
      obtain ⟨D, hD⟩ : ∃ D, dig 2 f.ty.toNat = D := ⟨_, rfl⟩
      have HD := Lib.hid hD
      have hDl : D.length = 2 := by rw [← hD]; exact dig_len 2 _
      have ha2 : ∀ W : World, (Op.stringOp .add ⟨B.toArray⟩ ⟨D.toArray⟩).run Try.prog W = .ok (.string ⟨(B ++ D).toArray⟩) W := fun W => run_string_add_lists W B D (by have := hBl; omega) (by omega)
      have ha3 : ∀ W : World, (Op.stringOp .add ⟨(B ++ D).toArray⟩ ⟨f.data.toArray⟩).run Try.prog W = .ok (.string ⟨(B ++ D ++ f.data).toArray⟩) W := fun W => run_string_add_lists W (B ++ D) f.data (by have := hBl; simp; omega) (by omega)
      have HBe : Hid (Below w.heap.size w w_.drew) := Lib.hid (Below.drew HBQ.out)
      have e7 := E7.out
      clear hD hDl
      go_region_held3 (fun w_ => w_.cell? ⟨w.heap.size, 15, none⟩ = some (.int .u16 f.ty.toNat) ∧ w_.cell? ⟨w.heap.size, 16, none⟩ = some (.string ⟨f.data.toArray⟩) ∧ Hid (Below w.heap.size w w_)) (go_keep)
        (first
          | (go_at_call 52; refine (num2_any f.ty.toNat _ (by have := f.ty.toNat_lt; omega)).mono ?_; rw [HD.out]; rintro r w_ ⟨rfl, hb_⟩; have k15 := keep1 (p := ⟨w.heap.size, 15, none⟩) (v := .int .u16 f.ty.toNat) (by assumption) hb_; have k16 := keep1 (p := ⟨w.heap.size, 16, none⟩) (v := .string ⟨f.data.toArray⟩) (by assumption) hb_; have kB := keepB (by assumption) hb_; clear hb_))
      all_goals (
        go_wp2
        go_ret
        rw [HV.out, HD.out, List.append_assoc]
        exact ⟨rfl, Hid.out (by assumption)⟩))

end Go.Proofs.Yteiopobkbfancaa
