/- Layer 11: the document's Put. -/
import Derived.Test.YtjilolehcboihaaTl
import Derived.Test.YtjilolehcboihaaRefNum
import Derived.Deep.RegionHeld3
import Derived.Deep.DeepCutAuto
import Derived.Laws.Concat
namespace Go.Proofs.Ytjilolehcboihaa
open Go.RowKit
set_option linter.unusedVariables false
set_option linter.unusedSimpArgs false
set_option maxRecDepth 100000

theorem dig_one (x : UInt8) : dig 1 x.toNat = [x] := by
  have := x.toNat_lt
  simp only [dig, List.nil_append]
  rw [Nat.mod_eq_of_lt (by omega)]
  simp
theorem num1_any (x : UInt8) (w : World) :
    Calls Try.prog 31 #[.int .u64 x.toNat, .int .i64 1] w fun e w' => e = .returned (.string ⟨[x].toArray⟩) ∧ Below w.heap.size w w' := by
  have h := x.toNat_lt
  have := numstr_any 1 (x.toNat : Int) w (by omega) (by omega) (by omega)
  rw [show ((x.toNat : Int)).toNat = x.toNat by omega, dig_one] at this
  exact this
theorem num2L_any (n : Nat) (w : World) (h : n ≤ 1000000) :
    Calls Try.prog 31 #[.int .u64 (n : Int), .int .i64 2] w fun e w' => e = .returned (.string ⟨(dig 2 n).toArray⟩) ∧ Below w.heap.size w w' := by
  have := numstr_any 2 (n : Int) w (by omega) (by omega) (by omega)
  rw [show ((n : Int)).toNat = n by omega] at this
  exact this
theorem keepT {W w w' : World} {b o : Nat} {x : Value} {y : Value} (h0 : w.cell? ⟨b, o, none⟩ = some x) (h1 : w.cell? ⟨b, o + 1, none⟩ = some y) (hB : Hid (Below W.heap.size W w)) (hb : Below w.heap.size w w') :
    w'.cell? ⟨b, o, none⟩ = some x ∧ w'.cell? ⟨b, o + 1, none⟩ = some y ∧ Hid (Below W.heap.size W w') :=
  ⟨(hb.cell (p := ⟨b, o, none⟩) (World.block_lt_of_cell? w _ h0)).trans h0, (hb.cell (p := ⟨b, o + 1, none⟩) (World.block_lt_of_cell? w _ h1)).trans h1, Lib.hid (hB.out.trans (hb.mono hB.out.size))⟩
set_option maxHeartbeats 4000000 in
theorem refput11_any (A : Option Addr) (c : Nat) (l : List Tl) (w : World) (hE : Els 2 tlV w A l) (hl : l.length ≤ 1000) :
    Calls Try.prog 20 #[.slice A l.length c] w fun e w' => e = .returned (.tuple #[.string ⟨(tlP l).toArray⟩, .int .i64 (tlE l : Nat)]) ∧ Below w.heap.size w w' := by
  have HE := Lib.hid hE
  obtain ⟨n, hn⟩ : ∃ n, l.length = n := ⟨_, rfl⟩
  have HN := Lib.hid hn
  rw [hn]
  rw [hn] at hl
  have HL := Lib.hid hl
  clear hE hn
  go_enter Try.func20, Try.ntmps20
  go_wp2
  go_loopw [4, 5] (fun v i wr => ∃ k : Nat, k ≤ n ∧ i = .int .i64 k ∧ v = .string ⟨(tlsB (l.take k)).toArray⟩ ∧ Hid (Below w.heap.size w wr) ∧ Hid (tlE (l.take k) = 0)) (fun _ i _ => n - (intOf i).toNat)
  case atStart => exact ⟨0, Nat.zero_le _, rfl, by rw [List.take_zero]; rfl, Lib.hid (Below.refl _ _), Lib.hid (by rw [List.take_zero]; rfl)⟩
  case round =>
    obtain ⟨k, hk, rfl, rfl, HB, HZ⟩ := hrel
    obtain ⟨R, hR⟩ : ∃ R, tlsB (l.take k) = R := ⟨_, rfl⟩
    have HT : Hid (R.length ≤ 1483 * k) := Lib.hid (by rw [← hR]; exact tlsB_take_len k HZ.out)
    rw [hR]
    have HR := Lib.hid hR
    clear hR
    by_cases hlt : k < n
    · obtain ⟨x, hx⟩ : ∃ x, l[k]? = some x := ⟨_, List.getElem?_eq_getElem (by rw [HN.out]; exact hlt)⟩
      obtain ⟨b, off, rfl, hb, c0, c1⟩ := tl_at (HE.out.next HB.out) hx
      have hki : (k : Int) < n := by omega
      have HX := Lib.hid hx
      have HBLT := Lib.hid hb
      clear hx hb
      by_cases h1 : x.k = 0
      · have e1 : ((x.k.toNat : Int) == 0) = true := by
          have := tl_eqI x.k 0
          rw [show ((0 : UInt8).toNat : Int) = 0 from rfl] at this
          rw [this]; simpa using h1
        have HTE : Hid (tlE l = 2 ∧ tlP l = []) := Lib.hid (by
          have h := tlE_at HX.out HZ.out
          rw [if_pos h1] at h
          exact ⟨h, by unfold tlP; rw [if_neg (by omega)]⟩)
        clear h1
        go_wp2
        go_ret2
        exact ⟨by rw [HTE.out.1, HTE.out.2]; rfl, HB.out⟩
      · have e1 : ((x.k.toNat : Int) == 0) = false := by
          have := tl_eqI x.k 0
          rw [show ((0 : UInt8).toNat : Int) = 0 from rfl] at this
          rw [this]; simpa using h1
        by_cases h2 : 1480 < x.v.length
        · have e2 : (1480 : Int) < (x.v.length : Int) := by omega
          have HTE : Hid (tlE l = 5 ∧ tlP l = []) := Lib.hid (by
            have h := tlE_at HX.out HZ.out
            rw [if_neg h1, if_pos h2] at h
            exact ⟨h, by unfold tlP; rw [if_neg (by omega)]⟩)
          clear h1 h2
          go_wp2
          go_ret2
          exact ⟨by rw [HTE.out.1, HTE.out.2]; rfl, HB.out⟩
        · have e2 : ¬ (1480 : Int) < (x.v.length : Int) := by omega
          have HS := Lib.hid (tlE_step HX.out HZ.out h1 h2)
          obtain ⟨D, hD⟩ : ∃ D, dig 2 x.v.length = D := ⟨_, rfl⟩
          have hDl : D.length = 2 := by rw [← hD]; exact dig_len 2 _
          obtain ⟨K, hK⟩ : ∃ K : List UInt8, [x.k] = K := ⟨_, rfl⟩
          have hKl : K.length = 1 := by rw [← hK]; rfl
          have hRl : R.length ≤ 1483000 := by have := HT.out; omega
          have KN1 := Lib.hid (fun w => num1_any x.k w)
          have KN2 := Lib.hid (fun w => num2L_any x.v.length w (by omega))
          rw [hK] at KN1
          rw [hD] at KN2
          have u1 : IntKind.u64.wrap (x.k.toNat : Int) = (x.k.toNat : Int) := IntWalk.u64_in _ (by have := x.k.toNat_lt; omega)
          have u2 : IntKind.u64.wrap (x.v.length : Int) = (x.v.length : Int) := IntWalk.u64_in _ (by omega)
          obtain ⟨R1, hR1⟩ : ∃ R1, R ++ K = R1 := ⟨_, rfl⟩
          obtain ⟨R2, hR2⟩ : ∃ R2, R1 ++ D = R2 := ⟨_, rfl⟩
          obtain ⟨R3, hR3⟩ : ∃ R3, R2 ++ x.v = R3 := ⟨_, rfl⟩
          have hl1 : R1.length = R.length + 1 := by rw [← hR1, List.length_append, hKl]
          have hl2 : R2.length = R.length + 3 := by rw [← hR2, List.length_append, hl1, hDl]
          have a1 : ∀ W : World, (Op.stringOp .add ⟨R.toArray⟩ ⟨K.toArray⟩).run Try.prog W = .ok (.string ⟨R1.toArray⟩) W := fun W => by rw [← hR1]; exact run_string_add_lists W R K (by omega) (by omega)
          have a2 : ∀ W : World, (Op.stringOp .add ⟨R1.toArray⟩ ⟨D.toArray⟩).run Try.prog W = .ok (.string ⟨R2.toArray⟩) W := fun W => by rw [← hR2]; exact run_string_add_lists W R1 D (by omega) (by omega)
          have a3 : ∀ W : World, (Op.stringOp .add ⟨R2.toArray⟩ ⟨x.v.toArray⟩).run Try.prog W = .ok (.string ⟨R3.toArray⟩) W := fun W => by rw [← hR3]; exact run_string_add_lists W R2 x.v (by omega) (by omega)
          have HR3 : Hid (R3 = R ++ K ++ D ++ x.v) := Lib.hid (by rw [← hR3, ← hR2, ← hR1])
          clear hR1 hR2 hR3 hl1 hl2
          have HDD := Lib.hid (And.intro hD hK)
          have HBd : Hid (Below w.heap.size w wr.drew) := Lib.hid HB.out.drew
          clear hD hK h1 hRl hDl hKl
          go_wp2_with fail
          go_region_held3 (fun w_ => w_.cell? ⟨b, off + k * 2, none⟩ = some (.int .u8 x.k.toNat) ∧ w_.cell? ⟨b, off + k * 2 + 1, none⟩ = some (.string ⟨x.v.toArray⟩) ∧ Hid (Below w.heap.size w w_)) (go_keep)
            (first
              | (go_at_call_of 31 x.k; refine (KN1.out _).mono ?_; rintro r w_ ⟨rfl, hb_⟩; obtain ⟨k0, k1, kB⟩ := keepT (b := b) (o := off + k * 2) (x := .int .u8 x.k.toNat) (y := .string ⟨x.v.toArray⟩) (by assumption) (by assumption) (by assumption) hb_; clear hb_)
              | (go_at_call_of 31 x.v; refine (KN2.out _).mono ?_; rintro r w_ ⟨rfl, hb_⟩; obtain ⟨k0, k1, kB⟩ := keepT (b := b) (o := off + k * 2) (x := .int .u8 x.k.toNat) (y := .string ⟨x.v.toArray⟩) (by assumption) (by assumption) (by assumption) hb_; clear hb_)
              | fail "no")
          all_goals (
            have HBQ : Hid (Below w.heap.size w w_) := by assumption
            go_wp2
            go_roundw
            case rel => exact ⟨k + 1, by omega, by go_num, by rw [HR3.out, HS.out.2, HR.out]; unfold tlB; rw [HDD.out.1, ← HDD.out.2]; simp, HBQ, Lib.hid HS.out.1⟩
            case measure => simp [intOf]; omega)
    · obtain rfl : k = n := by omega
      have htk : l.take k = l := List.take_of_length_le (by rw [HN.out]; omega)
      have HTP : Hid (tlE l = 0 ∧ tlP l = R ++ [0]) := Lib.hid (by
        have h0 := HZ.out
        have hR := HR.out
        rw [htk] at h0 hR
        refine ⟨h0, ?_⟩
        unfold tlP
        rw [if_pos h0, hR])
      have hRl : R.length ≤ 1483000 := by have := HT.out; omega
      have a1 : ∀ W : World, (Op.stringOp .add ⟨R.toArray⟩ ⟨#[0]⟩).run Try.prog W = .ok (.string ⟨(R ++ [0]).toArray⟩) W := fun W => run_string_add_lists W R [0] (by omega) (by decide)
      clear htk
      go_wp2
      go_ret2
      exact ⟨by rw [HTP.out.1, HTP.out.2]; rfl, HB.out⟩
end Go.Proofs.Ytjilolehcboihaa
