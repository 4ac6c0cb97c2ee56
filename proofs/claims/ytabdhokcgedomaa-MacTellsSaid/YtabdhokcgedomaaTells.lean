/- MacTells: whether any address is a group's, reserved, of a level, its number, its text are what the document says: for every address, without a condition. -/
import Derived.Test.YtabdhokcgedomaaWakes
import Derived.Test.YtabdhokcgedomaaRef
import Derived.Test.YtabdhokcgedomaaRefOf
import Derived.Test.YtabdhokcgedomaaMacNum
import Derived.Test.YtabdhokcgedomaaOpenMac
import Derived.OpenShut
import Derived.ShutString
import Derived.ChangeOld
import Derived.Deep.RegionHeld3
namespace Go.Proofs.Ytabdhokcgedomaa.macTells
open Go.ChangeShapes Go.WideShapes Go.ChangeAt Go.RowKit
open Go.ChangeMaps (open_string shut_string)
set_option linter.unusedVariables false
set_option linter.unusedSimpArgs false

theorem lvlV_form (l : List UInt8) : ∃ (x : Int) (y : Bool), lvlV l = .tuple #[.int .u8 x, .bool y] := by
  unfold lvlV
  split
  · exact ⟨_, _, rfl⟩
  · exact ⟨_, _, rfl⟩
theorem keep6 {W w w' : World} {g : Nat} {a b c d e f : UInt8} (h0 : w.cell? ⟨g, 0, none⟩ = some (.int .u8 a.toNat)) (h1 : w.cell? ⟨g, 1, none⟩ = some (.int .u8 b.toNat)) (h2 : w.cell? ⟨g, 2, none⟩ = some (.int .u8 c.toNat))
    (h3 : w.cell? ⟨g, 3, none⟩ = some (.int .u8 d.toNat)) (h4 : w.cell? ⟨g, 4, none⟩ = some (.int .u8 e.toNat)) (h5 : w.cell? ⟨g, 5, none⟩ = some (.int .u8 f.toNat)) (hB : Hid (Below W.heap.size W w)) (hb : Below w.heap.size w w') :
    w'.cell? ⟨g, 0, none⟩ = some (.int .u8 a.toNat) ∧ w'.cell? ⟨g, 1, none⟩ = some (.int .u8 b.toNat) ∧ w'.cell? ⟨g, 2, none⟩ = some (.int .u8 c.toNat) ∧
    w'.cell? ⟨g, 3, none⟩ = some (.int .u8 d.toNat) ∧ w'.cell? ⟨g, 4, none⟩ = some (.int .u8 e.toNat) ∧ w'.cell? ⟨g, 5, none⟩ = some (.int .u8 f.toNat) ∧ Hid (Below W.heap.size W w') := by
  have hg := World.block_lt_of_cell? w _ h0
  refine ⟨?_, ?_, ?_, ?_, ?_, ?_, Lib.hid (hB.out.trans (hb.mono hB.out.size))⟩
  · rw [hb.cell (p := ⟨g, 0, none⟩) hg]; exact h0
  · rw [hb.cell (p := ⟨g, 1, none⟩) hg]; exact h1
  · rw [hb.cell (p := ⟨g, 2, none⟩) hg]; exact h2
  · rw [hb.cell (p := ⟨g, 3, none⟩) hg]; exact h3
  · rw [hb.cell (p := ⟨g, 4, none⟩) hg]; exact h4
  · rw [hb.cell (p := ⟨g, 5, none⟩) hg]; exact h5
set_option maxRecDepth 100000 in
set_option maxHeartbeats 4000000 in
theorem walk {H : Type} {enc : TypeId × Value → H} (W : World) (base : Nat) {v0 : Value} {d0 : DataW H} {p0 : List MemPlace}
    (o0 : Value.okWide Try.prog W .any base 23 v0) (h0 : DataW.Trod enc Try.prog W 0 (fun _ => true) true 23 v0 d0 p0) :
    Calls Try.prog 3 #[v0] W fun e w' => e = .returned (.bool true) ∧ Below W.heap.size W w' := by
  obtain ⟨a, b, c, d, e, f, rfl⟩ := open_mac o0 h0
  clear o0 h0
  obtain ⟨x, y, hl⟩ := lvlV_form [a, b, c, d, e, f]
  obtain ⟨p, hp⟩ : ∃ p, (a.toNat % 2 == 1) = p := ⟨_, rfl⟩
  obtain ⟨q, hq⟩ : ∃ q, rsv a b c d e f = q := ⟨_, rfl⟩
  obtain ⟨n, hn⟩ : ∃ n, num [a, b, c, d, e, f] = n := ⟨_, rfl⟩
  obtain ⟨t, ht⟩ : ∃ t, txt a b c d e f = t := ⟨_, rfl⟩
  have HL := Lib.hid hl
  have HP := Lib.hid hp
  have HQ := Lib.hid hq
  have HN := Lib.hid hn
  have HT := Lib.hid ht
  have hpp : ((a.toNat : Int) % 2 == 1) = p := by rw [← hp, Bool.eq_iff_iff]; simp; omega
  have hpp' : ((a.toNat : Int).tmod 2 == 1) = p := by rw [← hpp, Int.tmod_eq_emod_of_nonneg (by omega)]
  clear hl hp hq hn ht
  go_enter Try.func3, Try.ntmps3
  go_wp2_with fail
  refine (level_any _ a b c d e f).mono ?_
  rw [HL.out]
  rintro r w1 ⟨rfl, hb1⟩
  have A1 := (Arr.new W a b c d e f).next hb1
  have HB1 := Lib.hid (((Below.refl W.heap.size W).alloc (Nat.le_refl _) _).trans (hb1.mono (by simp)))
  obtain ⟨c0, c1, c2, c3, c4, c5⟩ := A1.cells
  have HA1 := Lib.hid A1
  clear A1 hb1
  go_wp2_with fail
  refine (reflevel_any _ a b c d e f).mono ?_
  rw [HL.out]
  rintro r w2 ⟨rfl, hb2⟩
  have HB2 : Hid (Below W.heap.size W w2) := Lib.hid (HB1.out.trans (hb2.mono HB1.out.size))
  have A2 := HA1.out.next hb2
  clear c0 c1 c2 c3 c4 c5
  obtain ⟨c0, c1, c2, c3, c4, c5⟩ := A2.cells
  clear HA1 A2 hb2 HB1
  go_wp2_with fail
  have HBd : Hid (Below W.heap.size W w2.drew) := Lib.hid (Below.drew HB2.out)
  go_region_held3 (fun w_ => w_.cell? ⟨W.heap.size, 0, none⟩ = some (.int .u8 a.toNat) ∧ w_.cell? ⟨W.heap.size, 1, none⟩ = some (.int .u8 b.toNat) ∧ w_.cell? ⟨W.heap.size, 2, none⟩ = some (.int .u8 c.toNat) ∧ w_.cell? ⟨W.heap.size, 3, none⟩ = some (.int .u8 d.toNat) ∧ w_.cell? ⟨W.heap.size, 4, none⟩ = some (.int .u8 e.toNat) ∧ w_.cell? ⟨W.heap.size, 5, none⟩ = some (.int .u8 f.toNat) ∧ Hid (Below W.heap.size W w_)) (go_keep)
    (first
      | (go_at_call 10; refine (isgroup_any _ a b c d e f).mono ?_; rw [HP.out]; rintro r w_ ⟨rfl, hb_⟩; obtain ⟨k0, k1, k2, k3, k4, k5, k6⟩ := keep6 (by assumption) (by assumption) (by assumption) (by assumption) (by assumption) (by assumption) (by assumption) hb_; clear hb_)
      | (go_at_call 11; refine (reserved_any _ a b c d e f).mono ?_; rw [HQ.out]; rintro r w_ ⟨rfl, hb_⟩; obtain ⟨k0, k1, k2, k3, k4, k5, k6⟩ := keep6 (by assumption) (by assumption) (by assumption) (by assumption) (by assumption) (by assumption) (by assumption) hb_; clear hb_)
      | (go_at_call 12; refine (refreserved_any _ a b c d e f).mono ?_; rw [HQ.out]; rintro r w_ ⟨rfl, hb_⟩; obtain ⟨k0, k1, k2, k3, k4, k5, k6⟩ := keep6 (by assumption) (by assumption) (by assumption) (by assumption) (by assumption) (by assumption) (by assumption) hb_; clear hb_)
      | (go_at_call 13; refine (number_any _ a b c d e f).mono ?_; rw [HN.out]; rintro r w_ ⟨rfl, hb_⟩; obtain ⟨k0, k1, k2, k3, k4, k5, k6⟩ := keep6 (by assumption) (by assumption) (by assumption) (by assumption) (by assumption) (by assumption) (by assumption) hb_; clear hb_)
      | (go_at_call 14; refine (refnumber_any _ a b c d e f).mono ?_; rw [HN.out]; rintro r w_ ⟨rfl, hb_⟩; obtain ⟨k0, k1, k2, k3, k4, k5, k6⟩ := keep6 (by assumption) (by assumption) (by assumption) (by assumption) (by assumption) (by assumption) (by assumption) hb_; clear hb_)
      | (go_at_call 15; refine (text_mac _ a b c d e f).mono ?_; rw [HT.out]; rintro r w_ ⟨rfl, hb_⟩; obtain ⟨k0, k1, k2, k3, k4, k5, k6⟩ := keep6 (by assumption) (by assumption) (by assumption) (by assumption) (by assumption) (by assumption) (by assumption) hb_; clear hb_)
      | (go_at_call 16; refine (reftext_mac _ a b c d e f).mono ?_; rw [HT.out]; rintro r w_ ⟨rfl, hb_⟩; obtain ⟨k0, k1, k2, k3, k4, k5, k6⟩ := keep6 (by assumption) (by assumption) (by assumption) (by assumption) (by assumption) (by assumption) (by assumption) hb_; clear hb_)
      | (go_at_call 17; refine (wakes_any _).mono ?_; rintro r w_ ⟨rfl, hb_⟩; obtain ⟨k0, k1, k2, k3, k4, k5, k6⟩ := keep6 (by assumption) (by assumption) (by assumption) (by assumption) (by assumption) (by assumption) (by assumption) hb_; clear hb_))
  all_goals (
    go_wp2
    go_ret
    exact ⟨rfl, Hid.out (by assumption)⟩)

theorem own : ownKnob Try.prog.godebug = none := by kernel_rfl
theorem laidOut : laidOutB Try.prog = true := by kernel_rfl
set_option maxRecDepth 100000 in
theorem lifted (os : Os) (started : os.Started) (H : Type) (enc : TypeId × Value → H) :
    ReturnsInHanded {} Try.checked os 3 .any (Rows.macTellsSpec.pre6 enc Try.prog Try.f3 Rows.macTellsRow.domain false) (Rows.macTellsSpec.post enc Try.prog Try.f3 false true false false) := by
  refine returnsInHanded_of_change (C := Try.checked) own started (by kernel_rfl) Try.func3
    (ChangeSpec.witness6 (enc := enc) (C := Try.checked) false ⟨#[], #[.agg #[.int .u8 0, .int .u8 0, .int .u8 0, .int .u8 0, .int .u8 0, .int .u8 0]], []⟩ 8 (by kernel_rfl) (by kernel_rfl) (by kernel_rfl) (by kernel_rfl)) ?_
  intro W base args ds gs before hval0 hW hcnd _
  have hval : ∀ (j : Nat) t v, Try.f3.params[j]? = some t → args[j]? = some v → Value.okWide Try.prog W .any base t v := hval0
  have hW' := hW
  obtain ⟨p, q, hA0, hV, rfl, hfz, hnd⟩ := hW
  have hA : DataW.TrodAll enc Try.prog W 0 (fun _ => true) true Try.f3.params.toList args.toList ds p := hA0
  rw [Try.params3] at hA hval
  obtain ⟨v0, vs0, d0, ds0, p0, q0, hargs, rfl, rfl, h0, r0⟩ := trodAll_cons hA
  obtain ⟨rfl, rfl, rfl⟩ := trodAll_nil r0
  obtain rfl : args = #[v0] := by cases args; simp_all
  obtain ⟨rfl, rfl⟩ := trodVars_none hV
  have o0 := hval 0 23 v0 rfl rfl
  have lt0 : ∀ x ∈ p0, x.block < W.heap.size := by obtain ⟨m, hm⟩ := h0; exact DataW.trod_lt m _ _ _ hm
  clear hA0 hval0
  refine (walk W base o0 h0).mono fun e W' ⟨he, bel⟩ => ?_
  subst he
  exact ⟨_, rfl, _, _, _, [], _, [], hW', trodAll_mk1 (shut_bool Try.underlying4 _), (trodAll_cons_mk (Below.trod laidOut (by kernel_rfl) (of_decide_eq_true (by kernel_rfl)) h0 bel lt0) trodAll_mk0), rfl, bel.frame _, fun h => by cases h⟩

theorem over : Rows.macTellsRow.holds Try.pinned (OpenSpec.ofChange Rows.macTellsSpec) :=
  OpenClaim.holds_of_wide 3 Try.f3 rfl rfl rfl rfl rfl rfl rfl ⟨rfl, rfl, rfl, rfl, rfl⟩ rfl rfl rfl rfl rfl (by kernel_rfl) Try.func3 (by kernel_rfl)
    (of_decide_eq_true (by kernel_rfl)) (by unfold Func.isWrapper; first | (rw [if_pos (by decide +kernel)]; kernel_rfl) | (rw [if_neg (by decide +kernel)]; exact ⟨rfl, rfl⟩))
    (fun os started H enc _ => lifted os started H enc)

/-- THE STATEMENT -/
theorem proved : Rows.MacTellsSaid := over
end Go.Proofs.Ytabdhokcgedomaa.macTells
