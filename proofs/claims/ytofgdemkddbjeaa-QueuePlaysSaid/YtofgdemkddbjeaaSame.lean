/- Layer 6: has a queue what the document says? -/
import Derived.Test.YtofgdemkddbjeaaRef
import Derived.BigQuiet
import Derived.Deep.DeepCutAuto
namespace Go.Proofs.Ytofgdemkddbjeaa
open Go.RowKit
set_option linter.unusedVariables false
set_option linter.unusedSimpArgs false
set_option maxRecDepth 100000

set_option maxHeartbeats 4000000 in
theorem same_any (K : QueI) (w : World) (p c m : Nat) (A : Option Addr) (cc : Nat) (zs : List Int) (hq : Que w p c 57 m (vi zs)) (hr : RL w A cc zs) (hl : zs.length ≤ m) (hm : m ≤ 1024) :
    Calls Try.prog 15 #[ptr p, RQ m A zs.length cc] w fun e w' => e = .returned (.bool true) ∧ Que w' p c 57 m (vi zs) ∧ Chg (sole c) w w' := by
  have HK := Lib.hid K
  have HQ := Lib.hid hq
  have HR := Lib.hid hr
  have HCL : Hid (c < w.heap.size) := Lib.hid hq.ch.lt
  obtain ⟨n, hn⟩ : ∃ n, zs.length = n := ⟨_, rfl⟩
  have HN := Lib.hid hn
  have HV : Hid ((vi zs).length = n) := Lib.hid (by rw [vi_len]; exact hn)
  rw [hn] at hl ⊢
  clear K hq hr hn
  have dn : ((n : Int) != (n : Int)) = false := by simp
  have dm : (((m - n : Nat) : Int) != ((m - n : Nat) : Int)) = false := by simp
  have hw : IntKind.i64.wrap ((m : Int) - (n : Int)) = ((m - n : Nat) : Int) := by rw [Go.IntWalk.i64_in _ (by omega)]; omega
  go_enter Try.func15, Try.ntmps15
  go_wp2_with fail
  refine (HK.out.allAny _ p c m (vi zs) (que_alloc HQ.out _) (by rw [HV.out]; exact hl) hm (vi_ok zs)).mono ?_
  rintro e w2 ⟨Al, k, rfl, he, hq, hg⟩
  rw [HV.out]
  have hbox := (Blk.new w 31 #[.int .i64 m, .slice A n cc]).chg hg (by have := HCL.out; unfold sole; omega)
  have c0 := hbox.cell 0
  have c1 := hbox.cell 1
  simp only [List.getElem?_toArray, List.getElem?_cons_zero, List.getElem?_cons_succ] at c0 c1
  have HA : Hid (Els 1 one w2 Al (vi zs)) := Lib.hid he
  have HZ : Hid (Els 1 one w2 A (vi zs)) := Lib.hid ((HR.out.els.next ((Below.refl _ w).alloc (Nat.le_refl _) _)).chan one_pos (que_alloc HQ.out _).ch hg)
  have HQ2 := Lib.hid hq
  have HC2 : Hid (Chg (sole c) w w2) := Lib.hid (Chg.trans ((Chg.refl (sole c) w).alloc _) hg)
  clear he hq hg hbox
  have kL : ∀ N, Calls Try.prog 17 #[ptr p] (w2.drewN N) fun e w' => e = .returned (.int .i64 n) ∧ ∃ m, w' = w2.drewN m := fun N => by
    have := drawn_quiet (HK.out.lenAny (w2.drewN N) p c m _ (HQ2.out.drewN N) (by rw [HV.out]; exact hl) hm)
    rw [HV.out] at this
    exact this
  have kR : ∀ N, Calls Try.prog 18 #[ptr p] (w2.drewN N) fun e w' => e = .returned (.int .i64 (m - n : Nat)) ∧ ∃ m, w' = w2.drewN m := fun N => by
    have := drawn_quiet (HK.out.roomAny (w2.drewN N) p c m _ (HQ2.out.drewN N) (by rw [HV.out]; exact hl) hm)
    rw [HV.out] at this
    exact this
  have HKL := Lib.hid kL
  have HKR := Lib.hid kR
  clear kL kR
  go_wp2_with fail
  go_quiet (first | (go_at_call 17; exact HKL.out _) | (go_at_call 18; exact HKR.out _))
  go_wp2_with fail
  go_loopw [6] (fun i wr => ∃ j : Nat, j ≤ n ∧ i = .int .i64 j ∧ ∃ N, wr = w2.drewN N) (fun i _ => n - (intOf i).toNat)
  case atStart => exact ⟨0, Nat.zero_le _, rfl, _, rfl⟩
  case round =>
    obtain ⟨j, hj, rfl, N, rfl⟩ := hrel
    by_cases hlt : j < n
    · have hlt' : j < zs.length := by rw [HN.out]; exact hlt
      obtain ⟨s, hs⟩ : ∃ s, zs[j]? = some s := ⟨_, List.getElem?_eq_getElem hlt'⟩
      obtain ⟨b1, o1, rfl, hb1, hc1⟩ := HA.out.at (by rw [vi_len]; omega)
      obtain ⟨b2, o2, rfl, hb2, hc2⟩ := HZ.out.at (by rw [vi_len]; omega)
      have x1 : w2.cell? ⟨b1, o1 + j, none⟩ = some (.int .i64 s) := hc1 j _ (vi_get hs)
      have x2 : w2.cell? ⟨b2, o2 + j, none⟩ = some (.int .i64 s) := hc2 j _ (vi_get hs)
      clear hc1 hc2 hb1 hb2 hs
      go_wp2_with fail
      go_quiet (fail)
      go_wp2
      go_roundw
      case rel => exact ⟨j + 1, by omega, by go_num, _, rfl⟩
      case measure => simp [intOf]; omega
    · obtain rfl : j = n := by omega
      go_wp2
      go_ret
      exact ⟨rfl, HQ2.out.drewN N, HC2.out.drewN N⟩
end Go.Proofs.Ytofgdemkddbjeaa
