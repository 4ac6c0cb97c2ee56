/- Layer 6: the queue that is known, over package queue's contracts. -/
import Derived.Test.YtofgdemkddbjeaaQueC
namespace Go.Proofs.Ytofgdemkddbjeaa
open Go.RowKit
set_option linter.unusedVariables false
set_option linter.unusedSimpArgs false
set_option maxRecDepth 100000

set_option maxHeartbeats 4000000 in
theorem wakes_any (K : QueS) (w : World) : Calls Try.prog 7 #[] w fun e w' => e = .returned (.bool true) ∧ Below w.heap.size w w' := by
  have HK := Lib.hid K
  clear K
  go_enter Try.func7, Try.ntmps7
  go_wp2_with fail
  refine (HK.out.newOk _ 2 (by decide) (by decide)).mono ?_
  rintro e w1 ⟨p, c, rfl, hq, hp, hc, hb⟩
  have HQ0 := Lib.hid hq
  have HP : Hid (w.heap.size ≤ p ∧ w.heap.size ≤ c) := Lib.hid ⟨hp, hc⟩
  have HB := Lib.hid hb
  have HC0 := Lib.hid (Chg.refl (sole c) w1)
  clear hq hp hc hb
  go_wp2_with fail
  refine (HK.out.pushRoom _ p c 2 [] (.string ⟨#[97]⟩) ⟨_, rfl⟩ HQ0.out (by decide)).mono ?_
  rintro e w2 ⟨rfl, hq, hc⟩
  have HQ1 : Hid (Que w2 p c 60 2 [.string ⟨#[97]⟩]) := Lib.hid hq
  have HC1 := Lib.hid (HC0.out.trans hc)
  clear hq hc HQ0 HC0
  go_wp2_with fail
  refine (HK.out.pushRoom _ p c 2 [.string ⟨#[97]⟩] (.string ⟨#[98]⟩) ⟨_, rfl⟩ HQ1.out (by simp)).mono ?_
  rintro e w3 ⟨rfl, hq, hc⟩
  have HQ2 : Hid (Que w3 p c 60 2 [.string ⟨#[97]⟩, .string ⟨#[98]⟩]) := Lib.hid hq
  have HC2 := Lib.hid (HC1.out.trans hc)
  clear hq hc HQ1 HC1
  go_wp2_with fail
  refine (HK.out.pushFull _ p c 2 [.string ⟨#[97]⟩, .string ⟨#[98]⟩] (.string ⟨#[99]⟩) ⟨_, rfl⟩ HQ2.out (by simp)).mono ?_
  rintro e w4 ⟨rfl, hq, hc⟩
  have HQ3 : Hid (Que w4 p c 60 2 [.string ⟨#[97]⟩, .string ⟨#[98]⟩]) := Lib.hid hq
  have HC3 := Lib.hid (HC2.out.trans hc)
  clear hq hc HQ2 HC2
  go_wp2_with fail
  refine (HK.out.popSome _ p c 2 [.string ⟨#[98]⟩] (.string ⟨#[97]⟩) HQ3.out).mono ?_
  rintro e w5 ⟨rfl, hq, hc⟩
  have HQ4 : Hid (Que w5 p c 60 2 [.string ⟨#[98]⟩]) := Lib.hid hq
  have HC4 := Lib.hid (HC3.out.trans hc)
  clear hq hc HQ3 HC3
  go_wp2_with fail
  refine (HK.out.pushRoom _ p c 2 [.string ⟨#[98]⟩] (.string ⟨#[100]⟩) ⟨_, rfl⟩ HQ4.out (by simp)).mono ?_
  rintro e w6 ⟨rfl, hq, hc⟩
  have HQ5 : Hid (Que w6 p c 60 2 [.string ⟨#[98]⟩, .string ⟨#[100]⟩]) := Lib.hid hq
  have HC5 := Lib.hid (HC4.out.trans hc)
  clear hq hc HQ4 HC4
  go_wp2_with fail
  refine (HK.out.allAny _ p c 2 [.string ⟨#[98]⟩, .string ⟨#[100]⟩] HQ5.out (by simp) (by decide) (by intro u hu; simp only [List.mem_cons, List.mem_nil_iff, or_false] at hu; rcases hu with rfl | rfl <;> exact ⟨_, rfl⟩)).mono ?_
  rintro e w7 ⟨A, k, rfl, he, hq, hc⟩
  obtain ⟨b, off, rfl, hlt, hcell⟩ := he.at (by simp)
  have c0 : w7.cell? ⟨b, off, none⟩ = some (.string ⟨#[98]⟩) := by simpa using hcell 0 _ rfl
  have c1 : w7.cell? ⟨b, off + 1, none⟩ = some (.string ⟨#[100]⟩) := hcell 1 _ rfl
  have HQ6 := Lib.hid hq
  have HC6 := Lib.hid (HC5.out.trans hc)
  clear hq hc he hcell HQ5 HC5
  go_wp2_with fail
  refine (HK.out.lenAny _ p c 2 [.string ⟨#[98]⟩, .string ⟨#[100]⟩] HQ6.out (by simp) (by decide)).mono ?_
  rintro e w8 ⟨rfl, m, hm⟩
  have HQ7 : Hid (Que w8 p c 60 2 [.string ⟨#[98]⟩, .string ⟨#[100]⟩]) := Lib.hid (by rw [hm]; exact HQ6.out.drewN m)
  have HC7 : Hid (Chg (sole c) w1 w8) := Lib.hid (by rw [hm]; exact HC6.out.drewN m)
  clear hm c0 c1
  go_wp2_with fail
  refine (HK.out.roomAny _ p c 2 [.string ⟨#[98]⟩, .string ⟨#[100]⟩] HQ7.out (by simp) (by decide)).mono ?_
  rintro e w9 ⟨rfl, m, hm⟩
  have HC8 : Hid (Chg (sole c) w1 w9) := Lib.hid (by rw [hm]; exact HC7.out.drewN m)
  clear hm
  go_wp2_with fail
  go_ret
  exact ⟨rfl, HB.out.trans (HC8.out.below (by have := HB.out.size; omega) (fun k hk e => by have := HP.out; subst e; omega))⟩
end Go.Proofs.Ytofgdemkddbjeaa
