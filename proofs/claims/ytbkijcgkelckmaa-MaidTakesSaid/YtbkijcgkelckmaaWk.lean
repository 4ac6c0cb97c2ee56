/- Layer 10: the laws' wakes. -/
import Derived.Test.YtbkijcgkelckmaaMdTk
import Derived.Deep.DeepCutAuto
namespace Go.Proofs.Ytbkijcgkelckmaa
open Go.RowKit
set_option linter.unusedVariables false
set_option linter.unusedSimpArgs false
set_option maxRecDepth 100000

theorem pt_put {a b : List UInt8} (h : mdE a b = 0) : ptA (mdV a b) = a ∧ ptB (mdV a b) = b ∧ ptE (mdV a b) = 0 := by
  obtain ⟨e1, e2⟩ := rd_put h
  unfold ptA ptB ptE
  rw [e1, e2]
  simp [h]
theorem w10a : mdV [] [97, 98] = [1, 2, 2, 97, 98, 0, 0, 0, 0, 0, 0, 0, 0, 0, 0, 0, 0, 0, 0, 0, 0, 0, 0, 0, 0, 0, 0, 0, 0, 0, 0, 0, 0, 0, 0, 0, 0, 0, 0, 0, 0, 0, 0, 0, 0, 0, 0, 0] ∧ mdE [] [97, 98] = 0 := by decide +kernel
theorem w10b : mdV [100] [97] = [4, 1, 100, 2, 1, 97, 0, 0, 0, 0, 0, 0, 0, 0, 0, 0, 0, 0, 0, 0, 0, 0, 0, 0, 0, 0, 0, 0, 0, 0, 0, 0, 0, 0, 0, 0, 0, 0, 0, 0, 0, 0, 0, 0, 0, 0, 0, 0] ∧ mdE [100] [97] = 0 := by decide +kernel
theorem w10c : ptA [4, 1, 100, 2, 1, 97, 0, 0, 0, 0, 0, 0, 0, 0, 0, 0, 0, 0, 0, 0, 0, 0, 0, 0, 0, 0, 0, 0, 0, 0, 0, 0, 0, 0, 0, 0, 0, 0, 0, 0, 0, 0, 0, 0, 0, 0, 0, 0] = [100] ∧ ptB [4, 1, 100, 2, 1, 97, 0, 0, 0, 0, 0, 0, 0, 0, 0, 0, 0, 0, 0, 0, 0, 0, 0, 0, 0, 0, 0, 0, 0, 0, 0, 0, 0, 0, 0, 0, 0, 0, 0, 0, 0, 0, 0, 0, 0, 0, 0, 0] = [97] ∧ ptE [4, 1, 100, 2, 1, 97, 0, 0, 0, 0, 0, 0, 0, 0, 0, 0, 0, 0, 0, 0, 0, 0, 0, 0, 0, 0, 0, 0, 0, 0, 0, 0, 0, 0, 0, 0, 0, 0, 0, 0, 0, 0, 0, 0, 0, 0, 0, 0] = 0 := by
  have h := pt_put w10b.2
  rw [w10b.1] at h
  exact h
set_option maxHeartbeats 4000000 in
theorem wakes10 (w : World) : Calls Try.prog 6 #[] w fun r w' => r = .returned (.bool true) ∧ Below w.heap.size w w' := by
  have KA := Lib.hid (fun w => mdput [] [97, 98] w (by decide) (by decide))
  have KB := Lib.hid (fun w => mdput [100] [97] w (by decide) (by decide))
  rw [w10a.1, w10a.2] at KA
  rw [w10b.1, w10b.2] at KB
  obtain ⟨A, hA⟩ : ∃ A : List UInt8, A = [1, 2, 2, 97, 98, 0, 0, 0, 0, 0, 0, 0, 0, 0, 0, 0, 0, 0, 0, 0, 0, 0, 0, 0, 0, 0, 0, 0, 0, 0, 0, 0, 0, 0, 0, 0, 0, 0, 0, 0, 0, 0, 0, 0, 0, 0, 0, 0] := ⟨_, rfl⟩
  obtain ⟨B, hB⟩ : ∃ B : List UInt8, B = [4, 1, 100, 2, 1, 97, 0, 0, 0, 0, 0, 0, 0, 0, 0, 0, 0, 0, 0, 0, 0, 0, 0, 0, 0, 0, 0, 0, 0, 0, 0, 0, 0, 0, 0, 0, 0, 0, 0, 0, 0, 0, 0, 0, 0, 0, 0, 0] := ⟨_, rfl⟩
  have KT := Lib.hid (fun w => mdtake B w)
  have e1 : ptA B = [100] := by rw [hB]; exact w10c.1
  have e2 : ptB B = [97] := by rw [hB]; exact w10c.2.1
  have e3 : ptE B = 0 := by rw [hB]; exact w10c.2.2
  rw [e1, e2, e3] at KT
  rw [← hA] at KA
  rw [← hB] at KB
  have s1 : ∀ W : World, (Instr.slice 9 (.string ⟨A.toArray⟩) none (some (.int .i64 6)) none).run Try.prog W = .ok (.string ⟨#[1, 2, 2, 97, 98, 0]⟩) W := fun W => by rw [hA]; kernel_rfl
  have s2 : ∀ W : World, (Instr.slice 9 (.string ⟨B.toArray⟩) none (some (.int .i64 7)) none).run Try.prog W = .ok (.string ⟨#[4, 1, 100, 2, 1, 97, 0]⟩) W := fun W => by rw [hB]; kernel_rfl
  have hl : A.length = 48 := by rw [hA]; rfl
  clear hA hB e1 e2 e3
  go_enter Try.func6, Try.ntmps6
  go_wp2_with fail
  refine (KA.out _).mono ?_
  rintro r w1 ⟨rfl, hb1⟩
  have HB1 := Lib.hid hb1
  clear hb1
  go_wp2_with fail
  refine (KB.out _).mono ?_
  rintro r w2 ⟨rfl, hb2⟩
  have HB2 : Hid (Below w.heap.size w w2) := Lib.hid (HB1.out.trans (hb2.mono HB1.out.size))
  clear hb2
  go_wp2_with fail
  refine (KT.out _).mono ?_
  rintro r w3 ⟨rfl, hb3⟩
  have HB3 : Hid (Below w.heap.size w w3) := Lib.hid (HB2.out.trans (hb3.mono HB2.out.size))
  clear hb3
  go_wp2
  go_ret
  exact ⟨rfl, HB3.out⟩
end Go.Proofs.Ytbkijcgkelckmaa
