/- package maid's isName: a range over a string. -/
import Derived.Test.YtmhhhcphdnnopaaMd
import Derived.Laws.RangeAny
import Derived.LoopTactic
namespace Go.Proofs.Ytmhhhcphdnnopaa
open Go.RowKit
set_option linter.unusedVariables false
set_option linter.unusedSimpArgs false
set_option maxRecDepth 100000

theorem byteM (l : List UInt8) (i : Nat) (h : i < (⟨l.toArray⟩ : ByteArray).size) : (⟨l.toArray⟩ : ByteArray)[i]'h = l.getD i 0 := by
  have hi : i < l.length := h
  show l[i]'hi = _
  simp [List.getD, hi]
theorem all_step {l : List UInt8} {k : Nat} (h : k < l.length) (h1 : (l.take k).all nmB = true) (h2 : nmB (l.getD k 0) = true) : (l.take (k + 1)).all nmB = true := by
  have e : l.take (k + 1) = l.take k ++ [l.getD k 0] := by
    rw [← List.take_append_getElem h]
    simp [List.getD, h]
  rw [e, List.all_append, h1]
  simpa using h2
theorem all_not {l : List UInt8} {k : Nat} (h : k < l.length) (h2 : nmB (l.getD k 0) = false) : l.all nmB = false := by
  rw [List.all_eq_false]
  refine ⟨l.getD k 0, ?_, by rw [h2]; decide⟩
  simp [List.getD, h]
set_option maxHeartbeats 1000000 in
theorem isname_any (l : List UInt8) (w : World) :
    Calls Try.prog 66 #[.string ⟨l.toArray⟩] w fun e w' => e = .returned (.bool (isn l)) ∧ ∃ pos, w' = w.iter ⟨l.toArray⟩ pos := by
  obtain ⟨s, hs⟩ : ∃ s : ByteArray, s = ⟨l.toArray⟩ := ⟨_, rfl⟩
  have hsz : s.size = l.length := by rw [hs]; rfl
  have hat : ∀ i (h : i < s.size), s[i]'h = l.getD i 0 := by subst hs; exact byteM l
  rw [← hs]
  have HS := Lib.hid hs
  clear hs
  go_enter Try.func66, Try.ntmps66
  go_wp2
  go_loopw [] (fun wr => ∃ pos : Nat, wr = w.iter s pos ∧ Hid (pos ≤ l.length ∧ (l.take pos).all nmB = true)) (fun wr => s.size - wr.iterPos w.heap.size)
  case atStart => exact ⟨0, rfl, Lib.hid ⟨Nat.zero_le _, by simp⟩⟩
  case round =>
    obtain ⟨pos, rfl, HP⟩ := hrel
    by_cases hp : pos < s.size
    · obtain ⟨x, hx⟩ : ∃ x, l.getD pos 0 = x := ⟨_, rfl⟩
      have hpl : pos < l.length := by rw [← hsz]; exact hp
      by_cases hb : nmB x = true
      · have h12 : 32 ≤ x.toNat ∧ x.toNat ≤ 126 := by simpa [nmB] using hb
        have hnx : ∀ ty, (Instr.next (.pointer (some ⟨w.heap.size, 0, none⟩)) true ty).run Try.prog (w.iter s pos) = .ok (.tuple #[.bool true, .int .i64 pos, .int .i32 x.toNat]) (w.iter s (pos + 1)) := fun ty => by
          rw [run_next_ascii w s pos ty hp (by rw [hat, hx]; omega), hat, hx]
        have d1 : ¬ (x.toNat : Int) < 32 := by omega
        have d2 : ¬ (126 : Int) < (x.toNat : Int) := by omega
        have HQ : Hid (pos + 1 ≤ l.length ∧ (l.take (pos + 1)).all nmB = true) := Lib.hid ⟨hpl, all_step hpl HP.out.2 (by rw [hx]; exact hb)⟩
        go_wp2
        go_roundw
        case rel => exact ⟨pos + 1, rfl, HQ⟩
        case measure => simp; omega
      · have hbf : nmB x = false := by simpa using hb
        have hall : isn l = false := by unfold isn; rw [all_not hpl (by rw [hx]; exact hbf)]; rfl
        have HA := Lib.hid hall
        clear hall hb
        by_cases ha : x.toNat < 128
        · have hnx : ∀ ty, (Instr.next (.pointer (some ⟨w.heap.size, 0, none⟩)) true ty).run Try.prog (w.iter s pos) = .ok (.tuple #[.bool true, .int .i64 pos, .int .i32 x.toNat]) (w.iter s (pos + 1)) := fun ty => by
            rw [run_next_ascii w s pos ty hp (by rw [hat, hx]; omega), hat, hx]
          by_cases d1 : (x.toNat : Int) < 32
          · go_wp2
            go_ret
            exact ⟨by rw [HA.out]; rfl, _, rfl⟩
          · have d2 : (126 : Int) < (x.toNat : Int) := by
              have : ¬ (32 ≤ x.toNat ∧ x.toNat ≤ 126) := by intro h; simp [nmB, h] at hbf
              omega
            go_wp2
            go_ret
            exact ⟨by rw [HA.out]; rfl, _, rfl⟩
        · have hh := decode_high s pos hp (by rw [hat, hx]; omega)
          have hnx : ∀ ty, (Instr.next (.pointer (some ⟨w.heap.size, 0, none⟩)) true ty).run Try.prog (w.iter s pos) = _ := fun ty => run_next_any w s pos ty hp
          obtain ⟨q, hq⟩ : ∃ q, Utf8.decode s pos = q := ⟨_, rfl⟩
          rw [hq] at hnx hh
          have d1 : ¬ (q.1 : Int) < 32 := by omega
          have d2 : (126 : Int) < (q.1 : Int) := by omega
          clear hh hq
          go_wp2
          go_ret
          exact ⟨by rw [HA.out]; rfl, _, rfl⟩
    · have hnx : ∀ ty, (Instr.next (.pointer (some ⟨w.heap.size, 0, none⟩)) true ty).run Try.prog (w.iter s pos) = _ := fun ty => run_next_end w s pos ty hp
      have hpe : pos = l.length := by have := HP.out.1; omega
      have hall := HP.out.2
      rw [hpe, List.take_length] at hall
      have HA := Lib.hid hall
      have hne : (l.isEmpty) = decide (s.size = 0) := by
        rw [hsz]
        cases l <;> simp
      clear hall hpe
      go_wp2
      go_ret
      refine ⟨?_, _, rfl⟩
      unfold isn
      rw [HA.out]
      rw [HS.out]
      cases l <;> simp
theorem below_iter (w : World) (s : ByteArray) (pos : Nat) : Below w.heap.size w (w.iter s pos) := (Below.refl _ _).alloc (Nat.le_refl _) _
end Go.Proofs.Ytmhhhcphdnnopaa
