/- Layer 10: the document's own name and Put. -/
import Derived.Test.YtmhhhcphdnnopaaMdName
import Derived.Test.YtmhhhcphdnnopaaStr
import Derived.Laws.Concat
import Derived.Deep.DeepCutAuto
import Derived.Outline
namespace Go.Proofs.Ytmhhhcphdnnopaa
open Go.RowKit
set_option linter.unusedVariables false
set_option linter.unusedSimpArgs false
set_option maxRecDepth 100000

theorem refname_any (l : List UInt8) (none_ : Bool) (w : World) (hlm : l.length ≤ 1000000) :
    Calls Try.prog 35 #[.string ⟨l.toArray⟩, .bool none_] w fun e w' => e = .returned (.bool (l.all nmB && (none_ || !l.isEmpty))) ∧ w = w' := by
  obtain ⟨s, hs⟩ : ∃ s : ByteArray, s = ⟨l.toArray⟩ := ⟨_, rfl⟩
  have hsz : s.size = l.length := by rw [hs]; rfl
  have hat : ∀ i (h : i < s.size), s[i]'h = l.getD i 0 := by subst hs; exact byteM l
  rw [← hs]
  have HS := Lib.hid hs
  have HAT := Lib.hid hat
  clear hs hat
  go_enter Try.func35, Try.ntmps35
  go_wp2
  go_loop [5] (fun v => ∃ pos : Nat, v = .int .i64 pos ∧ Hid (pos ≤ l.length ∧ (l.take pos).all nmB = true)) (fun v => l.length - (intOf v).toNat)
  case atStart => exact ⟨0, rfl, Lib.hid ⟨Nat.zero_le _, by simp⟩⟩
  case round =>
    obtain ⟨pos, rfl, HP⟩ := hrel
    by_cases hp : pos < s.size
    · obtain ⟨x, hx⟩ : ∃ x, l.getD pos 0 = x := ⟨_, rfl⟩
      have hpl : pos < l.length := by rw [← hsz]; exact hp
      have hxx := HAT.out pos hp
      rw [hx] at hxx
      by_cases hb : nmB x = true
      · have h12 : 32 ≤ x.toNat ∧ x.toNat ≤ 126 := by simpa [nmB] using hb
        have d1 : ¬ (x.toNat : Int) < 32 := by omega
        have d2 : ¬ (126 : Int) < (x.toNat : Int) := by omega
        have HQ : Hid (pos + 1 ≤ l.length ∧ (l.take (pos + 1)).all nmB = true) := Lib.hid ⟨hpl, all_step hpl HP.out.2 (by rw [hx]; exact hb)⟩
        go_wp2
        exact ⟨⟨pos + 1, by go_num, HQ⟩, by simp [intOf]; omega⟩
      · have hbf : nmB x = false := by simpa using hb
        have hall : l.all nmB = false := all_not hpl (by rw [hx]; exact hbf)
        have HA := Lib.hid hall
        clear hall hb
        by_cases d1 : (x.toNat : Int) < 32
        · go_wp2
          go_ret
          exact ⟨by rw [HA.out]; rfl, rfl⟩
        · have d2 : (126 : Int) < (x.toNat : Int) := by
            have : ¬ (32 ≤ x.toNat ∧ x.toNat ≤ 126) := by intro h; simp [nmB, h] at hbf
            omega
          go_wp2
          go_ret
          exact ⟨by rw [HA.out]; rfl, rfl⟩
    · have hpe : pos = l.length := by have := HP.out.1; omega
      have hall := HP.out.2
      rw [hpe, List.take_length] at hall
      have HA := Lib.hid hall
      clear hall hpe
      cases none_
      · by_cases hl : l = []
        · have h0 : s.size = 0 := by rw [hsz, hl]; rfl
          have HL := Lib.hid hl
          clear hl
          go_wp2
          go_ret
          exact ⟨by rw [HL.out]; rfl, rfl⟩
        · have h0 : decide (0 < l.length) = true := by simpa using List.length_pos_iff.2 hl
          have he : l.isEmpty = false := by simpa using hl
          have HE := Lib.hid he
          clear hl he
          go_wp2
          go_ret
          exact ⟨by rw [HA.out, HE.out]; first | rfl | (simp only [h0]; rfl), rfl⟩
      · go_wp2
        go_ret
        exact ⟨by rw [HA.out]; rfl, rfl⟩
end Go.Proofs.Ytmhhhcphdnnopaa
