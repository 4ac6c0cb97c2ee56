/- Layer 18: RemoteThere's walk, all ways. -/
import Derived.Test.YtkmdgpfaaniibaaZzTw1840
import Derived.Test.YtkmdgpfaaniibaaZzTw1841
import Derived.Test.YtkmdgpfaaniibaaZzTw1842
import Derived.Test.YtkmdgpfaaniibaaZzTw1843
import Derived.Test.YtkmdgpfaaniibaaZzTw1850
import Derived.Test.YtkmdgpfaaniibaaZzTw1851
import Derived.Test.YtkmdgpfaaniibaaZzTw1852
import Derived.Test.YtkmdgpfaaniibaaZzTw1853
namespace Go.Proofs.Ytkmdgpfaaniibaa
open Go.RowKit
set_option linter.unusedVariables false
set_option linter.unusedSimpArgs false
set_option maxRecDepth 100000

theorem there18_walk {R : World → (Nat → Prop) → Nat → Rm → Prop} (HI : RmI R) (HT : Ticks18C) (W : World) (l0 : UInt8) (ten : Bool) (A : Option Addr) (c : Nat) (rows : List UInt8) (wr0 : UInt8) (hE : Els 1 u8c18 W A rows) :
    Calls Try.prog 5 #[.int .u8 l0.toNat, .bool ten, .slice A rows.length c, .int .u8 wr0.toNat] W fun e w' => e = .returned (.bool true) ∧ Below W.heap.size W w' := by
  by_cases hrl : rows.length ≤ 40
  · have hlv : (l0 % 8).toNat = l0.toNat % 8 := by rw [UInt8.toNat_mod]; rfl
    have h4 : wr0.toNat % 4 = 0 ∨ wr0.toNat % 4 = 1 ∨ wr0.toNat % 4 = 2 ∨ wr0.toNat % 4 = 3 := by omega
    cases ten
    · rcases h4 with h | h | h | h
      · exact there18_40 HI HT W l0 (l0 % 8) wr0 A c rows hlv h hrl hE
      · exact there18_41 HI HT W l0 (l0 % 8) wr0 A c rows hlv h hrl hE
      · exact there18_42 HI HT W l0 (l0 % 8) wr0 A c rows hlv h hrl hE
      · exact there18_43 HI HT W l0 (l0 % 8) wr0 A c rows hlv h hrl hE
    · rcases h4 with h | h | h | h
      · exact there18_50 HI HT W l0 (l0 % 8) wr0 A c rows hlv h hrl hE
      · exact there18_51 HI HT W l0 (l0 % 8) wr0 A c rows hlv h hrl hE
      · exact there18_52 HI HT W l0 (l0 % 8) wr0 A c rows hlv h hrl hE
      · exact there18_53 HI HT W l0 (l0 % 8) wr0 A c rows hlv h hrl hE
  · have H := Lib.hid HI
    have KWK := Lib.hid (fun w => wakes18 HI w)
    obtain ⟨n, hn⟩ : ∃ n, rows.length = n := ⟨_, rfl⟩
    rw [hn] at hrl ⊢
    have p1 : (40 : Int) < (n : Int) := by omega
    clear hrl hn HI HT hE
    go_enter Try.func5, Try.ntmps5
    go_wp2_with fail
    refine (KWK.out _).mono ?_
    rintro r w1 ⟨rfl, hb⟩
    go_wp2
    go_ret
    exact ⟨rfl, hb⟩
end Go.Proofs.Ytkmdgpfaaniibaa
