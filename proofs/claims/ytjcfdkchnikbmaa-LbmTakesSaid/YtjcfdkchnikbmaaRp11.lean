/- Layer 11: the document's Put. -/
import Derived.Test.YtjcfdkchnikbmaaTl
import Derived.Test.YtjcfdkchnikbmaaRefNum
import Derived.Deep.RegionHeld3
import Derived.Deep.DeepCutAuto
import Derived.Laws.Concat
namespace Go.Proofs.Ytjcfdkchnikbmaa
open Go.RowKit
set_option linter.unusedVariables false
set_option linter.unusedSimpArgs false
set_option maxRecDepth 100000

theorem dig_one (x : UInt8) : dig 1 x.toNat = [x] := by
  have := x.toNat_lt
  simp only [dig, List.nil_append]
  rw [Nat.mod_eq_of_lt (by omega)]
  simp
theorem num1_any (x : UInt8) (w : World) :
    Calls Try.prog 20 #[.int .u64 x.toNat, .int .i64 1] w fun e w' => e = .returned (.string ⟨[x].toArray⟩) ∧ Below w.heap.size w w' := by
  have h := x.toNat_lt
  have := numstr_any 1 (x.toNat : Int) w (by omega) (by omega) (by omega)
  rw [show ((x.toNat : Int)).toNat = x.toNat by omega, dig_one] at this
  exact this
theorem num2L_any (n : Nat) (w : World) (h : n ≤ 1000000) :
    Calls Try.prog 20 #[.int .u64 (n : Int), .int .i64 2] w fun e w' => e = .returned (.string ⟨(dig 2 n).toArray⟩) ∧ Below w.heap.size w w' := by
  have := numstr_any 2 (n : Int) w (by omega) (by omega) (by omega)
  rw [show ((n : Int)).toNat = n by omega] at this
  exact this
theorem keepT {W w w' : World} {b o : Nat} {x : Value} {y : Value} (h0 : w.cell? ⟨b, o, none⟩ = some x) (h1 : w.cell? ⟨b, o + 1, none⟩ = some y) (hB : Hid (Below W.heap.size W w)) (hb : Below w.heap.size w w') :
    w'.cell? ⟨b, o, none⟩ = some x ∧ w'.cell? ⟨b, o + 1, none⟩ = some y ∧ Hid (Below W.heap.size W w') :=
  ⟨(hb.cell (p := ⟨b, o, none⟩) (World.block_lt_of_cell? w _ h0)).trans h0, (hb.cell (p := ⟨b, o + 1, none⟩) (World.block_lt_of_cell? w _ h1)).trans h1, Lib.hid (hB.out.trans (hb.mono hB.out.size))⟩
end Go.Proofs.Ytjcfdkchnikbmaa
