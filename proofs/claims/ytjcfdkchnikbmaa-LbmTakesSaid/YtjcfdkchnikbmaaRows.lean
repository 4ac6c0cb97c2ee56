/-
  No cell of these rows narrows 'for every input' (looked for: loops, veiled, ifaces, maps, wideKeys, modest, calm, conditions, laid).
  DERIVED. THE GIVEN ROWS OF THIS SEAT. 3 by the template 'for every input the law returns true; each argument reads behind the call as it read before'; 0 by the template 'total and deterministic' (their statements: YtjcfdkchnikbmaaTotals.lean).
  GIVEN WITH THE SEED: the statements are not yours to turn. If you find one false, say at which input.
  Laid BY PROGRAM, IN A SANDBOX (cutbox-rows.mjs): the forced cells as the released guide's own fill.sh prints them over the translation 1d20cd86db480553… (all of the seat's roots in one cut). By AI agents, Wed Nov 11 2026. No macro, syntax, notation, axiom, sorry.
-/
import Derived.Test.YtjcfdkchnikbmaaChecked
import GoSem.Claim
import GoSem.ClaimJoined
import GoSem.ClaimMapViews
import Derived.JoinedTies
import Derived.KernelRfl
namespace Go.Proofs.Ytjcfdkchnikbmaa
/- THE CELL 'sum', in the pinned program and in every row, IS THE sha256 OF THE DUMP (.gsa) THAT YtjcfdkchnikbmaaProg.lean LOADS. Nothing in Lean hashes anything: it is a label: what it is worth is what the hold of that sum in a sandbox is worth. -/
noncomputable def Try.pinned : Pinned := { name := "ytjcfdkchnikbmaa", sum := "1d20cd86db480553221247ebb0f203812af30cdc05b4e45a17ab07c0de16c53f", checked := Try.checked }
namespace Rows
def none {H : Type} : Left H := { results := [], args := [] }

/-- 'viaductlaw14.LbmPuts': WHATEVER THE INPUT: true; the input reads as it did. -/
def lbmPutsSpec : ChangeSpec := { name := "lbmPuts", fn := fun _ => fun
  | [d] => { results := [.lit (.bool true)], args := [d] }
  | _ => none }
def lbmPutsRow : OpenClaim := { program := "ytjcfdkchnikbmaa", sum := "1d20cd86db480553221247ebb0f203812af30cdc05b4e45a17ab07c0de16c53f", func := "viaduct/viaductlaw14.LbmPuts", spec := "lbmPuts", recurses := true, apart := false }
def LbmPutsSaid : Prop := lbmPutsRow.holds Try.pinned (OpenSpec.ofChange lbmPutsSpec)

/-- ITS FALSE NEIGHBOUR: 'it returns false'. Refute it at one input. -/
def lbmPutsWrong : ChangeSpec := { name := "lbmPuts", fn := fun _ => fun
  | [d] => { results := [.lit (.bool false)], args := [d] }
  | _ => none }
def LbmPutsWrongFalsely : Prop := lbmPutsRow.holds Try.pinned (OpenSpec.ofChange lbmPutsWrong)

/-- 'viaductlaw14.LbmTakes': WHATEVER THE INPUT: true; the input reads as it did. -/
def lbmTakesSpec : ChangeSpec := { name := "lbmTakes", fn := fun _ => fun
  | [d] => { results := [.lit (.bool true)], args := [d] }
  | _ => none }
def lbmTakesRow : OpenClaim := { program := "ytjcfdkchnikbmaa", sum := "1d20cd86db480553221247ebb0f203812af30cdc05b4e45a17ab07c0de16c53f", func := "viaduct/viaductlaw14.LbmTakes", spec := "lbmTakes", apart := false }
def LbmTakesSaid : Prop := lbmTakesRow.holds Try.pinned (OpenSpec.ofChange lbmTakesSpec)

/-- ITS FALSE NEIGHBOUR: 'it returns false'. Refute it at one input. -/
def lbmTakesWrong : ChangeSpec := { name := "lbmTakes", fn := fun _ => fun
  | [d] => { results := [.lit (.bool false)], args := [d] }
  | _ => none }
def LbmTakesWrongFalsely : Prop := lbmTakesRow.holds Try.pinned (OpenSpec.ofChange lbmTakesWrong)

/-- 'viaductlaw14.LbmBack': WHATEVER THE INPUT: true; the input reads as it did. -/
def lbmBackSpec : ChangeSpec := { name := "lbmBack", fn := fun _ => fun
  | [d1, d2, d3] => { results := [.lit (.bool true)], args := [d1, d2, d3] }
  | _ => none }
def lbmBackRow : OpenClaim := { program := "ytjcfdkchnikbmaa", sum := "1d20cd86db480553221247ebb0f203812af30cdc05b4e45a17ab07c0de16c53f", func := "viaduct/viaductlaw14.LbmBack", spec := "lbmBack", unfollowed := true, recurses := true, apart := false }
def LbmBackSaid : Prop := lbmBackRow.holds Try.pinned (OpenSpec.ofChange lbmBackSpec)

/-- ITS FALSE NEIGHBOUR: 'it returns false'. Refute it at one input. -/
def lbmBackWrong : ChangeSpec := { name := "lbmBack", fn := fun _ => fun
  | [d1, d2, d3] => { results := [.lit (.bool false)], args := [d1, d2, d3] }
  | _ => none }
def LbmBackWrongFalsely : Prop := lbmBackRow.holds Try.pinned (OpenSpec.ofChange lbmBackWrong)

/- THE SECOND FORM. 'bulk': how many values and letters a reading holds, each counted each time it is reached (what is shared counts as often as it is met; a slice's spare places count too). A statement '..UptoSaid' is the law's where the arguments, and the package variables that the reading takes, are together of bulk at most 1048576: NARROWER than '..Said'. Prove '..Said' where nothing that the law and all that it calls make is longer than what came in: it says more and counts as full. Else prove '..UptoSaid'. A law counts once. -/
mutual
def uptoBulk {H : Type} : DataW H → Nat
  | .lit (.string bytes) => bytes.length + 1
  | .lit _ => 1
  | .nil => 1
  | .ptr d => uptoBulk d + 1
  | .slice elems spare => uptoBulkAll elems + uptoBulkAll spare + 1
  | .agg parts => uptoBulkAll parts + 1
  | .iface _ d => uptoBulk d + 1
  | .map entries => uptoBulkEntries entries + 1
  | .held _ => 1
def uptoBulkAll {H : Type} : List (DataW H) → Nat
  | [] => 0
  | d :: r => uptoBulk d + uptoBulkAll r
def uptoBulkEntries {H : Type} : List (Lit × DataW H) → Nat
  | [] => 0
  | x :: r => uptoBulkEntry x + uptoBulkEntries r
def uptoBulkEntry {H : Type} : Lit × DataW H → Nat
  | (.string bytes, d) => bytes.length + uptoBulk d + 1
  | (_, d) => uptoBulk d + 1
 end
def uptoSmall : (H : Type) → List (DataW H) → Bool := fun _ ds => decide (uptoBulkAll ds ≤ 1048576)
def OpenSpec.upto (s : _root_.Go.ChangeSpec) : _root_.Go.OpenSpec := { _root_.Go.OpenSpec.ofChange s with cond := some uptoSmall }

/-- 'viaductlaw14.LbmPuts', WHERE WHAT IT READS IS OF BULK AT MOST 1048576: true; the input reads as it did. -/
def lbmPutsUptoRow : OpenClaim := { program := "ytjcfdkchnikbmaa", sum := "1d20cd86db480553221247ebb0f203812af30cdc05b4e45a17ab07c0de16c53f", func := "viaduct/viaductlaw14.LbmPuts", spec := "lbmPuts", recurses := true, apart := false, narrowed := true }
def LbmPutsUptoSaid : Prop := lbmPutsUptoRow.holds Try.pinned (OpenSpec.upto lbmPutsSpec)

/-- 'viaductlaw14.LbmTakes', WHERE WHAT IT READS IS OF BULK AT MOST 1048576: true; the input reads as it did. -/
def lbmTakesUptoRow : OpenClaim := { program := "ytjcfdkchnikbmaa", sum := "1d20cd86db480553221247ebb0f203812af30cdc05b4e45a17ab07c0de16c53f", func := "viaduct/viaductlaw14.LbmTakes", spec := "lbmTakes", apart := false, narrowed := true }
def LbmTakesUptoSaid : Prop := lbmTakesUptoRow.holds Try.pinned (OpenSpec.upto lbmTakesSpec)

/-- 'viaductlaw14.LbmBack', WHERE WHAT IT READS IS OF BULK AT MOST 1048576: true; the input reads as it did. -/
def lbmBackUptoRow : OpenClaim := { program := "ytjcfdkchnikbmaa", sum := "1d20cd86db480553221247ebb0f203812af30cdc05b4e45a17ab07c0de16c53f", func := "viaduct/viaductlaw14.LbmBack", spec := "lbmBack", unfollowed := true, recurses := true, apart := false, narrowed := true }
def LbmBackUptoSaid : Prop := lbmBackUptoRow.holds Try.pinned (OpenSpec.upto lbmBackSpec)

end Rows
end Go.Proofs.Ytjcfdkchnikbmaa
