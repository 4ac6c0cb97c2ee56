/-
  No cell of these rows narrows 'for every input' (looked for: loops, veiled, ifaces, maps, wideKeys, modest, calm, conditions, laid).
  DERIVED. THE GIVEN ROWS OF THIS SEAT. 3 by the template 'for every input the law returns true; each argument reads behind the call as it read before'; 0 by the template 'total and deterministic' (their statements: YtjilolehcboihaaTotals.lean).
  GIVEN WITH THE SEED: the statements are not yours to turn. If you find one false, say at which input.
  Laid BY PROGRAM, IN A SANDBOX (cutbox-rows.mjs): the forced cells as the released guide's own fill.sh prints them over the translation 3f7bcd9df1dba17c… (all of the seat's roots in one cut). By AI agents, Wed Nov 11 2026. No macro, syntax, notation, axiom, sorry.
-/
import Derived.Test.YtjilolehcboihaaChecked
import GoSem.Claim
import GoSem.ClaimJoined
import GoSem.ClaimMapViews
import Derived.JoinedTies
import Derived.KernelRfl
namespace Go.Proofs.Ytjilolehcboihaa
/- THE CELL 'sum', in the pinned program and in every row, IS THE sha256 OF THE DUMP (.gsa) THAT YtjilolehcboihaaProg.lean LOADS. Nothing in Lean hashes anything: it is a label: what it is worth is what the hold of that sum in a sandbox is worth. -/
noncomputable def Try.pinned : Pinned := { name := "ytjilolehcboihaa", sum := "3f7bcd9df1dba17c61cce1971e7ca57483aa21e7ca9222544e29832155755258", checked := Try.checked }
namespace Rows
def none {H : Type} : Left H := { results := [], args := [] }

/-- 'viaductlaw12.CfmPuts': WHATEVER THE INPUT: true; the input reads as it did. -/
def cfmPutsSpec : ChangeSpec := { name := "cfmPuts", fn := fun _ => fun
  | [d] => { results := [.lit (.bool true)], args := [d] }
  | _ => none }
def cfmPutsRow : OpenClaim := { program := "ytjilolehcboihaa", sum := "3f7bcd9df1dba17c61cce1971e7ca57483aa21e7ca9222544e29832155755258", func := "viaduct/viaductlaw12.CfmPuts", spec := "cfmPuts", unfollowed := true, recurses := true, apart := false }
def CfmPutsSaid : Prop := cfmPutsRow.holds Try.pinned (OpenSpec.ofChange cfmPutsSpec)

/-- ITS FALSE NEIGHBOUR: 'it returns false'. Refute it at one input. -/
def cfmPutsWrong : ChangeSpec := { name := "cfmPuts", fn := fun _ => fun
  | [d] => { results := [.lit (.bool false)], args := [d] }
  | _ => none }
def CfmPutsWrongFalsely : Prop := cfmPutsRow.holds Try.pinned (OpenSpec.ofChange cfmPutsWrong)

/-- 'viaductlaw12.CfmTakes': WHATEVER THE INPUT: true; the input reads as it did. -/
def cfmTakesSpec : ChangeSpec := { name := "cfmTakes", fn := fun _ => fun
  | [d1, d2] => { results := [.lit (.bool true)], args := [d1, d2] }
  | _ => none }
def cfmTakesRow : OpenClaim := { program := "ytjilolehcboihaa", sum := "3f7bcd9df1dba17c61cce1971e7ca57483aa21e7ca9222544e29832155755258", func := "viaduct/viaductlaw12.CfmTakes", spec := "cfmTakes", unfollowed := true, recurses := true, apart := false }
def CfmTakesSaid : Prop := cfmTakesRow.holds Try.pinned (OpenSpec.ofChange cfmTakesSpec)

/-- ITS FALSE NEIGHBOUR: 'it returns false'. Refute it at one input. -/
def cfmTakesWrong : ChangeSpec := { name := "cfmTakes", fn := fun _ => fun
  | [d1, d2] => { results := [.lit (.bool false)], args := [d1, d2] }
  | _ => none }
def CfmTakesWrongFalsely : Prop := cfmTakesRow.holds Try.pinned (OpenSpec.ofChange cfmTakesWrong)

/-- 'viaductlaw12.CfmBack': WHATEVER THE INPUT: true; the input reads as it did. -/
def cfmBackSpec : ChangeSpec := { name := "cfmBack", fn := fun _ => fun
  | [d1, d2, d3] => { results := [.lit (.bool true)], args := [d1, d2, d3] }
  | _ => none }
def cfmBackRow : OpenClaim := { program := "ytjilolehcboihaa", sum := "3f7bcd9df1dba17c61cce1971e7ca57483aa21e7ca9222544e29832155755258", func := "viaduct/viaductlaw12.CfmBack", spec := "cfmBack", unfollowed := true, recurses := true, apart := false }
def CfmBackSaid : Prop := cfmBackRow.holds Try.pinned (OpenSpec.ofChange cfmBackSpec)

/-- ITS FALSE NEIGHBOUR: 'it returns false'. Refute it at one input. -/
def cfmBackWrong : ChangeSpec := { name := "cfmBack", fn := fun _ => fun
  | [d1, d2, d3] => { results := [.lit (.bool false)], args := [d1, d2, d3] }
  | _ => none }
def CfmBackWrongFalsely : Prop := cfmBackRow.holds Try.pinned (OpenSpec.ofChange cfmBackWrong)

/- THE SECOND FORM. 'bulk': how many values and letters a reading holds, each counted each time it is reached (what is shared counts as often as it is met; a slice's spare places count too). A statement '..UptoSaid' is the law's where the arguments, and the package variables that the reading takes, are together of bulk at most 1048576: NARROWER than '..Said'. Prove '..Said' where nothing that the law and all that it calls make is longer than what came in: it says more and counts as full. Else prove '..UptoSaid'. A law counts once. -/
mutual
def uptoBulk {H : Type} : DataW H → Nat
  | .lit (.string bytes) => bytes.length + 1
  | .lit _ => 1
  | .nil => 1
  | .ptr d => uptoBulk d + 1
  | .slice elems spare => uptoBulkAll elems + uptoBulkAll spare + 1
  | .agg parts => uptoBulkAll parts + 1
  | .iface _ d => uptoBulk d + 1
  | .map entries => uptoBulkEntries entries + 1
  | .held _ => 1
def uptoBulkAll {H : Type} : List (DataW H) → Nat
  | [] => 0
  | d :: r => uptoBulk d + uptoBulkAll r
def uptoBulkEntries {H : Type} : List (Lit × DataW H) → Nat
  | [] => 0
  | x :: r => uptoBulkEntry x + uptoBulkEntries r
def uptoBulkEntry {H : Type} : Lit × DataW H → Nat
  | (.string bytes, d) => bytes.length + uptoBulk d + 1
  | (_, d) => uptoBulk d + 1
 end
def uptoSmall : (H : Type) → List (DataW H) → Bool := fun _ ds => decide (uptoBulkAll ds ≤ 1048576)
def OpenSpec.upto (s : _root_.Go.ChangeSpec) : _root_.Go.OpenSpec := { _root_.Go.OpenSpec.ofChange s with cond := some uptoSmall }

/-- 'viaductlaw12.CfmPuts', WHERE WHAT IT READS IS OF BULK AT MOST 1048576: true; the input reads as it did. -/
def cfmPutsUptoRow : OpenClaim := { program := "ytjilolehcboihaa", sum := "3f7bcd9df1dba17c61cce1971e7ca57483aa21e7ca9222544e29832155755258", func := "viaduct/viaductlaw12.CfmPuts", spec := "cfmPuts", unfollowed := true, recurses := true, apart := false, narrowed := true }
def CfmPutsUptoSaid : Prop := cfmPutsUptoRow.holds Try.pinned (OpenSpec.upto cfmPutsSpec)

/-- 'viaductlaw12.CfmTakes', WHERE WHAT IT READS IS OF BULK AT MOST 1048576: true; the input reads as it did. -/
def cfmTakesUptoRow : OpenClaim := { program := "ytjilolehcboihaa", sum := "3f7bcd9df1dba17c61cce1971e7ca57483aa21e7ca9222544e29832155755258", func := "viaduct/viaductlaw12.CfmTakes", spec := "cfmTakes", unfollowed := true, recurses := true, apart := false, narrowed := true }
def CfmTakesUptoSaid : Prop := cfmTakesUptoRow.holds Try.pinned (OpenSpec.upto cfmTakesSpec)

/-- 'viaductlaw12.CfmBack', WHERE WHAT IT READS IS OF BULK AT MOST 1048576: true; the input reads as it did. -/
def cfmBackUptoRow : OpenClaim := { program := "ytjilolehcboihaa", sum := "3f7bcd9df1dba17c61cce1971e7ca57483aa21e7ca9222544e29832155755258", func := "viaduct/viaductlaw12.CfmBack", spec := "cfmBack", unfollowed := true, recurses := true, apart := false, narrowed := true }
def CfmBackUptoSaid : Prop := cfmBackUptoRow.holds Try.pinned (OpenSpec.upto cfmBackSpec)

end Rows
end Go.Proofs.Ytjilolehcboihaa
