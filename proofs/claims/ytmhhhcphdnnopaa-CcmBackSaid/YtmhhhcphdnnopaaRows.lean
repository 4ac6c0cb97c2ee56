/-
  No cell of these rows narrows 'for every input' (looked for: loops, veiled, ifaces, maps, wideKeys, modest, calm, conditions, laid).
  DERIVED. THE GIVEN ROWS OF THIS SEAT. 3 by the template 'for every input the law returns true; each argument reads behind the call as it read before'; 0 by the template 'total and deterministic' (their statements: YtmhhhcphdnnopaaTotals.lean).
  GIVEN WITH THE SEED: the statements are not yours to turn. If you find one false, say at which input.
  Laid BY PROGRAM, IN A SANDBOX (cutbox-rows.mjs): the forced cells as the released guide's own fill.sh prints them over the translation 2e99a2f812addb2a… (all of the seat's roots in one cut). By AI agents, Wed Nov 11 2026. No macro, syntax, notation, axiom, sorry.
-/
import Derived.Test.YtmhhhcphdnnopaaChecked
import GoSem.Claim
import GoSem.ClaimJoined
import GoSem.ClaimMapViews
import Derived.JoinedTies
import Derived.KernelRfl
namespace Go.Proofs.Ytmhhhcphdnnopaa
/- THE CELL 'sum', in the pinned program and in every row, IS THE sha256 OF THE DUMP (.gsa) THAT YtmhhhcphdnnopaaProg.lean LOADS. Nothing in Lean hashes anything: it is a label: what it is worth is what the hold of that sum in a sandbox is worth. -/
noncomputable def Try.pinned : Pinned := { name := "ytmhhhcphdnnopaa", sum := "2e99a2f812addb2a005cfcb2f51397a7548aa16aa7ddce9403256a7cf69d1ef9", checked := Try.checked }
namespace Rows
def none {H : Type} : Left H := { results := [], args := [] }

/-- 'viaductlaw13.CcmPuts': WHATEVER THE INPUT: true; the input reads as it did. -/
def ccmPutsSpec : ChangeSpec := { name := "ccmPuts", fn := fun _ => fun
  | [d] => { results := [.lit (.bool true)], args := [d] }
  | _ => none }
def ccmPutsRow : OpenClaim := { program := "ytmhhhcphdnnopaa", sum := "2e99a2f812addb2a005cfcb2f51397a7548aa16aa7ddce9403256a7cf69d1ef9", func := "viaduct/viaductlaw13.CcmPuts", spec := "ccmPuts", inPlace := ["internal/abi.NoEscape", "internal/bytealg.MakeNoZero"], unfollowed := true, recurses := true, apart := false }
def CcmPutsSaid : Prop := ccmPutsRow.holds Try.pinned (OpenSpec.ofChange ccmPutsSpec)

/-- ITS FALSE NEIGHBOUR: 'it returns false'. Refute it at one input. -/
def ccmPutsWrong : ChangeSpec := { name := "ccmPuts", fn := fun _ => fun
  | [d] => { results := [.lit (.bool false)], args := [d] }
  | _ => none }
def CcmPutsWrongFalsely : Prop := ccmPutsRow.holds Try.pinned (OpenSpec.ofChange ccmPutsWrong)

/-- 'viaductlaw13.CcmTakes': WHATEVER THE INPUT: true; the input reads as it did. -/
def ccmTakesSpec : ChangeSpec := { name := "ccmTakes", fn := fun _ => fun
  | [d] => { results := [.lit (.bool true)], args := [d] }
  | _ => none }
def ccmTakesRow : OpenClaim := { program := "ytmhhhcphdnnopaa", sum := "2e99a2f812addb2a005cfcb2f51397a7548aa16aa7ddce9403256a7cf69d1ef9", func := "viaduct/viaductlaw13.CcmTakes", spec := "ccmTakes", inPlace := ["internal/abi.NoEscape", "internal/bytealg.MakeNoZero"], unfollowed := true, recurses := true, apart := false }
def CcmTakesSaid : Prop := ccmTakesRow.holds Try.pinned (OpenSpec.ofChange ccmTakesSpec)

/-- ITS FALSE NEIGHBOUR: 'it returns false'. Refute it at one input. -/
def ccmTakesWrong : ChangeSpec := { name := "ccmTakes", fn := fun _ => fun
  | [d] => { results := [.lit (.bool false)], args := [d] }
  | _ => none }
def CcmTakesWrongFalsely : Prop := ccmTakesRow.holds Try.pinned (OpenSpec.ofChange ccmTakesWrong)

/-- 'viaductlaw13.CcmBack': WHATEVER THE INPUT: true; the input reads as it did. -/
def ccmBackSpec : ChangeSpec := { name := "ccmBack", fn := fun _ => fun
  | [d1, d2, d3] => { results := [.lit (.bool true)], args := [d1, d2, d3] }
  | _ => none }
def ccmBackRow : OpenClaim := { program := "ytmhhhcphdnnopaa", sum := "2e99a2f812addb2a005cfcb2f51397a7548aa16aa7ddce9403256a7cf69d1ef9", func := "viaduct/viaductlaw13.CcmBack", spec := "ccmBack", inPlace := ["internal/abi.NoEscape", "internal/bytealg.MakeNoZero"], unfollowed := true, recurses := true, apart := false }
def CcmBackSaid : Prop := ccmBackRow.holds Try.pinned (OpenSpec.ofChange ccmBackSpec)

/-- ITS FALSE NEIGHBOUR: 'it returns false'. Refute it at one input. -/
def ccmBackWrong : ChangeSpec := { name := "ccmBack", fn := fun _ => fun
  | [d1, d2, d3] => { results := [.lit (.bool false)], args := [d1, d2, d3] }
  | _ => none }
def CcmBackWrongFalsely : Prop := ccmBackRow.holds Try.pinned (OpenSpec.ofChange ccmBackWrong)

/- THE SECOND FORM. 'bulk': how many values and letters a reading holds, each counted each time it is reached (what is shared counts as often as it is met; a slice's spare places count too). A statement '..UptoSaid' is the law's where the arguments, and the package variables that the reading takes, are together of bulk at most 1048576: NARROWER than '..Said'. Prove '..Said' where nothing that the law and all that it calls make is longer than what came in: it says more and counts as full. Else prove '..UptoSaid'. A law counts once. -/
mutual
def uptoBulk {H : Type} : DataW H → Nat
  | .lit (.string bytes) => bytes.length + 1
  | .lit _ => 1
  | .nil => 1
  | .ptr d => uptoBulk d + 1
  | .slice elems spare => uptoBulkAll elems + uptoBulkAll spare + 1
  | .agg parts => uptoBulkAll parts + 1
  | .iface _ d => uptoBulk d + 1
  | .map entries => uptoBulkEntries entries + 1
  | .held _ => 1
def uptoBulkAll {H : Type} : List (DataW H) → Nat
  | [] => 0
  | d :: r => uptoBulk d + uptoBulkAll r
def uptoBulkEntries {H : Type} : List (Lit × DataW H) → Nat
  | [] => 0
  | x :: r => uptoBulkEntry x + uptoBulkEntries r
def uptoBulkEntry {H : Type} : Lit × DataW H → Nat
  | (.string bytes, d) => bytes.length + uptoBulk d + 1
  | (_, d) => uptoBulk d + 1
 end
def uptoSmall : (H : Type) → List (DataW H) → Bool := fun _ ds => decide (uptoBulkAll ds ≤ 1048576)
def OpenSpec.upto (s : _root_.Go.ChangeSpec) : _root_.Go.OpenSpec := { _root_.Go.OpenSpec.ofChange s with cond := some uptoSmall }

/-- 'viaductlaw13.CcmPuts', WHERE WHAT IT READS IS OF BULK AT MOST 1048576: true; the input reads as it did. -/
def ccmPutsUptoRow : OpenClaim := { program := "ytmhhhcphdnnopaa", sum := "2e99a2f812addb2a005cfcb2f51397a7548aa16aa7ddce9403256a7cf69d1ef9", func := "viaduct/viaductlaw13.CcmPuts", spec := "ccmPuts", inPlace := ["internal/abi.NoEscape", "internal/bytealg.MakeNoZero"], unfollowed := true, recurses := true, apart := false, narrowed := true }
def CcmPutsUptoSaid : Prop := ccmPutsUptoRow.holds Try.pinned (OpenSpec.upto ccmPutsSpec)

/-- 'viaductlaw13.CcmTakes', WHERE WHAT IT READS IS OF BULK AT MOST 1048576: true; the input reads as it did. -/
def ccmTakesUptoRow : OpenClaim := { program := "ytmhhhcphdnnopaa", sum := "2e99a2f812addb2a005cfcb2f51397a7548aa16aa7ddce9403256a7cf69d1ef9", func := "viaduct/viaductlaw13.CcmTakes", spec := "ccmTakes", inPlace := ["internal/abi.NoEscape", "internal/bytealg.MakeNoZero"], unfollowed := true, recurses := true, apart := false, narrowed := true }
def CcmTakesUptoSaid : Prop := ccmTakesUptoRow.holds Try.pinned (OpenSpec.upto ccmTakesSpec)

/-- 'viaductlaw13.CcmBack', WHERE WHAT IT READS IS OF BULK AT MOST 1048576: true; the input reads as it did. -/
def ccmBackUptoRow : OpenClaim := { program := "ytmhhhcphdnnopaa", sum := "2e99a2f812addb2a005cfcb2f51397a7548aa16aa7ddce9403256a7cf69d1ef9", func := "viaduct/viaductlaw13.CcmBack", spec := "ccmBack", inPlace := ["internal/abi.NoEscape", "internal/bytealg.MakeNoZero"], unfollowed := true, recurses := true, apart := false, narrowed := true }
def CcmBackUptoSaid : Prop := ccmBackUptoRow.holds Try.pinned (OpenSpec.upto ccmBackSpec)

end Rows
end Go.Proofs.Ytmhhhcphdnnopaa
