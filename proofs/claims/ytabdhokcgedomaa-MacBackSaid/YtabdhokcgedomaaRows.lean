/-
  No cell of these rows narrows 'for every input' (looked for: loops, veiled, ifaces, maps, wideKeys, modest, calm, conditions, laid).
  DERIVED. THE GIVEN ROWS OF THIS SEAT. 5 by the template 'for every input the law returns true; each argument reads behind the call as it read before'; 0 by the template 'total and deterministic' (their statements: YtabdhokcgedomaaTotals.lean).
  GIVEN WITH THE SEED: the statements are not yours to turn. If you find one false, say at which input.
  Laid BY PROGRAM, IN A SANDBOX (cutbox-rows.mjs): the forced cells as the released guide's own fill.sh prints them over the translation e567a7894482b9db… (all of the seat's roots in one cut). By AI agents, Wed Nov 11 2026. No macro, syntax, notation, axiom, sorry.
-/
import Derived.Test.YtabdhokcgedomaaChecked
import GoSem.Claim
import GoSem.ClaimJoined
import GoSem.ClaimMapViews
import Derived.JoinedTies
import Derived.KernelRfl
namespace Go.Proofs.Ytabdhokcgedomaa
/- THE CELL 'sum', in the pinned program and in every row, IS THE sha256 OF THE DUMP (.gsa) THAT YtabdhokcgedomaaProg.lean LOADS. Nothing in Lean hashes anything: it is a label: what it is worth is what the hold of that sum in a sandbox is worth. -/
noncomputable def Try.pinned : Pinned := { name := "ytabdhokcgedomaa", sum := "e567a7894482b9dbf938adedd66e2d88be145bf9cb4e7aa5e3183e8818c4ed1a", checked := Try.checked }
namespace Rows
def none {H : Type} : Left H := { results := [], args := [] }

/-- 'viaductlaw02.MacTells': WHATEVER THE INPUT: true; the input reads as it did. -/
def macTellsSpec : ChangeSpec := { name := "macTells", fn := fun _ => fun
  | [d] => { results := [.lit (.bool true)], args := [d] }
  | _ => none }
def macTellsRow : OpenClaim := { program := "ytabdhokcgedomaa", sum := "e567a7894482b9dbf938adedd66e2d88be145bf9cb4e7aa5e3183e8818c4ed1a", func := "viaduct/viaductlaw02.MacTells", spec := "macTells", unfollowed := true, recurses := true, apart := false }
def MacTellsSaid : Prop := macTellsRow.holds Try.pinned (OpenSpec.ofChange macTellsSpec)

/-- ITS FALSE NEIGHBOUR: 'it returns false'. Refute it at one input. -/
def macTellsWrong : ChangeSpec := { name := "macTells", fn := fun _ => fun
  | [d] => { results := [.lit (.bool false)], args := [d] }
  | _ => none }
def MacTellsWrongFalsely : Prop := macTellsRow.holds Try.pinned (OpenSpec.ofChange macTellsWrong)

/-- 'viaductlaw02.MacMakes': WHATEVER THE INPUT: true; the input reads as it did. -/
def macMakesSpec : ChangeSpec := { name := "macMakes", fn := fun _ => fun
  | [d1, d2] => { results := [.lit (.bool true)], args := [d1, d2] }
  | _ => none }
def macMakesRow : OpenClaim := { program := "ytabdhokcgedomaa", sum := "e567a7894482b9dbf938adedd66e2d88be145bf9cb4e7aa5e3183e8818c4ed1a", func := "viaduct/viaductlaw02.MacMakes", spec := "macMakes", unfollowed := true, recurses := true, apart := false }
def MacMakesSaid : Prop := macMakesRow.holds Try.pinned (OpenSpec.ofChange macMakesSpec)

/-- ITS FALSE NEIGHBOUR: 'it returns false'. Refute it at one input. -/
def macMakesWrong : ChangeSpec := { name := "macMakes", fn := fun _ => fun
  | [d1, d2] => { results := [.lit (.bool false)], args := [d1, d2] }
  | _ => none }
def MacMakesWrongFalsely : Prop := macMakesRow.holds Try.pinned (OpenSpec.ofChange macMakesWrong)

/-- 'viaductlaw02.MacParses': WHATEVER THE INPUT: true; the input reads as it did. -/
def macParsesSpec : ChangeSpec := { name := "macParses", fn := fun _ => fun
  | [d] => { results := [.lit (.bool true)], args := [d] }
  | _ => none }
def macParsesRow : OpenClaim := { program := "ytabdhokcgedomaa", sum := "e567a7894482b9dbf938adedd66e2d88be145bf9cb4e7aa5e3183e8818c4ed1a", func := "viaduct/viaductlaw02.MacParses", spec := "macParses", inPlace := ["internal/bytealg.IndexByteString"], unfollowed := true, recurses := true, apart := false }
def MacParsesSaid : Prop := macParsesRow.holds Try.pinned (OpenSpec.ofChange macParsesSpec)

/-- ITS FALSE NEIGHBOUR: 'it returns false'. Refute it at one input. -/
def macParsesWrong : ChangeSpec := { name := "macParses", fn := fun _ => fun
  | [d] => { results := [.lit (.bool false)], args := [d] }
  | _ => none }
def MacParsesWrongFalsely : Prop := macParsesRow.holds Try.pinned (OpenSpec.ofChange macParsesWrong)

/-- 'viaductlaw02.MacBack': WHATEVER THE INPUT: true; the input reads as it did. -/
def macBackSpec : ChangeSpec := { name := "macBack", fn := fun _ => fun
  | [d1, d2, d3, d4] => { results := [.lit (.bool true)], args := [d1, d2, d3, d4] }
  | _ => none }
def macBackRow : OpenClaim := { program := "ytabdhokcgedomaa", sum := "e567a7894482b9dbf938adedd66e2d88be145bf9cb4e7aa5e3183e8818c4ed1a", func := "viaduct/viaductlaw02.MacBack", spec := "macBack", inPlace := ["internal/bytealg.IndexByteString"], unfollowed := true, recurses := true, apart := false }
def MacBackSaid : Prop := macBackRow.holds Try.pinned (OpenSpec.ofChange macBackSpec)

/-- ITS FALSE NEIGHBOUR: 'it returns false'. Refute it at one input. -/
def macBackWrong : ChangeSpec := { name := "macBack", fn := fun _ => fun
  | [d1, d2, d3, d4] => { results := [.lit (.bool false)], args := [d1, d2, d3, d4] }
  | _ => none }
def MacBackWrongFalsely : Prop := macBackRow.holds Try.pinned (OpenSpec.ofChange macBackWrong)

/-- 'viaductlaw02.MacLevels': WHATEVER THE INPUT: true; the input reads as it did. -/
def macLevelsSpec : ChangeSpec := { name := "macLevels", fn := fun _ => fun
  | [d1, d2] => { results := [.lit (.bool true)], args := [d1, d2] }
  | _ => none }
def macLevelsRow : OpenClaim := { program := "ytabdhokcgedomaa", sum := "e567a7894482b9dbf938adedd66e2d88be145bf9cb4e7aa5e3183e8818c4ed1a", func := "viaduct/viaductlaw02.MacLevels", spec := "macLevels", unfollowed := true, recurses := true, apart := false }
def MacLevelsSaid : Prop := macLevelsRow.holds Try.pinned (OpenSpec.ofChange macLevelsSpec)

/-- ITS FALSE NEIGHBOUR: 'it returns false'. Refute it at one input. -/
def macLevelsWrong : ChangeSpec := { name := "macLevels", fn := fun _ => fun
  | [d1, d2] => { results := [.lit (.bool false)], args := [d1, d2] }
  | _ => none }
def MacLevelsWrongFalsely : Prop := macLevelsRow.holds Try.pinned (OpenSpec.ofChange macLevelsWrong)

/- THE SECOND FORM. 'bulk': how many values and letters a reading holds, each counted each time it is reached (what is shared counts as often as it is met; a slice's spare places count too). A statement '..UptoSaid' is the law's where the arguments, and the package variables that the reading takes, are together of bulk at most 1048576: NARROWER than '..Said'. Prove '..Said' where nothing that the law and all that it calls make is longer than what came in: it says more and counts as full. Else prove '..UptoSaid'. A law counts once. -/
mutual
def uptoBulk {H : Type} : DataW H → Nat
  | .lit (.string bytes) => bytes.length + 1
  | .lit _ => 1
  | .nil => 1
  | .ptr d => uptoBulk d + 1
  | .slice elems spare => uptoBulkAll elems + uptoBulkAll spare + 1
  | .agg parts => uptoBulkAll parts + 1
  | .iface _ d => uptoBulk d + 1
  | .map entries => uptoBulkEntries entries + 1
  | .held _ => 1
def uptoBulkAll {H : Type} : List (DataW H) → Nat
  | [] => 0
  | d :: r => uptoBulk d + uptoBulkAll r
def uptoBulkEntries {H : Type} : List (Lit × DataW H) → Nat
  | [] => 0
  | x :: r => uptoBulkEntry x + uptoBulkEntries r
def uptoBulkEntry {H : Type} : Lit × DataW H → Nat
  | (.string bytes, d) => bytes.length + uptoBulk d + 1
  | (_, d) => uptoBulk d + 1
 end
def uptoSmall : (H : Type) → List (DataW H) → Bool := fun _ ds => decide (uptoBulkAll ds ≤ 1048576)
def OpenSpec.upto (s : _root_.Go.ChangeSpec) : _root_.Go.OpenSpec := { _root_.Go.OpenSpec.ofChange s with cond := some uptoSmall }

/-- 'viaductlaw02.MacTells', WHERE WHAT IT READS IS OF BULK AT MOST 1048576: true; the input reads as it did. -/
def macTellsUptoRow : OpenClaim := { program := "ytabdhokcgedomaa", sum := "e567a7894482b9dbf938adedd66e2d88be145bf9cb4e7aa5e3183e8818c4ed1a", func := "viaduct/viaductlaw02.MacTells", spec := "macTells", unfollowed := true, recurses := true, apart := false, narrowed := true }
def MacTellsUptoSaid : Prop := macTellsUptoRow.holds Try.pinned (OpenSpec.upto macTellsSpec)

/-- 'viaductlaw02.MacMakes', WHERE WHAT IT READS IS OF BULK AT MOST 1048576: true; the input reads as it did. -/
def macMakesUptoRow : OpenClaim := { program := "ytabdhokcgedomaa", sum := "e567a7894482b9dbf938adedd66e2d88be145bf9cb4e7aa5e3183e8818c4ed1a", func := "viaduct/viaductlaw02.MacMakes", spec := "macMakes", unfollowed := true, recurses := true, apart := false, narrowed := true }
def MacMakesUptoSaid : Prop := macMakesUptoRow.holds Try.pinned (OpenSpec.upto macMakesSpec)

/-- 'viaductlaw02.MacParses', WHERE WHAT IT READS IS OF BULK AT MOST 1048576: true; the input reads as it did. -/
def macParsesUptoRow : OpenClaim := { program := "ytabdhokcgedomaa", sum := "e567a7894482b9dbf938adedd66e2d88be145bf9cb4e7aa5e3183e8818c4ed1a", func := "viaduct/viaductlaw02.MacParses", spec := "macParses", inPlace := ["internal/bytealg.IndexByteString"], unfollowed := true, recurses := true, apart := false, narrowed := true }
def MacParsesUptoSaid : Prop := macParsesUptoRow.holds Try.pinned (OpenSpec.upto macParsesSpec)

/-- 'viaductlaw02.MacBack', WHERE WHAT IT READS IS OF BULK AT MOST 1048576: true; the input reads as it did. -/
def macBackUptoRow : OpenClaim := { program := "ytabdhokcgedomaa", sum := "e567a7894482b9dbf938adedd66e2d88be145bf9cb4e7aa5e3183e8818c4ed1a", func := "viaduct/viaductlaw02.MacBack", spec := "macBack", inPlace := ["internal/bytealg.IndexByteString"], unfollowed := true, recurses := true, apart := false, narrowed := true }
def MacBackUptoSaid : Prop := macBackUptoRow.holds Try.pinned (OpenSpec.upto macBackSpec)

/-- 'viaductlaw02.MacLevels', WHERE WHAT IT READS IS OF BULK AT MOST 1048576: true; the input reads as it did. -/
def macLevelsUptoRow : OpenClaim := { program := "ytabdhokcgedomaa", sum := "e567a7894482b9dbf938adedd66e2d88be145bf9cb4e7aa5e3183e8818c4ed1a", func := "viaduct/viaductlaw02.MacLevels", spec := "macLevels", unfollowed := true, recurses := true, apart := false, narrowed := true }
def MacLevelsUptoSaid : Prop := macLevelsUptoRow.holds Try.pinned (OpenSpec.upto macLevelsSpec)

end Rows
end Go.Proofs.Ytabdhokcgedomaa
