/-
  No cell of these rows narrows 'for every input' (looked for: loops, veiled, ifaces, maps, wideKeys, modest, calm, conditions, laid).
  DERIVED. THE GIVEN ROWS OF THIS SEAT. 3 by the template 'for every input the law returns true; each argument reads behind the call as it read before'; 0 by the template 'total and deterministic' (their statements: YtbkijcgkelckmaaTotals.lean).
  GIVEN WITH THE SEED: the statements are not yours to turn. If you find one false, say at which input.
  Laid BY PROGRAM, IN A SANDBOX (cutbox-rows.mjs): the forced cells as the released guide's own fill.sh prints them over the translation 8e41926859763b8e… (all of the seat's roots in one cut). By AI agents, Wed Nov 11 2026. No macro, syntax, notation, axiom, sorry.
-/
import Derived.Test.YtbkijcgkelckmaaChecked
import GoSem.Claim
import GoSem.ClaimJoined
import GoSem.ClaimMapViews
import Derived.JoinedTies
import Derived.KernelRfl
namespace Go.Proofs.Ytbkijcgkelckmaa
/- THE CELL 'sum', in the pinned program and in every row, IS THE sha256 OF THE DUMP (.gsa) THAT YtbkijcgkelckmaaProg.lean LOADS. Nothing in Lean hashes anything: it is a label: what it is worth is what the hold of that sum in a sandbox is worth. -/
noncomputable def Try.pinned : Pinned := { name := "ytbkijcgkelckmaa", sum := "8e41926859763b8ed9b6bc6abe3df8f674440516b0d11b2823a1a0363d3cd7d0", checked := Try.checked }
namespace Rows
def none {H : Type} : Left H := { results := [], args := [] }

/-- 'viaductlaw10.MaidPuts': WHATEVER THE INPUT: true; the input reads as it did. -/
def maidPutsSpec : ChangeSpec := { name := "maidPuts", fn := fun _ => fun
  | [d1, d2] => { results := [.lit (.bool true)], args := [d1, d2] }
  | _ => none }
def maidPutsRow : OpenClaim := { program := "ytbkijcgkelckmaa", sum := "8e41926859763b8ed9b6bc6abe3df8f674440516b0d11b2823a1a0363d3cd7d0", func := "viaduct/viaductlaw10.MaidPuts", spec := "maidPuts", inPlace := ["internal/abi.NoEscape", "internal/bytealg.MakeNoZero"], unfollowed := true, recurses := true, apart := false }
def MaidPutsSaid : Prop := maidPutsRow.holds Try.pinned (OpenSpec.ofChange maidPutsSpec)

/-- ITS FALSE NEIGHBOUR: 'it returns false'. Refute it at one input. -/
def maidPutsWrong : ChangeSpec := { name := "maidPuts", fn := fun _ => fun
  | [d1, d2] => { results := [.lit (.bool false)], args := [d1, d2] }
  | _ => none }
def MaidPutsWrongFalsely : Prop := maidPutsRow.holds Try.pinned (OpenSpec.ofChange maidPutsWrong)

/-- 'viaductlaw10.MaidTakes': WHATEVER THE INPUT: true; the input reads as it did. -/
def maidTakesSpec : ChangeSpec := { name := "maidTakes", fn := fun _ => fun
  | [d] => { results := [.lit (.bool true)], args := [d] }
  | _ => none }
def maidTakesRow : OpenClaim := { program := "ytbkijcgkelckmaa", sum := "8e41926859763b8ed9b6bc6abe3df8f674440516b0d11b2823a1a0363d3cd7d0", func := "viaduct/viaductlaw10.MaidTakes", spec := "maidTakes", inPlace := ["internal/abi.NoEscape", "internal/bytealg.MakeNoZero"], unfollowed := true, recurses := true, apart := false }
def MaidTakesSaid : Prop := maidTakesRow.holds Try.pinned (OpenSpec.ofChange maidTakesSpec)

/-- ITS FALSE NEIGHBOUR: 'it returns false'. Refute it at one input. -/
def maidTakesWrong : ChangeSpec := { name := "maidTakes", fn := fun _ => fun
  | [d] => { results := [.lit (.bool false)], args := [d] }
  | _ => none }
def MaidTakesWrongFalsely : Prop := maidTakesRow.holds Try.pinned (OpenSpec.ofChange maidTakesWrong)

/-- 'viaductlaw10.MaidBack': WHATEVER THE INPUT: true; the input reads as it did. -/
def maidBackSpec : ChangeSpec := { name := "maidBack", fn := fun _ => fun
  | [d1, d2, d3, d4, d5] => { results := [.lit (.bool true)], args := [d1, d2, d3, d4, d5] }
  | _ => none }
def maidBackRow : OpenClaim := { program := "ytbkijcgkelckmaa", sum := "8e41926859763b8ed9b6bc6abe3df8f674440516b0d11b2823a1a0363d3cd7d0", func := "viaduct/viaductlaw10.MaidBack", spec := "maidBack", inPlace := ["internal/abi.NoEscape", "internal/bytealg.MakeNoZero"], unfollowed := true, recurses := true, apart := false }
def MaidBackSaid : Prop := maidBackRow.holds Try.pinned (OpenSpec.ofChange maidBackSpec)

/-- ITS FALSE NEIGHBOUR: 'it returns false'. Refute it at one input. -/
def maidBackWrong : ChangeSpec := { name := "maidBack", fn := fun _ => fun
  | [d1, d2, d3, d4, d5] => { results := [.lit (.bool false)], args := [d1, d2, d3, d4, d5] }
  | _ => none }
def MaidBackWrongFalsely : Prop := maidBackRow.holds Try.pinned (OpenSpec.ofChange maidBackWrong)

/- THE SECOND FORM. 'bulk': how many values and letters a reading holds, each counted each time it is reached (what is shared counts as often as it is met; a slice's spare places count too). A statement '..UptoSaid' is the law's where the arguments, and the package variables that the reading takes, are together of bulk at most 1048576: NARROWER than '..Said'. Prove '..Said' where nothing that the law and all that it calls make is longer than what came in: it says more and counts as full. Else prove '..UptoSaid'. A law counts once. -/
mutual
def uptoBulk {H : Type} : DataW H → Nat
  | .lit (.string bytes) => bytes.length + 1
  | .lit _ => 1
  | .nil => 1
  | .ptr d => uptoBulk d + 1
  | .slice elems spare => uptoBulkAll elems + uptoBulkAll spare + 1
  | .agg parts => uptoBulkAll parts + 1
  | .iface _ d => uptoBulk d + 1
  | .map entries => uptoBulkEntries entries + 1
  | .held _ => 1
def uptoBulkAll {H : Type} : List (DataW H) → Nat
  | [] => 0
  | d :: r => uptoBulk d + uptoBulkAll r
def uptoBulkEntries {H : Type} : List (Lit × DataW H) → Nat
  | [] => 0
  | x :: r => uptoBulkEntry x + uptoBulkEntries r
def uptoBulkEntry {H : Type} : Lit × DataW H → Nat
  | (.string bytes, d) => bytes.length + uptoBulk d + 1
  | (_, d) => uptoBulk d + 1
 end
def uptoSmall : (H : Type) → List (DataW H) → Bool := fun _ ds => decide (uptoBulkAll ds ≤ 1048576)
def OpenSpec.upto (s : _root_.Go.ChangeSpec) : _root_.Go.OpenSpec := { _root_.Go.OpenSpec.ofChange s with cond := some uptoSmall }

/-- 'viaductlaw10.MaidPuts', WHERE WHAT IT READS IS OF BULK AT MOST 1048576: true; the input reads as it did. -/
def maidPutsUptoRow : OpenClaim := { program := "ytbkijcgkelckmaa", sum := "8e41926859763b8ed9b6bc6abe3df8f674440516b0d11b2823a1a0363d3cd7d0", func := "viaduct/viaductlaw10.MaidPuts", spec := "maidPuts", inPlace := ["internal/abi.NoEscape", "internal/bytealg.MakeNoZero"], unfollowed := true, recurses := true, apart := false, narrowed := true }
def MaidPutsUptoSaid : Prop := maidPutsUptoRow.holds Try.pinned (OpenSpec.upto maidPutsSpec)

/-- 'viaductlaw10.MaidTakes', WHERE WHAT IT READS IS OF BULK AT MOST 1048576: true; the input reads as it did. -/
def maidTakesUptoRow : OpenClaim := { program := "ytbkijcgkelckmaa", sum := "8e41926859763b8ed9b6bc6abe3df8f674440516b0d11b2823a1a0363d3cd7d0", func := "viaduct/viaductlaw10.MaidTakes", spec := "maidTakes", inPlace := ["internal/abi.NoEscape", "internal/bytealg.MakeNoZero"], unfollowed := true, recurses := true, apart := false, narrowed := true }
def MaidTakesUptoSaid : Prop := maidTakesUptoRow.holds Try.pinned (OpenSpec.upto maidTakesSpec)

/-- 'viaductlaw10.MaidBack', WHERE WHAT IT READS IS OF BULK AT MOST 1048576: true; the input reads as it did. -/
def maidBackUptoRow : OpenClaim := { program := "ytbkijcgkelckmaa", sum := "8e41926859763b8ed9b6bc6abe3df8f674440516b0d11b2823a1a0363d3cd7d0", func := "viaduct/viaductlaw10.MaidBack", spec := "maidBack", inPlace := ["internal/abi.NoEscape", "internal/bytealg.MakeNoZero"], unfollowed := true, recurses := true, apart := false, narrowed := true }
def MaidBackUptoSaid : Prop := maidBackUptoRow.holds Try.pinned (OpenSpec.upto maidBackSpec)

end Rows
end Go.Proofs.Ytbkijcgkelckmaa
