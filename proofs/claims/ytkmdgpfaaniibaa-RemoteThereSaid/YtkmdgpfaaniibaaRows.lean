/-
  No cell of these rows narrows 'for every input' (looked for: loops, veiled, ifaces, maps, wideKeys, modest, calm, conditions, laid).
  DERIVED. THE GIVEN ROWS OF THIS SEAT. 3 by the template 'for every input the law returns true; each argument reads behind the call as it read before'; 0 by the template 'total and deterministic' (their statements: YtkmdgpfaaniibaaTotals.lean).
  GIVEN WITH THE SEED: the statements are not yours to turn. If you find one false, say at which input.
  Laid BY PROGRAM, IN A SANDBOX (cutbox-rows.mjs): the forced cells as the released guide's own fill.sh prints them over the translation 4bbd96fd981c7b4c… (all of the seat's roots in one cut). By AI agents, Wed Nov 11 2026. No macro, syntax, notation, axiom, sorry.
-/
import Derived.Test.YtkmdgpfaaniibaaChecked
import GoSem.Claim
import GoSem.ClaimJoined
import GoSem.ClaimMapViews
import Derived.JoinedTies
import Derived.KernelRfl
namespace Go.Proofs.Ytkmdgpfaaniibaa
/- THE CELL 'sum', in the pinned program and in every row, IS THE sha256 OF THE DUMP (.gsa) THAT YtkmdgpfaaniibaaProg.lean LOADS. Nothing in Lean hashes anything: it is a label: what it is worth is what the hold of that sum in a sandbox is worth. -/
noncomputable def Try.pinned : Pinned := { name := "ytkmdgpfaaniibaa", sum := "4bbd96fd981c7b4cfa4271c3f107eee69b9c3c3b9af1ea698b7db0301b353688", checked := Try.checked }
namespace Rows
def none {H : Type} : Left H := { results := [], args := [] }

/-- 'viaductlaw18.RemotePlays': WHATEVER THE INPUT: true; the input reads as it did. -/
def remotePlaysSpec : ChangeSpec := { name := "remotePlays", fn := fun _ => fun
  | [d1, d2, d3] => { results := [.lit (.bool true)], args := [d1, d2, d3] }
  | _ => none }
def remotePlaysRow : OpenClaim := { program := "ytkmdgpfaaniibaa", sum := "4bbd96fd981c7b4cfa4271c3f107eee69b9c3c3b9af1ea698b7db0301b353688", func := "viaduct/viaductlaw18.RemotePlays", spec := "remotePlays", inPlace := ["internal/abi.NoEscape", "internal/bytealg.MakeNoZero"], unfollowed := true, recurses := true, apart := false }
def RemotePlaysSaid : Prop := remotePlaysRow.holds Try.pinned (OpenSpec.ofChange remotePlaysSpec)

/-- ITS FALSE NEIGHBOUR: 'it returns false'. Refute it at one input. -/
def remotePlaysWrong : ChangeSpec := { name := "remotePlays", fn := fun _ => fun
  | [d1, d2, d3] => { results := [.lit (.bool false)], args := [d1, d2, d3] }
  | _ => none }
def RemotePlaysWrongFalsely : Prop := remotePlaysRow.holds Try.pinned (OpenSpec.ofChange remotePlaysWrong)

/-- 'viaductlaw18.RemoteNil': WHATEVER THE INPUT: true; the input reads as it did. -/
def remoteNilSpec : ChangeSpec := { name := "remoteNil", fn := fun _ => fun
  | [d1, d2] => { results := [.lit (.bool true)], args := [d1, d2] }
  | _ => none }
def remoteNilRow : OpenClaim := { program := "ytkmdgpfaaniibaa", sum := "4bbd96fd981c7b4cfa4271c3f107eee69b9c3c3b9af1ea698b7db0301b353688", func := "viaduct/viaductlaw18.RemoteNil", spec := "remoteNil", inPlace := ["internal/abi.NoEscape", "internal/bytealg.MakeNoZero"], unfollowed := true, recurses := true, apart := false }
def RemoteNilSaid : Prop := remoteNilRow.holds Try.pinned (OpenSpec.ofChange remoteNilSpec)

/-- ITS FALSE NEIGHBOUR: 'it returns false'. Refute it at one input. -/
def remoteNilWrong : ChangeSpec := { name := "remoteNil", fn := fun _ => fun
  | [d1, d2] => { results := [.lit (.bool false)], args := [d1, d2] }
  | _ => none }
def RemoteNilWrongFalsely : Prop := remoteNilRow.holds Try.pinned (OpenSpec.ofChange remoteNilWrong)

/-- 'viaductlaw18.RemoteThere': WHATEVER THE INPUT: true; the input reads as it did. -/
def remoteThereSpec : ChangeSpec := { name := "remoteThere", fn := fun _ => fun
  | [d1, d2, d3, d4] => { results := [.lit (.bool true)], args := [d1, d2, d3, d4] }
  | _ => none }
def remoteThereRow : OpenClaim := { program := "ytkmdgpfaaniibaa", sum := "4bbd96fd981c7b4cfa4271c3f107eee69b9c3c3b9af1ea698b7db0301b353688", func := "viaduct/viaductlaw18.RemoteThere", spec := "remoteThere", inPlace := ["internal/abi.NoEscape", "internal/bytealg.MakeNoZero"], unfollowed := true, recurses := true, apart := false }
def RemoteThereSaid : Prop := remoteThereRow.holds Try.pinned (OpenSpec.ofChange remoteThereSpec)

/-- ITS FALSE NEIGHBOUR: 'it returns false'. Refute it at one input. -/
def remoteThereWrong : ChangeSpec := { name := "remoteThere", fn := fun _ => fun
  | [d1, d2, d3, d4] => { results := [.lit (.bool false)], args := [d1, d2, d3, d4] }
  | _ => none }
def RemoteThereWrongFalsely : Prop := remoteThereRow.holds Try.pinned (OpenSpec.ofChange remoteThereWrong)

/- THE SECOND FORM. 'bulk': how many values and letters a reading holds, each counted each time it is reached (what is shared counts as often as it is met; a slice's spare places count too). A statement '..UptoSaid' is the law's where the arguments, and the package variables that the reading takes, are together of bulk at most 1048576: NARROWER than '..Said'. Prove '..Said' where nothing that the law and all that it calls make is longer than what came in: it says more and counts as full. Else prove '..UptoSaid'. A law counts once. -/
mutual
def uptoBulk {H : Type} : DataW H → Nat
  | .lit (.string bytes) => bytes.length + 1
  | .lit _ => 1
  | .nil => 1
  | .ptr d => uptoBulk d + 1
  | .slice elems spare => uptoBulkAll elems + uptoBulkAll spare + 1
  | .agg parts => uptoBulkAll parts + 1
  | .iface _ d => uptoBulk d + 1
  | .map entries => uptoBulkEntries entries + 1
  | .held _ => 1
def uptoBulkAll {H : Type} : List (DataW H) → Nat
  | [] => 0
  | d :: r => uptoBulk d + uptoBulkAll r
def uptoBulkEntries {H : Type} : List (Lit × DataW H) → Nat
  | [] => 0
  | x :: r => uptoBulkEntry x + uptoBulkEntries r
def uptoBulkEntry {H : Type} : Lit × DataW H → Nat
  | (.string bytes, d) => bytes.length + uptoBulk d + 1
  | (_, d) => uptoBulk d + 1
 end
def uptoSmall : (H : Type) → List (DataW H) → Bool := fun _ ds => decide (uptoBulkAll ds ≤ 1048576)
def OpenSpec.upto (s : _root_.Go.ChangeSpec) : _root_.Go.OpenSpec := { _root_.Go.OpenSpec.ofChange s with cond := some uptoSmall }

/-- 'viaductlaw18.RemotePlays', WHERE WHAT IT READS IS OF BULK AT MOST 1048576: true; the input reads as it did. -/
def remotePlaysUptoRow : OpenClaim := { program := "ytkmdgpfaaniibaa", sum := "4bbd96fd981c7b4cfa4271c3f107eee69b9c3c3b9af1ea698b7db0301b353688", func := "viaduct/viaductlaw18.RemotePlays", spec := "remotePlays", inPlace := ["internal/abi.NoEscape", "internal/bytealg.MakeNoZero"], unfollowed := true, recurses := true, apart := false, narrowed := true }
def RemotePlaysUptoSaid : Prop := remotePlaysUptoRow.holds Try.pinned (OpenSpec.upto remotePlaysSpec)

/-- 'viaductlaw18.RemoteNil', WHERE WHAT IT READS IS OF BULK AT MOST 1048576: true; the input reads as it did. -/
def remoteNilUptoRow : OpenClaim := { program := "ytkmdgpfaaniibaa", sum := "4bbd96fd981c7b4cfa4271c3f107eee69b9c3c3b9af1ea698b7db0301b353688", func := "viaduct/viaductlaw18.RemoteNil", spec := "remoteNil", inPlace := ["internal/abi.NoEscape", "internal/bytealg.MakeNoZero"], unfollowed := true, recurses := true, apart := false, narrowed := true }
def RemoteNilUptoSaid : Prop := remoteNilUptoRow.holds Try.pinned (OpenSpec.upto remoteNilSpec)

/-- 'viaductlaw18.RemoteThere', WHERE WHAT IT READS IS OF BULK AT MOST 1048576: true; the input reads as it did. -/
def remoteThereUptoRow : OpenClaim := { program := "ytkmdgpfaaniibaa", sum := "4bbd96fd981c7b4cfa4271c3f107eee69b9c3c3b9af1ea698b7db0301b353688", func := "viaduct/viaductlaw18.RemoteThere", spec := "remoteThere", inPlace := ["internal/abi.NoEscape", "internal/bytealg.MakeNoZero"], unfollowed := true, recurses := true, apart := false, narrowed := true }
def RemoteThereUptoSaid : Prop := remoteThereUptoRow.holds Try.pinned (OpenSpec.upto remoteThereSpec)

end Rows
end Go.Proofs.Ytkmdgpfaaniibaa
