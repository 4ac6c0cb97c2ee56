/- wire.Reader: contracts of its methods. -/
import Derived.Test.YtpoeamamdiomkaaBase
import Derived.Test.YtpoeamamdiomkaaLeaf
namespace Go.Proofs.Ytpoeamamdiomkaa
open Go.RowKit
set_option linter.unusedVariables false
set_option linter.unusedSimpArgs false
set_option maxRecDepth 100000

def only (b : Nat) : Nat → Prop := fun k => k = b




set_option maxHeartbeats 400000 in

set_option maxHeartbeats 400000 in









/-- what so many bytes are, what is left behind them, and the error -/
def tkV (n : Nat) (l : List UInt8) (er : Int) : List UInt8 := if er = 0 ∧ n ≤ l.length then l.take n else []
def tkL (n : Nat) (l : List UInt8) (er : Int) : List UInt8 := if er = 0 ∧ n ≤ l.length then l.drop n else l
def tkE (n : Nat) (l : List UInt8) (er : Int) : Int := if er = 0 ∧ l.length < n then 3 else er
theorem tkV_len (n : Nat) (l : List UInt8) (er : Int) : (tkV n l er).length ≤ n := by
  unfold tkV; split
  · exact List.length_take_le _ _
  · simp




/-- what is left, as Left tells it -/
def lft (l : List UInt8) (er : Int) : Nat := if er = 0 then l.length else 0



def bdE (er : Int) : Int := if er = 0 then 4 else er


def ndE (l : List UInt8) (er : Int) : Int := if er = 0 ∧ 0 < l.length then 4 else er



end Go.Proofs.Ytpoeamamdiomkaa
