/- Leaves of layer wire: the widths of the four kinds of numbers. -/
import Derived.Test.YtpoeamamdiomkaaRows
import Derived.WalkKit
import Derived.ProofKit
import Derived.Below
import Derived.Lib.Hide
import Derived.Shelf.Strconv.Itoa0
namespace Go.Proofs.Ytpoeamamdiomkaa
open Go.RowKit
set_option linter.unusedVariables false
set_option linter.unusedSimpArgs false
set_option maxRecDepth 100000

end Go.Proofs.Ytpoeamamdiomkaa
