/- Package frame: Len, mayBe, readTag. -/
import Derived.Test.YtieopgmmjpmflaaFrameKit
import Derived.Test.YtieopgmmjpmflaaFrameC
import Derived.Test.YtieopgmmjpmflaaNext
import Derived.Deep.DeepCutAuto
import Derived.IntWalk
import Derived.Laws.BitsAllLaws
namespace Go.Proofs.Ytieopgmmjpmflaa
open Go.RowKit
set_option linter.unusedVariables false
set_option linter.unusedSimpArgs false
set_option maxRecDepth 100000




end Go.Proofs.Ytieopgmmjpmflaa
