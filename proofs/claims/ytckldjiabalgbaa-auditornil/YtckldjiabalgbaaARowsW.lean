/- Package auditor: Rows of an auditor to which all have told theirs. -/
import Derived.Test.YtckldjiabalgbaaAConc
import Derived.Test.YtckldjiabalgbaaATold
namespace Go.Proofs.Ytckldjiabalgbaa
open Go.RowKit Go.Sort
attribute [local go_sem] Oper.semAt_some
set_option linter.unusedVariables false

end Go.Proofs.Ytckldjiabalgbaa
