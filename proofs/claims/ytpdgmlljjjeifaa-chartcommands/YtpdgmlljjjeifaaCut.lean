/- What cutFrame does: the frame that bytes begin with. -/
import Derived.Test.YtpdgmlljjjeifaaReader
import Derived.Test.YtpdgmlljjjeifaaWriters
import Derived.Laws.ResultCell
namespace Go.Proofs.Ytpdgmlljjjeifaa
open Go.RowKit Cod
set_option linter.unusedVariables false

end Go.Proofs.Ytpdgmlljjjeifaa
