/- What cutFrame does: the frame that bytes begin with. -/
import Derived.Test.YtmcippolnekogaaReader
import Derived.Test.YtmcippolnekogaaWriters
import Derived.Laws.ResultCell
namespace Go.Proofs.Ytmcippolnekogaa
open Go.RowKit Cod
set_option linter.unusedVariables false

end Go.Proofs.Ytmcippolnekogaa
