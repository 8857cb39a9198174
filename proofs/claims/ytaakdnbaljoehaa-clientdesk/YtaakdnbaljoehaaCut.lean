/- What cutFrame does: the frame that bytes begin with. -/
import Derived.Test.YtaakdnbaljoehaaReader
import Derived.Test.YtaakdnbaljoehaaWriters
import Derived.Laws.ResultCell
namespace Go.Proofs.Ytaakdnbaljoehaa
open Go.RowKit Cod
set_option linter.unusedVariables false

end Go.Proofs.Ytaakdnbaljoehaa
