/- The contract of the document's own OnZones at Append; no condition but that the slices read as zones and data. -/
import Derived.Test.YtmjcoehllinoeacDoorC7
import Derived.Test.YtmjcoehllinoeacDoorU1
namespace Go.Proofs.YtmjcoehllinoeacDoor
open Go.RowKit
set_option linter.unusedVariables false
set_option maxRecDepth 100000
set_option linter.unusedSimpArgs false

end Go.Proofs.YtmjcoehllinoeacDoor
