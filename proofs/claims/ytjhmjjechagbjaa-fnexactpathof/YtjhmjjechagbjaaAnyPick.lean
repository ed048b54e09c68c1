/- Contracts of the program's generic helpers over lists of impl.Pick. Printed by tools/anyof.py. -/
import Derived.Test.YtjhmjjechagbjaaRowPick
namespace Go.Proofs.Ytjhmjjechagbjaa
open Go.RowKit
set_option maxHeartbeats 1000000
set_option maxRecDepth 20000
set_option linter.unusedVariables false

end Go.Proofs.Ytjhmjjechagbjaa
