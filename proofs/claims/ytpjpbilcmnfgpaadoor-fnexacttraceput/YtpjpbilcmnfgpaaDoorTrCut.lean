/- Contracts of the specification's l13Num, l13Int, l13Find, l13Cut: of what they answer only bounds are said. -/
import Derived.Test.YtpjpbilcmnfgpaaDoorBase
namespace Go.Proofs.YtpjpbilcmnfgpaaDoor
open Go.RowKit
set_option maxHeartbeats 1000000
set_option maxRecDepth 20000
set_option linter.unusedVariables false

theorem infoTx : (Tryd.prog.info? 9).map (fun i => (i.zero, i.size, i.bytes)) = some (some (.string ⟨#[]⟩), 1, 16) := by kernel_rfl

theorem ownS_at {w : World} {B : Nat} {g cap : Nat} {ts : List ByteArray} (h : w.ownsRow B 9 1 (.slice (some ⟨g, 0, none⟩) ts.length cap) ts.length (ts.map Value.string)) {k : Nat} (hk : k < ts.length) :
    w.cell? ⟨g, k, none⟩ = some (.string ts[k]) := by
  rw [h.cellAt _ (by omega)]
  simp [hk]
end Go.Proofs.YtpjpbilcmnfgpaaDoor
