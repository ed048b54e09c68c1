/- Contract of the program's StartOk. -/
import Derived.Test.YtjhmjjechagbjaaLoList
import Derived.Test.YtjhmjjechagbjaaStTo
import Derived.Test.YtjhmjjechagbjaaAnyPick
namespace Go.Proofs.Ytjhmjjechagbjaa
open Go.RowKit
set_option maxHeartbeats 2000000
set_option maxRecDepth 20000
set_option linter.unusedVariables false

def pickQ (n : Nat) (ps : List MPick) (k : Nat) : Bool := (ps[k]?.map (pickB n)).getD true
/-- a start that is ok -/
structure fineS (s : MStart) : Prop where
  l : fineLS s.loaders
  ld : inB s.loader 0 ((s.loaders.length : Int) - 1) = true
  nm : nmB s.name = true
  fu : inB s.fuel 0 300 = true
  ro : inB s.room 0 20 = true
  np : s.picks.length ≤ 6
  p : ∀ k, k < s.picks.length → pickQ s.loaders.length s.picks k = true

end Go.Proofs.Ytjhmjjechagbjaa
