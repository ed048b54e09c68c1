/- Contracts of the specification's l13Cut and l13Dec: of what they answer only bounds are said. -/
import Derived.Test.YtpjpbilcmnfgpaaDoorTrCut
namespace Go.Proofs.YtpjpbilcmnfgpaaDoor
open Go.RowKit
set_option maxHeartbeats 1000000
set_option maxRecDepth 20000
set_option linter.unusedVariables false

theorem own_nextT {w wr w2 : World} {o : Obj} {v v' : Value} {ts : List ByteArray} {x : ByteArray} (hown : wr.ownsRow w.heap.size 9 1 v ts.length (ts.map Value.string)) (hbel : Below w.heap.size w wr)
    (hown' : w2.ownsRow w.heap.size 9 1 v' (ts.length + 1) (ts.map Value.string ++ [.string x])) (hgrow : (wr.alloc o).grownBy w2 v.ownBlock) :
    w2.ownsRow w.heap.size 9 1 v' (ts ++ [x]).length ((ts ++ [x]).map Value.string) ∧ Below w.heap.size w w2 := by
  refine ⟨by simpa using hown', ?_⟩
  exact (hbel.alloc hbel.size o).grown hgrow (by have := hbel.size; simp; omega) (fun k hk => (hown.lt k hk).1)

/-- pieces of a text: each no longer than it -/
def CutPost (s : ByteArray) (m : Nat) (w : World) (e : Ending) (w' : World) : Prop :=
  ∃ (v : Value) (ts : List ByteArray), e = .returned v ∧ w'.ownsRow w.heap.size 9 1 v ts.length (ts.map Value.string) ∧ 1 ≤ ts.length ∧ ts.length ≤ m + 1 ∧ ts.length ≤ s.size + 1 ∧ (∀ t ∈ ts, t.size ≤ s.size) ∧ Below w.heap.size w w'
end Go.Proofs.YtpjpbilcmnfgpaaDoor
