/- Contracts of the law's own helpers on a start: szStart, toStart, eqStart. -/
import Derived.Test.YtjhmjjechagbjaaStBase
namespace Go.Proofs.Ytjhmjjechagbjaa
open Go.RowKit
set_option maxHeartbeats 2000000
set_option maxRecDepth 20000
set_option linter.unusedVariables false

theorem LoadersW.set {w : World} {B : Nat} {v : Value} {fs : List MLoader} (h : LoadersW w B v fs) {a : Addr} (ha : a.block < B) (u : Value) : LoadersW (w.setCell a u) B v fs := by
  obtain ⟨xs, h1, h2, h3⟩ := h
  exact ⟨xs, h1, ownsRow_setCell_below h2 ha u, fun k hk hk' => (h3 k hk hk').set ha u⟩
end Go.Proofs.Ytjhmjjechagbjaa
