/- A start: its model, the law's own helpers on it (szStart, toStart, eqStart). -/
import Derived.Test.YtjhmjjechagbjaaEqLoaders
import Derived.Test.YtjhmjjechagbjaaRowPick
import Derived.Test.YtjhmjjechagbjaaLkBase
namespace Go.Proofs.Ytjhmjjechagbjaa
open Go.RowKit
set_option maxHeartbeats 2000000
set_option maxRecDepth 20000
set_option linter.unusedVariables false

structure MStart where
  loaders : List MLoader
  loader : Int
  name : ByteArray
  fuel : Int
  room : Int
  prove : Bool
  picks : List MPick
/-- few enough to be made anew -/
structure MStart.few (s : MStart) : Prop where
  nl : s.loaders.length ≤ 1048576
  l : ∀ f ∈ s.loaders, f.few
  n : s.name.size ≤ 1048576
  p : fewPick s.picks
theorem LoadersW.len {w : World} {B : Nat} {v : Value} {fs : List MLoader} (h : LoadersW w B v fs) : ∃ ao cap, v = .slice ao fs.length cap := by
  obtain ⟨xs, h1, h2, h3⟩ := h
  exact own_len h2
/-- an argument that reads as this start -/
structure ArgS (w : World) (al : Option Addr) (ll : Nat) (ap : Option Addr) (lp : Nat) (s : MStart) : Prop where
  l : ArgLS w al ll s.loaders
  p : ArgPick w ap lp s.picks
  ml : ll ≤ maxLen
  mp : lp ≤ maxLen
  mn : s.name.size ≤ maxLen
theorem ArgS.keep {w w' : World} {al : Option Addr} {ll : Nat} {ap : Option Addr} {lp : Nat} {s : MStart} (h : ArgS w al ll ap lp s) (hb : Below w.heap.size w w') : ArgS w' al ll ap lp s := ⟨h.l.keep hb, h.p.keep hb, h.ml, h.mp, h.mn⟩
def arrS (vl : Value) (ld : Int) (nm : ByteArray) (fu ro : Int) (pr : Bool) (vp : Value) : Array Value := #[vl, .int .i64 ld, .string nm, .int .i64 fu, .int .i64 ro, .bool pr, vp]
theorem Lk.c7s {W : World} {C : Nat} {vl vp : Value} {ld fu ro : Int} {nm : ByteArray} {pr : Bool} {T : TypeId} (h : Lk W C (arrS vl ld nm fu ro pr vp) T) : (W.cell? ⟨C, 0, none⟩ = some vl ∧ W.cell? ⟨C, 1, none⟩ = some (.int .i64 ld) ∧ W.cell? ⟨C, 2, none⟩ = some (.string nm) ∧ W.cell? ⟨C, 3, none⟩ = some (.int .i64 fu) ∧ W.cell? ⟨C, 4, none⟩ = some (.int .i64 ro) ∧ W.cell? ⟨C, 5, none⟩ = some (.bool pr) ∧ W.cell? ⟨C, 6, none⟩ = some vp) ∧ (W.frozen? ⟨C, 0, none⟩ = false ∧ W.frozen? ⟨C, 1, none⟩ = false ∧ W.frozen? ⟨C, 2, none⟩ = false ∧ W.frozen? ⟨C, 3, none⟩ = false ∧ W.frozen? ⟨C, 4, none⟩ = false ∧ W.frozen? ⟨C, 5, none⟩ = false ∧ W.frozen? ⟨C, 6, none⟩ = false) :=
  ⟨⟨h.c 0 _ rfl, h.c 1 _ rfl, h.c 2 _ rfl, h.c 3 _ rfl, h.c 4 _ rfl, h.c 5 _ rfl, h.c 6 _ rfl⟩, h.z 0, h.z 1, h.z 2, h.z 3, h.z 4, h.z 5, h.z 6⟩

end Go.Proofs.Ytjhmjjechagbjaa
