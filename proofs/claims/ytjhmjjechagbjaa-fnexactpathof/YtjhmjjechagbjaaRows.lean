/-
  No cell of these rows narrows 'for every input' (looked for: loops, veiled, ifaces, maps, wideKeys, modest, calm, conditions, laid).
  DERIVED. THE GIVEN ROWS OF THIS SEAT. 3 by the template 'for every input the law returns true; each argument reads behind the call as it read before'; 0 by the template 'total and deterministic' (their statements: YtjhmjjechagbjaaTotals.lean).
  GIVEN WITH THE SEED: the statements are not yours to turn. If you find one false, say at which input.
  Laid BY PROGRAM, IN A SANDBOX (cutbox-rows.mjs): the forced cells as the released guide's own fill.sh prints them over the translation 952afb3477aeabe4… (all of the seat's roots in one cut). By AI agents, Wed Nov 11 2026. No macro, syntax, notation, axiom, sorry.
-/
import Derived.Test.YtjhmjjechagbjaaChecked
import GoSem.Claim
import GoSem.ClaimJoined
import GoSem.ClaimMapViews
import Derived.JoinedTies
import Derived.KernelRfl
namespace Go.Proofs.Ytjhmjjechagbjaa
/- THE CELL 'sum', in the pinned program and in every row, IS THE sha256 OF THE DUMP (.gsa) THAT YtjhmjjechagbjaaProg.lean LOADS. Nothing in Lean hashes anything: it is a label: what it is worth is what the hold of that sum in a sandbox is worth. -/
noncomputable def Try.pinned : Pinned := { name := "ytjhmjjechagbjaa", sum := "952afb3477aeabe42021e4be2480db2fbd58dc385f00f4a323f03ba31e3c3d29", checked := Try.checked }
namespace Rows
def none {H : Type} : Left H := { results := [], args := [] }

/-- 'laws.FnExactPathOf': WHATEVER THE INPUT: true; the input reads as it did. -/
def fnExactPathOfSpec : ChangeSpec := { name := "fnExactPathOf", fn := fun _ => fun
  | [d1, d2, d3] => { results := [.lit (.bool true)], args := [d1, d2, d3] }
  | _ => none }
def fnExactPathOfRow : OpenClaim := { program := "ytjhmjjechagbjaa", sum := "952afb3477aeabe42021e4be2480db2fbd58dc385f00f4a323f03ba31e3c3d29", func := "loop.example/stowage/laws.FnExactPathOf", spec := "fnExactPathOf", unfollowed := true, recurses := true, apart := false }
def FnExactPathOfSaid : Prop := fnExactPathOfRow.holds Try.pinned (OpenSpec.ofChange fnExactPathOfSpec)

/-- ITS FALSE NEIGHBOUR: 'it returns false'. Refute it at one input. -/
def fnExactPathOfWrong : ChangeSpec := { name := "fnExactPathOf", fn := fun _ => fun
  | [d1, d2, d3] => { results := [.lit (.bool false)], args := [d1, d2, d3] }
  | _ => none }
def FnExactPathOfWrongFalsely : Prop := fnExactPathOfRow.holds Try.pinned (OpenSpec.ofChange fnExactPathOfWrong)

/-- 'laws.FnExactPathMaker': WHATEVER THE INPUT: true; the input reads as it did. -/
def fnExactPathMakerSpec : ChangeSpec := { name := "fnExactPathMaker", fn := fun _ => fun
  | [d1, d2, d3] => { results := [.lit (.bool true)], args := [d1, d2, d3] }
  | _ => none }
def fnExactPathMakerRow : OpenClaim := { program := "ytjhmjjechagbjaa", sum := "952afb3477aeabe42021e4be2480db2fbd58dc385f00f4a323f03ba31e3c3d29", func := "loop.example/stowage/laws.FnExactPathMaker", spec := "fnExactPathMaker", unfollowed := true, recurses := true, apart := false }
def FnExactPathMakerSaid : Prop := fnExactPathMakerRow.holds Try.pinned (OpenSpec.ofChange fnExactPathMakerSpec)

/-- ITS FALSE NEIGHBOUR: 'it returns false'. Refute it at one input. -/
def fnExactPathMakerWrong : ChangeSpec := { name := "fnExactPathMaker", fn := fun _ => fun
  | [d1, d2, d3] => { results := [.lit (.bool false)], args := [d1, d2, d3] }
  | _ => none }
def FnExactPathMakerWrongFalsely : Prop := fnExactPathMakerRow.holds Try.pinned (OpenSpec.ofChange fnExactPathMakerWrong)

/-- 'laws.FnExactPathSame': WHATEVER THE INPUT: true; the input reads as it did. -/
def fnExactPathSameSpec : ChangeSpec := { name := "fnExactPathSame", fn := fun _ => fun
  | [d1, d2, d3, d4] => { results := [.lit (.bool true)], args := [d1, d2, d3, d4] }
  | _ => none }
def fnExactPathSameRow : OpenClaim := { program := "ytjhmjjechagbjaa", sum := "952afb3477aeabe42021e4be2480db2fbd58dc385f00f4a323f03ba31e3c3d29", func := "loop.example/stowage/laws.FnExactPathSame", spec := "fnExactPathSame", unfollowed := true, recurses := true, apart := false }
def FnExactPathSameSaid : Prop := fnExactPathSameRow.holds Try.pinned (OpenSpec.ofChange fnExactPathSameSpec)

/-- ITS FALSE NEIGHBOUR: 'it returns false'. Refute it at one input. -/
def fnExactPathSameWrong : ChangeSpec := { name := "fnExactPathSame", fn := fun _ => fun
  | [d1, d2, d3, d4] => { results := [.lit (.bool false)], args := [d1, d2, d3, d4] }
  | _ => none }
def FnExactPathSameWrongFalsely : Prop := fnExactPathSameRow.holds Try.pinned (OpenSpec.ofChange fnExactPathSameWrong)

/- THE SECOND FORM. 'bulk': how many values and letters a reading holds, each counted each time it is reached (what is shared counts as often as it is met; a slice's spare places count too). A statement '..UptoSaid' is the law's where the arguments, and the package variables that the reading takes, are together of bulk at most 1048576: NARROWER than '..Said'. Prove '..Said' where nothing that the law and all that it calls make is longer than what came in: it says more and counts as full. Else prove '..UptoSaid'. A law counts once. -/
mutual
def uptoBulk {H : Type} : DataW H → Nat
  | .lit (.string bytes) => bytes.length + 1
  | .lit _ => 1
  | .nil => 1
  | .ptr d => uptoBulk d + 1
  | .slice elems spare => uptoBulkAll elems + uptoBulkAll spare + 1
  | .agg parts => uptoBulkAll parts + 1
  | .iface _ d => uptoBulk d + 1
  | .map entries => uptoBulkEntries entries + 1
  | .held _ => 1
def uptoBulkAll {H : Type} : List (DataW H) → Nat
  | [] => 0
  | d :: r => uptoBulk d + uptoBulkAll r
def uptoBulkEntries {H : Type} : List (Lit × DataW H) → Nat
  | [] => 0
  | x :: r => uptoBulkEntry x + uptoBulkEntries r
def uptoBulkEntry {H : Type} : Lit × DataW H → Nat
  | (.string bytes, d) => bytes.length + uptoBulk d + 1
  | (_, d) => uptoBulk d + 1
 end
def uptoSmall : (H : Type) → List (DataW H) → Bool := fun _ ds => decide (uptoBulkAll ds ≤ 1048576)
def OpenSpec.upto (s : _root_.Go.ChangeSpec) : _root_.Go.OpenSpec := { _root_.Go.OpenSpec.ofChange s with cond := some uptoSmall }

/-- 'laws.FnExactPathOf', WHERE WHAT IT READS IS OF BULK AT MOST 1048576: true; the input reads as it did. -/
def fnExactPathOfUptoRow : OpenClaim := { program := "ytjhmjjechagbjaa", sum := "952afb3477aeabe42021e4be2480db2fbd58dc385f00f4a323f03ba31e3c3d29", func := "loop.example/stowage/laws.FnExactPathOf", spec := "fnExactPathOf", unfollowed := true, recurses := true, apart := false, narrowed := true }
def FnExactPathOfUptoSaid : Prop := fnExactPathOfUptoRow.holds Try.pinned (OpenSpec.upto fnExactPathOfSpec)

/-- 'laws.FnExactPathMaker', WHERE WHAT IT READS IS OF BULK AT MOST 1048576: true; the input reads as it did. -/
def fnExactPathMakerUptoRow : OpenClaim := { program := "ytjhmjjechagbjaa", sum := "952afb3477aeabe42021e4be2480db2fbd58dc385f00f4a323f03ba31e3c3d29", func := "loop.example/stowage/laws.FnExactPathMaker", spec := "fnExactPathMaker", unfollowed := true, recurses := true, apart := false, narrowed := true }
def FnExactPathMakerUptoSaid : Prop := fnExactPathMakerUptoRow.holds Try.pinned (OpenSpec.upto fnExactPathMakerSpec)

/-- 'laws.FnExactPathSame', WHERE WHAT IT READS IS OF BULK AT MOST 1048576: true; the input reads as it did. -/
def fnExactPathSameUptoRow : OpenClaim := { program := "ytjhmjjechagbjaa", sum := "952afb3477aeabe42021e4be2480db2fbd58dc385f00f4a323f03ba31e3c3d29", func := "loop.example/stowage/laws.FnExactPathSame", spec := "fnExactPathSame", unfollowed := true, recurses := true, apart := false, narrowed := true }
def FnExactPathSameUptoSaid : Prop := fnExactPathSameUptoRow.holds Try.pinned (OpenSpec.upto fnExactPathSameSpec)

end Rows
end Go.Proofs.Ytjhmjjechagbjaa
