/-
  DERIVED. GIVEN WITH THE SEED: THE CARDS: each row of YtnimkkchpmlddaaDoorRows.lean that lists a variable, with what it lists TIED to the program's text (the seventh form; the later family's looks); each row that meets fmt, with fmt's text TOLD by the authors' own Lean function (tested against real Go, not proved from fmt's source: count such statements apart). THE CARD IS WHAT COUNTS. Prove the row's statement (the work); the ties are given (YtnimkkchpmlddaaDoorTie.lean); close each card by the builder's one call (the guide's Derived/Test/ToyasCard.lean, 'card_holds'). Laid BY PROGRAM, IN A SANDBOX (cutbox-door.mjs). By AI agents, Wed Nov 11 2026. No macro, syntax, notation, axiom, sorry.
-/
import Derived.Test.YtnimkkchpmlddaaDoorRows
import GoSem.ClaimSeven
namespace Go.Proofs.YtnimkkchpmlddaaDoor
namespace Rows

/-- THE TIED CARD OF 'laws.FnExactOpsGet'. -/
def fnExactOpsGetCard : Claim7 := { stood := { row := fnExactOpsGetRow, standIns := [], harness := (true, "0c6cddee65c8f0470ec458dda9d8b2dc03a80a7645ea4ceb0a2737ffe0732da6"), looks := false }, kinds := [], alts := [], laidByText := true, laidKinds := [.data], laidTests := true, laidLooks := .later }
def FnExactOpsGetCardSaid : Prop := Claim7.holds Tryd.pinned (.plain (OpenSpec.ofChange fnExactOpsGetSpec)) fnExactOpsGetCard

/-- THE TIED CARD OF 'laws.FnExactOpsPut'. -/
def fnExactOpsPutCard : Claim7 := { stood := { row := fnExactOpsPutRow, standIns := [], harness := (true, "0c6cddee65c8f0470ec458dda9d8b2dc03a80a7645ea4ceb0a2737ffe0732da6"), looks := false }, kinds := [], alts := [], laidByText := true, laidKinds := [.data], laidTests := true, laidLooks := .later }
def FnExactOpsPutCardSaid : Prop := Claim7.holds Tryd.pinned (.plain (OpenSpec.ofChange fnExactOpsPutSpec)) fnExactOpsPutCard

/-- THE SECOND FORM's CARD OF 'laws.FnExactOpsGet'. -/
def fnExactOpsGetUptoCard : Claim7 := { stood := { row := fnExactOpsGetUptoRow, standIns := [], harness := (true, "0c6cddee65c8f0470ec458dda9d8b2dc03a80a7645ea4ceb0a2737ffe0732da6"), looks := false }, kinds := [], alts := [], laidByText := true, laidKinds := [.data], laidTests := true, laidLooks := .later }
def FnExactOpsGetUptoCardSaid : Prop := Claim7.holds Tryd.pinned (.plain (OpenSpec.upto fnExactOpsGetSpec)) fnExactOpsGetUptoCard

/-- THE SECOND FORM's CARD OF 'laws.FnExactOpsPut'. -/
def fnExactOpsPutUptoCard : Claim7 := { stood := { row := fnExactOpsPutUptoRow, standIns := [], harness := (true, "0c6cddee65c8f0470ec458dda9d8b2dc03a80a7645ea4ceb0a2737ffe0732da6"), looks := false }, kinds := [], alts := [], laidByText := true, laidKinds := [.data], laidTests := true, laidLooks := .later }
def FnExactOpsPutUptoCardSaid : Prop := Claim7.holds Tryd.pinned (.plain (OpenSpec.upto fnExactOpsPutSpec)) fnExactOpsPutUptoCard
end Rows
end Go.Proofs.YtnimkkchpmlddaaDoor
