/-
  DERIVED. GIVEN WITH THE SEED: THE CARDS: each row of YtgljfdamkjdmkaaGreatDoorRows.lean that lists a variable, with what it lists TIED to the program's text (the seventh form; the later family's looks); each row that meets fmt, with fmt's text TOLD by the authors' own Lean function (tested against real Go, not proved from fmt's source: count such statements apart). THE CARD IS WHAT COUNTS. Prove the row's statement (the work); the ties are given (YtgljfdamkjdmkaaGreatDoorTie.lean); close each card by the builder's one call (the guide's Derived/Test/ToyasCard.lean, 'card_holds'). Laid BY PROGRAM, IN A SANDBOX (cutbox-door.mjs). By AI agents, Wed Nov 11 2026. No macro, syntax, notation, axiom, sorry.
-/
import Derived.Test.YtgljfdamkjdmkaaGreatDoorRows
import GoSem.ClaimSeven
namespace Go.Proofs.YtgljfdamkjdmkaaGreatDoor
namespace Rows

/-- THE TIED CARD OF 'laws.FnExactClassCheck'. -/
def fnExactClassCheckCard : Claim7 := { stood := { row := fnExactClassCheckRow, standIns := [], harness := (true, "8029cdd4d8c9dca168406a90bad51074ef8b022a582183d8f09876475a9a36c1"), looks := true }, kinds := [], alts := [], laidByText := true, laidKinds := [.handle, .data], laidTests := true, laidLooks := .later }
def FnExactClassCheckCardSaid : Prop := Claim7.holds Tryz.pinned (.plain (OpenSpec.ofChange fnExactClassCheckSpec)) fnExactClassCheckCard

/-- THE SECOND FORM's CARD OF 'laws.FnExactClassCheck'. -/
def fnExactClassCheckUptoCard : Claim7 := { stood := { row := fnExactClassCheckUptoRow, standIns := [], harness := (true, "8029cdd4d8c9dca168406a90bad51074ef8b022a582183d8f09876475a9a36c1"), looks := true }, kinds := [], alts := [], laidByText := true, laidKinds := [.handle, .data], laidTests := true, laidLooks := .later }
def FnExactClassCheckUptoCardSaid : Prop := Claim7.holds Tryz.pinned (.plain (OpenSpec.upto fnExactClassCheckSpec)) fnExactClassCheckUptoCard
end Rows
end Go.Proofs.YtgljfdamkjdmkaaGreatDoor
