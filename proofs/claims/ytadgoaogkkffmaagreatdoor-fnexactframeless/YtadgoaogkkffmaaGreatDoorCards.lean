/-
  DERIVED. GIVEN WITH THE SEED: THE CARDS: each row of YtadgoaogkkffmaaGreatDoorRows.lean that lists a variable, with what it lists TIED to the program's text (the seventh form; the later family's looks); each row that meets fmt, with fmt's text TOLD by the authors' own Lean function (tested against real Go, not proved from fmt's source: count such statements apart). THE CARD IS WHAT COUNTS. Prove the row's statement (the work); the ties are given (YtadgoaogkkffmaaGreatDoorTie.lean); close each card by the builder's one call (the guide's Derived/Test/ToyasCard.lean, 'card_holds'). Laid BY PROGRAM, IN A SANDBOX (cutbox-door.mjs). By AI agents, Wed Nov 11 2026. No macro, syntax, notation, axiom, sorry.
-/
import Derived.Test.YtadgoaogkkffmaaGreatDoorRows
import GoSem.ClaimSeven
namespace Go.Proofs.YtadgoaogkkffmaaGreatDoor
namespace Rows

/-- THE TIED CARD OF 'laws.FnExactClassCheck'. -/
def fnExactClassCheckCard : Claim7 := { stood := { row := fnExactClassCheckRow, standIns := [], harness := (true, "59e9203ebcaca01786a6156b1ca602e1ed9ca6e9a05de1ed6b053219ca893f70"), looks := true }, kinds := [], alts := [], laidByText := true, laidKinds := [.handle, .data], laidTests := true, laidLooks := .later }
def FnExactClassCheckCardSaid : Prop := Claim7.holds Tryz.pinned (.plain (OpenSpec.ofChange fnExactClassCheckSpec)) fnExactClassCheckCard

/-- THE TIED CARD OF 'laws.FnExactFrameLess'. -/
def fnExactFrameLessCard : Claim7 := { stood := { row := fnExactFrameLessRow, standIns := [], harness := (true, "59e9203ebcaca01786a6156b1ca602e1ed9ca6e9a05de1ed6b053219ca893f70"), looks := true }, kinds := [], alts := [], laidByText := true, laidKinds := [.handle, .data], laidTests := true, laidLooks := .later }
def FnExactFrameLessCardSaid : Prop := Claim7.holds Tryz.pinned (.plain (OpenSpec.ofChange fnExactFrameLessSpec)) fnExactFrameLessCard

/-- THE TIED CARD OF 'laws.FnExactFrameMany'. -/
def fnExactFrameManyCard : Claim7 := { stood := { row := fnExactFrameManyRow, standIns := [], harness := (true, "59e9203ebcaca01786a6156b1ca602e1ed9ca6e9a05de1ed6b053219ca893f70"), looks := true }, kinds := [], alts := [], laidByText := true, laidKinds := [.handle, .data], laidTests := true, laidLooks := .later }
def FnExactFrameManyCardSaid : Prop := Claim7.holds Tryz.pinned (.plain (OpenSpec.ofChange fnExactFrameManySpec)) fnExactFrameManyCard

/-- THE TIED CARD OF 'laws.FnExactPackText'. -/
def fnExactPackTextCard : Claim7 := { stood := { row := fnExactPackTextRow, standIns := [], harness := (true, "59e9203ebcaca01786a6156b1ca602e1ed9ca6e9a05de1ed6b053219ca893f70"), looks := true }, kinds := [], alts := [], laidByText := true, laidKinds := [.data, .data, .data, .handle, .data], laidTests := true, laidLooks := .later }
def FnExactPackTextCardSaid : Prop := Claim7.holds Tryz.pinned (.plain (OpenSpec.ofChange fnExactPackTextSpec)) fnExactPackTextCard

/-- THE TIED CARD OF 'laws.FnExactPackUsed'. -/
def fnExactPackUsedCard : Claim7 := { stood := { row := fnExactPackUsedRow, standIns := [], harness := (true, "59e9203ebcaca01786a6156b1ca602e1ed9ca6e9a05de1ed6b053219ca893f70"), looks := true }, kinds := [], alts := [], laidByText := true, laidKinds := [.handle, .data], laidTests := true, laidLooks := .later }
def FnExactPackUsedCardSaid : Prop := Claim7.holds Tryz.pinned (.plain (OpenSpec.ofChange fnExactPackUsedSpec)) fnExactPackUsedCard

/-- THE TIED CARD OF 'laws.FnExactPackAdd'. -/
def fnExactPackAddCard : Claim7 := { stood := { row := fnExactPackAddRow, standIns := [], harness := (true, "59e9203ebcaca01786a6156b1ca602e1ed9ca6e9a05de1ed6b053219ca893f70"), looks := true }, kinds := [], alts := [], laidByText := true, laidKinds := [.handle, .data], laidTests := true, laidLooks := .later }
def FnExactPackAddCardSaid : Prop := Claim7.holds Tryz.pinned (.plain (OpenSpec.ofChange fnExactPackAddSpec)) fnExactPackAddCard

/-- THE SECOND FORM's CARD OF 'laws.FnExactClassCheck'. -/
def fnExactClassCheckUptoCard : Claim7 := { stood := { row := fnExactClassCheckUptoRow, standIns := [], harness := (true, "59e9203ebcaca01786a6156b1ca602e1ed9ca6e9a05de1ed6b053219ca893f70"), looks := true }, kinds := [], alts := [], laidByText := true, laidKinds := [.handle, .data], laidTests := true, laidLooks := .later }
def FnExactClassCheckUptoCardSaid : Prop := Claim7.holds Tryz.pinned (.plain (OpenSpec.upto fnExactClassCheckSpec)) fnExactClassCheckUptoCard

/-- THE SECOND FORM's CARD OF 'laws.FnExactFrameLess'. -/
def fnExactFrameLessUptoCard : Claim7 := { stood := { row := fnExactFrameLessUptoRow, standIns := [], harness := (true, "59e9203ebcaca01786a6156b1ca602e1ed9ca6e9a05de1ed6b053219ca893f70"), looks := true }, kinds := [], alts := [], laidByText := true, laidKinds := [.handle, .data], laidTests := true, laidLooks := .later }
def FnExactFrameLessUptoCardSaid : Prop := Claim7.holds Tryz.pinned (.plain (OpenSpec.upto fnExactFrameLessSpec)) fnExactFrameLessUptoCard

/-- THE SECOND FORM's CARD OF 'laws.FnExactFrameMany'. -/
def fnExactFrameManyUptoCard : Claim7 := { stood := { row := fnExactFrameManyUptoRow, standIns := [], harness := (true, "59e9203ebcaca01786a6156b1ca602e1ed9ca6e9a05de1ed6b053219ca893f70"), looks := true }, kinds := [], alts := [], laidByText := true, laidKinds := [.handle, .data], laidTests := true, laidLooks := .later }
def FnExactFrameManyUptoCardSaid : Prop := Claim7.holds Tryz.pinned (.plain (OpenSpec.upto fnExactFrameManySpec)) fnExactFrameManyUptoCard

/-- THE SECOND FORM's CARD OF 'laws.FnExactPackText'. -/
def fnExactPackTextUptoCard : Claim7 := { stood := { row := fnExactPackTextUptoRow, standIns := [], harness := (true, "59e9203ebcaca01786a6156b1ca602e1ed9ca6e9a05de1ed6b053219ca893f70"), looks := true }, kinds := [], alts := [], laidByText := true, laidKinds := [.data, .data, .data, .handle, .data], laidTests := true, laidLooks := .later }
def FnExactPackTextUptoCardSaid : Prop := Claim7.holds Tryz.pinned (.plain (OpenSpec.upto fnExactPackTextSpec)) fnExactPackTextUptoCard

/-- THE SECOND FORM's CARD OF 'laws.FnExactPackUsed'. -/
def fnExactPackUsedUptoCard : Claim7 := { stood := { row := fnExactPackUsedUptoRow, standIns := [], harness := (true, "59e9203ebcaca01786a6156b1ca602e1ed9ca6e9a05de1ed6b053219ca893f70"), looks := true }, kinds := [], alts := [], laidByText := true, laidKinds := [.handle, .data], laidTests := true, laidLooks := .later }
def FnExactPackUsedUptoCardSaid : Prop := Claim7.holds Tryz.pinned (.plain (OpenSpec.upto fnExactPackUsedSpec)) fnExactPackUsedUptoCard

/-- THE SECOND FORM's CARD OF 'laws.FnExactPackAdd'. -/
def fnExactPackAddUptoCard : Claim7 := { stood := { row := fnExactPackAddUptoRow, standIns := [], harness := (true, "59e9203ebcaca01786a6156b1ca602e1ed9ca6e9a05de1ed6b053219ca893f70"), looks := true }, kinds := [], alts := [], laidByText := true, laidKinds := [.handle, .data], laidTests := true, laidLooks := .later }
def FnExactPackAddUptoCardSaid : Prop := Claim7.holds Tryz.pinned (.plain (OpenSpec.upto fnExactPackAddSpec)) fnExactPackAddUptoCard
end Rows
end Go.Proofs.YtadgoaogkkffmaaGreatDoor
