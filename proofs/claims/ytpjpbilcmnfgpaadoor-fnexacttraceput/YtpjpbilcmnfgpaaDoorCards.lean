/-
  DERIVED. GIVEN WITH THE SEED: THE CARDS: each row of YtpjpbilcmnfgpaaDoorRows.lean that lists a variable, with what it lists TIED to the program's text (the seventh form; the later family's looks); each row that meets fmt, with fmt's text TOLD by the authors' own Lean function (tested against real Go, not proved from fmt's source: count such statements apart). THE CARD IS WHAT COUNTS. Prove the row's statement (the work); the ties are given (YtpjpbilcmnfgpaaDoorTie.lean); close each card by the builder's one call (the guide's Derived/Test/ToyasCard.lean, 'card_holds'). Laid BY PROGRAM, IN A SANDBOX (cutbox-door.mjs). By AI agents, Wed Nov 11 2026. No macro, syntax, notation, axiom, sorry.
-/
import Derived.Test.YtpjpbilcmnfgpaaDoorRows
import GoSem.ClaimSeven
namespace Go.Proofs.YtpjpbilcmnfgpaaDoor
namespace Rows

/-- THE TIED CARD OF 'laws.FnExactTracePut'. -/
def fnExactTracePutCard : Claim7 := { stood := { row := fnExactTracePutRow, standIns := [], harness := (true, "c800f6bcccbfb7c38149fb3a2079a9e55402aee11197550e536100fb15749fc2"), looks := false }, kinds := [], alts := [], laidByText := true, laidKinds := [.data, .data, .data, .data], laidTests := true, laidLooks := .later }
def FnExactTracePutCardSaid : Prop := Claim7.holds Tryd.pinned (.plain (OpenSpec.ofChange fnExactTracePutSpec)) fnExactTracePutCard

/-- THE SECOND FORM's CARD OF 'laws.FnExactTracePut'. -/
def fnExactTracePutUptoCard : Claim7 := { stood := { row := fnExactTracePutUptoRow, standIns := [], harness := (true, "c800f6bcccbfb7c38149fb3a2079a9e55402aee11197550e536100fb15749fc2"), looks := false }, kinds := [], alts := [], laidByText := true, laidKinds := [.data, .data, .data, .data], laidTests := true, laidLooks := .later }
def FnExactTracePutUptoCardSaid : Prop := Claim7.holds Tryd.pinned (.plain (OpenSpec.upto fnExactTracePutSpec)) fnExactTracePutUptoCard
end Rows
end Go.Proofs.YtpjpbilcmnfgpaaDoor
