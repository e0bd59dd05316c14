/-
  DERIVED. GIVEN WITH THE SEED: THE CARDS: each row of YtdbbfcnblgokpaaGreatDoorRows.lean that lists a variable, with what it lists TIED to the program's text (the seventh form; the later family's looks); each row that meets fmt, with fmt's text TOLD by the authors' own Lean function (tested against real Go, not proved from fmt's source: count such statements apart). THE CARD IS WHAT COUNTS. Prove the row's statement (the work); the ties are given (YtdbbfcnblgokpaaGreatDoorTie.lean); close each card by the builder's one call (the guide's Derived/Test/ToyasCard.lean, 'card_holds'). Laid BY PROGRAM, IN A SANDBOX (cutbox-door.mjs). By AI agents, Wed Nov 11 2026. No macro, syntax, notation, axiom, sorry.
-/
import Derived.Test.YtdbbfcnblgokpaaGreatDoorRows
import GoSem.ClaimSeven
namespace Go.Proofs.YtdbbfcnblgokpaaGreatDoor
namespace Rows

/-- THE TIED CARD OF 'cellarlaw5.FilterZero'. -/
def filterZeroCard : Claim7 := { stood := { row := filterZeroRow, standIns := [], harness := (true, "eff8ed123a23daeb329c6f220f564b33d54a91f233a3ab016279a746ed69aeed"), looks := false }, kinds := [], alts := [], laidByText := true, laidKinds := [.data, .data], laidTests := true, laidLooks := .later }
def FilterZeroCardSaid : Prop := Claim7.holds Tryz.pinned (.plain (OpenSpec.ofChange filterZeroSpec)) filterZeroCard

/-- THE SECOND FORM's CARD OF 'cellarlaw5.FilterZero'. -/
def filterZeroUptoCard : Claim7 := { stood := { row := filterZeroUptoRow, standIns := [], harness := (true, "eff8ed123a23daeb329c6f220f564b33d54a91f233a3ab016279a746ed69aeed"), looks := false }, kinds := [], alts := [], laidByText := true, laidKinds := [.data, .data], laidTests := true, laidLooks := .later }
def FilterZeroUptoCardSaid : Prop := Claim7.holds Tryz.pinned (.plain (OpenSpec.upto filterZeroSpec)) filterZeroUptoCard
end Rows
end Go.Proofs.YtdbbfcnblgokpaaGreatDoor
