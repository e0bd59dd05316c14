/-
  DERIVED. GIVEN WITH THE SEED: THE CARDS: each row of YtblahbmhbfcggaaGreatDoorRows.lean that lists a variable, with what it lists TIED to the program's text (the seventh form; the later family's looks); each row that meets fmt, with fmt's text TOLD by the authors' own Lean function (tested against real Go, not proved from fmt's source: count such statements apart). THE CARD IS WHAT COUNTS. Prove the row's statement (the work); the ties are given (YtblahbmhbfcggaaGreatDoorTie.lean); close each card by the builder's one call (the guide's Derived/Test/ToyasCard.lean, 'card_holds'). Laid BY PROGRAM, IN A SANDBOX (cutbox-door.mjs). By AI agents, Wed Nov 11 2026. No macro, syntax, notation, axiom, sorry.
-/
import Derived.Test.YtblahbmhbfcggaaGreatDoorRows
import GoSem.ClaimSeven
namespace Go.Proofs.YtblahbmhbfcggaaGreatDoor
namespace Rows

/-- THE TIED CARD OF 'cellarlaw4.MathsOdd'. -/
def mathsOddCard : Claim7 := { stood := { row := mathsOddRow, standIns := [], harness := (true, "7df43c41756ac6e48c2f748ca4a49e946a2ee784eca2cdab8b167f4ac86b570f"), looks := false }, kinds := [], alts := [], laidByText := true, laidKinds := [.data, .data], laidTests := true, laidLooks := .later }
def MathsOddCardSaid : Prop := Claim7.holds Tryz.pinned (.plain (OpenSpec.ofChange mathsOddSpec)) mathsOddCard

/-- THE TIED CARD OF 'cellarlaw4.MathsEq'. -/
def mathsEqCard : Claim7 := { stood := { row := mathsEqRow, standIns := [], harness := (true, "7df43c41756ac6e48c2f748ca4a49e946a2ee784eca2cdab8b167f4ac86b570f"), looks := false }, kinds := [], alts := [], laidByText := true, laidKinds := [.data, .data], laidTests := true, laidLooks := .later }
def MathsEqCardSaid : Prop := Claim7.holds Tryz.pinned (.plain (OpenSpec.ofChange mathsEqSpec)) mathsEqCard

/-- THE TIED CARD OF 'cellarlaw4.MathsZero'. -/
def mathsZeroCard : Claim7 := { stood := { row := mathsZeroRow, standIns := [], harness := (true, "7df43c41756ac6e48c2f748ca4a49e946a2ee784eca2cdab8b167f4ac86b570f"), looks := false }, kinds := [], alts := [], laidByText := true, laidKinds := [.data, .data], laidTests := true, laidLooks := .later }
def MathsZeroCardSaid : Prop := Claim7.holds Tryz.pinned (.plain (OpenSpec.ofChange mathsZeroSpec)) mathsZeroCard

/-- THE SECOND FORM's CARD OF 'cellarlaw4.MathsOdd'. -/
def mathsOddUptoCard : Claim7 := { stood := { row := mathsOddUptoRow, standIns := [], harness := (true, "7df43c41756ac6e48c2f748ca4a49e946a2ee784eca2cdab8b167f4ac86b570f"), looks := false }, kinds := [], alts := [], laidByText := true, laidKinds := [.data, .data], laidTests := true, laidLooks := .later }
def MathsOddUptoCardSaid : Prop := Claim7.holds Tryz.pinned (.plain (OpenSpec.upto mathsOddSpec)) mathsOddUptoCard

/-- THE SECOND FORM's CARD OF 'cellarlaw4.MathsEq'. -/
def mathsEqUptoCard : Claim7 := { stood := { row := mathsEqUptoRow, standIns := [], harness := (true, "7df43c41756ac6e48c2f748ca4a49e946a2ee784eca2cdab8b167f4ac86b570f"), looks := false }, kinds := [], alts := [], laidByText := true, laidKinds := [.data, .data], laidTests := true, laidLooks := .later }
def MathsEqUptoCardSaid : Prop := Claim7.holds Tryz.pinned (.plain (OpenSpec.upto mathsEqSpec)) mathsEqUptoCard

/-- THE SECOND FORM's CARD OF 'cellarlaw4.MathsZero'. -/
def mathsZeroUptoCard : Claim7 := { stood := { row := mathsZeroUptoRow, standIns := [], harness := (true, "7df43c41756ac6e48c2f748ca4a49e946a2ee784eca2cdab8b167f4ac86b570f"), looks := false }, kinds := [], alts := [], laidByText := true, laidKinds := [.data, .data], laidTests := true, laidLooks := .later }
def MathsZeroUptoCardSaid : Prop := Claim7.holds Tryz.pinned (.plain (OpenSpec.upto mathsZeroSpec)) mathsZeroUptoCard
end Rows
end Go.Proofs.YtblahbmhbfcggaaGreatDoor
