/-
  DERIVED. GIVEN WITH THE SEED: THE CARDS: each row of YtnjnomebcggccaaGreatDoorRows.lean that lists a variable, with what it lists TIED to the program's text (the seventh form; the later family's looks); each row that meets fmt, with fmt's text TOLD by the authors' own Lean function (tested against real Go, not proved from fmt's source: count such statements apart). THE CARD IS WHAT COUNTS. Prove the row's statement (the work); the ties are given (YtnjnomebcggccaaGreatDoorTie.lean); close each card by the builder's one call (the guide's Derived/Test/ToyasCard.lean, 'card_holds'). Laid BY PROGRAM, IN A SANDBOX (cutbox-door.mjs). By AI agents, Wed Nov 11 2026. No macro, syntax, notation, axiom, sorry.
-/
import Derived.Test.YtnjnomebcggccaaGreatDoorRows
import GoSem.ClaimSeven
namespace Go.Proofs.YtnjnomebcggccaaGreatDoor
namespace Rows

/-- THE TIED CARD OF 'bartizanlaw15.JusticeBuilds'. -/
def justiceBuildsCard : Claim7 := { stood := { row := justiceBuildsRow, standIns := [], harness := (true, "d156282f177dee9c9b6633b0ff05481135fa4419dff6ab30e83f157d8d19a162"), looks := false }, kinds := [], alts := [], laidByText := true, laidKinds := [.data], laidTests := true, laidLooks := .later }
def JusticeBuildsCardSaid : Prop := Claim7.holds Tryz.pinned (.plain (OpenSpec.ofChange justiceBuildsSpec)) justiceBuildsCard

/-- THE SECOND FORM's CARD OF 'bartizanlaw15.JusticeBuilds'. -/
def justiceBuildsUptoCard : Claim7 := { stood := { row := justiceBuildsUptoRow, standIns := [], harness := (true, "d156282f177dee9c9b6633b0ff05481135fa4419dff6ab30e83f157d8d19a162"), looks := false }, kinds := [], alts := [], laidByText := true, laidKinds := [.data], laidTests := true, laidLooks := .later }
def JusticeBuildsUptoCardSaid : Prop := Claim7.holds Tryz.pinned (.plain (OpenSpec.upto justiceBuildsSpec)) justiceBuildsUptoCard
end Rows
end Go.Proofs.YtnjnomebcggccaaGreatDoor
