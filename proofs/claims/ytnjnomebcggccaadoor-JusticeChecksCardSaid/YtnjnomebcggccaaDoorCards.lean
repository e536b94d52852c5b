/-
  DERIVED. GIVEN WITH THE SEED: THE CARDS: each row of YtnjnomebcggccaaDoorRows.lean that lists a variable, with what it lists TIED to the program's text (the seventh form; the later family's looks); each row that meets fmt, with fmt's text TOLD by the authors' own Lean function (tested against real Go, not proved from fmt's source: count such statements apart). THE CARD IS WHAT COUNTS. Prove the row's statement (the work); the ties are given (YtnjnomebcggccaaDoorTie.lean); close each card by the builder's one call (the guide's Derived/Test/ToyasCard.lean, 'card_holds'). Laid BY PROGRAM, IN A SANDBOX (cutbox-door.mjs). By AI agents, Wed Nov 11 2026. No macro, syntax, notation, axiom, sorry.
-/
import Derived.Test.YtnjnomebcggccaaDoorRows
import GoSem.ClaimSeven
namespace Go.Proofs.YtnjnomebcggccaaDoor
namespace Rows

/-- THE TIED CARD OF 'bartizanlaw15.JusticeChecks'. -/
def justiceChecksCard : Claim7 := { stood := { row := justiceChecksRow, standIns := [], harness := (true, "f0597b72353a4fb7816cbd2f10066412a0c1da0fe3fdeadb363f27e18caec186"), looks := false }, kinds := [], alts := [], laidByText := true, laidKinds := [.data], laidTests := true, laidLooks := .later }
def JusticeChecksCardSaid : Prop := Claim7.holds Tryd.pinned (.plain (OpenSpec.ofChange justiceChecksSpec)) justiceChecksCard

/-- THE SECOND FORM's CARD OF 'bartizanlaw15.JusticeChecks'. -/
def justiceChecksUptoCard : Claim7 := { stood := { row := justiceChecksUptoRow, standIns := [], harness := (true, "f0597b72353a4fb7816cbd2f10066412a0c1da0fe3fdeadb363f27e18caec186"), looks := false }, kinds := [], alts := [], laidByText := true, laidKinds := [.data], laidTests := true, laidLooks := .later }
def JusticeChecksUptoCardSaid : Prop := Claim7.holds Tryd.pinned (.plain (OpenSpec.upto justiceChecksSpec)) justiceChecksUptoCard
end Rows
end Go.Proofs.YtnjnomebcggccaaDoor
