/-
  DERIVED. GIVEN WITH THE SEED: THE CARDS: each row of YtkihmhchdenamaaDoorRows.lean that lists a variable, with what it lists TIED to the program's text (the seventh form; the later family's looks); each row that meets fmt, with fmt's text TOLD by the authors' own Lean function (tested against real Go, not proved from fmt's source: count such statements apart). THE CARD IS WHAT COUNTS. Prove the row's statement (the work); the ties are given (YtkihmhchdenamaaDoorTie.lean); close each card by the builder's one call (the guide's Derived/Test/ToyasCard.lean, 'card_holds'). Laid BY PROGRAM, IN A SANDBOX (cutbox-door.mjs). By AI agents, Wed Nov 11 2026. No macro, syntax, notation, axiom, sorry.
-/
import Derived.Test.YtkihmhchdenamaaDoorRows
import GoSem.ClaimSeven
namespace Go.Proofs.YtkihmhchdenamaaDoor
namespace Rows

/-- THE TIED CARD OF 'bartizanlaw14.CommitBuilds'. -/
def commitBuildsCard : Claim7 := { stood := { row := commitBuildsRow, standIns := [], harness := (true, "f3da54dbad74e09cd5e6c3f26971c70cd59afef73313d8882be002827702be2d"), looks := false }, kinds := [], alts := [], laidByText := true, laidKinds := [.data], laidTests := true, laidLooks := .later }
def CommitBuildsCardSaid : Prop := Claim7.holds Tryd.pinned (.plain (OpenSpec.ofChange commitBuildsSpec)) commitBuildsCard

/-- THE SECOND FORM's CARD OF 'bartizanlaw14.CommitBuilds'. -/
def commitBuildsUptoCard : Claim7 := { stood := { row := commitBuildsUptoRow, standIns := [], harness := (true, "f3da54dbad74e09cd5e6c3f26971c70cd59afef73313d8882be002827702be2d"), looks := false }, kinds := [], alts := [], laidByText := true, laidKinds := [.data], laidTests := true, laidLooks := .later }
def CommitBuildsUptoCardSaid : Prop := Claim7.holds Tryd.pinned (.plain (OpenSpec.upto commitBuildsSpec)) commitBuildsUptoCard
end Rows
end Go.Proofs.YtkihmhchdenamaaDoor
