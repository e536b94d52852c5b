/-
  DERIVED. GIVEN WITH THE SEED: THE CARDS: each row of YtfccmiohnjhkoaaDoorRows.lean that lists a variable, with what it lists TIED to the program's text (the seventh form; the later family's looks); each row that meets fmt, with fmt's text TOLD by the authors' own Lean function (tested against real Go, not proved from fmt's source: count such statements apart). THE CARD IS WHAT COUNTS. Prove the row's statement (the work); the ties are given (YtfccmiohnjhkoaaDoorTie.lean); close each card by the builder's one call (the guide's Derived/Test/ToyasCard.lean, 'card_holds'). Laid BY PROGRAM, IN A SANDBOX (cutbox-door.mjs). By AI agents, Wed Nov 11 2026. No macro, syntax, notation, axiom, sorry.
-/
import Derived.Test.YtfccmiohnjhkoaaDoorRows
import GoSem.ClaimSeven
namespace Go.Proofs.YtfccmiohnjhkoaaDoor
namespace Rows

/-- THE TIED CARD OF 'bartizanlaw12.ReceiptSigns'. -/
def receiptSignsCard : Claim7 := { stood := { row := receiptSignsRow, standIns := [], harness := (true, "fe925f7a844b8635e9c74c16851b96d7972cc52f14fd41f8e2dddb16fc6c6895"), looks := false }, kinds := [], alts := [], laidByText := true, laidKinds := [.data], laidTests := true, laidLooks := .later }
def ReceiptSignsCardSaid : Prop := Claim7.holds Tryd.pinned (.plain (OpenSpec.ofChange receiptSignsSpec)) receiptSignsCard

/-- THE SECOND FORM's CARD OF 'bartizanlaw12.ReceiptSigns'. -/
def receiptSignsUptoCard : Claim7 := { stood := { row := receiptSignsUptoRow, standIns := [], harness := (true, "fe925f7a844b8635e9c74c16851b96d7972cc52f14fd41f8e2dddb16fc6c6895"), looks := false }, kinds := [], alts := [], laidByText := true, laidKinds := [.data], laidTests := true, laidLooks := .later }
def ReceiptSignsUptoCardSaid : Prop := Claim7.holds Tryd.pinned (.plain (OpenSpec.upto receiptSignsSpec)) receiptSignsUptoCard
end Rows
end Go.Proofs.YtfccmiohnjhkoaaDoor
