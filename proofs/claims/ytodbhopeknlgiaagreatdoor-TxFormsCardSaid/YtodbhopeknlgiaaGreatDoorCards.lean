/-
  DERIVED. GIVEN WITH THE SEED: THE CARDS: each row of YtodbhopeknlgiaaGreatDoorRows.lean that lists a variable, with what it lists TIED to the program's text (the seventh form; the later family's looks); each row that meets fmt, with fmt's text TOLD by the authors' own Lean function (tested against real Go, not proved from fmt's source: count such statements apart). THE CARD IS WHAT COUNTS. Prove the row's statement (the work); the ties are given (YtodbhopeknlgiaaGreatDoorTie.lean); close each card by the builder's one call (the guide's Derived/Test/ToyasCard.lean, 'card_holds'). Laid BY PROGRAM, IN A SANDBOX (cutbox-door.mjs). By AI agents, Wed Nov 11 2026. No macro, syntax, notation, axiom, sorry.
-/
import Derived.Test.YtodbhopeknlgiaaGreatDoorRows
import GoSem.ClaimSeven
namespace Go.Proofs.YtodbhopeknlgiaaGreatDoor
namespace Rows

/-- THE TIED CARD OF 'bartizanlaw08.TxForms'. -/
def txFormsCard : Claim7 := { stood := { row := txFormsRow, standIns := [], harness := (true, "331ab00828fd76f96f0c2d05aa1ea220914fd96f189293fda963dd9473ac1c36"), looks := false }, kinds := [], alts := [], laidByText := true, laidKinds := [.data], laidTests := true, laidLooks := .later }
def TxFormsCardSaid : Prop := Claim7.holds Tryz.pinned (.plain (OpenSpec.ofChange txFormsSpec)) txFormsCard

/-- THE TIED CARD OF 'bartizanlaw08.TxReads'. -/
def txReadsCard : Claim7 := { stood := { row := txReadsRow, standIns := [], harness := (true, "331ab00828fd76f96f0c2d05aa1ea220914fd96f189293fda963dd9473ac1c36"), looks := false }, kinds := [], alts := [], laidByText := true, laidKinds := [.data], laidTests := true, laidLooks := .later }
def TxReadsCardSaid : Prop := Claim7.holds Tryz.pinned (.plain (OpenSpec.ofChange txReadsSpec)) txReadsCard

/-- THE SECOND FORM's CARD OF 'bartizanlaw08.TxForms'. -/
def txFormsUptoCard : Claim7 := { stood := { row := txFormsUptoRow, standIns := [], harness := (true, "331ab00828fd76f96f0c2d05aa1ea220914fd96f189293fda963dd9473ac1c36"), looks := false }, kinds := [], alts := [], laidByText := true, laidKinds := [.data], laidTests := true, laidLooks := .later }
def TxFormsUptoCardSaid : Prop := Claim7.holds Tryz.pinned (.plain (OpenSpec.upto txFormsSpec)) txFormsUptoCard

/-- THE SECOND FORM's CARD OF 'bartizanlaw08.TxReads'. -/
def txReadsUptoCard : Claim7 := { stood := { row := txReadsUptoRow, standIns := [], harness := (true, "331ab00828fd76f96f0c2d05aa1ea220914fd96f189293fda963dd9473ac1c36"), looks := false }, kinds := [], alts := [], laidByText := true, laidKinds := [.data], laidTests := true, laidLooks := .later }
def TxReadsUptoCardSaid : Prop := Claim7.holds Tryz.pinned (.plain (OpenSpec.upto txReadsSpec)) txReadsUptoCard
end Rows
end Go.Proofs.YtodbhopeknlgiaaGreatDoor
