/-
  DERIVED. GIVEN WITH THE SEED: THE CARDS: each row of YtacagnoilpfjkaaDoorRows.lean that lists a variable, with what it lists TIED to the program's text (the seventh form; the later family's looks); each row that meets fmt, with fmt's text TOLD by the authors' own Lean function (tested against real Go, not proved from fmt's source: count such statements apart). THE CARD IS WHAT COUNTS. Prove the row's statement (the work); the ties are given (YtacagnoilpfjkaaDoorTie.lean); close each card by the builder's one call (the guide's Derived/Test/ToyasCard.lean, 'card_holds'). Laid BY PROGRAM, IN A SANDBOX (cutbox-door.mjs). By AI agents, Wed Nov 11 2026. No macro, syntax, notation, axiom, sorry.
-/
import Derived.Test.YtacagnoilpfjkaaDoorRows
import GoSem.ClaimSeven
namespace Go.Proofs.YtacagnoilpfjkaaDoor
namespace Rows

/-- THE TIED CARD OF 'bartizanlaw05.ManyNews'. -/
def manyNewsCard : Claim7 := { stood := { row := manyNewsRow, standIns := [], harness := (true, "385443f2a9b41e40d939354e3edffe43ee1604fd490aa626d57bc6891aa5dc2d"), looks := false }, kinds := [], alts := [], laidByText := true, laidKinds := [.data], laidTests := true, laidLooks := .later }
def ManyNewsCardSaid : Prop := Claim7.holds Tryd.pinned (.plain (OpenSpec.ofChange manyNewsSpec)) manyNewsCard

/-- THE TIED CARD OF 'bartizanlaw05.ManySigns'. -/
def manySignsCard : Claim7 := { stood := { row := manySignsRow, standIns := [], harness := (true, "385443f2a9b41e40d939354e3edffe43ee1604fd490aa626d57bc6891aa5dc2d"), looks := false }, kinds := [], alts := [], laidByText := true, laidKinds := [.data], laidTests := true, laidLooks := .later }
def ManySignsCardSaid : Prop := Claim7.holds Tryd.pinned (.plain (OpenSpec.ofChange manySignsSpec)) manySignsCard

/-- THE TIED CARD OF 'bartizanlaw05.ManyNobody'. -/
def manyNobodyCard : Claim7 := { stood := { row := manyNobodyRow, standIns := [], harness := (true, "385443f2a9b41e40d939354e3edffe43ee1604fd490aa626d57bc6891aa5dc2d"), looks := false }, kinds := [], alts := [], laidByText := true, laidKinds := [.data], laidTests := true, laidLooks := .later }
def ManyNobodyCardSaid : Prop := Claim7.holds Tryd.pinned (.plain (OpenSpec.ofChange manyNobodySpec)) manyNobodyCard

/-- THE SECOND FORM's CARD OF 'bartizanlaw05.ManyNews'. -/
def manyNewsUptoCard : Claim7 := { stood := { row := manyNewsUptoRow, standIns := [], harness := (true, "385443f2a9b41e40d939354e3edffe43ee1604fd490aa626d57bc6891aa5dc2d"), looks := false }, kinds := [], alts := [], laidByText := true, laidKinds := [.data], laidTests := true, laidLooks := .later }
def ManyNewsUptoCardSaid : Prop := Claim7.holds Tryd.pinned (.plain (OpenSpec.upto manyNewsSpec)) manyNewsUptoCard

/-- THE SECOND FORM's CARD OF 'bartizanlaw05.ManySigns'. -/
def manySignsUptoCard : Claim7 := { stood := { row := manySignsUptoRow, standIns := [], harness := (true, "385443f2a9b41e40d939354e3edffe43ee1604fd490aa626d57bc6891aa5dc2d"), looks := false }, kinds := [], alts := [], laidByText := true, laidKinds := [.data], laidTests := true, laidLooks := .later }
def ManySignsUptoCardSaid : Prop := Claim7.holds Tryd.pinned (.plain (OpenSpec.upto manySignsSpec)) manySignsUptoCard

/-- THE SECOND FORM's CARD OF 'bartizanlaw05.ManyNobody'. -/
def manyNobodyUptoCard : Claim7 := { stood := { row := manyNobodyUptoRow, standIns := [], harness := (true, "385443f2a9b41e40d939354e3edffe43ee1604fd490aa626d57bc6891aa5dc2d"), looks := false }, kinds := [], alts := [], laidByText := true, laidKinds := [.data], laidTests := true, laidLooks := .later }
def ManyNobodyUptoCardSaid : Prop := Claim7.holds Tryd.pinned (.plain (OpenSpec.upto manyNobodySpec)) manyNobodyUptoCard
end Rows
end Go.Proofs.YtacagnoilpfjkaaDoor
