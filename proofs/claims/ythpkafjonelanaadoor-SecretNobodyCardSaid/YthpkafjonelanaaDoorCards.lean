/-
  DERIVED. GIVEN WITH THE SEED: THE CARDS: each row of YthpkafjonelanaaDoorRows.lean that lists a variable, with what it lists TIED to the program's text (the seventh form; the later family's looks); each row that meets fmt, with fmt's text TOLD by the authors' own Lean function (tested against real Go, not proved from fmt's source: count such statements apart). THE CARD IS WHAT COUNTS. Prove the row's statement (the work); the ties are given (YthpkafjonelanaaDoorTie.lean); close each card by the builder's one call (the guide's Derived/Test/ToyasCard.lean, 'card_holds'). Laid BY PROGRAM, IN A SANDBOX (cutbox-door.mjs). By AI agents, Wed Nov 11 2026. No macro, syntax, notation, axiom, sorry.
-/
import Derived.Test.YthpkafjonelanaaDoorRows
import GoSem.ClaimSeven
namespace Go.Proofs.YthpkafjonelanaaDoor
namespace Rows

/-- THE TIED CARD OF 'bartizanlaw13.SecretPoints'. -/
def secretPointsCard : Claim7 := { stood := { row := secretPointsRow, standIns := [], harness := (true, "0a2b9bb1de2c63730389dd2d717df2011cf4ad8650f75676387f35dbd8d0b4b6"), looks := false }, kinds := [], alts := [], laidByText := true, laidKinds := [.data], laidTests := true, laidLooks := .later }
def SecretPointsCardSaid : Prop := Claim7.holds Tryd.pinned (.plain (OpenSpec.ofChange secretPointsSpec)) secretPointsCard

/-- THE TIED CARD OF 'bartizanlaw13.SecretShelves'. -/
def secretShelvesCard : Claim7 := { stood := { row := secretShelvesRow, standIns := [], harness := (true, "0a2b9bb1de2c63730389dd2d717df2011cf4ad8650f75676387f35dbd8d0b4b6"), looks := false }, kinds := [], alts := [], laidByText := true, laidKinds := [.data], laidTests := true, laidLooks := .later }
def SecretShelvesCardSaid : Prop := Claim7.holds Tryd.pinned (.plain (OpenSpec.ofChange secretShelvesSpec)) secretShelvesCard

/-- THE TIED CARD OF 'bartizanlaw13.SecretNobody'. -/
def secretNobodyCard : Claim7 := { stood := { row := secretNobodyRow, standIns := [], harness := (true, "0a2b9bb1de2c63730389dd2d717df2011cf4ad8650f75676387f35dbd8d0b4b6"), looks := false }, kinds := [], alts := [], laidByText := true, laidKinds := [.data], laidTests := true, laidLooks := .later }
def SecretNobodyCardSaid : Prop := Claim7.holds Tryd.pinned (.plain (OpenSpec.ofChange secretNobodySpec)) secretNobodyCard

/-- THE SECOND FORM's CARD OF 'bartizanlaw13.SecretPoints'. -/
def secretPointsUptoCard : Claim7 := { stood := { row := secretPointsUptoRow, standIns := [], harness := (true, "0a2b9bb1de2c63730389dd2d717df2011cf4ad8650f75676387f35dbd8d0b4b6"), looks := false }, kinds := [], alts := [], laidByText := true, laidKinds := [.data], laidTests := true, laidLooks := .later }
def SecretPointsUptoCardSaid : Prop := Claim7.holds Tryd.pinned (.plain (OpenSpec.upto secretPointsSpec)) secretPointsUptoCard

/-- THE SECOND FORM's CARD OF 'bartizanlaw13.SecretShelves'. -/
def secretShelvesUptoCard : Claim7 := { stood := { row := secretShelvesUptoRow, standIns := [], harness := (true, "0a2b9bb1de2c63730389dd2d717df2011cf4ad8650f75676387f35dbd8d0b4b6"), looks := false }, kinds := [], alts := [], laidByText := true, laidKinds := [.data], laidTests := true, laidLooks := .later }
def SecretShelvesUptoCardSaid : Prop := Claim7.holds Tryd.pinned (.plain (OpenSpec.upto secretShelvesSpec)) secretShelvesUptoCard

/-- THE SECOND FORM's CARD OF 'bartizanlaw13.SecretNobody'. -/
def secretNobodyUptoCard : Claim7 := { stood := { row := secretNobodyUptoRow, standIns := [], harness := (true, "0a2b9bb1de2c63730389dd2d717df2011cf4ad8650f75676387f35dbd8d0b4b6"), looks := false }, kinds := [], alts := [], laidByText := true, laidKinds := [.data], laidTests := true, laidLooks := .later }
def SecretNobodyUptoCardSaid : Prop := Claim7.holds Tryd.pinned (.plain (OpenSpec.upto secretNobodySpec)) secretNobodyUptoCard
end Rows
end Go.Proofs.YthpkafjonelanaaDoor
