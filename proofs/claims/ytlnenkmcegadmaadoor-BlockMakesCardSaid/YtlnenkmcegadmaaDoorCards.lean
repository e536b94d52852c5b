/-
  DERIVED. GIVEN WITH THE SEED: THE CARDS: each row of YtlnenkmcegadmaaDoorRows.lean that lists a variable, with what it lists TIED to the program's text (the seventh form; the later family's looks); each row that meets fmt, with fmt's text TOLD by the authors' own Lean function (tested against real Go, not proved from fmt's source: count such statements apart). THE CARD IS WHAT COUNTS. Prove the row's statement (the work); the ties are given (YtlnenkmcegadmaaDoorTie.lean); close each card by the builder's one call (the guide's Derived/Test/ToyasCard.lean, 'card_holds'). Laid BY PROGRAM, IN A SANDBOX (cutbox-door.mjs). By AI agents, Wed Nov 11 2026. No macro, syntax, notation, axiom, sorry.
-/
import Derived.Test.YtlnenkmcegadmaaDoorRows
import GoSem.ClaimSeven
namespace Go.Proofs.YtlnenkmcegadmaaDoor
namespace Rows

/-- THE TIED CARD OF 'bartizanlaw19.BlockMakes'. -/
def blockMakesCard : Claim7 := { stood := { row := blockMakesRow, standIns := [], harness := (true, "147dcf41db5e27c3e31bdbf5dd4d8d867cf3fe553a15875506906b4f55600b7f"), looks := false }, kinds := [], alts := [], laidByText := true, laidKinds := [.data], laidTests := true, laidLooks := .later }
def BlockMakesCardSaid : Prop := Claim7.holds Tryd.pinned (.plain (OpenSpec.ofChange blockMakesSpec)) blockMakesCard

/-- THE TIED CARD OF 'bartizanlaw19.BlockRights'. -/
def blockRightsCard : Claim7 := { stood := { row := blockRightsRow, standIns := [], harness := (true, "147dcf41db5e27c3e31bdbf5dd4d8d867cf3fe553a15875506906b4f55600b7f"), looks := false }, kinds := [], alts := [], laidByText := true, laidKinds := [.data], laidTests := true, laidLooks := .later }
def BlockRightsCardSaid : Prop := Claim7.holds Tryd.pinned (.plain (OpenSpec.ofChange blockRightsSpec)) blockRightsCard

/-- THE TIED CARD OF 'bartizanlaw19.BlockPaths'. -/
def blockPathsCard : Claim7 := { stood := { row := blockPathsRow, standIns := [], harness := (true, "147dcf41db5e27c3e31bdbf5dd4d8d867cf3fe553a15875506906b4f55600b7f"), looks := false }, kinds := [], alts := [], laidByText := true, laidKinds := [.data], laidTests := true, laidLooks := .later }
def BlockPathsCardSaid : Prop := Claim7.holds Tryd.pinned (.plain (OpenSpec.ofChange blockPathsSpec)) blockPathsCard

/-- THE TIED CARD OF 'bartizanlaw19.BlockFull'. -/
def blockFullCard : Claim7 := { stood := { row := blockFullRow, standIns := [], harness := (true, "147dcf41db5e27c3e31bdbf5dd4d8d867cf3fe553a15875506906b4f55600b7f"), looks := false }, kinds := [], alts := [], laidByText := true, laidKinds := [.data], laidTests := true, laidLooks := .later }
def BlockFullCardSaid : Prop := Claim7.holds Tryd.pinned (.plain (OpenSpec.ofChange blockFullSpec)) blockFullCard

/-- THE SECOND FORM's CARD OF 'bartizanlaw19.BlockMakes'. -/
def blockMakesUptoCard : Claim7 := { stood := { row := blockMakesUptoRow, standIns := [], harness := (true, "147dcf41db5e27c3e31bdbf5dd4d8d867cf3fe553a15875506906b4f55600b7f"), looks := false }, kinds := [], alts := [], laidByText := true, laidKinds := [.data], laidTests := true, laidLooks := .later }
def BlockMakesUptoCardSaid : Prop := Claim7.holds Tryd.pinned (.plain (OpenSpec.upto blockMakesSpec)) blockMakesUptoCard

/-- THE SECOND FORM's CARD OF 'bartizanlaw19.BlockRights'. -/
def blockRightsUptoCard : Claim7 := { stood := { row := blockRightsUptoRow, standIns := [], harness := (true, "147dcf41db5e27c3e31bdbf5dd4d8d867cf3fe553a15875506906b4f55600b7f"), looks := false }, kinds := [], alts := [], laidByText := true, laidKinds := [.data], laidTests := true, laidLooks := .later }
def BlockRightsUptoCardSaid : Prop := Claim7.holds Tryd.pinned (.plain (OpenSpec.upto blockRightsSpec)) blockRightsUptoCard

/-- THE SECOND FORM's CARD OF 'bartizanlaw19.BlockPaths'. -/
def blockPathsUptoCard : Claim7 := { stood := { row := blockPathsUptoRow, standIns := [], harness := (true, "147dcf41db5e27c3e31bdbf5dd4d8d867cf3fe553a15875506906b4f55600b7f"), looks := false }, kinds := [], alts := [], laidByText := true, laidKinds := [.data], laidTests := true, laidLooks := .later }
def BlockPathsUptoCardSaid : Prop := Claim7.holds Tryd.pinned (.plain (OpenSpec.upto blockPathsSpec)) blockPathsUptoCard

/-- THE SECOND FORM's CARD OF 'bartizanlaw19.BlockFull'. -/
def blockFullUptoCard : Claim7 := { stood := { row := blockFullUptoRow, standIns := [], harness := (true, "147dcf41db5e27c3e31bdbf5dd4d8d867cf3fe553a15875506906b4f55600b7f"), looks := false }, kinds := [], alts := [], laidByText := true, laidKinds := [.data], laidTests := true, laidLooks := .later }
def BlockFullUptoCardSaid : Prop := Claim7.holds Tryd.pinned (.plain (OpenSpec.upto blockFullSpec)) blockFullUptoCard
end Rows
end Go.Proofs.YtlnenkmcegadmaaDoor
