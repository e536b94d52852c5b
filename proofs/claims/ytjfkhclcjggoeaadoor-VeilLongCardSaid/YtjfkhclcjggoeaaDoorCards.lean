/-
  DERIVED. GIVEN WITH THE SEED: THE CARDS: each row of YtjfkhclcjggoeaaDoorRows.lean that lists a variable, with what it lists TIED to the program's text (the seventh form; the later family's looks); each row that meets fmt, with fmt's text TOLD by the authors' own Lean function (tested against real Go, not proved from fmt's source: count such statements apart). THE CARD IS WHAT COUNTS. Prove the row's statement (the work); the ties are given (YtjfkhclcjggoeaaDoorTie.lean); close each card by the builder's one call (the guide's Derived/Test/ToyasCard.lean, 'card_holds'). Laid BY PROGRAM, IN A SANDBOX (cutbox-door.mjs). By AI agents, Wed Nov 11 2026. No macro, syntax, notation, axiom, sorry.
-/
import Derived.Test.YtjfkhclcjggoeaaDoorRows
import GoSem.ClaimSeven
namespace Go.Proofs.YtjfkhclcjggoeaaDoor
namespace Rows

/-- THE TIED CARD OF 'bartizanlaw11.VeilCloses'. -/
def veilClosesCard : Claim7 := { stood := { row := veilClosesRow, standIns := [], harness := (true, "0510f6c39efdcbe524d413536a78c0433d2a17c5fd0f64931bb0db186519b189"), looks := false }, kinds := [], alts := [], laidByText := true, laidKinds := [.data], laidTests := true, laidLooks := .later }
def VeilClosesCardSaid : Prop := Claim7.holds Tryd.pinned (.plain (OpenSpec.ofChange veilClosesSpec)) veilClosesCard

/-- THE TIED CARD OF 'bartizanlaw11.VeilOpens'. -/
def veilOpensCard : Claim7 := { stood := { row := veilOpensRow, standIns := [], harness := (true, "0510f6c39efdcbe524d413536a78c0433d2a17c5fd0f64931bb0db186519b189"), looks := false }, kinds := [], alts := [], laidByText := true, laidKinds := [.data], laidTests := true, laidLooks := .later }
def VeilOpensCardSaid : Prop := Claim7.holds Tryd.pinned (.plain (OpenSpec.ofChange veilOpensSpec)) veilOpensCard

/-- THE TIED CARD OF 'bartizanlaw11.VeilLong'. -/
def veilLongCard : Claim7 := { stood := { row := veilLongRow, standIns := [], harness := (true, "0510f6c39efdcbe524d413536a78c0433d2a17c5fd0f64931bb0db186519b189"), looks := false }, kinds := [], alts := [], laidByText := true, laidKinds := [.data], laidTests := true, laidLooks := .later }
def VeilLongCardSaid : Prop := Claim7.holds Tryd.pinned (.plain (OpenSpec.ofChange veilLongSpec)) veilLongCard

/-- THE SECOND FORM's CARD OF 'bartizanlaw11.VeilCloses'. -/
def veilClosesUptoCard : Claim7 := { stood := { row := veilClosesUptoRow, standIns := [], harness := (true, "0510f6c39efdcbe524d413536a78c0433d2a17c5fd0f64931bb0db186519b189"), looks := false }, kinds := [], alts := [], laidByText := true, laidKinds := [.data], laidTests := true, laidLooks := .later }
def VeilClosesUptoCardSaid : Prop := Claim7.holds Tryd.pinned (.plain (OpenSpec.upto veilClosesSpec)) veilClosesUptoCard

/-- THE SECOND FORM's CARD OF 'bartizanlaw11.VeilOpens'. -/
def veilOpensUptoCard : Claim7 := { stood := { row := veilOpensUptoRow, standIns := [], harness := (true, "0510f6c39efdcbe524d413536a78c0433d2a17c5fd0f64931bb0db186519b189"), looks := false }, kinds := [], alts := [], laidByText := true, laidKinds := [.data], laidTests := true, laidLooks := .later }
def VeilOpensUptoCardSaid : Prop := Claim7.holds Tryd.pinned (.plain (OpenSpec.upto veilOpensSpec)) veilOpensUptoCard

/-- THE SECOND FORM's CARD OF 'bartizanlaw11.VeilLong'. -/
def veilLongUptoCard : Claim7 := { stood := { row := veilLongUptoRow, standIns := [], harness := (true, "0510f6c39efdcbe524d413536a78c0433d2a17c5fd0f64931bb0db186519b189"), looks := false }, kinds := [], alts := [], laidByText := true, laidKinds := [.data], laidTests := true, laidLooks := .later }
def VeilLongUptoCardSaid : Prop := Claim7.holds Tryd.pinned (.plain (OpenSpec.upto veilLongSpec)) veilLongUptoCard
end Rows
end Go.Proofs.YtjfkhclcjggoeaaDoor
