/-
  DERIVED. GIVEN WITH THE SEED: THE CARDS: each row of YtdaafeaeinomoaaDoorRows.lean that lists a variable, with what it lists TIED to the program's text (the seventh form; the later family's looks); each row that meets fmt, with fmt's text TOLD by the authors' own Lean function (tested against real Go, not proved from fmt's source: count such statements apart). THE CARD IS WHAT COUNTS. Prove the row's statement (the work); the ties are given (YtdaafeaeinomoaaDoorTie.lean); close each card by the builder's one call (the guide's Derived/Test/ToyasCard.lean, 'card_holds'). Laid BY PROGRAM, IN A SANDBOX (cutbox-door.mjs). By AI agents, Wed Nov 11 2026. No macro, syntax, notation, axiom, sorry.
-/
import Derived.Test.YtdaafeaeinomoaaDoorRows
import GoSem.ClaimSeven
namespace Go.Proofs.YtdaafeaeinomoaaDoor
namespace Rows

/-- THE TIED CARD OF 'bartizanlaw07.LockOpens'. -/
def lockOpensCard : Claim7 := { stood := { row := lockOpensRow, standIns := [], harness := (true, "b7c3bc3ae5d6d97c1bbca4d2d3055d4b16a4a333b3491bfddb375d87bd9e06b1"), looks := false }, kinds := [], alts := [], laidByText := true, laidKinds := [.data], laidTests := true, laidLooks := .later }
def LockOpensCardSaid : Prop := Claim7.holds Tryd.pinned (.plain (OpenSpec.ofChange lockOpensSpec)) lockOpensCard

/-- THE TIED CARD OF 'bartizanlaw07.LockOuts'. -/
def lockOutsCard : Claim7 := { stood := { row := lockOutsRow, standIns := [], harness := (true, "b7c3bc3ae5d6d97c1bbca4d2d3055d4b16a4a333b3491bfddb375d87bd9e06b1"), looks := false }, kinds := [], alts := [], laidByText := true, laidKinds := [.data], laidTests := true, laidLooks := .later }
def LockOutsCardSaid : Prop := Claim7.holds Tryd.pinned (.plain (OpenSpec.ofChange lockOutsSpec)) lockOutsCard

/-- THE TIED CARD OF 'bartizanlaw07.LockSoles'. -/
def lockSolesCard : Claim7 := { stood := { row := lockSolesRow, standIns := [], harness := (true, "b7c3bc3ae5d6d97c1bbca4d2d3055d4b16a4a333b3491bfddb375d87bd9e06b1"), looks := false }, kinds := [], alts := [], laidByText := true, laidKinds := [.data], laidTests := true, laidLooks := .later }
def LockSolesCardSaid : Prop := Claim7.holds Tryd.pinned (.plain (OpenSpec.ofChange lockSolesSpec)) lockSolesCard

/-- THE TIED CARD OF 'bartizanlaw07.LockReads'. -/
def lockReadsCard : Claim7 := { stood := { row := lockReadsRow, standIns := [], harness := (true, "b7c3bc3ae5d6d97c1bbca4d2d3055d4b16a4a333b3491bfddb375d87bd9e06b1"), looks := false }, kinds := [], alts := [], laidByText := true, laidKinds := [.data], laidTests := true, laidLooks := .later }
def LockReadsCardSaid : Prop := Claim7.holds Tryd.pinned (.plain (OpenSpec.ofChange lockReadsSpec)) lockReadsCard

/-- THE SECOND FORM's CARD OF 'bartizanlaw07.LockOpens'. -/
def lockOpensUptoCard : Claim7 := { stood := { row := lockOpensUptoRow, standIns := [], harness := (true, "b7c3bc3ae5d6d97c1bbca4d2d3055d4b16a4a333b3491bfddb375d87bd9e06b1"), looks := false }, kinds := [], alts := [], laidByText := true, laidKinds := [.data], laidTests := true, laidLooks := .later }
def LockOpensUptoCardSaid : Prop := Claim7.holds Tryd.pinned (.plain (OpenSpec.upto lockOpensSpec)) lockOpensUptoCard

/-- THE SECOND FORM's CARD OF 'bartizanlaw07.LockOuts'. -/
def lockOutsUptoCard : Claim7 := { stood := { row := lockOutsUptoRow, standIns := [], harness := (true, "b7c3bc3ae5d6d97c1bbca4d2d3055d4b16a4a333b3491bfddb375d87bd9e06b1"), looks := false }, kinds := [], alts := [], laidByText := true, laidKinds := [.data], laidTests := true, laidLooks := .later }
def LockOutsUptoCardSaid : Prop := Claim7.holds Tryd.pinned (.plain (OpenSpec.upto lockOutsSpec)) lockOutsUptoCard

/-- THE SECOND FORM's CARD OF 'bartizanlaw07.LockSoles'. -/
def lockSolesUptoCard : Claim7 := { stood := { row := lockSolesUptoRow, standIns := [], harness := (true, "b7c3bc3ae5d6d97c1bbca4d2d3055d4b16a4a333b3491bfddb375d87bd9e06b1"), looks := false }, kinds := [], alts := [], laidByText := true, laidKinds := [.data], laidTests := true, laidLooks := .later }
def LockSolesUptoCardSaid : Prop := Claim7.holds Tryd.pinned (.plain (OpenSpec.upto lockSolesSpec)) lockSolesUptoCard

/-- THE SECOND FORM's CARD OF 'bartizanlaw07.LockReads'. -/
def lockReadsUptoCard : Claim7 := { stood := { row := lockReadsUptoRow, standIns := [], harness := (true, "b7c3bc3ae5d6d97c1bbca4d2d3055d4b16a4a333b3491bfddb375d87bd9e06b1"), looks := false }, kinds := [], alts := [], laidByText := true, laidKinds := [.data], laidTests := true, laidLooks := .later }
def LockReadsUptoCardSaid : Prop := Claim7.holds Tryd.pinned (.plain (OpenSpec.upto lockReadsSpec)) lockReadsUptoCard
end Rows
end Go.Proofs.YtdaafeaeinomoaaDoor
