/-
  DERIVED. GIVEN WITH THE SEED: THE CARDS: each row of YteddkkcheaghaaaGreatDoorRows.lean that lists a variable, with what it lists TIED to the program's text (the seventh form; the later family's looks); each row that meets fmt, with fmt's text TOLD by the authors' own Lean function (tested against real Go, not proved from fmt's source: count such statements apart). THE CARD IS WHAT COUNTS. Prove the row's statement (the work); the ties are given (YteddkkcheaghaaaGreatDoorTie.lean); close each card by the builder's one call (the guide's Derived/Test/ToyasCard.lean, 'card_holds'). Laid BY PROGRAM, IN A SANDBOX (cutbox-door.mjs). By AI agents, Wed Nov 11 2026. No macro, syntax, notation, axiom, sorry.
-/
import Derived.Test.YteddkkcheaghaaaGreatDoorRows
import GoSem.ClaimSeven
namespace Go.Proofs.YteddkkcheaghaaaGreatDoor
namespace Rows

/-- THE TIED CARD OF 'bartizanlaw18.LedgerPlays'. -/
def ledgerPlaysCard : Claim7 := { stood := { row := ledgerPlaysRow, standIns := [], harness := (true, "116339fd1b966557b6524864a445d848a7309e4012d6c67d6c6d038b5ddca92f"), looks := true }, kinds := [], alts := [], laidByText := true, laidKinds := [.data], laidTests := true, laidLooks := .later }
def LedgerPlaysCardSaid : Prop := Claim7.holds Tryz.pinned (.plain (OpenSpec.ofChange ledgerPlaysSpec)) ledgerPlaysCard

/-- THE TIED CARD OF 'bartizanlaw18.LedgerWorth'. -/
def ledgerWorthCard : Claim7 := { stood := { row := ledgerWorthRow, standIns := [], harness := (true, "116339fd1b966557b6524864a445d848a7309e4012d6c67d6c6d038b5ddca92f"), looks := true }, kinds := [], alts := [], laidByText := true, laidKinds := [.data], laidTests := true, laidLooks := .later }
def LedgerWorthCardSaid : Prop := Claim7.holds Tryz.pinned (.plain (OpenSpec.ofChange ledgerWorthSpec)) ledgerWorthCard

/-- THE TIED CARD OF 'bartizanlaw18.LedgerSlash'. -/
def ledgerSlashCard : Claim7 := { stood := { row := ledgerSlashRow, standIns := [], harness := (true, "116339fd1b966557b6524864a445d848a7309e4012d6c67d6c6d038b5ddca92f"), looks := true }, kinds := [], alts := [], laidByText := true, laidKinds := [.data], laidTests := true, laidLooks := .later }
def LedgerSlashCardSaid : Prop := Claim7.holds Tryz.pinned (.plain (OpenSpec.ofChange ledgerSlashSpec)) ledgerSlashCard

/-- THE TIED CARD OF 'bartizanlaw18.LedgerChannels'. -/
def ledgerChannelsCard : Claim7 := { stood := { row := ledgerChannelsRow, standIns := [], harness := (true, "116339fd1b966557b6524864a445d848a7309e4012d6c67d6c6d038b5ddca92f"), looks := true }, kinds := [], alts := [], laidByText := true, laidKinds := [.data], laidTests := true, laidLooks := .later }
def LedgerChannelsCardSaid : Prop := Claim7.holds Tryz.pinned (.plain (OpenSpec.ofChange ledgerChannelsSpec)) ledgerChannelsCard

/-- THE TIED CARD OF 'bartizanlaw18.LedgerNobody'. -/
def ledgerNobodyCard : Claim7 := { stood := { row := ledgerNobodyRow, standIns := [], harness := (true, "116339fd1b966557b6524864a445d848a7309e4012d6c67d6c6d038b5ddca92f"), looks := true }, kinds := [], alts := [], laidByText := true, laidKinds := [.data], laidTests := true, laidLooks := .later }
def LedgerNobodyCardSaid : Prop := Claim7.holds Tryz.pinned (.plain (OpenSpec.ofChange ledgerNobodySpec)) ledgerNobodyCard

/-- THE SECOND FORM's CARD OF 'bartizanlaw18.LedgerPlays'. -/
def ledgerPlaysUptoCard : Claim7 := { stood := { row := ledgerPlaysUptoRow, standIns := [], harness := (true, "116339fd1b966557b6524864a445d848a7309e4012d6c67d6c6d038b5ddca92f"), looks := true }, kinds := [], alts := [], laidByText := true, laidKinds := [.data], laidTests := true, laidLooks := .later }
def LedgerPlaysUptoCardSaid : Prop := Claim7.holds Tryz.pinned (.plain (OpenSpec.upto ledgerPlaysSpec)) ledgerPlaysUptoCard

/-- THE SECOND FORM's CARD OF 'bartizanlaw18.LedgerWorth'. -/
def ledgerWorthUptoCard : Claim7 := { stood := { row := ledgerWorthUptoRow, standIns := [], harness := (true, "116339fd1b966557b6524864a445d848a7309e4012d6c67d6c6d038b5ddca92f"), looks := true }, kinds := [], alts := [], laidByText := true, laidKinds := [.data], laidTests := true, laidLooks := .later }
def LedgerWorthUptoCardSaid : Prop := Claim7.holds Tryz.pinned (.plain (OpenSpec.upto ledgerWorthSpec)) ledgerWorthUptoCard

/-- THE SECOND FORM's CARD OF 'bartizanlaw18.LedgerSlash'. -/
def ledgerSlashUptoCard : Claim7 := { stood := { row := ledgerSlashUptoRow, standIns := [], harness := (true, "116339fd1b966557b6524864a445d848a7309e4012d6c67d6c6d038b5ddca92f"), looks := true }, kinds := [], alts := [], laidByText := true, laidKinds := [.data], laidTests := true, laidLooks := .later }
def LedgerSlashUptoCardSaid : Prop := Claim7.holds Tryz.pinned (.plain (OpenSpec.upto ledgerSlashSpec)) ledgerSlashUptoCard

/-- THE SECOND FORM's CARD OF 'bartizanlaw18.LedgerChannels'. -/
def ledgerChannelsUptoCard : Claim7 := { stood := { row := ledgerChannelsUptoRow, standIns := [], harness := (true, "116339fd1b966557b6524864a445d848a7309e4012d6c67d6c6d038b5ddca92f"), looks := true }, kinds := [], alts := [], laidByText := true, laidKinds := [.data], laidTests := true, laidLooks := .later }
def LedgerChannelsUptoCardSaid : Prop := Claim7.holds Tryz.pinned (.plain (OpenSpec.upto ledgerChannelsSpec)) ledgerChannelsUptoCard

/-- THE SECOND FORM's CARD OF 'bartizanlaw18.LedgerNobody'. -/
def ledgerNobodyUptoCard : Claim7 := { stood := { row := ledgerNobodyUptoRow, standIns := [], harness := (true, "116339fd1b966557b6524864a445d848a7309e4012d6c67d6c6d038b5ddca92f"), looks := true }, kinds := [], alts := [], laidByText := true, laidKinds := [.data], laidTests := true, laidLooks := .later }
def LedgerNobodyUptoCardSaid : Prop := Claim7.holds Tryz.pinned (.plain (OpenSpec.upto ledgerNobodySpec)) ledgerNobodyUptoCard
end Rows
end Go.Proofs.YteddkkcheaghaaaGreatDoor
