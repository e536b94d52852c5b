/-
  DERIVED. GIVEN WITH THE SEED: THE CARDS: each row of YtjmdkgjfcfnbiaaDoorRows.lean that lists a variable, with what it lists TIED to the program's text (the seventh form; the later family's looks); each row that meets fmt, with fmt's text TOLD by the authors' own Lean function (tested against real Go, not proved from fmt's source: count such statements apart). THE CARD IS WHAT COUNTS. Prove the row's statement (the work); the ties are given (YtjmdkgjfcfnbiaaDoorTie.lean); close each card by the builder's one call (the guide's Derived/Test/ToyasCard.lean, 'card_holds'). Laid BY PROGRAM, IN A SANDBOX (cutbox-door.mjs). By AI agents, Wed Nov 11 2026. No macro, syntax, notation, axiom, sorry.
-/
import Derived.Test.YtjmdkgjfcfnbiaaDoorRows
import GoSem.ClaimSeven
namespace Go.Proofs.YtjmdkgjfcfnbiaaDoor
namespace Rows

/-- THE TIED CARD OF 'bartizanlaw04.LamportSigns'. -/
def lamportSignsCard : Claim7 := { stood := { row := lamportSignsRow, standIns := [], harness := (true, "7ffbe9266048f7b027f6ec157a6f53793c785831462fdaa86fcd612a10a1c2c5"), looks := false }, kinds := [], alts := [], laidByText := true, laidKinds := [.data], laidTests := true, laidLooks := .later }
def LamportSignsCardSaid : Prop := Claim7.holds Tryd.pinned (.plain (OpenSpec.ofChange lamportSignsSpec)) lamportSignsCard

/-- THE TIED CARD OF 'bartizanlaw04.LamportBacks'. -/
def lamportBacksCard : Claim7 := { stood := { row := lamportBacksRow, standIns := [], harness := (true, "7ffbe9266048f7b027f6ec157a6f53793c785831462fdaa86fcd612a10a1c2c5"), looks := false }, kinds := [], alts := [], laidByText := true, laidKinds := [.data], laidTests := true, laidLooks := .later }
def LamportBacksCardSaid : Prop := Claim7.holds Tryd.pinned (.plain (OpenSpec.ofChange lamportBacksSpec)) lamportBacksCard

/-- THE TIED CARD OF 'bartizanlaw04.LamportSecrets'. -/
def lamportSecretsCard : Claim7 := { stood := { row := lamportSecretsRow, standIns := [], harness := (true, "7ffbe9266048f7b027f6ec157a6f53793c785831462fdaa86fcd612a10a1c2c5"), looks := false }, kinds := [], alts := [], laidByText := true, laidKinds := [.data], laidTests := true, laidLooks := .later }
def LamportSecretsCardSaid : Prop := Claim7.holds Tryd.pinned (.plain (OpenSpec.ofChange lamportSecretsSpec)) lamportSecretsCard

/-- THE SECOND FORM's CARD OF 'bartizanlaw04.LamportSigns'. -/
def lamportSignsUptoCard : Claim7 := { stood := { row := lamportSignsUptoRow, standIns := [], harness := (true, "7ffbe9266048f7b027f6ec157a6f53793c785831462fdaa86fcd612a10a1c2c5"), looks := false }, kinds := [], alts := [], laidByText := true, laidKinds := [.data], laidTests := true, laidLooks := .later }
def LamportSignsUptoCardSaid : Prop := Claim7.holds Tryd.pinned (.plain (OpenSpec.upto lamportSignsSpec)) lamportSignsUptoCard

/-- THE SECOND FORM's CARD OF 'bartizanlaw04.LamportBacks'. -/
def lamportBacksUptoCard : Claim7 := { stood := { row := lamportBacksUptoRow, standIns := [], harness := (true, "7ffbe9266048f7b027f6ec157a6f53793c785831462fdaa86fcd612a10a1c2c5"), looks := false }, kinds := [], alts := [], laidByText := true, laidKinds := [.data], laidTests := true, laidLooks := .later }
def LamportBacksUptoCardSaid : Prop := Claim7.holds Tryd.pinned (.plain (OpenSpec.upto lamportBacksSpec)) lamportBacksUptoCard

/-- THE SECOND FORM's CARD OF 'bartizanlaw04.LamportSecrets'. -/
def lamportSecretsUptoCard : Claim7 := { stood := { row := lamportSecretsUptoRow, standIns := [], harness := (true, "7ffbe9266048f7b027f6ec157a6f53793c785831462fdaa86fcd612a10a1c2c5"), looks := false }, kinds := [], alts := [], laidByText := true, laidKinds := [.data], laidTests := true, laidLooks := .later }
def LamportSecretsUptoCardSaid : Prop := Claim7.holds Tryd.pinned (.plain (OpenSpec.upto lamportSecretsSpec)) lamportSecretsUptoCard
end Rows
end Go.Proofs.YtjmdkgjfcfnbiaaDoor
