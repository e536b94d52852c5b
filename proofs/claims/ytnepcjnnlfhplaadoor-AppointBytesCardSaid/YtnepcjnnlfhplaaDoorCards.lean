/-
  DERIVED. GIVEN WITH THE SEED: THE CARDS: each row of YtnepcjnnlfhplaaDoorRows.lean that lists a variable, with what it lists TIED to the program's text (the seventh form; the later family's looks); each row that meets fmt, with fmt's text TOLD by the authors' own Lean function (tested against real Go, not proved from fmt's source: count such statements apart). THE CARD IS WHAT COUNTS. Prove the row's statement (the work); the ties are given (YtnepcjnnlfhplaaDoorTie.lean); close each card by the builder's one call (the guide's Derived/Test/ToyasCard.lean, 'card_holds'). Laid BY PROGRAM, IN A SANDBOX (cutbox-door.mjs). By AI agents, Wed Nov 11 2026. No macro, syntax, notation, axiom, sorry.
-/
import Derived.Test.YtnepcjnnlfhplaaDoorRows
import GoSem.ClaimSeven
namespace Go.Proofs.YtnepcjnnlfhplaaDoor
namespace Rows

/-- THE TIED CARD OF 'bartizanlaw16.AppointCovers'. -/
def appointCoversCard : Claim7 := { stood := { row := appointCoversRow, standIns := [], harness := (true, "d9d131d2077af83c3d0599c6450b357333d7eae2e79835fd8a4cf8503ae45ee7"), looks := false }, kinds := [], alts := [], laidByText := true, laidKinds := [.data], laidTests := true, laidLooks := .later }
def AppointCoversCardSaid : Prop := Claim7.holds Tryd.pinned (.plain (OpenSpec.ofChange appointCoversSpec)) appointCoversCard

/-- THE TIED CARD OF 'bartizanlaw16.AppointUncovers'. -/
def appointUncoversCard : Claim7 := { stood := { row := appointUncoversRow, standIns := [], harness := (true, "d9d131d2077af83c3d0599c6450b357333d7eae2e79835fd8a4cf8503ae45ee7"), looks := false }, kinds := [], alts := [], laidByText := true, laidKinds := [.data], laidTests := true, laidLooks := .later }
def AppointUncoversCardSaid : Prop := Claim7.holds Tryd.pinned (.plain (OpenSpec.ofChange appointUncoversSpec)) appointUncoversCard

/-- THE TIED CARD OF 'bartizanlaw16.AppointJobs'. -/
def appointJobsCard : Claim7 := { stood := { row := appointJobsRow, standIns := [], harness := (true, "d9d131d2077af83c3d0599c6450b357333d7eae2e79835fd8a4cf8503ae45ee7"), looks := false }, kinds := [], alts := [], laidByText := true, laidKinds := [.data], laidTests := true, laidLooks := .later }
def AppointJobsCardSaid : Prop := Claim7.holds Tryd.pinned (.plain (OpenSpec.ofChange appointJobsSpec)) appointJobsCard

/-- THE TIED CARD OF 'bartizanlaw16.AppointBytes'. -/
def appointBytesCard : Claim7 := { stood := { row := appointBytesRow, standIns := [], harness := (true, "d9d131d2077af83c3d0599c6450b357333d7eae2e79835fd8a4cf8503ae45ee7"), looks := false }, kinds := [], alts := [], laidByText := true, laidKinds := [.data], laidTests := true, laidLooks := .later }
def AppointBytesCardSaid : Prop := Claim7.holds Tryd.pinned (.plain (OpenSpec.ofChange appointBytesSpec)) appointBytesCard

/-- THE SECOND FORM's CARD OF 'bartizanlaw16.AppointCovers'. -/
def appointCoversUptoCard : Claim7 := { stood := { row := appointCoversUptoRow, standIns := [], harness := (true, "d9d131d2077af83c3d0599c6450b357333d7eae2e79835fd8a4cf8503ae45ee7"), looks := false }, kinds := [], alts := [], laidByText := true, laidKinds := [.data], laidTests := true, laidLooks := .later }
def AppointCoversUptoCardSaid : Prop := Claim7.holds Tryd.pinned (.plain (OpenSpec.upto appointCoversSpec)) appointCoversUptoCard

/-- THE SECOND FORM's CARD OF 'bartizanlaw16.AppointUncovers'. -/
def appointUncoversUptoCard : Claim7 := { stood := { row := appointUncoversUptoRow, standIns := [], harness := (true, "d9d131d2077af83c3d0599c6450b357333d7eae2e79835fd8a4cf8503ae45ee7"), looks := false }, kinds := [], alts := [], laidByText := true, laidKinds := [.data], laidTests := true, laidLooks := .later }
def AppointUncoversUptoCardSaid : Prop := Claim7.holds Tryd.pinned (.plain (OpenSpec.upto appointUncoversSpec)) appointUncoversUptoCard

/-- THE SECOND FORM's CARD OF 'bartizanlaw16.AppointJobs'. -/
def appointJobsUptoCard : Claim7 := { stood := { row := appointJobsUptoRow, standIns := [], harness := (true, "d9d131d2077af83c3d0599c6450b357333d7eae2e79835fd8a4cf8503ae45ee7"), looks := false }, kinds := [], alts := [], laidByText := true, laidKinds := [.data], laidTests := true, laidLooks := .later }
def AppointJobsUptoCardSaid : Prop := Claim7.holds Tryd.pinned (.plain (OpenSpec.upto appointJobsSpec)) appointJobsUptoCard

/-- THE SECOND FORM's CARD OF 'bartizanlaw16.AppointBytes'. -/
def appointBytesUptoCard : Claim7 := { stood := { row := appointBytesUptoRow, standIns := [], harness := (true, "d9d131d2077af83c3d0599c6450b357333d7eae2e79835fd8a4cf8503ae45ee7"), looks := false }, kinds := [], alts := [], laidByText := true, laidKinds := [.data], laidTests := true, laidLooks := .later }
def AppointBytesUptoCardSaid : Prop := Claim7.holds Tryd.pinned (.plain (OpenSpec.upto appointBytesSpec)) appointBytesUptoCard
end Rows
end Go.Proofs.YtnepcjnnlfhplaaDoor
