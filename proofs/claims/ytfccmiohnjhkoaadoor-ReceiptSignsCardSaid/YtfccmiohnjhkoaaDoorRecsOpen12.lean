/- A slice of receipts that came in as an argument, opened. No function of the program is named. -/
import Derived.Test.YtfccmiohnjhkoaaDoorOpenRec
import Derived.Test.YtfccmiohnjhkoaaDoorOpenOf
import Derived.Test.YtfccmiohnjhkoaaDoorRecKind
namespace Go.Proofs.YtfccmiohnjhkoaaDoor
open Go.ChangeShapes Go.WideShapes Go.ChangeAt Go.RowKit Go.Deep

theorem recs_open12 {H : Type} {enc : TypeId × Value → H} {W : World} {fuel : Nat} {cs : List Value} {x : DataW H × List MemPlace}
    (h : DataW.trod enc Tryd.prog W 0 (fun _ => true) true fuel 24 cs = some x) : ∃ a n c ys, cs = [.slice a n c] ∧ SliceOf recK W a n c ys :=
  slice_cells (K := recK) Tryd.underlying24 (by kernel_rfl) (fun _ _ _ h => rec_open h) h
end Go.Proofs.YtfccmiohnjhkoaaDoor
