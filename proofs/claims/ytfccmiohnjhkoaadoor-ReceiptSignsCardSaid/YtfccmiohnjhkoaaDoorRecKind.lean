/- Receipts as things that stand in slices. No function, type or variable of the program is named. -/
import Derived.Test.YtfccmiohnjhkoaaDoorRecMem
import Derived.Test.YtfccmiohnjhkoaaDoorSliceOf
namespace Go.Proofs.YtfccmiohnjhkoaaDoor
open Go.RowKit

def recK : Sort8 PRec := ⟨67, PRec.cells, fun _ x => RecIn x, noRec, by omega, fun _ _ h => PRec.len h, PRec.one, fun h _ => h⟩
end Go.Proofs.YtfccmiohnjhkoaaDoor
