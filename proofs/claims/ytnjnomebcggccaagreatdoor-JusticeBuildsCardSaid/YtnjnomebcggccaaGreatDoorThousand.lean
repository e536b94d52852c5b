/- Thousandths of an amount, an amount in parts, plainly. No function of the program is named. -/
import Derived.Test.YtnjnomebcggccaaGreatDoorOwner
namespace Go.Proofs.YtnjnomebcggccaaGreatDoor
open Go.RowKit

/-- So many thousandths of an amount. -/
def thouOf (n k : Int) : Int := if okAmount n ∧ 0 ≤ k then n * (if k < 1000 then k else 1000) / 1000 else 0
end Go.Proofs.YtnjnomebcggccaaGreatDoor
