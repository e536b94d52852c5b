/- ProofBytes, walked over the contracts of what it calls. -/
import Derived.Test.YtcmdpmialehjgaaGreatDoorPrfRead
import Derived.Test.YtcmdpmialehjgaaGreatDoorPrfPut
import Derived.Test.YtcmdpmialehjgaaGreatDoorEqRec
import Derived.Test.YtcmdpmialehjgaaGreatDoorMemory
import Derived.Test.YtcmdpmialehjgaaGreatDoorWanted
import Derived.Deep.CutRange
namespace Go.Proofs.YtcmdpmialehjgaaGreatDoor
open Go.RowKit

/-- What Get tells. -/
def PrfOut (w0 : World) (b : List UInt8) (e : Ending) (w' : World) : Prop := ∃ sa sn sc ba bn bc, e = .returned (.tuple #[.agg (prfX b sa sn sc ba bn bc).cells.toArray, .int .i64 (prfE b)]) ∧ PrfIn w' (prfX b sa sn sc ba bn bc) ∧ Below w0.heap.size w0 w'
end Go.Proofs.YtcmdpmialehjgaaGreatDoor
