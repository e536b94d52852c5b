/- Two receipts compared. No function of the program is named. -/
import Derived.Test.YtcmdpmialehjgaaGreatDoorRecMem
import Derived.Test.YtcmdpmialehjgaaGreatDoorMemory
import Derived.Laws.StructEq
namespace Go.Proofs.YtcmdpmialehjgaaGreatDoor
open Go.RowKit

end Go.Proofs.YtcmdpmialehjgaaGreatDoor
