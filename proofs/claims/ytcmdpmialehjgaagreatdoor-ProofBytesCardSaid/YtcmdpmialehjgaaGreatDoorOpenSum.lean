/- How a sum that came in is opened, where the listed variables are laid. -/
import Derived.Test.YtcmdpmialehjgaaGreatDoorLaid
import Derived.Test.YtcmdpmialehjgaaGreatDoorSha
import Derived.Test.YtcmdpmialehjgaaGreatDoorSumOpen
namespace Go.Proofs.YtcmdpmialehjgaaGreatDoor
end Go.Proofs.YtcmdpmialehjgaaGreatDoor
