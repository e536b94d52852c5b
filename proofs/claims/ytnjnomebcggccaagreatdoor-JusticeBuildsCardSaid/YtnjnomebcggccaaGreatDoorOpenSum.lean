/- How a sum that came in is opened, where the listed variables are laid. -/
import Derived.Test.YtnjnomebcggccaaGreatDoorLaid
import Derived.Test.YtnjnomebcggccaaGreatDoorSha
import Derived.Test.YtnjnomebcggccaaGreatDoorSumOpen
namespace Go.Proofs.YtnjnomebcggccaaGreatDoor
end Go.Proofs.YtnjnomebcggccaaGreatDoor
