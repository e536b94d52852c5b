/- How a sum that came in is opened, where the listed variables are laid. -/
import Derived.Test.YtnjnomebcggccaaDoorLaid
import Derived.Test.YtnjnomebcggccaaDoorSha
import Derived.Test.YtnjnomebcggccaaDoorSumOpen
namespace Go.Proofs.YtnjnomebcggccaaDoor
end Go.Proofs.YtnjnomebcggccaaDoor
