/- How a sum that came in is opened, where the listed variables are laid. -/
import Derived.Test.YtnepcjnnlfhplaaDoorLaid
import Derived.Test.YtnepcjnnlfhplaaDoorSha
import Derived.Test.YtnepcjnnlfhplaaDoorSumOpen
namespace Go.Proofs.YtnepcjnnlfhplaaDoor
end Go.Proofs.YtnepcjnnlfhplaaDoor
