/- How a sum that came in is opened, where the listed variables are laid. -/
import Derived.Test.YtfccmiohnjhkoaaDoorLaid
import Derived.Test.YtfccmiohnjhkoaaDoorSha
import Derived.Test.YtfccmiohnjhkoaaDoorSumOpen
namespace Go.Proofs.YtfccmiohnjhkoaaDoor
end Go.Proofs.YtfccmiohnjhkoaaDoor
