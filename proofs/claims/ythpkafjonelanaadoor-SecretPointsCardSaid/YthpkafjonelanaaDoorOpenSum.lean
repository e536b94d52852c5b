/- How a sum that came in is opened, where the listed variables are laid. -/
import Derived.Test.YthpkafjonelanaaDoorLaid
import Derived.Test.YthpkafjonelanaaDoorSha
import Derived.Test.YthpkafjonelanaaDoorSumOpen
namespace Go.Proofs.YthpkafjonelanaaDoor
end Go.Proofs.YthpkafjonelanaaDoor
