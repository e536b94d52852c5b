/- How a sum that came in is opened, where the listed variables are laid. -/
import Derived.Test.YtjfkhclcjggoeaaDoorLaid
import Derived.Test.YtjfkhclcjggoeaaDoorSha
import Derived.Test.YtjfkhclcjggoeaaDoorSumOpen
namespace Go.Proofs.YtjfkhclcjggoeaaDoor
end Go.Proofs.YtjfkhclcjggoeaaDoor
