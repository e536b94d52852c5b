/- How a sum that came in is opened, where the listed variables are laid. -/
import Derived.Test.YtkihmhchdenamaaDoorLaid
import Derived.Test.YtkihmhchdenamaaDoorSha
import Derived.Test.YtkihmhchdenamaaDoorSumOpen
namespace Go.Proofs.YtkihmhchdenamaaDoor
end Go.Proofs.YtkihmhchdenamaaDoor
