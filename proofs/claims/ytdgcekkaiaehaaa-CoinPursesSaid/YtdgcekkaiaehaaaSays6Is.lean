/- What the walks of law 6 want of package coin holds of it. -/
import Derived.Test.YtdgcekkaiaehaaaSays6
import Derived.Test.YtdgcekkaiaehaaaSplit6
namespace Go.Proofs.Ytdgcekkaiaehaaa
open Go.RowKit

theorem says6 : CoinSays where
  right := fun W z => (right_any z W).mono fun _ _ ⟨h, hw⟩ => ⟨h, hw ▸ Below.refl _ _⟩
  add := fun _ _ _ _ _ h => add_any h
  sub := fun _ z _ _ _ _ h => sub_any z h
  part := part_any
  splitNo := split_no
  splitYes := split_yes
end Go.Proofs.Ytdgcekkaiaehaaa
