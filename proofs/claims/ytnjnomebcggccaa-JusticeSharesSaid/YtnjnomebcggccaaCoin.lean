/- What Right, Add and Sub come to. -/
import Derived.Test.YtnjnomebcggccaaAmounts
namespace Go.Proofs.Ytnjnomebcggccaa
open Go.RowKit

theorem right_any (z : Int) (w : World) : Calls Try.prog 6 #[.int .i64 z] w fun e w' => e = .returned (.bool (okAmount z)) ∧ w = w' := by
  by_cases h1 : 0 ≤ z
  · by_cases h2 : z ≤ 1125899906842624
    · rw [okAmount_yes h1 h2]
      go_enter Try.func6, Try.ntmps6
      go_wp2
      go_ret
      exact ⟨rfl, rfl⟩
    · rw [okAmount_no (by omega)]
      go_enter Try.func6, Try.ntmps6
      go_wp2
      go_ret
      exact ⟨rfl, rfl⟩
  · rw [okAmount_no (by omega)]
    go_enter Try.func6, Try.ntmps6
    go_wp2
    go_ret
    exact ⟨rfl, rfl⟩
/-- What is left of an amount without others, and the error. -/
def subOf (n : Int) (l : List Int) : Int × Int := if okAmount n then (if (addFrom 0 l).2 = 0 then (if n < (addFrom 0 l).1 then (0, 14) else (n - (addFrom 0 l).1, 0)) else (0, (addFrom 0 l).2)) else (0, 5)
end Go.Proofs.Ytnjnomebcggccaa
