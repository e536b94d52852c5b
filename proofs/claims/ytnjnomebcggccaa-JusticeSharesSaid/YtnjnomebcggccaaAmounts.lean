/- Amounts, plainly: which may be, all together. No function of the program is named. -/
import Derived.Test.YtnjnomebcggccaaNumbers
namespace Go.Proofs.Ytnjnomebcggccaa
open Go.RowKit

/-- An amount may be. -/
def okAmount (z : Int) : Bool := decide (0 ≤ z ∧ z ≤ 1125899906842624)
theorem okAmount_yes {z : Int} (h : 0 ≤ z) (h' : z ≤ 1125899906842624) : okAmount z = true := decide_eq_true ⟨h, h'⟩
theorem okAmount_no {z : Int} (h : z < 0 ∨ 1125899906842624 < z) : okAmount z = false := decide_eq_false (by omega)
/-- All together, one by one, behind a sum; and the error. -/
def addFrom (sum : Int) : List Int → Int × Int
  | [] => (sum, 0)
  | z :: l => if okAmount z then (if 1125899906842624 < sum + z then (0, 10) else addFrom (sum + z) l) else (0, 5)
theorem addFrom_bad {s z : Int} {l : List Int} (h : z < 0 ∨ 1125899906842624 < z) : addFrom s (z :: l) = (0, 5) := by unfold addFrom; rw [okAmount_no h]; rfl
theorem addFrom_over {s z : Int} {l : List Int} (h : 0 ≤ z) (h' : z ≤ 1125899906842624) (h2 : 1125899906842624 < s + z) : addFrom s (z :: l) = (0, 10) := by unfold addFrom; rw [okAmount_yes h h', if_pos rfl, if_pos h2]
theorem addFrom_more {s z : Int} {l : List Int} (h : 0 ≤ z) (h' : z ≤ 1125899906842624) (h2 : s + z ≤ 1125899906842624) : addFrom s (z :: l) = addFrom (s + z) l := by
  rw [addFrom, okAmount_yes h h', if_pos rfl, if_neg (by omega)]
theorem addFrom_range : ∀ (l : List Int) (s : Int), 0 ≤ s → s ≤ 1125899906842624 → 0 ≤ (addFrom s l).1 ∧ (addFrom s l).1 ≤ 1125899906842624
  | [], s, h, h' => ⟨h, h'⟩
  | z :: l, s, h, h' => by
    by_cases h1 : z < 0 ∨ 1125899906842624 < z
    · rw [addFrom_bad h1]; exact ⟨Int.le_refl _, by show (0 : Int) ≤ _; omega⟩
    · by_cases h2 : 1125899906842624 < s + z
      · rw [addFrom_over (by omega) (by omega) h2]; exact ⟨Int.le_refl _, by show (0 : Int) ≤ _; omega⟩
      · rw [addFrom_more (by omega) (by omega) (by omega)]
        exact addFrom_range l (s + z) (by omega) (by omega)
end Go.Proofs.Ytnjnomebcggccaa
