/- Thousandths of an amount, an amount in parts, plainly. No function of the program is named. -/
import Derived.Test.YtnjnomebcggccaaDoorOwner
namespace Go.Proofs.YtnjnomebcggccaaDoor
open Go.RowKit

/-- So many thousandths of an amount. -/
def thouOf (n k : Int) : Int := if okAmount n ∧ 0 ≤ k then n * (if k < 1000 then k else 1000) / 1000 else 0
/-- An amount in so many parts. -/
def splitOf (n : Int) (p : Nat) : List Int := (List.range p).map fun (j : Nat) => n / (p : Int) + (if (j : Int) < n % (p : Int) then 1 else 0)
theorem splitOf_len (n : Int) (p : Nat) : (splitOf n p).length = p := by simp [splitOf]
theorem splitOf_get (n : Int) (p j : Nat) (h : j < p) : (splitOf n p).getD j 0 = n / (p : Int) + (if (j : Int) < n % (p : Int) then 1 else 0) := by simp [splitOf, List.getD, h]
end Go.Proofs.YtnjnomebcggccaaDoor
