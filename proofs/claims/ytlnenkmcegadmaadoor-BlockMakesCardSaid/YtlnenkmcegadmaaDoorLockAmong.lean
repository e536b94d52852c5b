/- What 'among' comes to: the closure that looks a key up, IndexFunc and ContainsFunc at []int. -/
import Derived.Test.YtlnenkmcegadmaaDoorLockSort
namespace Go.Proofs.YtlnenkmcegadmaaDoor
open Go.RowKit

/-- A closure's list, in order, behind its box. -/
def ListAt (w : World) (p : Nat) (zs : List Int) : Prop := ∃ a n c, w.cell? ⟨p, 0, none⟩ = some (.slice a n c) ∧ p < w.heap.size ∧ Numbers w a n c zs ∧ zs.Pairwise (· ≤ ·) ∧ n ≤ 100000
theorem ListAt.below {w w' : World} {p : Nat} {zs : List Int} (h : ListAt w p zs) (hb : Below w.heap.size w w') : ListAt w' p zs := by
  obtain ⟨a, n, c, h1, h2, h3, h4, h5⟩ := h
  exact ⟨a, n, c, (hb.cell (p := ⟨p, 0, none⟩) h2).trans h1, Nat.lt_of_lt_of_le h2 hb.size, h3.below hb, h4, h5⟩
end Go.Proofs.YtlnenkmcegadmaaDoor
