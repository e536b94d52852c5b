/- Slices of numbers of 64 bits: what one reads as; one of the call's own; a literal; append. No function of the program is named. -/
import Derived.Test.YtlnenkmcegadmaaDoorMemory
import Derived.OwnWalk
import Derived.Great.BuildSlice
namespace Go.Proofs.YtlnenkmcegadmaaDoor
open Go.RowKit

/-- A number of 64 bits. -/
def Fits (z : Int) : Prop := -9223372036854775808 ≤ z ∧ z ≤ 9223372036854775807
/-- A slice of numbers that reads as 'zs'. -/
def Numbers (w : World) (a : Option Addr) (n c : Nat) (zs : List Int) : Prop :=
  zs.length = n ∧ n ≤ c ∧ c ≤ maxLen ∧ (a = none → c = 0) ∧ (∀ z ∈ zs, Fits z) ∧
  (0 < n → ∃ b off, a = some ⟨b, off, none⟩ ∧ b < w.heap.size ∧ ∀ j, j < n → w.cell? ⟨b, off + j, none⟩ = some (.int .i64 (zs.getD j 0)))
theorem Numbers.below {w w' : World} {n c : Nat} {a : Option Addr} {zs : List Int} (h : Numbers w a n c zs) (hb : Below w.heap.size w w') : Numbers w' a n c zs := by
  obtain ⟨h1, h2, h3, h4, h6, h5⟩ := h
  refine ⟨h1, h2, h3, h4, h6, fun h0 => ?_⟩
  obtain ⟨b, off, rfl, hlt, hc⟩ := h5 h0
  exact ⟨b, off, rfl, Nat.lt_of_lt_of_le hlt hb.size, fun j hj => (hb.cell (p := ⟨b, off + j, none⟩) hlt).trans (hc j hj)⟩
theorem Numbers.nil (w : World) : Numbers w none 0 0 [] := ⟨rfl, Nat.le_refl _, Nat.zero_le _, fun _ => rfl, (fun _ h => by cases h), fun h => by omega⟩
theorem Numbers.take {w : World} {n c k : Nat} {a : Option Addr} {zs : List Int} (h : Numbers w a n c zs) (hk : k ≤ n) : Numbers w a k c (zs.take k) := by
  obtain ⟨h1, h2, h3, h4, h6, h5⟩ := h
  refine ⟨by simp [h1]; omega, by omega, h3, h4, fun z hz => h6 z (List.mem_of_mem_take hz), fun h0 => ?_⟩
  obtain ⟨b, off, rfl, hlt, hc⟩ := h5 (by omega)
  refine ⟨b, off, rfl, hlt, fun j hj => ?_⟩
  have e : (zs.take k).getD j 0 = zs.getD j 0 := by simp [List.getD, hj]
  rw [e]
  exact hc j (by omega)
theorem Numbers.fits {w : World} {n c j : Nat} {a : Option Addr} {zs : List Int} (h : Numbers w a n c zs) (hj : j < n) : Fits (zs.getD j 0) := by
  have hj' : j < zs.length := by rw [h.1]; exact hj
  rw [List.getD_eq_getElem?_getD, List.getElem?_eq_getElem hj']
  exact h.2.2.2.2.1 _ (List.getElem_mem hj')
theorem drop_cons {zs : List Int} {k : Nat} (h : k < zs.length) : zs.drop k = zs.getD k 0 :: zs.drop (k + 1) := by
  rw [List.drop_eq_getElem_cons h]
  simp [List.getD, h]
/-- A block of one number. -/
theorem numbers_one {w : World} {g : Nat} {z : Int} {t : TypeId} {fr : Nat × Nat} (h : w.heap[g]? = some (.cells #[.int .i64 z] t fr)) (hz : Fits z) : Numbers w (some ⟨g, 0, none⟩) 1 1 [z] := by
  refine ⟨rfl, Nat.le_refl _, by unfold maxLen; omega, (fun e => by cases e), fun x hx => by simp at hx; subst hx; exact hz, fun _ => ⟨g, 0, rfl, lt_of_block h, fun j hj => ?_⟩⟩
  obtain rfl : j = 0 := by omega
  rw [cell_of_row _ _ _ _ _ _ h]
  rfl
theorem numbers_two {w : World} {g : Nat} {y z : Int} {t : TypeId} {fr : Nat × Nat} (h : w.heap[g]? = some (.cells #[.int .i64 y, .int .i64 z] t fr)) (hy : Fits y) (hz : Fits z) : Numbers w (some ⟨g, 0, none⟩) 2 2 [y, z] := by
  refine ⟨rfl, Nat.le_refl _, by unfold maxLen; omega, (fun e => by cases e), fun x hx => by simp at hx; rcases hx with rfl | rfl <;> assumption, fun _ => ⟨g, 0, rfl, lt_of_block h, fun j hj => ?_⟩⟩
  rw [cell_of_row _ _ _ _ _ _ h]
  rcases (show j = 0 ∨ j = 1 by omega) with rfl | rfl <;> rfl
end Go.Proofs.YtlnenkmcegadmaaDoor
