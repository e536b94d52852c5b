/- slices.Clone at []int, over slices of numbers. -/
import Derived.Test.YtlnenkmcegadmaaDoorOwnZ
import Derived.Test.YtlnenkmcegadmaaDoorShelf
namespace Go.Proofs.YtlnenkmcegadmaaDoor
open Go.RowKit

theorem clone_any {w : World} {a : Option Addr} {n c : Nat} {zs : List Int} (h : Numbers w a n c zs) (hn : n ≤ 100000) :
    Calls Tryd.prog 48 #[.slice a n c] w fun e w' => ∃ v, e = .returned v ∧ OwnZ w' 3 w.heap.size v zs ∧ Below w.heap.size w w' := by
  cases a with
  | none =>
    have hc := h.2.2.2.1 rfl
    obtain rfl : n = 0 := by have := h.2.1; omega
    obtain rfl : zs = [] := List.eq_nil_of_length_eq_zero h.1
    exact (Tryd.slices_Clone_int_nil 0 c w).mono fun e w' ⟨he, hw⟩ => ⟨_, he, by rw [hw]; exact OwnZ.nil _ _ _, by rw [hw]; exact Below.refl _ _⟩
  | some ad =>
    by_cases h0 : n = 0
    · subst h0
      obtain rfl : zs = [] := List.eq_nil_of_length_eq_zero h.1
      exact (Tryd.slices_Clone_int_zero ad c w).mono fun e w' ⟨v, he, ho, _, hb⟩ => ⟨v, he, ⟨ho, fun _ h => by cases h⟩, hb⟩
    · obtain ⟨b, off, e, _, hc⟩ := h.2.2.2.2.2 (by omega)
      cases e
      refine (Tryd.slices_Clone_int b off n c zs w (by rw [h.1]; exact Nat.le_refl _) (by omega) (fun j hj => hc j (by rw [← h.1]; exact hj))).mono fun e w' ⟨v, he, ho, _, hb⟩ => ⟨v, he, ⟨?_, h.2.2.2.2.1⟩, hb⟩
      have e1 : zs.take n = zs := List.take_of_length_le (by rw [h.1]; exact Nat.le_refl _)
      rw [e1, ← h.1] at ho
      exact ho
end Go.Proofs.YtlnenkmcegadmaaDoor
