/- bytes.Clone, slices.Clone at numbers: the same bytes, the same numbers, in a row of their own. -/
import Derived.Test.YtlnenkmcegadmaaDoorMemory
import Derived.Test.YtlnenkmcegadmaaDoorCloneZ
import Derived.Test.YtlnenkmcegadmaaDoorShelf
namespace Go.Proofs.YtlnenkmcegadmaaDoor
open Go.RowKit

theorem cloneB_any {w : World} {a : Option Addr} {n c : Nat} {l : List UInt8} (h : Row w a n c l) (hn : n ≤ 100000) :
    Calls Tryd.prog 60 #[.slice a n c] w fun e w' => ∃ (a' : Option Addr) (c' : Nat), e = .returned (.slice a' n c') ∧ Row w' a' n c' l ∧ (∀ x, a' = some x → w.heap.size ≤ x.block) ∧ Below w.heap.size w w' := by
  cases a with
  | none =>
    have hc := h.2.2.2.1 rfl
    obtain rfl : n = 0 := by have := h.2.1; omega
    obtain rfl : l = [] := List.eq_nil_of_length_eq_zero h.1
    exact (Tryd.bytes_Clone_nil 0 c w).mono fun e w' ⟨he, hw⟩ => ⟨none, 0, he, Row.nil _, (fun x e => by cases e), by rw [hw]; exact Below.refl _ _⟩
  | some ad =>
    refine (Tryd.bytes_Clone_at ad n c (l.map fun b => ((b.toNat : Nat) : Int)) w (by rw [List.length_map]; exact h.1) (by omega) (fun i hi => ?_)).mono fun e w' ⟨v, he, ho, _, hb⟩ => ?_
    · obtain ⟨b, off, e, _, hc⟩ := h.2.2.2.2 (by omega)
      cases e
      have hl : i < l.length := by rw [h.1]; exact hi
      have h9 := hc i hi
      rw [List.getD_eq_getElem?_getD, List.getElem?_eq_getElem hl, Option.getD_some] at h9
      rw [List.getD_eq_getElem?_getD, List.getElem?_map, List.getElem?_eq_getElem hl, show (⟨b, off, none⟩ : Addr).add i = ⟨b, off + i, none⟩ by unfold Addr.add; split <;> simp_all]
      exact h9
    · have ho2 : Own w' w.heap.size v l := by
        rw [List.map_map, ← h.1] at ho
        exact ho
      obtain ⟨a', c', rfl, hnew⟩ := ho2.shape
      have hr := ho2.row
      rw [h.1] at hr
      exact ⟨a', c', by rw [he, h.1], hr, hnew, hb⟩
theorem cloneZ_new {w : World} {a : Option Addr} {n c : Nat} {zs : List Int} (h : Numbers w a n c zs) (hn : n ≤ 100000) :
    Calls Tryd.prog 48 #[.slice a n c] w fun e w' => ∃ (a' : Option Addr) (c' : Nat), e = .returned (.slice a' n c') ∧ Numbers w' a' n c' zs ∧ (∀ x, a' = some x → w.heap.size ≤ x.block) ∧ Below w.heap.size w w' := by
  refine (clone_any h hn).mono fun e w' ⟨v, he, ho, hb⟩ => ?_
  obtain ⟨a', c', rfl, hnew⟩ := ho.shape
  have h9 := ho.numbers
  rw [h.1] at h9
  exact ⟨a', c', by rw [he, h.1], h9, hnew, hb⟩
end Go.Proofs.YtlnenkmcegadmaaDoor
