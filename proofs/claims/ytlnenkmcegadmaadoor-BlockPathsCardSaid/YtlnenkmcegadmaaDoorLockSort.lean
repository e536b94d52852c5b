/- Clone, Sort and BinarySearch at []int, over slices of numbers of the call's own. -/
import Derived.Test.YtlnenkmcegadmaaDoorOwnZ
import Derived.Test.YtlnenkmcegadmaaDoorShelf
import Derived.Test.YtlnenkmcegadmaaDoorCloneZ
import Derived.Sort.OwnSortedInts
namespace Go.Proofs.YtlnenkmcegadmaaDoor
open Go.RowKit

/-- In order. -/
def sortedZ (zs : List Int) : List Int := zs.mergeSort fun x y => decide (x ≤ y)
theorem sortedZ_len (zs : List Int) : (sortedZ zs).length = zs.length := List.length_mergeSort zs
theorem sortedZ_mem (zs : List Int) (x : Int) : x ∈ sortedZ zs ↔ x ∈ zs := List.mem_mergeSort
theorem sortedZ_up (zs : List Int) : (sortedZ zs).Pairwise (· ≤ ·) := by
  have h := List.pairwise_mergeSort (le := fun (x y : Int) => decide (x ≤ y)) (fun a b c h1 h2 => by simp at *; omega) (fun a b => by simp; omega) zs
  exact h.imp (fun h => by simpa using h)
theorem sort_any {w : World} {B : Nat} {v : Value} {zs : List Int} (h : OwnZ w 3 B v zs) (hB : B ≤ w.heap.size) (hn : zs.length ≤ 100000) :
    Calls Tryd.prog 49 #[v] w fun e w' => e = .returned (.tuple #[]) ∧ OwnZ w' 3 B v (sortedZ zs) ∧ w.grownBy w' v.ownBlock ∧ Below B w w' := by
  rcases h.1.2 with ⟨rfl, h0⟩ | ⟨g, cap, cur, rfl, hg, hb, h1, h2, h3, h4⟩
  · obtain rfl : zs = [] := List.eq_nil_of_length_eq_zero h0
    exact (Tryd.slices_Sort_int_none none 0 w).mono fun e w' ⟨he, hw⟩ => ⟨he, by rw [hw, show sortedZ [] = [] by simp [sortedZ]]; exact OwnZ.nil _ _ _, by rw [hw]; exact World.grownBy.refl _ _, by rw [hw]; exact Below.refl _ _⟩
  · refine (Tryd.slices_Sort_int g 0 cap zs w (holds_of_blockI hb (by rw [Nat.mul_one] at h4; exact h4)) (lt_of_block hb) (by omega)).mono ?_
    rintro e w' ⟨he, n, os, rfl⟩
    have hl := sortedZ_len zs
    have ho := ownsRow_sortedI (n := n) (os := os) (ts := sortedZ zs) hl hg hb h1 h2 h3
    have hgr := grownBy_sortedI (w := w) (g := g) (n := n) (os := os) (sortedZ zs).toArray
    refine ⟨he, ⟨?_, fun z hz => h.2 z ((sortedZ_mem zs z).1 hz)⟩, hgr, ?_⟩
    · rw [hl]
      exact ho
    · exact (Below.refl B w).grown hgr hB (fun j hj => by cases hj; exact hg)
theorem search_any {w : World} {a : Option Addr} {n c : Nat} {zs : List Int} (x : Int) (h : Numbers w a n c zs) (hs : zs.Pairwise (· ≤ ·)) (hn : n ≤ 100000) :
    Calls Tryd.prog 53 #[.slice a n c, .int .i64 x] w fun e w' => ∃ z : Int, e = .returned (.tuple #[.int .i64 z, .bool (decide (x ∈ zs))]) ∧ Below w.heap.size w w' := by
  by_cases h0 : n = 0
  · subst h0
    obtain rfl : zs = [] := List.eq_nil_of_length_eq_zero h.1
    exact (Tryd.slices_BinarySearch_int_empty a c x w).mono fun e w' ⟨he, hw⟩ => ⟨0, he, by rw [hw]; exact Below.refl _ _⟩
  · obtain ⟨b, off, rfl, _, hc⟩ := h.2.2.2.2.2 (by omega)
    have e1 : zs.take n = zs := List.take_of_length_le (by rw [h.1]; exact Nat.le_refl _)
    refine (Tryd.slices_BinarySearch_int b off n c zs x w (by rw [h.1]; exact Nat.le_refl _) (by omega) (fun j hj => hc j (by rw [← h.1]; exact hj)) (by rw [e1]; exact hs)).mono ?_
    rintro e w' ⟨he, q, hw⟩
    rw [e1] at he
    have e2 : zs.contains x = decide (x ∈ zs) := by rw [Bool.eq_iff_iff]; simp
    rw [e2] at he
    refine ⟨_, he, by rw [hw]; exact ⟨rfl, rfl, rfl, Nat.le_refl _, fun _ _ => rfl⟩⟩
end Go.Proofs.YtlnenkmcegadmaaDoor
