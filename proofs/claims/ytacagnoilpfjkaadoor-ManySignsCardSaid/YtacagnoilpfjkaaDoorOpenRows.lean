/- A slice of slices of bytes that came in as an argument. No function of the program is named. -/
import Derived.Test.YtacagnoilpfjkaaDoorLaid
import Derived.Test.YtacagnoilpfjkaaDoorSha
import Derived.Deep.Matrix
import Derived.Deep.SlicePairs
import Derived.ProofKit
import Derived.OpenShut
namespace Go.Proofs.YtacagnoilpfjkaaDoor
open Go.ChangeShapes Go.WideShapes Go.ChangeAt Go.RowKit Go.Deep

/-- A slice of slices of bytes that came in. -/
theorem rows2_open {H : Type} {enc : TypeId × Value → H} {W : World} {fuel : Nat} {a : Option Addr} {n c : Nat} {x : DataW H × List MemPlace}
    (h : DataW.trod enc Tryd.prog W 0 (fun _ => true) true fuel 36 [.slice a n c] = some x) : ∃ ps, Rows2 W a n c ps := by
  rcases open_int_rows Tryd.underlying36 Tryd.underlying37 Tryd.underlying5 (by kernel_rfl) Tryd.cells5 h with ⟨h1, _⟩ | ⟨a0, len, cap, A, L, C, Z, h1, _, hl, hm, _, hr⟩
  · simp at h1
    obtain ⟨rfl, rfl, rfl⟩ := h1
    exact ⟨[], Rows2.nil W⟩
  · simp at h1
    obtain ⟨rfl, rfl, rfl⟩ := h1
    have each : ∀ r, r < n → ∃ l, Row W (A r) (L r) (C r) l := fun r hrn => by
      obtain ⟨_, e2, e3, e4, e5, e6, e7⟩ := hr r (by omega)
      refine isRow_row (zs := Z r) ?_
      cases hA : A r with
      | none =>
        have hc0 := e6 hA
        have hz : Z r = [] := List.eq_nil_of_length_eq_zero (by omega)
        exact .inl ⟨rfl, by omega, hc0, hz⟩
      | some b => exact .inr ⟨b, rfl, e2, e3, e4, fun j hj => (e7 b hA).2 j (by omega), e5⟩
    obtain ⟨f, hf⟩ := choose_lt each
    refine ⟨(List.range n).map f, by simp, hl, hm, (fun e => by cases e), fun h0 => ?_⟩
    obtain ⟨b, off, spot⟩ := a0
    have hspot : spot = none := by simpa [Addr.add] using World.cell?_spot (hr 0 (by omega)).1
    subst hspot
    have hc0 := (hr 0 (by omega)).1
    refine ⟨b, off, rfl, by simpa [Addr.add] using World.block_lt_of_cell? W _ hc0, fun j hj => ⟨A j, L j, C j, ?_, ?_⟩⟩
    · have e1 : (⟨b, off, none⟩ : Addr).add j = ⟨b, off + j, none⟩ := by simp [Addr.add]
      rw [← e1]
      exact (hr j (by omega)).1
    · have : ((List.range n).map f).getD j [] = f j := by simp [List.getD, hj]
      rw [this]
      exact hf j hj
end Go.Proofs.YtacagnoilpfjkaaDoor
