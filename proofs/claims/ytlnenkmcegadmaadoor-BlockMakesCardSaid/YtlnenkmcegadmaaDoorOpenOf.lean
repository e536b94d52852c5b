/- A slice of things of a kind that came in as an argument. No function of the program is named. -/
import Derived.Test.YtlnenkmcegadmaaDoorSliceOf
import Derived.Test.YtlnenkmcegadmaaDoorOpens
namespace Go.Proofs.YtlnenkmcegadmaaDoor
open Go.ChangeShapes Go.WideShapes Go.ChangeAt Go.RowKit Go.Deep

theorem slice_cells {α : Type} {H : Type} {enc : TypeId × Value → H} {W : World} {K : Sort8 α} {ts t : TypeId} (hu : Tryd.prog.underlying ts = some (.slice t)) (hk : Tryd.prog.cellsOf t = K.size)
    (el : ∀ (fuel : Nat) (cs : List Value) (x : DataW H × List MemPlace), DataW.trod enc Tryd.prog W 0 (fun _ => true) true fuel t cs = some x → ∃ y, K.ok W y ∧ cs = K.cells y)
    {fuel : Nat} {cs : List Value} {x : DataW H × List MemPlace} (h : DataW.trod enc Tryd.prog W 0 (fun _ => true) true fuel ts cs = some x) : ∃ a n c ys, cs = [.slice a n c] ∧ SliceOf K W a n c ys := by
  haveI : Inhabited α := ⟨K.dflt⟩
  rcases open_slice hu h with ⟨h0, _⟩ | ⟨a0, n, c, M, N, D, Pl, h1, _, hl, hmx, hM, _, hx⟩
  · exact ⟨_, _, _, [], h0, SliceOf.nil K W⟩
  · have hMc : M = c := by rw [hM]; simp
    rw [hk] at hx
    have each : ∀ j, j < n → ∃ y : α, K.ok W y ∧ ∀ i v, (K.cells y)[i]? = some v → W.cell? ((a0.add (j * K.size)).add i) = some v := by
      intro j hj
      obtain ⟨cs', h1, h2⟩ := hx j (by omega)
      obtain ⟨_, hlen, hcell⟩ := World.cells?_some h1
      obtain ⟨y, hy, rfl⟩ := el _ _ _ h2
      refine ⟨y, hy, fun i v hi => ?_⟩
      have hi' := (List.getElem?_eq_some_iff.1 hi).1
      have e0 := hcell i (by omega)
      rw [e0]
      exact hi
    obtain ⟨g, hg⟩ := choose_lt each
    refine ⟨some a0, n, c, (List.range n).map g, h1, by simp, hl, hmx, (fun e => by cases e), fun y hy => ?_, fun h0 => ?_⟩
    · obtain ⟨j, hj, rfl⟩ := List.mem_map.1 hy
      exact (hg j (List.mem_range.1 hj)).1
    · obtain ⟨b, off, spot⟩ := a0
      have hl0 := K.len W (g 0) (hg 0 h0).1
      have hp := K.pos
      have hc0 := (hg 0 h0).2 0 _ (List.getElem?_eq_getElem (by omega))
      have hspot : spot = none := by simpa [Addr.add] using World.cell?_spot hc0
      subst hspot
      have ad : ∀ o k : Nat, (⟨b, o, none⟩ : Addr).add k = ⟨b, o + k, none⟩ := fun o k => by simp [Addr.add]
      refine ⟨b, off, rfl, by simpa [Addr.add] using World.block_lt_of_cell? W _ hc0, fun j hj i v hi => ?_⟩
      have e : ((List.range n).map g).getD j K.dflt = g j := by simp [List.getD, hj]
      rw [e] at hi
      have := (hg j hj).2 i v hi
      rw [ad, ad] at this
      exact this
end Go.Proofs.YtlnenkmcegadmaaDoor
