/- How sums and slices of sums that came in are opened. -/
import Derived.Test.YtlnenkmcegadmaaDoorOpens
import Derived.Test.YtlnenkmcegadmaaDoorMerkle
import Derived.Deep.Matrix
import Derived.Deep.SlicePairs
import Derived.ProofKit
import Derived.OpenShut
namespace Go.Proofs.YtlnenkmcegadmaaDoor
open Go.ChangeShapes Go.WideShapes Go.ChangeAt Go.RowKit Go.Deep
/-- A slice of sums that came in. -/
theorem sums_open {H : Type} {enc : TypeId × Value → H} {W : World} {fuel : Nat} {a : Option Addr} {n c : Nat} {x : DataW H × List MemPlace}
    (h : DataW.trod enc Tryd.prog W 0 (fun _ => true) true fuel 36 [.slice a n c] = some x) : ∃ ls, Sums W a n c ls := by
  rcases open_slice Tryd.underlying36 h with ⟨h1, _⟩ | ⟨a0, len, cap, m, k, D, Pl, h1, _, hl, hm, hmm, _, hi⟩
  · simp at h1
    obtain ⟨rfl, rfl, rfl⟩ := h1
    exact ⟨[], Sums.nil W⟩
  · simp at h1
    obtain ⟨rfl, rfl, rfl⟩ := h1
    have hmc : m = c := by simpa using hmm
    subst hmc
    rw [cellsSum] at hi
    have each : ∀ r, r < n → ∃ s : List UInt8, s.length = 32 ∧ ∀ j v, (cellsOf s)[j]? = some v → W.cell? ((a0.add (r * 32)).add j) = some v := fun r hr => by
      obtain ⟨cs', hc, ht⟩ := hi r (by omega)
      obtain ⟨_, hcl, hat⟩ := World.cells?_some hc
      obtain ⟨s, hs, hcs⟩ := sum_open (cs := cs'.toArray) (by simpa using hcl) (by simpa using ht)
      have hcs' : cs' = cellsOf s := by simpa using hcs
      refine ⟨s, hs, fun j v hv => ?_⟩
      have hj : j < 32 := by
        have := (List.getElem?_eq_some_iff.1 hv).1
        rw [cellsOf_len, hs] at this
        exact this
      rw [hat j hj, hcs', hv]
    obtain ⟨f, hf⟩ := choose_lt each
    refine ⟨(List.range n).map f, by simp, hl, hm, (fun e => by cases e), fun s hs => ?_, fun h0 => ?_⟩
    · obtain ⟨r, hr, rfl⟩ := List.mem_map.1 hs
      exact (hf r (List.mem_range.1 hr)).1
    · obtain ⟨b, off, spot⟩ := a0
      have hc0 := (hf 0 h0).2 0 _ (cellsOf_get (by rw [(hf 0 h0).1]; omega))
      have hspot : spot = none := by simpa [Addr.add] using World.cell?_spot hc0
      subst hspot
      refine ⟨b, off, rfl, by simpa [Addr.add] using World.block_lt_of_cell? W _ hc0, fun j hj i v hv => ?_⟩
      have e : ((List.range n).map f).getD j [] = f j := by simp [List.getD, hj]
      rw [e] at hv
      have := (hf j hj).2 i v hv
      rw [Addr.add_mid, Addr.add_mid] at this
      exact this
end Go.Proofs.YtlnenkmcegadmaaDoor
