/- How sums and slices of sums that came in are opened. -/
import Derived.Test.YtmbfpopfabjodaaDoorLaid
import Derived.Test.YtmbfpopfabjodaaDoorSeq
import Derived.Deep.Matrix
import Derived.Deep.SlicePairs
import Derived.ProofKit
import Derived.OpenShut
namespace Go.Proofs.YtmbfpopfabjodaaDoor
open Go.ChangeShapes Go.WideShapes Go.ChangeAt Go.RowKit Go.Deep
theorem cellsSum : Tryd.prog.cellsOf 24 = 32 := by kernel_rfl
/-- An array of 32 bytes that came in. -/
theorem sum_open {H : Type} {enc : TypeId × Value → H} {W : World} {fuel : Nat} {cs : Array Value} {x : DataW H × List MemPlace} (hsz : cs.size = 32)
    (h : DataW.trod enc Tryd.prog W 0 (fun _ => true) true fuel 24 cs.toList = some x) : ∃ s : List UInt8, s.length = 32 ∧ cs = (cellsOf s).toArray := by
  obtain ⟨xs, m, _, _, _, hxl, hf⟩ := DataW.trod_array Tryd.underlying24 h
  have each : ∀ i, i < 32 → ∃ b : UInt8, cs.toList[i]? = some (.int .u8 ((b.toNat : Nat) : Int)) := by
    intro i hi
    have h1 := hf i hi
    rw [Tryd.cells5, Nat.mul_one] at h1
    have hi' : i < cs.toList.length := by rw [Array.length_toList]; omega
    have e1 : (cs.toList.drop i).take 1 = [cs.toList[i]] := by
      rw [List.drop_eq_getElem_cons hi']
      rfl
    rw [e1] at h1
    have hx : xs[i]? = some (xs[i]'(by omega)) := List.getElem?_eq_getElem (by omega)
    obtain ⟨z, e2, _, hw⟩ := DataW.trod_int Tryd.underlying5 (h1.trans hx)
    have hw' := wf_u8 hw
    refine ⟨UInt8.ofNat z.toNat, ?_⟩
    rw [List.getElem?_eq_getElem hi']
    simp at e2
    rw [UInt8.toNat_ofNat']
    simp [e2]
    omega
  obtain ⟨f, hfb⟩ := choose_lt each
  refine ⟨(List.range 32).map f, by simp, ?_⟩
  apply Array.toList_inj.1
  apply List.ext_getElem?
  intro i
  by_cases hi : i < 32
  · rw [hfb i hi]
    simp [cellsOf, hi]
  · rw [List.getElem?_eq_none (by rw [Array.length_toList]; omega), List.getElem?_eq_none (by simp [cellsOf]; omega)]
/-- A slice of sums that came in. -/
theorem sums_open {H : Type} {enc : TypeId × Value → H} {W : World} {fuel : Nat} {a : Option Addr} {n c : Nat} {x : DataW H × List MemPlace}
    (h : DataW.trod enc Tryd.prog W 0 (fun _ => true) true fuel 22 [.slice a n c] = some x) : ∃ ls, Sums W a n c ls := by
  rcases open_slice Tryd.underlying22 h with ⟨h1, _⟩ | ⟨a0, len, cap, m, k, D, Pl, h1, _, hl, hm, hmm, _, hi⟩
  · simp at h1
    obtain ⟨rfl, rfl, rfl⟩ := h1
    exact ⟨[], Sums.nil W⟩
  · simp at h1
    obtain ⟨rfl, rfl, rfl⟩ := h1
    have hmc : m = c := by simpa using hmm
    subst hmc
    rw [cellsSum] at hi
    have each : ∀ r, r < n → ∃ s : List UInt8, s.length = 32 ∧ ∀ j v, (cellsOf s)[j]? = some v → W.cell? ((a0.add (r * 32)).add j) = some v := fun r hr => by
      obtain ⟨cs', hc, ht⟩ := hi r (by omega)
      obtain ⟨_, hcl, hat⟩ := World.cells?_some hc
      obtain ⟨s, hs, hcs⟩ := sum_open (cs := cs'.toArray) (by simpa using hcl) (by simpa using ht)
      have hcs' : cs' = cellsOf s := by simpa using hcs
      refine ⟨s, hs, fun j v hv => ?_⟩
      have hj : j < 32 := by
        have := (List.getElem?_eq_some_iff.1 hv).1
        rw [cellsOf_len, hs] at this
        exact this
      rw [hat j hj, hcs', hv]
    obtain ⟨f, hf⟩ := choose_lt each
    refine ⟨(List.range n).map f, by simp, hl, hm, (fun e => by cases e), fun s hs => ?_, fun h0 => ?_⟩
    · obtain ⟨r, hr, rfl⟩ := List.mem_map.1 hs
      exact (hf r (List.mem_range.1 hr)).1
    · obtain ⟨b, off, spot⟩ := a0
      have hc0 := (hf 0 h0).2 0 _ (cellsOf_get (by rw [(hf 0 h0).1]; omega))
      have hspot : spot = none := by simpa [Addr.add] using World.cell?_spot hc0
      subst hspot
      refine ⟨b, off, rfl, by simpa [Addr.add] using World.block_lt_of_cell? W _ hc0, fun j hj i v hv => ?_⟩
      have e : ((List.range n).map f).getD j [] = f j := by simp [List.getD, hj]
      rw [e] at hv
      have := (hf j hj).2 i v hv
      rw [Addr.add_mid, Addr.add_mid] at this
      exact this
end Go.Proofs.YtmbfpopfabjodaaDoor
