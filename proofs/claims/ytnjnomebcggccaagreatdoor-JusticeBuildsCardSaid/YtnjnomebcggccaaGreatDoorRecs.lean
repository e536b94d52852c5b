/- Arguments that are slices of numbers of 64 bits, and slices of records of such numbers, opened. No function of the program is named. -/
import Derived.Test.YtnjnomebcggccaaGreatDoorNumbers
import Derived.Deep.Slices
import Derived.Deep.SlicePairs
import Derived.ProofKit
import Derived.OpenShut
import Derived.LaidMore
namespace Go.Proofs.YtnjnomebcggccaaGreatDoor
open Go.ChangeShapes Go.WideShapes Go.ChangeAt Go.RowKit Go.Deep

theorem wf_fits {n : Int} (h : (Lit.int .i64 n).wf = true) : Fits n := by
  have h1 : IntKind.i64.min = -9223372036854775808 := by decide
  have h2 : IntKind.i64.max = 9223372036854775807 := by decide
  simp [Lit.wf, h1, h2] at h
  unfold Fits
  omega
theorem numbers_open {H : Type} {enc : TypeId × Value → H} {W : World} {fuel n c : Nat} {a : Option Addr} {x : DataW H × List MemPlace} {t e : TypeId} (ht : Tryz.prog.underlying t = some (.slice e)) (he : Tryz.prog.underlying e = some (.int .i64)) (ce : Tryz.prog.cellsOf e = 1)
    (h : DataW.trod enc Tryz.prog W 0 (fun _ => true) true fuel t [.slice a n c] = some x) : ∃ zs, Numbers W a n c zs := by
  rcases open_ints ht he ce h with ⟨hcs, _⟩ | ⟨ad, l, cp, zs, hcs, _, hl, hm, hz, _, hcell, hwf⟩
  · simp at hcs
    obtain ⟨rfl, rfl, rfl⟩ := hcs
    exact ⟨[], Numbers.nil W⟩
  · simp at hcs
    obtain ⟨rfl, rfl, rfl⟩ := hcs
    have hzl : zs.length = c := by simpa using hz
    refine ⟨zs.take n, by simp; omega, hl, hm, (fun e => by cases e), fun z hz' => wf_fits (hwf z (List.mem_of_mem_take hz')), fun h0 => ?_⟩
    obtain ⟨b, off, spot⟩ := ad
    have hspot : spot = none := by simpa [Addr.add] using World.cell?_spot (hcell 0 (by omega))
    subst hspot
    have hc0 := hcell 0 (by omega)
    refine ⟨b, off, rfl, by simpa [Addr.add] using World.block_lt_of_cell? W _ hc0, fun j hj => ?_⟩
    have e1 : (⟨b, off, none⟩ : Addr).add j = ⟨b, off + j, none⟩ := by simp [Addr.add]
    have hjz : j < zs.length := by omega
    have := hcell j hjz
    rw [e1] at this
    rw [this]
    simp [List.getD, hj, hjz]
/-- A slice of records, each of m numbers. -/
def Recs (w : World) (a : Option Addr) (n c m : Nat) (rs : List (List Int)) : Prop :=
  rs.length = n ∧ n ≤ c ∧ c ≤ maxLen ∧ (a = none → c = 0) ∧ (∀ r ∈ rs, r.length = m ∧ ∀ z ∈ r, Fits z) ∧
  (0 < n → ∃ b off, a = some ⟨b, off, none⟩ ∧ (0 < m → b < w.heap.size) ∧ ∀ j, j < n → ∀ i, i < m → w.cell? ⟨b, off + j * m + i, none⟩ = some (.int .i64 ((rs.getD j []).getD i 0)))
theorem Recs.nil (w : World) (m : Nat) : Recs w none 0 0 m [] := ⟨rfl, Nat.le_refl _, Nat.zero_le _, fun _ => rfl, (fun _ h => by cases h), fun h => by omega⟩
theorem Recs.below {w w' : World} {n c m : Nat} {a : Option Addr} {rs : List (List Int)} (h : Recs w a n c m rs) (hb : Below w.heap.size w w') : Recs w' a n c m rs := by
  obtain ⟨h1, h2, h3, h4, h6, h5⟩ := h
  refine ⟨h1, h2, h3, h4, h6, fun h0 => ?_⟩
  obtain ⟨b, off, rfl, hlt, hc⟩ := h5 h0
  exact ⟨b, off, rfl, fun hm => Nat.lt_of_lt_of_le (hlt hm) hb.size, fun j hj i hi => (hb.cell (p := ⟨b, off + j * m + i, none⟩) (hlt (by omega))).trans (hc j hj i hi)⟩
end Go.Proofs.YtnjnomebcggccaaGreatDoor
