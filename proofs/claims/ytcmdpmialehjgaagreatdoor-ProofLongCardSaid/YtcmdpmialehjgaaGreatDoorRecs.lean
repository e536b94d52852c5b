/- Arguments that are slices of numbers of 64 bits, and slices of records of such numbers, opened. No function of the program is named. -/
import Derived.Test.YtcmdpmialehjgaaGreatDoorNumbers
import Derived.Deep.Slices
import Derived.Deep.SlicePairs
import Derived.ProofKit
import Derived.OpenShut
import Derived.LaidMore
namespace Go.Proofs.YtcmdpmialehjgaaGreatDoor
open Go.ChangeShapes Go.WideShapes Go.ChangeAt Go.RowKit Go.Deep

theorem wf_fits {n : Int} (h : (Lit.int .i64 n).wf = true) : Fits n := by
  have h1 : IntKind.i64.min = -9223372036854775808 := by decide
  have h2 : IntKind.i64.max = 9223372036854775807 := by decide
  simp [Lit.wf, h1, h2] at h
  unfold Fits
  omega
theorem numbers_open {H : Type} {enc : TypeId × Value → H} {W : World} {fuel n c : Nat} {a : Option Addr} {x : DataW H × List MemPlace} {t e : TypeId} (ht : Tryz.prog.underlying t = some (.slice e)) (he : Tryz.prog.underlying e = some (.int .i64)) (ce : Tryz.prog.cellsOf e = 1)
    (h : DataW.trod enc Tryz.prog W 0 (fun _ => true) true fuel t [.slice a n c] = some x) : ∃ zs, Numbers W a n c zs := by
  rcases open_ints ht he ce h with ⟨hcs, _⟩ | ⟨ad, l, cp, zs, hcs, _, hl, hm, hz, _, hcell, hwf⟩
  · simp at hcs
    obtain ⟨rfl, rfl, rfl⟩ := hcs
    exact ⟨[], Numbers.nil W⟩
  · simp at hcs
    obtain ⟨rfl, rfl, rfl⟩ := hcs
    have hzl : zs.length = c := by simpa using hz
    refine ⟨zs.take n, by simp; omega, hl, hm, (fun e => by cases e), fun z hz' => wf_fits (hwf z (List.mem_of_mem_take hz')), fun h0 => ?_⟩
    obtain ⟨b, off, spot⟩ := ad
    have hspot : spot = none := by simpa [Addr.add] using World.cell?_spot (hcell 0 (by omega))
    subst hspot
    have hc0 := hcell 0 (by omega)
    refine ⟨b, off, rfl, by simpa [Addr.add] using World.block_lt_of_cell? W _ hc0, fun j hj => ?_⟩
    have e1 : (⟨b, off, none⟩ : Addr).add j = ⟨b, off + j, none⟩ := by simp [Addr.add]
    have hjz : j < zs.length := by omega
    have := hcell j hjz
    rw [e1] at this
    rw [this]
    simp [List.getD, hj, hjz]
/-- A slice of records, each of m numbers. -/
def Recs (w : World) (a : Option Addr) (n c m : Nat) (rs : List (List Int)) : Prop :=
  rs.length = n ∧ n ≤ c ∧ c ≤ maxLen ∧ (a = none → c = 0) ∧ (∀ r ∈ rs, r.length = m ∧ ∀ z ∈ r, Fits z) ∧
  (0 < n → ∃ b off, a = some ⟨b, off, none⟩ ∧ (0 < m → b < w.heap.size) ∧ ∀ j, j < n → ∀ i, i < m → w.cell? ⟨b, off + j * m + i, none⟩ = some (.int .i64 ((rs.getD j []).getD i 0)))
theorem Recs.nil (w : World) (m : Nat) : Recs w none 0 0 m [] := ⟨rfl, Nat.le_refl _, Nat.zero_le _, fun _ => rfl, (fun _ h => by cases h), fun h => by omega⟩
theorem Recs.below {w w' : World} {n c m : Nat} {a : Option Addr} {rs : List (List Int)} (h : Recs w a n c m rs) (hb : Below w.heap.size w w') : Recs w' a n c m rs := by
  obtain ⟨h1, h2, h3, h4, h6, h5⟩ := h
  refine ⟨h1, h2, h3, h4, h6, fun h0 => ?_⟩
  obtain ⟨b, off, rfl, hlt, hc⟩ := h5 h0
  exact ⟨b, off, rfl, fun hm => Nat.lt_of_lt_of_le (hlt hm) hb.size, fun j hj i hi => (hb.cell (p := ⟨b, off + j * m + i, none⟩) (hlt (by omega))).trans (hc j hj i hi)⟩
theorem Recs.fits {w : World} {n c m j i : Nat} {a : Option Addr} {rs : List (List Int)} (h : Recs w a n c m rs) (hj : j < n) (hi : i < m) : Fits ((rs.getD j []).getD i 0) := by
  have hj' : j < rs.length := by rw [h.1]; exact hj
  obtain ⟨h1, h2⟩ := h.2.2.2.2.1 _ (List.getElem_mem hj')
  have e : rs.getD j [] = rs[j] := by simp [List.getD, hj']
  rw [e, List.getD_eq_getElem?_getD, List.getElem?_eq_getElem (by omega)]
  exact h2 _ (List.getElem_mem _)
theorem recs_open {H : Type} {enc : TypeId × Value → H} {W : World} {fuel n c : Nat} {a : Option Addr} {x : DataW H × List MemPlace} {t e : TypeId} {fs : Array Field} (m : Nat) (hm0 : 0 < m) (ht : Tryz.prog.underlying t = some (.slice e)) (he : Tryz.prog.underlying e = some (.struct fs)) (ce : Tryz.prog.cellsOf e = m) (hm : fs.size = m)
    (hf : ∀ i (h : i < fs.size), fs[i].offset = i ∧ Tryz.prog.cellsOf fs[i].type = 1 ∧ Tryz.prog.underlying fs[i].type = some (.int .i64))
    (h : DataW.trod enc Tryz.prog W 0 (fun _ => true) true fuel t [.slice a n c] = some x) : ∃ rs, Recs W a n c m rs := by
  rcases open_slice ht h with ⟨h0, _⟩ | ⟨a0, len, cap, M, N, D, Pl, h1, _, hl, hmx, hM, _, hx⟩
  · simp at h0
    obtain ⟨rfl, rfl, rfl⟩ := h0
    exact ⟨[], Recs.nil W m⟩
  · simp at h1
    obtain ⟨rfl, rfl, rfl⟩ := h1
    have hMc : M = c := by rw [hM]; simp
    rw [ce] at hx
    have each : ∀ j, j < n → ∃ r : List Int, r.length = m ∧ (∀ z ∈ r, Fits z) ∧ ∀ i, i < m → W.cell? ((a0.add (j * m)).add i) = some (.int .i64 (r.getD i 0)) := by
      intro j hj
      obtain ⟨cs', h1, h2⟩ := hx j (by omega)
      obtain ⟨_, hlen, hcell⟩ := World.cells?_some h1
      obtain ⟨xs, k, _, _, _, hxl, hff⟩ := DataW.trod_struct he h2
      have one : ∀ i, i < m → ∃ z : Int, W.cell? ((a0.add (j * m)).add i) = some (.int .i64 z) ∧ Fits z := by
        intro i hi
        obtain ⟨o1, o2, o3⟩ := hf i (by omega)
        have g := hff i fs[i] (by simp [show i < fs.size by omega])
        rw [o1, o2] at g
        have hi' : i < cs'.length := by omega
        have e1 : (cs'.drop i).take 1 = [cs'[i]] := by
          rw [List.drop_eq_getElem_cons hi']
          rfl
        rw [e1, List.getElem?_eq_getElem (by omega)] at g
        obtain ⟨z, e2, _, hw⟩ := DataW.trod_int o3 g
        simp at e2
        have e0 := hcell i (by omega)
        refine ⟨z, ?_, wf_fits hw⟩
        rw [e0]
        simp [hi', e2]
      obtain ⟨f, hf1⟩ := choose_lt one
      refine ⟨(List.range m).map f, by simp, fun z hz => ?_, fun i hi => ?_⟩
      · obtain ⟨i, hi, rfl⟩ := List.mem_map.1 hz
        exact (hf1 i (List.mem_range.1 hi)).2
      · rw [(hf1 i hi).1]
        simp [List.getD, hi]
    obtain ⟨g, hg⟩ := choose_lt each
    refine ⟨(List.range n).map g, by simp, hl, hmx, (fun e => by cases e), fun r hr => ?_, fun h0 => ?_⟩
    · obtain ⟨j, hj, rfl⟩ := List.mem_map.1 hr
      obtain ⟨q1, q2, _⟩ := hg j (List.mem_range.1 hj)
      exact ⟨q1, q2⟩
    · obtain ⟨b, off, spot⟩ := a0
      have hc0 := (hg 0 (by omega)).2.2 0 hm0
      have hspot : spot = none := by simpa [Addr.add] using World.cell?_spot hc0
      subst hspot
      have ad : ∀ o k : Nat, (⟨b, o, none⟩ : Addr).add k = ⟨b, o + k, none⟩ := fun o k => by simp [Addr.add]
      refine ⟨b, off, rfl, fun _ => by simpa [Addr.add] using World.block_lt_of_cell? W _ hc0, fun j hj i hi => ?_⟩
      have := (hg j hj).2.2 i hi
      rw [ad, ad] at this
      rw [this]
      simp [List.getD, hj]
end Go.Proofs.YtcmdpmialehjgaaGreatDoor
