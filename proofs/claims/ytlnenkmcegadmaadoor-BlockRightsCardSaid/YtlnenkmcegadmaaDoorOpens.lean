/- How slices of bytes and sums that came in are opened. What the listed variable gives the walks: the constants of the rounds lie at their block. How a sum that came in is opened, where the listed variables are laid. Arguments that are slices of numbers of 64 bits, and slices of records of such numbers, opened. No function of the program is named. Fields of arguments that are structs: numbers, slices of bytes. No function of the program is named. -/
import Derived.Test.YtlnenkmcegadmaaDoorMemory
import Derived.Deep.Matrix
import Derived.Deep.SlicePairs
import Derived.ProofKit
import Derived.OpenShut
import Derived.LaidMore
import Derived.Test.YtlnenkmcegadmaaDoorRows
import Derived.Test.YtlnenkmcegadmaaDoorSha
import Derived.MakeChecks
import Derived.Stop.Joined
import Derived.Test.YtlnenkmcegadmaaDoorNumbers
import Derived.Deep.Slices
namespace Go.Proofs.YtlnenkmcegadmaaDoor
open Go.ChangeShapes Go.WideShapes Go.ChangeAt Go.RowKit Go.Deep
/-- A slice of integers that came in: it is nil; or it leads to a row of 'cap' cells, the numbers 'zs', each fitting its kind. -/
def IsRow (k : IntKind) (w : World) (a : Option Addr) (len cap : Nat) (zs : List Int) : Prop :=
  (a = none ∧ len = 0 ∧ cap = 0 ∧ zs = []) ∨
  ∃ x, a = some x ∧ len ≤ cap ∧ cap ≤ maxLen ∧ zs.length = cap ∧ (∀ i, i < zs.length → w.cell? (x.add i) = some (.int k (zs.getD i 0))) ∧ ∀ n ∈ zs, (Lit.int k n).wf = true
theorem wf_u8 {n : Int} (h : (Lit.int .u8 n).wf = true) : 0 ≤ n ∧ n < 256 := by
  have h1 : IntKind.u8.min = 0 := by decide
  have h2 : IntKind.u8.max = 255 := by decide
  simp [Lit.wf, h1, h2] at h
  omega
theorem isRow_row {w : World} {a : Option Addr} {n c : Nat} {zs : List Int} (h : IsRow .u8 w a n c zs) : ∃ l, Row w a n c l := by
  rcases h with ⟨rfl, rfl, rfl, rfl⟩ | ⟨x, rfl, hl, hm, hz, hcell, hwf⟩
  · exact ⟨[], Row.nil w⟩
  · refine ⟨(zs.take n).map (fun z => UInt8.ofNat z.toNat), by simp; omega, hl, hm, (fun e => by cases e), fun h0 => ?_⟩
    obtain ⟨b, off, spot⟩ := x
    have hspot : spot = none := by simpa [Addr.add] using World.cell?_spot (hcell 0 (by omega))
    subst hspot
    have hc0 := hcell 0 (by omega)
    refine ⟨b, off, rfl, by simpa [Addr.add] using World.block_lt_of_cell? w _ hc0, fun j hj => ?_⟩
    have e1 : (⟨b, off, none⟩ : Addr).add j = ⟨b, off + j, none⟩ := by simp [Addr.add]
    have hjz : j < zs.length := by omega
    have := hcell j hjz
    rw [e1] at this
    rw [this]
    have hw := wf_u8 (hwf _ (List.getElem_mem hjz))
    have e2 : zs.getD j 0 = zs[j] := by simp [List.getD, hjz]
    have e3 : ((zs.take n).map (fun z => UInt8.ofNat z.toNat)).getD j 0 = UInt8.ofNat zs[j].toNat := by simp [List.getD, hj, hjz]
    rw [e2, e3, UInt8.toNat_ofNat']
    congr 2
    omega
theorem okWide_array {P : Program} {w : World} {r : Reach} {base : Nat} {t e : TypeId} {n : Nat} {v : Value} (ht : P.underlying t = some (.array n e)) (h : Value.okWide P w r base t v) : ∃ cs, v = .agg cs ∧ cs.size = P.cellsOf t := by
  simp only [Value.okWide, ht] at h
  obtain ⟨cs, h1, h2, _⟩ := h
  exact ⟨cs, h1, h2⟩
theorem byte_of {n : Int} (h : (Lit.int .u8 n).wf = true) : ∃ b : UInt8, b.toNat = n.toNat ∧ ((n.toNat : Nat) : Int) = n := by
  have := wf_u8 h
  exact ⟨UInt8.ofNat n.toNat, by rw [UInt8.toNat_ofNat']; omega, by omega⟩
theorem cellsSum : Tryd.prog.cellsOf 23 = 32 := by kernel_rfl
/-- An array of 32 bytes that came in. -/
theorem sum_open {H : Type} {enc : TypeId × Value → H} {W : World} {fuel : Nat} {cs : Array Value} {x : DataW H × List MemPlace} (hsz : cs.size = 32)
    (h : DataW.trod enc Tryd.prog W 0 (fun _ => true) true fuel 23 cs.toList = some x) : ∃ s : List UInt8, s.length = 32 ∧ cs = (cellsOf s).toArray := by
  obtain ⟨xs, m, _, _, _, hxl, hf⟩ := DataW.trod_array Tryd.underlying23 h
  have each : ∀ i, i < 32 → ∃ b : UInt8, cs.toList[i]? = some (.int .u8 ((b.toNat : Nat) : Int)) := by
    intro i hi
    have h1 := hf i hi
    rw [Tryd.cells5, Nat.mul_one] at h1
    have hi' : i < cs.toList.length := by rw [Array.length_toList]; omega
    have e1 : (cs.toList.drop i).take 1 = [cs.toList[i]] := by
      rw [List.drop_eq_getElem_cons hi']
      rfl
    rw [e1] at h1
    have hx : xs[i]? = some (xs[i]'(by omega)) := List.getElem?_eq_getElem (by omega)
    obtain ⟨z, e2, _, hw⟩ := DataW.trod_int Tryd.underlying5 (h1.trans hx)
    have hw' := wf_u8 hw
    refine ⟨UInt8.ofNat z.toNat, ?_⟩
    rw [List.getElem?_eq_getElem hi']
    simp at e2
    rw [UInt8.toNat_ofNat']
    simp [e2]
    omega
  obtain ⟨f, hfb⟩ := choose_lt each
  refine ⟨(List.range 32).map f, by simp, ?_⟩
  apply Array.toList_inj.1
  apply List.ext_getElem?
  intro i
  by_cases hi : i < 32
  · rw [hfb i hi]
    simp [cellsOf, hi]
  · rw [List.getElem?_eq_none (by rw [Array.length_toList]; omega), List.getElem?_eq_none (by simp [cellsOf]; omega)]
end Go.Proofs.YtlnenkmcegadmaaDoor
namespace Go.Proofs.YtlnenkmcegadmaaDoor
open Go.ChangeShapes Go.WideShapes Go.ChangeAt Go.RowKit Go.Deep

def laidKs : List (String × DataW Unit) := [("bartizan/sha.constants", Rows.laid_bartizan_sha_constants)]
theorem gKs : Tryd.prog.globalNamed "bartizan/sha.constants" = some 0 := by kernel_rfl
theorem tKs : (Tryd.prog.globals[0]?).map (·.type) = some 124 := by kernel_rfl
theorem cells36 : Tryd.prog.cellsOf 89 = 1 := by kernel_rfl
theorem dKs : (Rows.laid_bartizan_sha_constants : DataW Unit) = .agg (ks.map fun x => .lit (.int .u32 (num x))) := by kernel_rfl
theorem ks_of_laid {W : World} (h : laidMetH Tryd.prog laidKs W) : KsAt W := by
  rw [MakeChecks.laidMetH_plain _ _ _ (by kernel_rfl)] at h
  obtain ⟨ps, ⟨g0, t0, cs0, f0, p0, q0, hg0, ht0, hv0, hd0, _, _⟩, _⟩ := h
  obtain rfl := Option.some.inj (gKs.symm.trans hg0)
  obtain rfl := Option.some.inj (tKs.symm.trans ht0)
  rw [dKs] at hd0
  obtain ⟨xs, m1, _, hx, hlen, hn, hel⟩ := DataW.trod_array Tryd.underlying124 hd0
  simp only [Prod.mk.injEq, DataW.agg.injEq] at hx
  intro i hi
  have h1 := hel i hi
  rw [cells36, Nat.mul_one] at h1
  have hil : i < cs0.toList.length := by
    rw [hlen, show Tryd.prog.cellsOf 124 = 64 by kernel_rfl]
    exact hi
  have e1 : (cs0.toList.drop i).take 1 = [cs0.toList[i]] := by
    rw [List.drop_eq_getElem_cons hil]
    rfl
  rw [e1] at h1
  have hxi : xs[i]? = some (xs[i]'(by omega)) := List.getElem?_eq_getElem (by omega)
  obtain ⟨z, e2, e3, _⟩ := DataW.trod_int Tryd.underlying89 (h1.trans hxi)
  have hk : (ks.map fun x => (DataW.lit (.int .u32 (num x)) : DataW Unit))[i]? = some (.lit (.int .u32 z)) := by
    rw [hx.1, List.getElem?_map, hxi, Option.map_some, e3]
  have hkl : i < ks.length := hi
  have hz : z = num (ks.getD i 0) := by
    rw [List.getElem?_map, List.getElem?_eq_getElem hkl] at hk
    simp only [Option.map_some, Option.some.injEq, DataW.lit.injEq, Lit.int.injEq, true_and] at hk
    rw [← hk]
    simp [List.getD, hkl]
  have hc := World.var?_cell hg0 hv0 i
  simp only [List.cons.injEq, and_true] at e2
  rw [hc, ← hz, ← e2]
  simp [Array.getElem?_eq_getElem (by simpa using hil : i < cs0.size)]

end Go.Proofs.YtlnenkmcegadmaaDoor
namespace Go.Proofs.YtlnenkmcegadmaaDoor
end Go.Proofs.YtlnenkmcegadmaaDoor
namespace Go.Proofs.YtlnenkmcegadmaaDoor
open Go.ChangeShapes Go.WideShapes Go.ChangeAt Go.RowKit Go.Deep

theorem wf_fits {n : Int} (h : (Lit.int .i64 n).wf = true) : Fits n := by
  have h1 : IntKind.i64.min = -9223372036854775808 := by decide
  have h2 : IntKind.i64.max = 9223372036854775807 := by decide
  simp [Lit.wf, h1, h2] at h
  unfold Fits
  omega
theorem numbers_open {H : Type} {enc : TypeId × Value → H} {W : World} {fuel n c : Nat} {a : Option Addr} {x : DataW H × List MemPlace} {t e : TypeId} (ht : Tryd.prog.underlying t = some (.slice e)) (he : Tryd.prog.underlying e = some (.int .i64)) (ce : Tryd.prog.cellsOf e = 1)
    (h : DataW.trod enc Tryd.prog W 0 (fun _ => true) true fuel t [.slice a n c] = some x) : ∃ zs, Numbers W a n c zs := by
  rcases open_ints ht he ce h with ⟨hcs, _⟩ | ⟨ad, l, cp, zs, hcs, _, hl, hm, hz, _, hcell, hwf⟩
  · simp at hcs
    obtain ⟨rfl, rfl, rfl⟩ := hcs
    exact ⟨[], Numbers.nil W⟩
  · simp at hcs
    obtain ⟨rfl, rfl, rfl⟩ := hcs
    have hzl : zs.length = c := by simpa using hz
    refine ⟨zs.take n, by simp; omega, hl, hm, (fun e => by cases e), fun z hz' => wf_fits (hwf z (List.mem_of_mem_take hz')), fun h0 => ?_⟩
    obtain ⟨b, off, spot⟩ := ad
    have hspot : spot = none := by simpa [Addr.add] using World.cell?_spot (hcell 0 (by omega))
    subst hspot
    have hc0 := hcell 0 (by omega)
    refine ⟨b, off, rfl, by simpa [Addr.add] using World.block_lt_of_cell? W _ hc0, fun j hj => ?_⟩
    have e1 : (⟨b, off, none⟩ : Addr).add j = ⟨b, off + j, none⟩ := by simp [Addr.add]
    have hjz : j < zs.length := by omega
    have := hcell j hjz
    rw [e1] at this
    rw [this]
    simp [List.getD, hj, hjz]
/-- A slice of records, each of m numbers. -/
def Recs (w : World) (a : Option Addr) (n c m : Nat) (rs : List (List Int)) : Prop :=
  rs.length = n ∧ n ≤ c ∧ c ≤ maxLen ∧ (a = none → c = 0) ∧ (∀ r ∈ rs, r.length = m ∧ ∀ z ∈ r, Fits z) ∧
  (0 < n → ∃ b off, a = some ⟨b, off, none⟩ ∧ (0 < m → b < w.heap.size) ∧ ∀ j, j < n → ∀ i, i < m → w.cell? ⟨b, off + j * m + i, none⟩ = some (.int .i64 ((rs.getD j []).getD i 0)))
theorem Recs.nil (w : World) (m : Nat) : Recs w none 0 0 m [] := ⟨rfl, Nat.le_refl _, Nat.zero_le _, fun _ => rfl, (fun _ h => by cases h), fun h => by omega⟩
theorem Recs.below {w w' : World} {n c m : Nat} {a : Option Addr} {rs : List (List Int)} (h : Recs w a n c m rs) (hb : Below w.heap.size w w') : Recs w' a n c m rs := by
  obtain ⟨h1, h2, h3, h4, h6, h5⟩ := h
  refine ⟨h1, h2, h3, h4, h6, fun h0 => ?_⟩
  obtain ⟨b, off, rfl, hlt, hc⟩ := h5 h0
  exact ⟨b, off, rfl, fun hm => Nat.lt_of_lt_of_le (hlt hm) hb.size, fun j hj i hi => (hb.cell (p := ⟨b, off + j * m + i, none⟩) (hlt (by omega))).trans (hc j hj i hi)⟩
theorem Recs.fits {w : World} {n c m j i : Nat} {a : Option Addr} {rs : List (List Int)} (h : Recs w a n c m rs) (hj : j < n) (hi : i < m) : Fits ((rs.getD j []).getD i 0) := by
  have hj' : j < rs.length := by rw [h.1]; exact hj
  obtain ⟨h1, h2⟩ := h.2.2.2.2.1 _ (List.getElem_mem hj')
  have e : rs.getD j [] = rs[j] := by simp [List.getD, hj']
  rw [e, List.getD_eq_getElem?_getD, List.getElem?_eq_getElem (by omega)]
  exact h2 _ (List.getElem_mem _)
theorem recs_open {H : Type} {enc : TypeId × Value → H} {W : World} {fuel n c : Nat} {a : Option Addr} {x : DataW H × List MemPlace} {t e : TypeId} {fs : Array Field} (m : Nat) (hm0 : 0 < m) (ht : Tryd.prog.underlying t = some (.slice e)) (he : Tryd.prog.underlying e = some (.struct fs)) (ce : Tryd.prog.cellsOf e = m) (hm : fs.size = m)
    (hf : ∀ i (h : i < fs.size), fs[i].offset = i ∧ Tryd.prog.cellsOf fs[i].type = 1 ∧ Tryd.prog.underlying fs[i].type = some (.int .i64))
    (h : DataW.trod enc Tryd.prog W 0 (fun _ => true) true fuel t [.slice a n c] = some x) : ∃ rs, Recs W a n c m rs := by
  rcases open_slice ht h with ⟨h0, _⟩ | ⟨a0, len, cap, M, N, D, Pl, h1, _, hl, hmx, hM, _, hx⟩
  · simp at h0
    obtain ⟨rfl, rfl, rfl⟩ := h0
    exact ⟨[], Recs.nil W m⟩
  · simp at h1
    obtain ⟨rfl, rfl, rfl⟩ := h1
    have hMc : M = c := by rw [hM]; simp
    rw [ce] at hx
    have each : ∀ j, j < n → ∃ r : List Int, r.length = m ∧ (∀ z ∈ r, Fits z) ∧ ∀ i, i < m → W.cell? ((a0.add (j * m)).add i) = some (.int .i64 (r.getD i 0)) := by
      intro j hj
      obtain ⟨cs', h1, h2⟩ := hx j (by omega)
      obtain ⟨_, hlen, hcell⟩ := World.cells?_some h1
      obtain ⟨xs, k, _, _, _, hxl, hff⟩ := DataW.trod_struct he h2
      have one : ∀ i, i < m → ∃ z : Int, W.cell? ((a0.add (j * m)).add i) = some (.int .i64 z) ∧ Fits z := by
        intro i hi
        obtain ⟨o1, o2, o3⟩ := hf i (by omega)
        have g := hff i fs[i] (by simp [show i < fs.size by omega])
        rw [o1, o2] at g
        have hi' : i < cs'.length := by omega
        have e1 : (cs'.drop i).take 1 = [cs'[i]] := by
          rw [List.drop_eq_getElem_cons hi']
          rfl
        rw [e1, List.getElem?_eq_getElem (by omega)] at g
        obtain ⟨z, e2, _, hw⟩ := DataW.trod_int o3 g
        simp at e2
        have e0 := hcell i (by omega)
        refine ⟨z, ?_, wf_fits hw⟩
        rw [e0]
        simp [hi', e2]
      obtain ⟨f, hf1⟩ := choose_lt one
      refine ⟨(List.range m).map f, by simp, fun z hz => ?_, fun i hi => ?_⟩
      · obtain ⟨i, hi, rfl⟩ := List.mem_map.1 hz
        exact (hf1 i (List.mem_range.1 hi)).2
      · rw [(hf1 i hi).1]
        simp [List.getD, hi]
    obtain ⟨g, hg⟩ := choose_lt each
    refine ⟨(List.range n).map g, by simp, hl, hmx, (fun e => by cases e), fun r hr => ?_, fun h0 => ?_⟩
    · obtain ⟨j, hj, rfl⟩ := List.mem_map.1 hr
      obtain ⟨q1, q2, _⟩ := hg j (List.mem_range.1 hj)
      exact ⟨q1, q2⟩
    · obtain ⟨b, off, spot⟩ := a0
      have hc0 := (hg 0 (by omega)).2.2 0 hm0
      have hspot : spot = none := by simpa [Addr.add] using World.cell?_spot hc0
      subst hspot
      have ad : ∀ o k : Nat, (⟨b, o, none⟩ : Addr).add k = ⟨b, o + k, none⟩ := fun o k => by simp [Addr.add]
      refine ⟨b, off, rfl, fun _ => by simpa [Addr.add] using World.block_lt_of_cell? W _ hc0, fun j hj i hi => ?_⟩
      have := (hg j hj).2.2 i hi
      rw [ad, ad] at this
      rw [this]
      simp [List.getD, hj]
end Go.Proofs.YtlnenkmcegadmaaDoor
namespace Go.Proofs.YtlnenkmcegadmaaDoor
open Go.ChangeShapes Go.WideShapes Go.ChangeAt Go.RowKit Go.Deep

theorem drop_split {α : Type} (l : List α) (i k : Nat) : l.drop i = (l.drop i).take k ++ l.drop (i + k) := by
  rw [← List.drop_drop]
  exact (List.take_append_drop k _).symm
theorem row_cells {H : Type} {enc : TypeId × Value → H} {W : World} {fuel : Nat} {cs : List Value} {x : DataW H × List MemPlace}
    (h : DataW.trod enc Tryd.prog W 0 (fun _ => true) true fuel 45 cs = some x) : ∃ a n c l, cs = [.slice a n c] ∧ Row W a n c l := by
  rcases open_ints Tryd.underlying45 Tryd.underlying5 (by kernel_rfl) h with ⟨hcs, _⟩ | ⟨x, l, c, zs, hcs, _, hl, hm, hz, _, hcell, hwz⟩
  · exact ⟨_, _, _, [], hcs, Row.nil W⟩
  · obtain ⟨q, hq⟩ := isRow_row (w := W) (a := some x) (n := l) (c := c) (zs := zs) (.inr ⟨_, rfl, hl, hm, by simpa using hz, hcell, hwz⟩)
    exact ⟨_, _, _, q, hcs, hq⟩
theorem int_cells {H : Type} {enc : TypeId × Value → H} {W : World} {fuel : Nat} {cs : List Value} {x : DataW H × List MemPlace} {t : TypeId} (ht : Tryd.prog.underlying t = some (.int .i64))
    (h : DataW.trod enc Tryd.prog W 0 (fun _ => true) true fuel t cs = some x) : ∃ z, cs = [.int .i64 z] ∧ Fits z := by
  obtain ⟨z, e, _, hw⟩ := DataW.trod_int ht h
  exact ⟨z, e, wf_fits hw⟩
theorem field_is {H : Type} {y : Option (DataW H × List MemPlace)} {xs : List (DataW H × List MemPlace)} {i : Nat} (hi : i < xs.length) (h : y = xs[i]?) : ∃ x, y = some x := ⟨xs[i], by rw [h, List.getElem?_eq_getElem hi]⟩
end Go.Proofs.YtlnenkmcegadmaaDoor
