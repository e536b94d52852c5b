/- How slices of bytes and sums that came in are opened. What the listed variable gives the walks: the constants of the rounds lie at their block. How a sum that came in is opened, where the listed variables are laid. Arguments that are slices of numbers of 64 bits, and slices of records of such numbers, opened. No function of the program is named. Fields of arguments that are structs: numbers, slices of bytes. No function of the program is named. Places that are parts of arguments, opened. No function of the program is named. -/
import Derived.Test.YteddkkcheaghaaaGreatDoorMemory
import Derived.Deep.Matrix
import Derived.Deep.SlicePairs
import Derived.ProofKit
import Derived.OpenShut
import Derived.LaidMore
import Derived.Test.YteddkkcheaghaaaGreatDoorRows
import Derived.Test.YteddkkcheaghaaaGreatDoorSha
import Derived.MakeChecks
import Derived.Stop.Joined
import Derived.Test.YteddkkcheaghaaaGreatDoorNumbers
import Derived.Deep.Slices
namespace Go.Proofs.YteddkkcheaghaaaGreatDoor
open Go.ChangeShapes Go.WideShapes Go.ChangeAt Go.RowKit Go.Deep
/-- A slice of integers that came in: it is nil; or it leads to a row of 'cap' cells, the numbers 'zs', each fitting its kind. -/
def IsRow (k : IntKind) (w : World) (a : Option Addr) (len cap : Nat) (zs : List Int) : Prop :=
  (a = none ∧ len = 0 ∧ cap = 0 ∧ zs = []) ∨
  ∃ x, a = some x ∧ len ≤ cap ∧ cap ≤ maxLen ∧ zs.length = cap ∧ (∀ i, i < zs.length → w.cell? (x.add i) = some (.int k (zs.getD i 0))) ∧ ∀ n ∈ zs, (Lit.int k n).wf = true
theorem wf_u8 {n : Int} (h : (Lit.int .u8 n).wf = true) : 0 ≤ n ∧ n < 256 := by
  have h1 : IntKind.u8.min = 0 := by decide
  have h2 : IntKind.u8.max = 255 := by decide
  simp [Lit.wf, h1, h2] at h
  omega
theorem isRow_row {w : World} {a : Option Addr} {n c : Nat} {zs : List Int} (h : IsRow .u8 w a n c zs) : ∃ l, Row w a n c l := by
  rcases h with ⟨rfl, rfl, rfl, rfl⟩ | ⟨x, rfl, hl, hm, hz, hcell, hwf⟩
  · exact ⟨[], Row.nil w⟩
  · refine ⟨(zs.take n).map (fun z => UInt8.ofNat z.toNat), by simp; omega, hl, hm, (fun e => by cases e), fun h0 => ?_⟩
    obtain ⟨b, off, spot⟩ := x
    have hspot : spot = none := by simpa [Addr.add] using World.cell?_spot (hcell 0 (by omega))
    subst hspot
    have hc0 := hcell 0 (by omega)
    refine ⟨b, off, rfl, by simpa [Addr.add] using World.block_lt_of_cell? w _ hc0, fun j hj => ?_⟩
    have e1 : (⟨b, off, none⟩ : Addr).add j = ⟨b, off + j, none⟩ := by simp [Addr.add]
    have hjz : j < zs.length := by omega
    have := hcell j hjz
    rw [e1] at this
    rw [this]
    have hw := wf_u8 (hwf _ (List.getElem_mem hjz))
    have e2 : zs.getD j 0 = zs[j] := by simp [List.getD, hjz]
    have e3 : ((zs.take n).map (fun z => UInt8.ofNat z.toNat)).getD j 0 = UInt8.ofNat zs[j].toNat := by simp [List.getD, hj, hjz]
    rw [e2, e3, UInt8.toNat_ofNat']
    congr 2
    omega
/-- An array of 32 bytes that came in. -/
theorem sum_open {H : Type} {enc : TypeId × Value → H} {W : World} {fuel : Nat} {cs : Array Value} {x : DataW H × List MemPlace} (hsz : cs.size = 32)
    (h : DataW.trod enc Tryz.prog W 0 (fun _ => true) true fuel 28 cs.toList = some x) : ∃ s : List UInt8, s.length = 32 ∧ cs = (cellsOf s).toArray := by
  obtain ⟨xs, m, _, _, _, hxl, hf⟩ := DataW.trod_array Tryz.underlying28 h
  have each : ∀ i, i < 32 → ∃ b : UInt8, cs.toList[i]? = some (.int .u8 ((b.toNat : Nat) : Int)) := by
    intro i hi
    have h1 := hf i hi
    rw [Tryz.cells5, Nat.mul_one] at h1
    have hi' : i < cs.toList.length := by rw [Array.length_toList]; omega
    have e1 : (cs.toList.drop i).take 1 = [cs.toList[i]] := by
      rw [List.drop_eq_getElem_cons hi']
      rfl
    rw [e1] at h1
    have hx : xs[i]? = some (xs[i]'(by omega)) := List.getElem?_eq_getElem (by omega)
    obtain ⟨z, e2, _, hw⟩ := DataW.trod_int Tryz.underlying5 (h1.trans hx)
    have hw' := wf_u8 hw
    refine ⟨UInt8.ofNat z.toNat, ?_⟩
    rw [List.getElem?_eq_getElem hi']
    simp at e2
    rw [UInt8.toNat_ofNat']
    simp [e2]
    omega
  obtain ⟨f, hfb⟩ := choose_lt each
  refine ⟨(List.range 32).map f, by simp, ?_⟩
  apply Array.toList_inj.1
  apply List.ext_getElem?
  intro i
  by_cases hi : i < 32
  · rw [hfb i hi]
    simp [cellsOf, hi]
  · rw [List.getElem?_eq_none (by rw [Array.length_toList]; omega), List.getElem?_eq_none (by simp [cellsOf]; omega)]
end Go.Proofs.YteddkkcheaghaaaGreatDoor
namespace Go.Proofs.YteddkkcheaghaaaGreatDoor
open Go.ChangeShapes Go.WideShapes Go.ChangeAt Go.RowKit Go.Deep

def laidKs : List (String × DataW Unit) := [("bartizan/sha.constants", Rows.laid_bartizan_sha_constants)]
theorem gKs : Tryz.prog.globalNamed "bartizan/sha.constants" = some 0 := by kernel_rfl
theorem tKs : (Tryz.prog.globals[0]?).map (·.type) = some 291 := by kernel_rfl
theorem cells36 : Tryz.prog.cellsOf 211 = 1 := by kernel_rfl
theorem dKs : (Rows.laid_bartizan_sha_constants : DataW Unit) = .agg (ks.map fun x => .lit (.int .u32 (num x))) := by kernel_rfl
theorem ks_of_laid {W : World} (h : laidMetH Tryz.prog laidKs W) : KsAt W := by
  rw [MakeChecks.laidMetH_plain _ _ _ (by kernel_rfl)] at h
  obtain ⟨ps, ⟨g0, t0, cs0, f0, p0, q0, hg0, ht0, hv0, hd0, _, _⟩, _⟩ := h
  obtain rfl := Option.some.inj (gKs.symm.trans hg0)
  obtain rfl := Option.some.inj (tKs.symm.trans ht0)
  rw [dKs] at hd0
  obtain ⟨xs, m1, _, hx, hlen, hn, hel⟩ := DataW.trod_array Tryz.underlying291 hd0
  simp only [Prod.mk.injEq, DataW.agg.injEq] at hx
  intro i hi
  have h1 := hel i hi
  rw [cells36, Nat.mul_one] at h1
  have hil : i < cs0.toList.length := by
    rw [hlen, show Tryz.prog.cellsOf 291 = 64 by kernel_rfl]
    exact hi
  have e1 : (cs0.toList.drop i).take 1 = [cs0.toList[i]] := by
    rw [List.drop_eq_getElem_cons hil]
    rfl
  rw [e1] at h1
  have hxi : xs[i]? = some (xs[i]'(by omega)) := List.getElem?_eq_getElem (by omega)
  obtain ⟨z, e2, e3, _⟩ := DataW.trod_int Tryz.underlying211 (h1.trans hxi)
  have hk : (ks.map fun x => (DataW.lit (.int .u32 (num x)) : DataW Unit))[i]? = some (.lit (.int .u32 z)) := by
    rw [hx.1, List.getElem?_map, hxi, Option.map_some, e3]
  have hkl : i < ks.length := hi
  have hz : z = num (ks.getD i 0) := by
    rw [List.getElem?_map, List.getElem?_eq_getElem hkl] at hk
    simp only [Option.map_some, Option.some.injEq, DataW.lit.injEq, Lit.int.injEq, true_and] at hk
    rw [← hk]
    simp [List.getD, hkl]
  have hc := World.var?_cell hg0 hv0 i
  simp only [List.cons.injEq, and_true] at e2
  rw [hc, ← hz, ← e2]
  simp [Array.getElem?_eq_getElem (by simpa using hil : i < cs0.size)]

end Go.Proofs.YteddkkcheaghaaaGreatDoor
namespace Go.Proofs.YteddkkcheaghaaaGreatDoor
end Go.Proofs.YteddkkcheaghaaaGreatDoor
namespace Go.Proofs.YteddkkcheaghaaaGreatDoor
open Go.ChangeShapes Go.WideShapes Go.ChangeAt Go.RowKit Go.Deep

theorem wf_fits {n : Int} (h : (Lit.int .i64 n).wf = true) : Fits n := by
  have h1 : IntKind.i64.min = -9223372036854775808 := by decide
  have h2 : IntKind.i64.max = 9223372036854775807 := by decide
  simp [Lit.wf, h1, h2] at h
  unfold Fits
  omega
/-- A slice of records, each of m numbers. -/
def Recs (w : World) (a : Option Addr) (n c m : Nat) (rs : List (List Int)) : Prop :=
  rs.length = n ∧ n ≤ c ∧ c ≤ maxLen ∧ (a = none → c = 0) ∧ (∀ r ∈ rs, r.length = m ∧ ∀ z ∈ r, Fits z) ∧
  (0 < n → ∃ b off, a = some ⟨b, off, none⟩ ∧ (0 < m → b < w.heap.size) ∧ ∀ j, j < n → ∀ i, i < m → w.cell? ⟨b, off + j * m + i, none⟩ = some (.int .i64 ((rs.getD j []).getD i 0)))
theorem Recs.nil (w : World) (m : Nat) : Recs w none 0 0 m [] := ⟨rfl, Nat.le_refl _, Nat.zero_le _, fun _ => rfl, (fun _ h => by cases h), fun h => by omega⟩
theorem Recs.below {w w' : World} {n c m : Nat} {a : Option Addr} {rs : List (List Int)} (h : Recs w a n c m rs) (hb : Below w.heap.size w w') : Recs w' a n c m rs := by
  obtain ⟨h1, h2, h3, h4, h6, h5⟩ := h
  refine ⟨h1, h2, h3, h4, h6, fun h0 => ?_⟩
  obtain ⟨b, off, rfl, hlt, hc⟩ := h5 h0
  exact ⟨b, off, rfl, fun hm => Nat.lt_of_lt_of_le (hlt hm) hb.size, fun j hj i hi => (hb.cell (p := ⟨b, off + j * m + i, none⟩) (hlt (by omega))).trans (hc j hj i hi)⟩
end Go.Proofs.YteddkkcheaghaaaGreatDoor
namespace Go.Proofs.YteddkkcheaghaaaGreatDoor
open Go.ChangeShapes Go.WideShapes Go.ChangeAt Go.RowKit Go.Deep

theorem drop_split {α : Type} (l : List α) (i k : Nat) : l.drop i = (l.drop i).take k ++ l.drop (i + k) := by
  rw [← List.drop_drop]
  exact (List.take_append_drop k _).symm
theorem int_cells {H : Type} {enc : TypeId × Value → H} {W : World} {fuel : Nat} {cs : List Value} {x : DataW H × List MemPlace} {t : TypeId} (ht : Tryz.prog.underlying t = some (.int .i64))
    (h : DataW.trod enc Tryz.prog W 0 (fun _ => true) true fuel t cs = some x) : ∃ z, cs = [.int .i64 z] ∧ Fits z := by
  obtain ⟨z, e, _, hw⟩ := DataW.trod_int ht h
  exact ⟨z, e, wf_fits hw⟩
theorem field_is {H : Type} {y : Option (DataW H × List MemPlace)} {xs : List (DataW H × List MemPlace)} {i : Nat} (hi : i < xs.length) (h : y = xs[i]?) : ∃ x, y = some x := ⟨xs[i], by rw [h, List.getElem?_eq_getElem hi]⟩
end Go.Proofs.YteddkkcheaghaaaGreatDoor
namespace Go.Proofs.YteddkkcheaghaaaGreatDoor
open Go.ChangeShapes Go.WideShapes Go.ChangeAt Go.RowKit Go.Deep

theorem ref_cells {H : Type} {enc : TypeId × Value → H} {W : World} {fuel : Nat} {cs : List Value} {x : DataW H × List MemPlace}
    (h : DataW.trod enc Tryz.prog W 0 (fun _ => true) true fuel 71 cs = some x) : ∃ s z, s.length = 32 ∧ Fits z ∧ cs = cellsOf s ++ [.int .i64 z] := by
  obtain ⟨xs, k, _, _, hl, hxl, hf⟩ := DataW.trod_struct Tryz.underlying71 h
  replace hl : cs.length = 33 := by rw [hl]; kernel_rfl
  replace hxl : xs.length = 2 := hxl
  obtain ⟨y0, h0⟩ := field_is (y := DataW.trod enc Tryz.prog W 0 (fun _ => true) true k 28 ((cs.drop 0).take (Tryz.prog.cellsOf 28))) (by omega) (hf 0 _ rfl)
  rw [show Tryz.prog.cellsOf 28 = 32 from by kernel_rfl] at h0
  obtain ⟨y1, h1⟩ := field_is (y := DataW.trod enc Tryz.prog W 0 (fun _ => true) true k 3 ((cs.drop 32).take (Tryz.prog.cellsOf 3))) (by omega) (hf 1 _ rfl)
  rw [show Tryz.prog.cellsOf 3 = 1 from by kernel_rfl] at h1
  obtain ⟨s0, g0, e0⟩ := sum_open (cs := ((cs.drop 0).take 32).toArray) (by simp; omega) h0
  replace e0 : (cs.drop 0).take 32 = cellsOf s0 := by simpa using e0
  obtain ⟨z1, e1, g1⟩ := int_cells Tryz.underlying3 h1
  refine ⟨s0, z1, g0, g1, ?_⟩
  have t0 := drop_split cs 0 32
  have t1 := drop_split cs 32 1
  have tl : cs.drop 33 = [] := List.drop_of_length_le (by omega)
  rw [List.drop_zero] at t0 e0
  rw [t0, e0, show (0 : Nat) + 32 = 32 from rfl, t1, e1, show (32 : Nat) + 1 = 33 from rfl, tl]
  simp
end Go.Proofs.YteddkkcheaghaaaGreatDoor
