/- How slices of bytes and sums that came in are opened. What the listed variable gives the walks: the constants of the rounds lie at their block. How a sum that came in is opened, where the listed variables are laid. Arguments that are slices of numbers of 64 bits, and slices of records of such numbers, opened. No function of the program is named. Fields of arguments that are structs: numbers, slices of bytes. No function of the program is named. A slice of things of a kind that came in as an argument. No function of the program is named. Places that are parts of arguments, opened. No function of the program is named. Ways, outs and tries that came in as arguments, opened. No function of the program is named. Channels, and states of channels, that came in as arguments, opened. No function of the program is named. Transactions that came in as arguments, opened. No function of the program is named. Receipts, and ones that are signed, that came in as arguments, opened. No function of the program is named. Proofs and facts that came in as arguments, opened. No function of the program is named. -/
import Derived.Test.YtcmdpmialehjgaaGreatDoorMemory
import Derived.Deep.Matrix
import Derived.Deep.SlicePairs
import Derived.ProofKit
import Derived.OpenShut
import Derived.LaidMore
import Derived.Test.YtcmdpmialehjgaaGreatDoorRows
import Derived.Test.YtcmdpmialehjgaaGreatDoorSha
import Derived.MakeChecks
import Derived.Stop.Joined
import Derived.Test.YtcmdpmialehjgaaGreatDoorNumbers
import Derived.Deep.Slices
import Derived.Test.YtcmdpmialehjgaaGreatDoorSliceOf
import Derived.Test.YtcmdpmialehjgaaGreatDoorLock
import Derived.Test.YtcmdpmialehjgaaGreatDoorCommit
import Derived.Test.YtcmdpmialehjgaaGreatDoorTx
import Derived.Test.YtcmdpmialehjgaaGreatDoorRecMem
import Derived.Test.YtcmdpmialehjgaaGreatDoorPrfMem
namespace Go.Proofs.YtcmdpmialehjgaaGreatDoor
open Go.ChangeShapes Go.WideShapes Go.ChangeAt Go.RowKit Go.Deep
/-- A slice of integers that came in: it is nil; or it leads to a row of 'cap' cells, the numbers 'zs', each fitting its kind. -/
def IsRow (k : IntKind) (w : World) (a : Option Addr) (len cap : Nat) (zs : List Int) : Prop :=
  (a = none ∧ len = 0 ∧ cap = 0 ∧ zs = []) ∨
  ∃ x, a = some x ∧ len ≤ cap ∧ cap ≤ maxLen ∧ zs.length = cap ∧ (∀ i, i < zs.length → w.cell? (x.add i) = some (.int k (zs.getD i 0))) ∧ ∀ n ∈ zs, (Lit.int k n).wf = true
theorem wf_u8 {n : Int} (h : (Lit.int .u8 n).wf = true) : 0 ≤ n ∧ n < 256 := by
  have h1 : IntKind.u8.min = 0 := by decide
  have h2 : IntKind.u8.max = 255 := by decide
  simp [Lit.wf, h1, h2] at h
  omega
theorem isRow_row {w : World} {a : Option Addr} {n c : Nat} {zs : List Int} (h : IsRow .u8 w a n c zs) : ∃ l, Row w a n c l := by
  rcases h with ⟨rfl, rfl, rfl, rfl⟩ | ⟨x, rfl, hl, hm, hz, hcell, hwf⟩
  · exact ⟨[], Row.nil w⟩
  · refine ⟨(zs.take n).map (fun z => UInt8.ofNat z.toNat), by simp; omega, hl, hm, (fun e => by cases e), fun h0 => ?_⟩
    obtain ⟨b, off, spot⟩ := x
    have hspot : spot = none := by simpa [Addr.add] using World.cell?_spot (hcell 0 (by omega))
    subst hspot
    have hc0 := hcell 0 (by omega)
    refine ⟨b, off, rfl, by simpa [Addr.add] using World.block_lt_of_cell? w _ hc0, fun j hj => ?_⟩
    have e1 : (⟨b, off, none⟩ : Addr).add j = ⟨b, off + j, none⟩ := by simp [Addr.add]
    have hjz : j < zs.length := by omega
    have := hcell j hjz
    rw [e1] at this
    rw [this]
    have hw := wf_u8 (hwf _ (List.getElem_mem hjz))
    have e2 : zs.getD j 0 = zs[j] := by simp [List.getD, hjz]
    have e3 : ((zs.take n).map (fun z => UInt8.ofNat z.toNat)).getD j 0 = UInt8.ofNat zs[j].toNat := by simp [List.getD, hj, hjz]
    rw [e2, e3, UInt8.toNat_ofNat']
    congr 2
    omega
theorem okWide_array {P : Program} {w : World} {r : Reach} {base : Nat} {t e : TypeId} {n : Nat} {v : Value} (ht : P.underlying t = some (.array n e)) (h : Value.okWide P w r base t v) : ∃ cs, v = .agg cs ∧ cs.size = P.cellsOf t := by
  simp only [Value.okWide, ht] at h
  obtain ⟨cs, h1, h2, _⟩ := h
  exact ⟨cs, h1, h2⟩
theorem cellsSum : Tryz.prog.cellsOf 23 = 32 := by kernel_rfl
/-- An array of 32 bytes that came in. -/
theorem sum_open {H : Type} {enc : TypeId × Value → H} {W : World} {fuel : Nat} {cs : Array Value} {x : DataW H × List MemPlace} (hsz : cs.size = 32)
    (h : DataW.trod enc Tryz.prog W 0 (fun _ => true) true fuel 23 cs.toList = some x) : ∃ s : List UInt8, s.length = 32 ∧ cs = (cellsOf s).toArray := by
  obtain ⟨xs, m, _, _, _, hxl, hf⟩ := DataW.trod_array Tryz.underlying23 h
  have each : ∀ i, i < 32 → ∃ b : UInt8, cs.toList[i]? = some (.int .u8 ((b.toNat : Nat) : Int)) := by
    intro i hi
    have h1 := hf i hi
    rw [Tryz.cells5, Nat.mul_one] at h1
    have hi' : i < cs.toList.length := by rw [Array.length_toList]; omega
    have e1 : (cs.toList.drop i).take 1 = [cs.toList[i]] := by
      rw [List.drop_eq_getElem_cons hi']
      rfl
    rw [e1] at h1
    have hx : xs[i]? = some (xs[i]'(by omega)) := List.getElem?_eq_getElem (by omega)
    obtain ⟨z, e2, _, hw⟩ := DataW.trod_int Tryz.underlying5 (h1.trans hx)
    have hw' := wf_u8 hw
    refine ⟨UInt8.ofNat z.toNat, ?_⟩
    rw [List.getElem?_eq_getElem hi']
    simp at e2
    rw [UInt8.toNat_ofNat']
    simp [e2]
    omega
  obtain ⟨f, hfb⟩ := choose_lt each
  refine ⟨(List.range 32).map f, by simp, ?_⟩
  apply Array.toList_inj.1
  apply List.ext_getElem?
  intro i
  by_cases hi : i < 32
  · rw [hfb i hi]
    simp [cellsOf, hi]
  · rw [List.getElem?_eq_none (by rw [Array.length_toList]; omega), List.getElem?_eq_none (by simp [cellsOf]; omega)]
end Go.Proofs.YtcmdpmialehjgaaGreatDoor
namespace Go.Proofs.YtcmdpmialehjgaaGreatDoor
open Go.ChangeShapes Go.WideShapes Go.ChangeAt Go.RowKit Go.Deep

def laidKs : List (String × DataW Unit) := [("bartizan/sha.constants", Rows.laid_bartizan_sha_constants)]
theorem gKs : Tryz.prog.globalNamed "bartizan/sha.constants" = some 0 := by kernel_rfl
theorem tKs : (Tryz.prog.globals[0]?).map (·.type) = some 178 := by kernel_rfl
theorem cells36 : Tryz.prog.cellsOf 123 = 1 := by kernel_rfl
theorem dKs : (Rows.laid_bartizan_sha_constants : DataW Unit) = .agg (ks.map fun x => .lit (.int .u32 (num x))) := by kernel_rfl
theorem ks_of_laid {W : World} (h : laidMetH Tryz.prog laidKs W) : KsAt W := by
  rw [MakeChecks.laidMetH_plain _ _ _ (by kernel_rfl)] at h
  obtain ⟨ps, ⟨g0, t0, cs0, f0, p0, q0, hg0, ht0, hv0, hd0, _, _⟩, _⟩ := h
  obtain rfl := Option.some.inj (gKs.symm.trans hg0)
  obtain rfl := Option.some.inj (tKs.symm.trans ht0)
  rw [dKs] at hd0
  obtain ⟨xs, m1, _, hx, hlen, hn, hel⟩ := DataW.trod_array Tryz.underlying178 hd0
  simp only [Prod.mk.injEq, DataW.agg.injEq] at hx
  intro i hi
  have h1 := hel i hi
  rw [cells36, Nat.mul_one] at h1
  have hil : i < cs0.toList.length := by
    rw [hlen, show Tryz.prog.cellsOf 178 = 64 by kernel_rfl]
    exact hi
  have e1 : (cs0.toList.drop i).take 1 = [cs0.toList[i]] := by
    rw [List.drop_eq_getElem_cons hil]
    rfl
  rw [e1] at h1
  have hxi : xs[i]? = some (xs[i]'(by omega)) := List.getElem?_eq_getElem (by omega)
  obtain ⟨z, e2, e3, _⟩ := DataW.trod_int Tryz.underlying123 (h1.trans hxi)
  have hk : (ks.map fun x => (DataW.lit (.int .u32 (num x)) : DataW Unit))[i]? = some (.lit (.int .u32 z)) := by
    rw [hx.1, List.getElem?_map, hxi, Option.map_some, e3]
  have hkl : i < ks.length := hi
  have hz : z = num (ks.getD i 0) := by
    rw [List.getElem?_map, List.getElem?_eq_getElem hkl] at hk
    simp only [Option.map_some, Option.some.injEq, DataW.lit.injEq, Lit.int.injEq, true_and] at hk
    rw [← hk]
    simp [List.getD, hkl]
  have hc := World.var?_cell hg0 hv0 i
  simp only [List.cons.injEq, and_true] at e2
  rw [hc, ← hz, ← e2]
  simp [Array.getElem?_eq_getElem (by simpa using hil : i < cs0.size)]

end Go.Proofs.YtcmdpmialehjgaaGreatDoor
namespace Go.Proofs.YtcmdpmialehjgaaGreatDoor
end Go.Proofs.YtcmdpmialehjgaaGreatDoor
namespace Go.Proofs.YtcmdpmialehjgaaGreatDoor
open Go.ChangeShapes Go.WideShapes Go.ChangeAt Go.RowKit Go.Deep

theorem wf_fits {n : Int} (h : (Lit.int .i64 n).wf = true) : Fits n := by
  have h1 : IntKind.i64.min = -9223372036854775808 := by decide
  have h2 : IntKind.i64.max = 9223372036854775807 := by decide
  simp [Lit.wf, h1, h2] at h
  unfold Fits
  omega
theorem numbers_open {H : Type} {enc : TypeId × Value → H} {W : World} {fuel n c : Nat} {a : Option Addr} {x : DataW H × List MemPlace} {t e : TypeId} (ht : Tryz.prog.underlying t = some (.slice e)) (he : Tryz.prog.underlying e = some (.int .i64)) (ce : Tryz.prog.cellsOf e = 1)
    (h : DataW.trod enc Tryz.prog W 0 (fun _ => true) true fuel t [.slice a n c] = some x) : ∃ zs, Numbers W a n c zs := by
  rcases open_ints ht he ce h with ⟨hcs, _⟩ | ⟨ad, l, cp, zs, hcs, _, hl, hm, hz, _, hcell, hwf⟩
  · simp at hcs
    obtain ⟨rfl, rfl, rfl⟩ := hcs
    exact ⟨[], Numbers.nil W⟩
  · simp at hcs
    obtain ⟨rfl, rfl, rfl⟩ := hcs
    have hzl : zs.length = c := by simpa using hz
    refine ⟨zs.take n, by simp; omega, hl, hm, (fun e => by cases e), fun z hz' => wf_fits (hwf z (List.mem_of_mem_take hz')), fun h0 => ?_⟩
    obtain ⟨b, off, spot⟩ := ad
    have hspot : spot = none := by simpa [Addr.add] using World.cell?_spot (hcell 0 (by omega))
    subst hspot
    have hc0 := hcell 0 (by omega)
    refine ⟨b, off, rfl, by simpa [Addr.add] using World.block_lt_of_cell? W _ hc0, fun j hj => ?_⟩
    have e1 : (⟨b, off, none⟩ : Addr).add j = ⟨b, off + j, none⟩ := by simp [Addr.add]
    have hjz : j < zs.length := by omega
    have := hcell j hjz
    rw [e1] at this
    rw [this]
    simp [List.getD, hj, hjz]
/-- A slice of records, each of m numbers. -/
def Recs (w : World) (a : Option Addr) (n c m : Nat) (rs : List (List Int)) : Prop :=
  rs.length = n ∧ n ≤ c ∧ c ≤ maxLen ∧ (a = none → c = 0) ∧ (∀ r ∈ rs, r.length = m ∧ ∀ z ∈ r, Fits z) ∧
  (0 < n → ∃ b off, a = some ⟨b, off, none⟩ ∧ (0 < m → b < w.heap.size) ∧ ∀ j, j < n → ∀ i, i < m → w.cell? ⟨b, off + j * m + i, none⟩ = some (.int .i64 ((rs.getD j []).getD i 0)))
theorem Recs.nil (w : World) (m : Nat) : Recs w none 0 0 m [] := ⟨rfl, Nat.le_refl _, Nat.zero_le _, fun _ => rfl, (fun _ h => by cases h), fun h => by omega⟩
theorem Recs.below {w w' : World} {n c m : Nat} {a : Option Addr} {rs : List (List Int)} (h : Recs w a n c m rs) (hb : Below w.heap.size w w') : Recs w' a n c m rs := by
  obtain ⟨h1, h2, h3, h4, h6, h5⟩ := h
  refine ⟨h1, h2, h3, h4, h6, fun h0 => ?_⟩
  obtain ⟨b, off, rfl, hlt, hc⟩ := h5 h0
  exact ⟨b, off, rfl, fun hm => Nat.lt_of_lt_of_le (hlt hm) hb.size, fun j hj i hi => (hb.cell (p := ⟨b, off + j * m + i, none⟩) (hlt (by omega))).trans (hc j hj i hi)⟩
end Go.Proofs.YtcmdpmialehjgaaGreatDoor
namespace Go.Proofs.YtcmdpmialehjgaaGreatDoor
open Go.ChangeShapes Go.WideShapes Go.ChangeAt Go.RowKit Go.Deep

theorem drop_split {α : Type} (l : List α) (i k : Nat) : l.drop i = (l.drop i).take k ++ l.drop (i + k) := by
  rw [← List.drop_drop]
  exact (List.take_append_drop k _).symm
theorem row_cells {H : Type} {enc : TypeId × Value → H} {W : World} {fuel : Nat} {cs : List Value} {x : DataW H × List MemPlace}
    (h : DataW.trod enc Tryz.prog W 0 (fun _ => true) true fuel 26 cs = some x) : ∃ a n c l, cs = [.slice a n c] ∧ Row W a n c l := by
  rcases open_ints Tryz.underlying26 Tryz.underlying5 (by kernel_rfl) h with ⟨hcs, _⟩ | ⟨x, l, c, zs, hcs, _, hl, hm, hz, _, hcell, hwz⟩
  · exact ⟨_, _, _, [], hcs, Row.nil W⟩
  · obtain ⟨q, hq⟩ := isRow_row (w := W) (a := some x) (n := l) (c := c) (zs := zs) (.inr ⟨_, rfl, hl, hm, by simpa using hz, hcell, hwz⟩)
    exact ⟨_, _, _, q, hcs, hq⟩
theorem int_cells {H : Type} {enc : TypeId × Value → H} {W : World} {fuel : Nat} {cs : List Value} {x : DataW H × List MemPlace} {t : TypeId} (ht : Tryz.prog.underlying t = some (.int .i64))
    (h : DataW.trod enc Tryz.prog W 0 (fun _ => true) true fuel t cs = some x) : ∃ z, cs = [.int .i64 z] ∧ Fits z := by
  obtain ⟨z, e, _, hw⟩ := DataW.trod_int ht h
  exact ⟨z, e, wf_fits hw⟩
theorem field_is {H : Type} {y : Option (DataW H × List MemPlace)} {xs : List (DataW H × List MemPlace)} {i : Nat} (hi : i < xs.length) (h : y = xs[i]?) : ∃ x, y = some x := ⟨xs[i], by rw [h, List.getElem?_eq_getElem hi]⟩
end Go.Proofs.YtcmdpmialehjgaaGreatDoor
namespace Go.Proofs.YtcmdpmialehjgaaGreatDoor
open Go.ChangeShapes Go.WideShapes Go.ChangeAt Go.RowKit Go.Deep

theorem slice_cells {α : Type} {H : Type} {enc : TypeId × Value → H} {W : World} {K : Sort8 α} {ts t : TypeId} (hu : Tryz.prog.underlying ts = some (.slice t)) (hk : Tryz.prog.cellsOf t = K.size)
    (el : ∀ (fuel : Nat) (cs : List Value) (x : DataW H × List MemPlace), DataW.trod enc Tryz.prog W 0 (fun _ => true) true fuel t cs = some x → ∃ y, K.ok W y ∧ cs = K.cells y)
    {fuel : Nat} {cs : List Value} {x : DataW H × List MemPlace} (h : DataW.trod enc Tryz.prog W 0 (fun _ => true) true fuel ts cs = some x) : ∃ a n c ys, cs = [.slice a n c] ∧ SliceOf K W a n c ys := by
  haveI : Inhabited α := ⟨K.dflt⟩
  rcases open_slice hu h with ⟨h0, _⟩ | ⟨a0, n, c, M, N, D, Pl, h1, _, hl, hmx, hM, _, hx⟩
  · exact ⟨_, _, _, [], h0, SliceOf.nil K W⟩
  · have hMc : M = c := by rw [hM]; simp
    rw [hk] at hx
    have each : ∀ j, j < n → ∃ y : α, K.ok W y ∧ ∀ i v, (K.cells y)[i]? = some v → W.cell? ((a0.add (j * K.size)).add i) = some v := by
      intro j hj
      obtain ⟨cs', h1, h2⟩ := hx j (by omega)
      obtain ⟨_, hlen, hcell⟩ := World.cells?_some h1
      obtain ⟨y, hy, rfl⟩ := el _ _ _ h2
      refine ⟨y, hy, fun i v hi => ?_⟩
      have hi' := (List.getElem?_eq_some_iff.1 hi).1
      have e0 := hcell i (by omega)
      rw [e0]
      exact hi
    obtain ⟨g, hg⟩ := choose_lt each
    refine ⟨some a0, n, c, (List.range n).map g, h1, by simp, hl, hmx, (fun e => by cases e), fun y hy => ?_, fun h0 => ?_⟩
    · obtain ⟨j, hj, rfl⟩ := List.mem_map.1 hy
      exact (hg j (List.mem_range.1 hj)).1
    · obtain ⟨b, off, spot⟩ := a0
      have hl0 := K.len W (g 0) (hg 0 h0).1
      have hp := K.pos
      have hc0 := (hg 0 h0).2 0 _ (List.getElem?_eq_getElem (by omega))
      have hspot : spot = none := by simpa [Addr.add] using World.cell?_spot hc0
      subst hspot
      have ad : ∀ o k : Nat, (⟨b, o, none⟩ : Addr).add k = ⟨b, o + k, none⟩ := fun o k => by simp [Addr.add]
      refine ⟨b, off, rfl, by simpa [Addr.add] using World.block_lt_of_cell? W _ hc0, fun j hj i v hi => ?_⟩
      have e : ((List.range n).map g).getD j K.dflt = g j := by simp [List.getD, hj]
      rw [e] at hi
      have := (hg j hj).2 i v hi
      rw [ad, ad] at this
      exact this
end Go.Proofs.YtcmdpmialehjgaaGreatDoor
namespace Go.Proofs.YtcmdpmialehjgaaGreatDoor
open Go.ChangeShapes Go.WideShapes Go.ChangeAt Go.RowKit Go.Deep

theorem ref_cells {H : Type} {enc : TypeId × Value → H} {W : World} {fuel : Nat} {cs : List Value} {x : DataW H × List MemPlace}
    (h : DataW.trod enc Tryz.prog W 0 (fun _ => true) true fuel 47 cs = some x) : ∃ s z, s.length = 32 ∧ Fits z ∧ cs = cellsOf s ++ [.int .i64 z] := by
  obtain ⟨xs, k, _, _, hl, hxl, hf⟩ := DataW.trod_struct Tryz.underlying47 h
  replace hl : cs.length = 33 := by rw [hl]; kernel_rfl
  replace hxl : xs.length = 2 := hxl
  obtain ⟨y0, h0⟩ := field_is (y := DataW.trod enc Tryz.prog W 0 (fun _ => true) true k 23 ((cs.drop 0).take (Tryz.prog.cellsOf 23))) (by omega) (hf 0 _ rfl)
  rw [show Tryz.prog.cellsOf 23 = 32 from by kernel_rfl] at h0
  obtain ⟨y1, h1⟩ := field_is (y := DataW.trod enc Tryz.prog W 0 (fun _ => true) true k 3 ((cs.drop 32).take (Tryz.prog.cellsOf 3))) (by omega) (hf 1 _ rfl)
  rw [show Tryz.prog.cellsOf 3 = 1 from by kernel_rfl] at h1
  obtain ⟨s0, g0, e0⟩ := sum_open (cs := ((cs.drop 0).take 32).toArray) (by simp; omega) h0
  replace e0 : (cs.drop 0).take 32 = cellsOf s0 := by simpa using e0
  obtain ⟨z1, e1, g1⟩ := int_cells Tryz.underlying3 h1
  refine ⟨s0, z1, g0, g1, ?_⟩
  have t0 := drop_split cs 0 32
  have t1 := drop_split cs 32 1
  have tl : cs.drop 33 = [] := List.drop_of_length_le (by omega)
  rw [List.drop_zero] at t0 e0
  rw [t0, e0, show (0 : Nat) + 32 = 32 from rfl, t1, e1, show (32 : Nat) + 1 = 33 from rfl, tl]
  simp
end Go.Proofs.YtcmdpmialehjgaaGreatDoor
namespace Go.Proofs.YtcmdpmialehjgaaGreatDoor
open Go.ChangeShapes Go.WideShapes Go.ChangeAt Go.RowKit Go.Deep

theorem numbers_cells {H : Type} {enc : TypeId × Value → H} {W : World} {fuel : Nat} {cs : List Value} {x : DataW H × List MemPlace}
    (h : DataW.trod enc Tryz.prog W 0 (fun _ => true) true fuel 80 cs = some x) : ∃ a n c zs, cs = [.slice a n c] ∧ Numbers W a n c zs := by
  rcases open_ints Tryz.underlying80 Tryz.underlying3 (by kernel_rfl) h with ⟨hcs, _⟩ | ⟨ad, l, cp, zs, hcs, _⟩
  · exact ⟨_, _, _, [], hcs, Numbers.nil W⟩
  · rw [hcs] at h
    obtain ⟨zs, hz⟩ := numbers_open Tryz.underlying80 Tryz.underlying3 (by kernel_rfl) h
    exact ⟨_, _, _, zs, hcs, hz⟩
instance : Inhabited PWay := ⟨noWay⟩
theorem Tryz.cellsWay : Tryz.prog.cellsOf 82 = 35 := by kernel_rfl
theorem Tryz.cellsOut : Tryz.prog.cellsOf 79 = 2 := by kernel_rfl
theorem Tryz.cellsInts : Tryz.prog.cellsOf 80 = 1 := by kernel_rfl
theorem Tryz.cellsInt : Tryz.prog.cellsOf 3 = 1 := by kernel_rfl
theorem Tryz.cellsInt64 : Tryz.prog.cellsOf 2 = 1 := by kernel_rfl
theorem Tryz.cellsWays : Tryz.prog.cellsOf 77 = 1 := by kernel_rfl
theorem way_open {H : Type} {enc : TypeId × Value → H} {W : World} {fuel : Nat} {cs : List Value} {x : DataW H × List MemPlace}
    (h : DataW.trod enc Tryz.prog W 0 (fun _ => true) true fuel 82 cs = some x) : ∃ y : PWay, WayIn W y ∧ cs = y.cells := by
  obtain ⟨xs, k, _, _, hl, hxl, hf⟩ := DataW.trod_struct Tryz.underlying82 h
  rw [Tryz.cellsWay] at hl
  replace hxl : xs.length = 4 := hxl
  obtain ⟨y0, h0⟩ := field_is (y := DataW.trod enc Tryz.prog W 0 (fun _ => true) true k 80 ((cs.drop 0).take (Tryz.prog.cellsOf 80))) (by omega) (hf 0 _ rfl)
  obtain ⟨y1, h1⟩ := field_is (y := DataW.trod enc Tryz.prog W 0 (fun _ => true) true k 23 ((cs.drop 1).take (Tryz.prog.cellsOf 23))) (by omega) (hf 1 _ rfl)
  obtain ⟨y2, h2⟩ := field_is (y := DataW.trod enc Tryz.prog W 0 (fun _ => true) true k 3 ((cs.drop 33).take (Tryz.prog.cellsOf 3))) (by omega) (hf 2 _ rfl)
  obtain ⟨y3, h3⟩ := field_is (y := DataW.trod enc Tryz.prog W 0 (fun _ => true) true k 3 ((cs.drop 34).take (Tryz.prog.cellsOf 3))) (by omega) (hf 3 _ rfl)
  rw [Tryz.cellsInts] at h0
  rw [cellsSum] at h1
  rw [Tryz.cellsInt] at h2 h3
  obtain ⟨a, n, c, zs, e0, g0⟩ := numbers_cells h0
  obtain ⟨s, hs, e1⟩ := sum_open (cs := ((cs.drop 1).take 32).toArray) (by simp; omega) h1
  obtain ⟨z2, e2, g2⟩ := int_cells Tryz.underlying3 h2
  obtain ⟨z3, e3, g3⟩ := int_cells Tryz.underlying3 h3
  have e1' : (cs.drop 1).take 32 = cellsOf s := by simpa using e1
  refine ⟨⟨a, n, c, zs, s, z2, z3⟩, ⟨g0, hs, g2, g3⟩, ?_⟩
  have t0 := drop_split cs 0 1
  have t1 := drop_split cs 1 32
  have t2 := drop_split cs 33 1
  have t3 := drop_split cs 34 1
  have t4 : cs.drop 35 = [] := List.drop_of_length_le (by omega)
  rw [List.drop_zero] at t0
  rw [List.drop_zero] at e0
  show cs = .slice a n c :: (cellsOf s ++ [.int .i64 z2, .int .i64 z3])
  rw [t0, e0, show (0 : Nat) + 1 = 1 from rfl, t1, e1', show (1 : Nat) + 32 = 33 from rfl, t2, e2, show (33 : Nat) + 1 = 34 from rfl, t3, e3, show (34 : Nat) + 1 = 35 from rfl, t4]
  simp
theorem ways_cells {H : Type} {enc : TypeId × Value → H} {W : World} {fuel : Nat} {cs : List Value} {x : DataW H × List MemPlace}
    (h : DataW.trod enc Tryz.prog W 0 (fun _ => true) true fuel 77 cs = some x) : ∃ a n c ys, cs = [.slice a n c] ∧ Ways W a n c ys := by
  rcases open_slice Tryz.underlying77 h with ⟨h0, _⟩ | ⟨a0, n, c, M, N, D, Pl, h1, _, hl, hmx, hM, _, hx⟩
  · exact ⟨_, _, _, [], h0, Ways.nil W⟩
  · have hMc : M = c := by rw [hM]; simp
    rw [Tryz.cellsWay] at hx
    have each : ∀ j, j < n → ∃ y : PWay, WayIn W y ∧ ∀ i v, y.cells[i]? = some v → W.cell? ((a0.add (j * 35)).add i) = some v := by
      intro j hj
      obtain ⟨cs', h1, h2⟩ := hx j (by omega)
      obtain ⟨_, hlen, hcell⟩ := World.cells?_some h1
      obtain ⟨y, hy, rfl⟩ := way_open h2
      refine ⟨y, hy, fun i v hi => ?_⟩
      have hi' := (List.getElem?_eq_some_iff.1 hi).1
      have e0 := hcell i (by omega)
      rw [e0]
      exact hi
    obtain ⟨g, hg⟩ := choose_lt each
    refine ⟨some a0, n, c, (List.range n).map g, h1, by simp, hl, hmx, (fun e => by cases e), fun y hy => ?_, fun h0 => ?_⟩
    · obtain ⟨j, hj, rfl⟩ := List.mem_map.1 hy
      exact (hg j (List.mem_range.1 hj)).1
    · obtain ⟨b, off, spot⟩ := a0
      have hc0 := (hg 0 (by omega)).2 0 _ rfl
      have hspot : spot = none := by simpa [Addr.add] using World.cell?_spot hc0
      subst hspot
      have ad : ∀ o k : Nat, (⟨b, o, none⟩ : Addr).add k = ⟨b, o + k, none⟩ := fun o k => by simp [Addr.add]
      refine ⟨b, off, rfl, by simpa [Addr.add] using World.block_lt_of_cell? W _ hc0, fun j hj i v hi => ?_⟩
      have e : ((List.range n).map g).getD j noWay = g j := by simp [List.getD, hj]
      rw [e] at hi
      have := (hg j hj).2 i v hi
      rw [ad, ad] at this
      exact this
theorem out_open {H : Type} {enc : TypeId × Value → H} {W : World} {fuel : Nat} {cs : List Value} {x : DataW H × List MemPlace}
    (h : DataW.trod enc Tryz.prog W 0 (fun _ => true) true fuel 79 cs = some x) : ∃ m a n c ys, cs = [.int .i64 m, .slice a n c] ∧ Fits m ∧ Ways W a n c ys := by
  obtain ⟨xs, k, _, _, hl, hxl, hf⟩ := DataW.trod_struct Tryz.underlying79 h
  rw [Tryz.cellsOut] at hl
  replace hxl : xs.length = 2 := hxl
  obtain ⟨y0, h0⟩ := field_is (y := DataW.trod enc Tryz.prog W 0 (fun _ => true) true k 2 ((cs.drop 0).take (Tryz.prog.cellsOf 2))) (by omega) (hf 0 _ rfl)
  obtain ⟨y1, h1⟩ := field_is (y := DataW.trod enc Tryz.prog W 0 (fun _ => true) true k 77 ((cs.drop 1).take (Tryz.prog.cellsOf 77))) (by omega) (hf 1 _ rfl)
  rw [Tryz.cellsInt64] at h0
  rw [Tryz.cellsWays] at h1
  obtain ⟨m, e0, g0⟩ := int_cells Tryz.underlying2 h0
  obtain ⟨a, n, c, ys, e1, g1⟩ := ways_cells h1
  refine ⟨m, a, n, c, ys, ?_, g0, g1⟩
  have t0 := drop_split cs 0 1
  have t1 := drop_split cs 1 1
  have t2 : cs.drop 2 = [] := List.drop_of_length_le (by omega)
  rw [List.drop_zero] at t0 e0
  rw [t0, e0, show (0 : Nat) + 1 = 1 from rfl, t1, e1, show (1 : Nat) + 1 = 2 from rfl, t2]
  rfl
end Go.Proofs.YtcmdpmialehjgaaGreatDoor
namespace Go.Proofs.YtcmdpmialehjgaaGreatDoor
open Go.ChangeShapes Go.WideShapes Go.ChangeAt Go.RowKit Go.Deep

theorem chan_open {H : Type} {enc : TypeId × Value → H} {W : World} {fuel : Nat} {cs : List Value} {x : DataW H × List MemPlace}
    (h : DataW.trod enc Tryz.prog W 0 (fun _ => true) true fuel 49 cs = some x) : ∃ y : PChan, ChanIn y ∧ cs = y.cells := by
  obtain ⟨xs, k, _, _, hl, hxl, hf⟩ := DataW.trod_struct Tryz.underlying49 h
  replace hl : cs.length = 39 := by rw [hl]; kernel_rfl
  replace hxl : xs.length = 7 := hxl
  obtain ⟨y0, h0⟩ := field_is (y := DataW.trod enc Tryz.prog W 0 (fun _ => true) true k 3 ((cs.drop 0).take (Tryz.prog.cellsOf 3))) (by omega) (hf 0 _ rfl)
  rw [show Tryz.prog.cellsOf 3 = 1 from by kernel_rfl] at h0
  obtain ⟨y1, h1⟩ := field_is (y := DataW.trod enc Tryz.prog W 0 (fun _ => true) true k 3 ((cs.drop 1).take (Tryz.prog.cellsOf 3))) (by omega) (hf 1 _ rfl)
  rw [show Tryz.prog.cellsOf 3 = 1 from by kernel_rfl] at h1
  obtain ⟨y2, h2⟩ := field_is (y := DataW.trod enc Tryz.prog W 0 (fun _ => true) true k 3 ((cs.drop 2).take (Tryz.prog.cellsOf 3))) (by omega) (hf 2 _ rfl)
  rw [show Tryz.prog.cellsOf 3 = 1 from by kernel_rfl] at h2
  obtain ⟨y3, h3⟩ := field_is (y := DataW.trod enc Tryz.prog W 0 (fun _ => true) true k 47 ((cs.drop 3).take (Tryz.prog.cellsOf 47))) (by omega) (hf 3 _ rfl)
  rw [show Tryz.prog.cellsOf 47 = 33 from by kernel_rfl] at h3
  obtain ⟨y4, h4⟩ := field_is (y := DataW.trod enc Tryz.prog W 0 (fun _ => true) true k 2 ((cs.drop 36).take (Tryz.prog.cellsOf 2))) (by omega) (hf 4 _ rfl)
  rw [show Tryz.prog.cellsOf 2 = 1 from by kernel_rfl] at h4
  obtain ⟨y5, h5⟩ := field_is (y := DataW.trod enc Tryz.prog W 0 (fun _ => true) true k 3 ((cs.drop 37).take (Tryz.prog.cellsOf 3))) (by omega) (hf 5 _ rfl)
  rw [show Tryz.prog.cellsOf 3 = 1 from by kernel_rfl] at h5
  obtain ⟨y6, h6⟩ := field_is (y := DataW.trod enc Tryz.prog W 0 (fun _ => true) true k 3 ((cs.drop 38).take (Tryz.prog.cellsOf 3))) (by omega) (hf 6 _ rfl)
  rw [show Tryz.prog.cellsOf 3 = 1 from by kernel_rfl] at h6
  obtain ⟨z0, e0, g0⟩ := int_cells Tryz.underlying3 h0
  obtain ⟨z1, e1, g1⟩ := int_cells Tryz.underlying3 h1
  obtain ⟨z2, e2, g2⟩ := int_cells Tryz.underlying3 h2
  obtain ⟨s3, z3, g3, g3b, e3⟩ := ref_cells h3
  obtain ⟨z4, e4, g4⟩ := int_cells Tryz.underlying2 h4
  obtain ⟨z5, e5, g5⟩ := int_cells Tryz.underlying3 h5
  obtain ⟨z6, e6, g6⟩ := int_cells Tryz.underlying3 h6
  refine ⟨⟨z0, z1, z2, s3, z3, z4, z5, z6⟩, ⟨g0, g1, g2, g3, g3b, g4, g5, g6⟩, ?_⟩
  have t0 := drop_split cs 0 1
  have t1 := drop_split cs 1 1
  have t2 := drop_split cs 2 1
  have t3 := drop_split cs 3 33
  have t4 := drop_split cs 36 1
  have t5 := drop_split cs 37 1
  have t6 := drop_split cs 38 1
  have tl : cs.drop 39 = [] := List.drop_of_length_le (by omega)
  rw [List.drop_zero] at t0 e0
  rw [t0, e0, show (0 : Nat) + 1 = 1 from rfl, t1, e1, show (1 : Nat) + 1 = 2 from rfl, t2, e2, show (2 : Nat) + 1 = 3 from rfl, t3, e3, show (3 : Nat) + 33 = 36 from rfl, t4, e4, show (36 : Nat) + 1 = 37 from rfl, t5, e5, show (37 : Nat) + 1 = 38 from rfl, t6, e6, show (38 : Nat) + 1 = 39 from rfl, tl]
  simp [PChan.cells, refCells]
end Go.Proofs.YtcmdpmialehjgaaGreatDoor
namespace Go.Proofs.YtcmdpmialehjgaaGreatDoor
open Go.ChangeShapes Go.WideShapes Go.ChangeAt Go.RowKit Go.Deep

theorem in_open {H : Type} {enc : TypeId × Value → H} {W : World} {fuel : Nat} {cs : List Value} {x : DataW H × List MemPlace}
    (h : DataW.trod enc Tryz.prog W 0 (fun _ => true) true fuel 76 cs = some x) : ∃ y : PIn, InIn W y ∧ cs = y.cells := by
  obtain ⟨xs, k, _, _, hl, hxl, hf⟩ := DataW.trod_struct Tryz.underlying76 h
  replace hl : cs.length = 35 := by rw [hl]; kernel_rfl
  replace hxl : xs.length = 3 := hxl
  obtain ⟨y0, h0⟩ := field_is (y := DataW.trod enc Tryz.prog W 0 (fun _ => true) true k 47 ((cs.drop 0).take (Tryz.prog.cellsOf 47))) (by omega) (hf 0 _ rfl)
  rw [show Tryz.prog.cellsOf 47 = 33 from by kernel_rfl] at h0
  obtain ⟨y1, h1⟩ := field_is (y := DataW.trod enc Tryz.prog W 0 (fun _ => true) true k 3 ((cs.drop 33).take (Tryz.prog.cellsOf 3))) (by omega) (hf 1 _ rfl)
  rw [show Tryz.prog.cellsOf 3 = 1 from by kernel_rfl] at h1
  obtain ⟨y2, h2⟩ := field_is (y := DataW.trod enc Tryz.prog W 0 (fun _ => true) true k 26 ((cs.drop 34).take (Tryz.prog.cellsOf 26))) (by omega) (hf 2 _ rfl)
  rw [show Tryz.prog.cellsOf 26 = 1 from by kernel_rfl] at h2
  obtain ⟨s0, z0, g0, g0b, e0⟩ := ref_cells h0
  obtain ⟨z1, e1, g1⟩ := int_cells Tryz.underlying3 h1
  obtain ⟨a2, n2, c2, l2, e2, g2⟩ := row_cells h2
  refine ⟨⟨s0, z0, z1, a2, n2, c2, l2⟩, ⟨g0, g0b, g1, g2⟩, ?_⟩
  have t0 := drop_split cs 0 33
  have t1 := drop_split cs 33 1
  have t2 := drop_split cs 34 1
  have tl : cs.drop 35 = [] := List.drop_of_length_le (by omega)
  rw [List.drop_zero] at t0 e0
  rw [t0, e0, show (0 : Nat) + 33 = 33 from rfl, t1, e1, show (33 : Nat) + 1 = 34 from rfl, t2, e2, show (34 : Nat) + 1 = 35 from rfl, tl]
  simp [PIn.cells]
theorem sign_open {H : Type} {enc : TypeId × Value → H} {W : World} {fuel : Nat} {cs : List Value} {x : DataW H × List MemPlace}
    (h : DataW.trod enc Tryz.prog W 0 (fun _ => true) true fuel 143 cs = some x) : ∃ y : PSign, SignIn y ∧ cs = y.cells := by
  obtain ⟨xs, k, _, _, hl, hxl, hf⟩ := DataW.trod_struct Tryz.underlying143 h
  replace hl : cs.length = 33 := by rw [hl]; kernel_rfl
  replace hxl : xs.length = 2 := hxl
  obtain ⟨y0, h0⟩ := field_is (y := DataW.trod enc Tryz.prog W 0 (fun _ => true) true k 3 ((cs.drop 0).take (Tryz.prog.cellsOf 3))) (by omega) (hf 0 _ rfl)
  rw [show Tryz.prog.cellsOf 3 = 1 from by kernel_rfl] at h0
  obtain ⟨y1, h1⟩ := field_is (y := DataW.trod enc Tryz.prog W 0 (fun _ => true) true k 23 ((cs.drop 1).take (Tryz.prog.cellsOf 23))) (by omega) (hf 1 _ rfl)
  rw [show Tryz.prog.cellsOf 23 = 32 from by kernel_rfl] at h1
  obtain ⟨z0, e0, g0⟩ := int_cells Tryz.underlying3 h0
  obtain ⟨s1, g1, e1⟩ := sum_open (cs := ((cs.drop 1).take 32).toArray) (by simp; omega) h1
  replace e1 : (cs.drop 1).take 32 = cellsOf s1 := by simpa using e1
  refine ⟨⟨z0, s1⟩, ⟨g0, g1⟩, ?_⟩
  have t0 := drop_split cs 0 1
  have t1 := drop_split cs 1 32
  have tl : cs.drop 33 = [] := List.drop_of_length_le (by omega)
  rw [List.drop_zero] at t0 e0
  rw [t0, e0, show (0 : Nat) + 1 = 1 from rfl, t1, e1, show (1 : Nat) + 32 = 33 from rfl, tl]
  simp [PSign.cells]
theorem pout_open {H : Type} {enc : TypeId × Value → H} {W : World} {fuel : Nat} {cs : List Value} {x : DataW H × List MemPlace}
    (h : DataW.trod enc Tryz.prog W 0 (fun _ => true) true fuel 79 cs = some x) : ∃ y : POut, OutIn W y ∧ cs = y.cells := by
  obtain ⟨m, a, n, c, ys, e, g0, g1⟩ := out_open h
  exact ⟨⟨m, a, n, c, ys⟩, ⟨g0, g1⟩, e⟩
theorem op_open {H : Type} {enc : TypeId × Value → H} {W : World} {fuel : Nat} {cs : List Value} {x : DataW H × List MemPlace}
    (h : DataW.trod enc Tryz.prog W 0 (fun _ => true) true fuel 53 cs = some x) : ∃ y : POp, OpIn W y ∧ cs = y.cells := by
  obtain ⟨xs, k, _, _, hl, hxl, hf⟩ := DataW.trod_struct Tryz.underlying53 h
  replace hl : cs.length = 37 := by rw [hl]; kernel_rfl
  replace hxl : xs.length = 6 := hxl
  obtain ⟨y0, h0⟩ := field_is (y := DataW.trod enc Tryz.prog W 0 (fun _ => true) true k 3 ((cs.drop 0).take (Tryz.prog.cellsOf 3))) (by omega) (hf 0 _ rfl)
  rw [show Tryz.prog.cellsOf 3 = 1 from by kernel_rfl] at h0
  obtain ⟨y1, h1⟩ := field_is (y := DataW.trod enc Tryz.prog W 0 (fun _ => true) true k 3 ((cs.drop 1).take (Tryz.prog.cellsOf 3))) (by omega) (hf 1 _ rfl)
  rw [show Tryz.prog.cellsOf 3 = 1 from by kernel_rfl] at h1
  obtain ⟨y2, h2⟩ := field_is (y := DataW.trod enc Tryz.prog W 0 (fun _ => true) true k 3 ((cs.drop 2).take (Tryz.prog.cellsOf 3))) (by omega) (hf 2 _ rfl)
  rw [show Tryz.prog.cellsOf 3 = 1 from by kernel_rfl] at h2
  obtain ⟨y3, h3⟩ := field_is (y := DataW.trod enc Tryz.prog W 0 (fun _ => true) true k 2 ((cs.drop 3).take (Tryz.prog.cellsOf 2))) (by omega) (hf 3 _ rfl)
  rw [show Tryz.prog.cellsOf 2 = 1 from by kernel_rfl] at h3
  obtain ⟨y4, h4⟩ := field_is (y := DataW.trod enc Tryz.prog W 0 (fun _ => true) true k 23 ((cs.drop 4).take (Tryz.prog.cellsOf 23))) (by omega) (hf 4 _ rfl)
  rw [show Tryz.prog.cellsOf 23 = 32 from by kernel_rfl] at h4
  obtain ⟨y5, h5⟩ := field_is (y := DataW.trod enc Tryz.prog W 0 (fun _ => true) true k 26 ((cs.drop 36).take (Tryz.prog.cellsOf 26))) (by omega) (hf 5 _ rfl)
  rw [show Tryz.prog.cellsOf 26 = 1 from by kernel_rfl] at h5
  obtain ⟨z0, e0, g0⟩ := int_cells Tryz.underlying3 h0
  obtain ⟨z1, e1, g1⟩ := int_cells Tryz.underlying3 h1
  obtain ⟨z2, e2, g2⟩ := int_cells Tryz.underlying3 h2
  obtain ⟨z3, e3, g3⟩ := int_cells Tryz.underlying2 h3
  obtain ⟨s4, g4, e4⟩ := sum_open (cs := ((cs.drop 4).take 32).toArray) (by simp; omega) h4
  replace e4 : (cs.drop 4).take 32 = cellsOf s4 := by simpa using e4
  obtain ⟨a5, n5, c5, l5, e5, g5⟩ := row_cells h5
  refine ⟨⟨z0, z1, z2, z3, s4, a5, n5, c5, l5⟩, ⟨g0, g1, g2, g3, g4, g5⟩, ?_⟩
  have t0 := drop_split cs 0 1
  have t1 := drop_split cs 1 1
  have t2 := drop_split cs 2 1
  have t3 := drop_split cs 3 1
  have t4 := drop_split cs 4 32
  have t5 := drop_split cs 36 1
  have tl : cs.drop 37 = [] := List.drop_of_length_le (by omega)
  rw [List.drop_zero] at t0 e0
  rw [t0, e0, show (0 : Nat) + 1 = 1 from rfl, t1, e1, show (1 : Nat) + 1 = 2 from rfl, t2, e2, show (2 : Nat) + 1 = 3 from rfl, t3, e3, show (3 : Nat) + 1 = 4 from rfl, t4, e4, show (4 : Nat) + 32 = 36 from rfl, t5, e5, show (36 : Nat) + 1 = 37 from rfl, tl]
  simp [POp.cells]
theorem tx_open {H : Type} {enc : TypeId × Value → H} {W : World} {fuel : Nat} {cs : List Value} {x : DataW H × List MemPlace}
    (h : DataW.trod enc Tryz.prog W 0 (fun _ => true) true fuel 56 cs = some x) : ∃ y : PTx, TxIn W y ∧ cs = y.cells := by
  obtain ⟨xs, k, _, _, hl, hxl, hf⟩ := DataW.trod_struct Tryz.underlying56 h
  replace hl : cs.length = 40 := by rw [hl]; kernel_rfl
  replace hxl : xs.length = 4 := hxl
  obtain ⟨y0, h0⟩ := field_is (y := DataW.trod enc Tryz.prog W 0 (fun _ => true) true k 50 ((cs.drop 0).take (Tryz.prog.cellsOf 50))) (by omega) (hf 0 _ rfl)
  rw [show Tryz.prog.cellsOf 50 = 1 from by kernel_rfl] at h0
  obtain ⟨y1, h1⟩ := field_is (y := DataW.trod enc Tryz.prog W 0 (fun _ => true) true k 51 ((cs.drop 1).take (Tryz.prog.cellsOf 51))) (by omega) (hf 1 _ rfl)
  rw [show Tryz.prog.cellsOf 51 = 1 from by kernel_rfl] at h1
  obtain ⟨y2, h2⟩ := field_is (y := DataW.trod enc Tryz.prog W 0 (fun _ => true) true k 53 ((cs.drop 2).take (Tryz.prog.cellsOf 53))) (by omega) (hf 2 _ rfl)
  rw [show Tryz.prog.cellsOf 53 = 37 from by kernel_rfl] at h2
  obtain ⟨y3, h3⟩ := field_is (y := DataW.trod enc Tryz.prog W 0 (fun _ => true) true k 54 ((cs.drop 39).take (Tryz.prog.cellsOf 54))) (by omega) (hf 3 _ rfl)
  rw [show Tryz.prog.cellsOf 54 = 1 from by kernel_rfl] at h3
  obtain ⟨a0, n0, c0, l0, e0, g0⟩ := slice_cells (K := inK) Tryz.underlying50 (by kernel_rfl) (fun _ _ _ h => in_open h) h0
  obtain ⟨a1, n1, c1, l1, e1, g1⟩ := slice_cells (K := outK) Tryz.underlying51 (by kernel_rfl) (fun _ _ _ h => pout_open h) h1
  obtain ⟨op, g2, e2⟩ := op_open h2
  obtain ⟨a3, n3, c3, l3, e3, g3⟩ := slice_cells (K := signK) Tryz.underlying54 (by kernel_rfl) (fun _ _ _ h => sign_open h) h3
  refine ⟨⟨a0, n0, c0, l0, a1, n1, c1, l1, op, a3, n3, c3, l3⟩, ⟨g0, g1, g2, g3⟩, ?_⟩
  have t0 := drop_split cs 0 1
  have t1 := drop_split cs 1 1
  have t2 := drop_split cs 2 37
  have t3 := drop_split cs 39 1
  have tl : cs.drop 40 = [] := List.drop_of_length_le (by omega)
  rw [List.drop_zero] at t0 e0
  rw [t0, e0, show (0 : Nat) + 1 = 1 from rfl, t1, e1, show (1 : Nat) + 1 = 2 from rfl, t2, e2, show (2 : Nat) + 37 = 39 from rfl, t3, e3, show (39 : Nat) + 1 = 40 from rfl, tl]
  simp [PTx.cells]
end Go.Proofs.YtcmdpmialehjgaaGreatDoor
namespace Go.Proofs.YtcmdpmialehjgaaGreatDoor
open Go.ChangeShapes Go.WideShapes Go.ChangeAt Go.RowKit Go.Deep

theorem rec_open {H : Type} {enc : TypeId × Value → H} {W : World} {fuel : Nat} {cs : List Value} {x : DataW H × List MemPlace}
    (h : DataW.trod enc Tryz.prog W 0 (fun _ => true) true fuel 25 cs = some x) : ∃ y : PRec, RecIn y ∧ cs = y.cells := by
  obtain ⟨xs, k, _, _, hl, hxl, hf⟩ := DataW.trod_struct Tryz.underlying25 h
  replace hl : cs.length = 67 := by rw [hl]; kernel_rfl
  replace hxl : xs.length = 5 := hxl
  obtain ⟨y0, h0⟩ := field_is (y := DataW.trod enc Tryz.prog W 0 (fun _ => true) true k 3 ((cs.drop 0).take (Tryz.prog.cellsOf 3))) (by omega) (hf 0 _ rfl)
  rw [show Tryz.prog.cellsOf 3 = 1 from by kernel_rfl] at h0
  obtain ⟨y1, h1⟩ := field_is (y := DataW.trod enc Tryz.prog W 0 (fun _ => true) true k 3 ((cs.drop 1).take (Tryz.prog.cellsOf 3))) (by omega) (hf 1 _ rfl)
  rw [show Tryz.prog.cellsOf 3 = 1 from by kernel_rfl] at h1
  obtain ⟨y2, h2⟩ := field_is (y := DataW.trod enc Tryz.prog W 0 (fun _ => true) true k 3 ((cs.drop 2).take (Tryz.prog.cellsOf 3))) (by omega) (hf 2 _ rfl)
  rw [show Tryz.prog.cellsOf 3 = 1 from by kernel_rfl] at h2
  obtain ⟨y3, h3⟩ := field_is (y := DataW.trod enc Tryz.prog W 0 (fun _ => true) true k 23 ((cs.drop 3).take (Tryz.prog.cellsOf 23))) (by omega) (hf 3 _ rfl)
  rw [show Tryz.prog.cellsOf 23 = 32 from by kernel_rfl] at h3
  obtain ⟨y4, h4⟩ := field_is (y := DataW.trod enc Tryz.prog W 0 (fun _ => true) true k 23 ((cs.drop 35).take (Tryz.prog.cellsOf 23))) (by omega) (hf 4 _ rfl)
  rw [show Tryz.prog.cellsOf 23 = 32 from by kernel_rfl] at h4
  obtain ⟨z0, e0, g0⟩ := int_cells Tryz.underlying3 h0
  obtain ⟨z1, e1, g1⟩ := int_cells Tryz.underlying3 h1
  obtain ⟨z2, e2, g2⟩ := int_cells Tryz.underlying3 h2
  obtain ⟨s3, g3, e3⟩ := sum_open (cs := ((cs.drop 3).take 32).toArray) (by simp; omega) h3
  replace e3 : (cs.drop 3).take 32 = cellsOf s3 := by simpa using e3
  obtain ⟨s4, g4, e4⟩ := sum_open (cs := ((cs.drop 35).take 32).toArray) (by simp; omega) h4
  replace e4 : (cs.drop 35).take 32 = cellsOf s4 := by simpa using e4
  refine ⟨⟨z0, z1, z2, s3, s4⟩, ⟨g0, g1, g2, g3, g4⟩, ?_⟩
  have t0 := drop_split cs 0 1
  have t1 := drop_split cs 1 1
  have t2 := drop_split cs 2 1
  have t3 := drop_split cs 3 32
  have t4 := drop_split cs 35 32
  have tl : cs.drop 67 = [] := List.drop_of_length_le (by omega)
  rw [List.drop_zero] at t0 e0
  rw [t0, e0, show (0 : Nat) + 1 = 1 from rfl, t1, e1, show (1 : Nat) + 1 = 2 from rfl, t2, e2, show (2 : Nat) + 1 = 3 from rfl, t3, e3, show (3 : Nat) + 32 = 35 from rfl, t4, e4, show (35 : Nat) + 32 = 67 from rfl, tl]
  simp [PRec.cells]
end Go.Proofs.YtcmdpmialehjgaaGreatDoor
namespace Go.Proofs.YtcmdpmialehjgaaGreatDoor
open Go.ChangeShapes Go.WideShapes Go.ChangeAt Go.RowKit Go.Deep

theorem prf_open {H : Type} {enc : TypeId × Value → H} {W : World} {fuel : Nat} {cs : List Value} {x : DataW H × List MemPlace}
    (h : DataW.trod enc Tryz.prog W 0 (fun _ => true) true fuel 28 cs = some x) : ∃ y : PPrf, PrfIn W y ∧ cs = y.cells := by
  obtain ⟨xs, k, _, _, hl, hxl, hf⟩ := DataW.trod_struct Tryz.underlying28 h
  replace hl : cs.length = 101 := by rw [hl]; kernel_rfl
  replace hxl : xs.length = 4 := hxl
  obtain ⟨y0, h0⟩ := field_is (y := DataW.trod enc Tryz.prog W 0 (fun _ => true) true k 25 ((cs.drop 0).take (Tryz.prog.cellsOf 25))) (by omega) (hf 0 _ rfl)
  rw [show Tryz.prog.cellsOf 25 = 67 from by kernel_rfl] at h0
  obtain ⟨y1, h1⟩ := field_is (y := DataW.trod enc Tryz.prog W 0 (fun _ => true) true k 26 ((cs.drop 67).take (Tryz.prog.cellsOf 26))) (by omega) (hf 1 _ rfl)
  rw [show Tryz.prog.cellsOf 26 = 1 from by kernel_rfl] at h1
  obtain ⟨y2, h2⟩ := field_is (y := DataW.trod enc Tryz.prog W 0 (fun _ => true) true k 26 ((cs.drop 68).take (Tryz.prog.cellsOf 26))) (by omega) (hf 2 _ rfl)
  rw [show Tryz.prog.cellsOf 26 = 1 from by kernel_rfl] at h2
  obtain ⟨y3, h3⟩ := field_is (y := DataW.trod enc Tryz.prog W 0 (fun _ => true) true k 23 ((cs.drop 69).take (Tryz.prog.cellsOf 23))) (by omega) (hf 3 _ rfl)
  rw [show Tryz.prog.cellsOf 23 = 32 from by kernel_rfl] at h3
  obtain ⟨z0, g0, e0⟩ := rec_open h0
  obtain ⟨a1, n1, c1, l1, e1, g1⟩ := row_cells h1
  obtain ⟨a2, n2, c2, l2, e2, g2⟩ := row_cells h2
  obtain ⟨s3, g3, e3⟩ := sum_open (cs := ((cs.drop 69).take 32).toArray) (by simp; omega) h3
  replace e3 : (cs.drop 69).take 32 = cellsOf s3 := by simpa using e3
  refine ⟨⟨z0, a1, n1, c1, l1, a2, n2, c2, l2, s3⟩, ⟨g0, g1, g2, g3⟩, ?_⟩
  have t0 := drop_split cs 0 67
  have t1 := drop_split cs 67 1
  have t2 := drop_split cs 68 1
  have t3 := drop_split cs 69 32
  have tl : cs.drop 101 = [] := List.drop_of_length_le (by omega)
  rw [List.drop_zero] at t0 e0
  rw [t0, e0, show (0 : Nat) + 67 = 67 from rfl, t1, e1, show (67 : Nat) + 1 = 68 from rfl, t2, e2, show (68 : Nat) + 1 = 69 from rfl, t3, e3, show (69 : Nat) + 32 = 101 from rfl, tl]
  simp [PPrf.cells, PPrf.tail]
theorem facts_open {H : Type} {enc : TypeId × Value → H} {W : World} {fuel : Nat} {cs : List Value} {x : DataW H × List MemPlace}
    (h : DataW.trod enc Tryz.prog W 0 (fun _ => true) true fuel 58 cs = some x) : ∃ y : PFacts, FactsIn W y ∧ cs = y.cells := by
  obtain ⟨xs, k, _, _, hl, hxl, hf⟩ := DataW.trod_struct Tryz.underlying58 h
  replace hl : cs.length = 43 := by rw [hl]; kernel_rfl
  replace hxl : xs.length = 4 := hxl
  obtain ⟨y0, h0⟩ := field_is (y := DataW.trod enc Tryz.prog W 0 (fun _ => true) true k 56 ((cs.drop 0).take (Tryz.prog.cellsOf 56))) (by omega) (hf 0 _ rfl)
  rw [show Tryz.prog.cellsOf 56 = 40 from by kernel_rfl] at h0
  obtain ⟨y1, h1⟩ := field_is (y := DataW.trod enc Tryz.prog W 0 (fun _ => true) true k 3 ((cs.drop 40).take (Tryz.prog.cellsOf 3))) (by omega) (hf 1 _ rfl)
  rw [show Tryz.prog.cellsOf 3 = 1 from by kernel_rfl] at h1
  obtain ⟨y2, h2⟩ := field_is (y := DataW.trod enc Tryz.prog W 0 (fun _ => true) true k 4 ((cs.drop 41).take (Tryz.prog.cellsOf 4))) (by omega) (hf 2 _ rfl)
  rw [show Tryz.prog.cellsOf 4 = 1 from by kernel_rfl] at h2
  obtain ⟨y3, h3⟩ := field_is (y := DataW.trod enc Tryz.prog W 0 (fun _ => true) true k 3 ((cs.drop 42).take (Tryz.prog.cellsOf 3))) (by omega) (hf 3 _ rfl)
  rw [show Tryz.prog.cellsOf 3 = 1 from by kernel_rfl] at h3
  obtain ⟨z0, g0, e0⟩ := tx_open h0
  obtain ⟨z1, e1, g1⟩ := int_cells Tryz.underlying3 h1
  obtain ⟨z2, e2, _⟩ := DataW.trod_bool Tryz.underlying4 h2
  obtain ⟨z3, e3, g3⟩ := int_cells Tryz.underlying3 h3
  refine ⟨⟨z0, z1, z2, z3⟩, ⟨g0, g1, g3⟩, ?_⟩
  have t0 := drop_split cs 0 40
  have t1 := drop_split cs 40 1
  have t2 := drop_split cs 41 1
  have t3 := drop_split cs 42 1
  have tl : cs.drop 43 = [] := List.drop_of_length_le (by omega)
  rw [List.drop_zero] at t0 e0
  rw [t0, e0, show (0 : Nat) + 40 = 40 from rfl, t1, e1, show (40 : Nat) + 1 = 41 from rfl, t2, e2, show (41 : Nat) + 1 = 42 from rfl, t3, e3, show (42 : Nat) + 1 = 43 from rfl, tl]
  simp [PFacts.cells]
end Go.Proofs.YtcmdpmialehjgaaGreatDoor
