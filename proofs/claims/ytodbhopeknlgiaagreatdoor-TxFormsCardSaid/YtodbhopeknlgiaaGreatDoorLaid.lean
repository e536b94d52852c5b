/- What the listed variable gives the walks: the constants of the rounds lie at their block. How slices, sums and slices of slices that came in are opened. -/
import Derived.Test.YtodbhopeknlgiaaGreatDoorRows
import Derived.Test.YtodbhopeknlgiaaGreatDoorSha
import Derived.ProofKit
import Derived.OpenShut
import Derived.LaidMore
import Derived.MakeChecks
import Derived.Stop.Joined
import Derived.Deep.SlicePairs
namespace Go.Proofs.YtodbhopeknlgiaaGreatDoor
open Go.ChangeShapes Go.WideShapes Go.ChangeAt Go.RowKit Go.Deep

def laidKs : List (String × DataW Unit) := [("bartizan/sha.constants", Rows.laid_bartizan_sha_constants)]
theorem gKs : Tryz.prog.globalNamed "bartizan/sha.constants" = some 0 := by kernel_rfl
theorem tKs : (Tryz.prog.globals[0]?).map (·.type) = some 136 := by kernel_rfl
theorem cells36 : Tryz.prog.cellsOf 74 = 1 := by kernel_rfl
theorem dKs : (Rows.laid_bartizan_sha_constants : DataW Unit) = .agg (ks.map fun x => .lit (.int .u32 (num x))) := by kernel_rfl
theorem ks_of_laid {W : World} (h : laidMetH Tryz.prog laidKs W) : KsAt W := by
  rw [MakeChecks.laidMetH_plain _ _ _ (by kernel_rfl)] at h
  obtain ⟨ps, ⟨g0, t0, cs0, f0, p0, q0, hg0, ht0, hv0, hd0, _, _⟩, _⟩ := h
  obtain rfl := Option.some.inj (gKs.symm.trans hg0)
  obtain rfl := Option.some.inj (tKs.symm.trans ht0)
  rw [dKs] at hd0
  obtain ⟨xs, m1, _, hx, hlen, hn, hel⟩ := DataW.trod_array Tryz.underlying136 hd0
  simp only [Prod.mk.injEq, DataW.agg.injEq] at hx
  intro i hi
  have h1 := hel i hi
  rw [cells36, Nat.mul_one] at h1
  have hil : i < cs0.toList.length := by
    rw [hlen, show Tryz.prog.cellsOf 136 = 64 by kernel_rfl]
    exact hi
  have e1 : (cs0.toList.drop i).take 1 = [cs0.toList[i]] := by
    rw [List.drop_eq_getElem_cons hil]
    rfl
  rw [e1] at h1
  have hxi : xs[i]? = some (xs[i]'(by omega)) := List.getElem?_eq_getElem (by omega)
  obtain ⟨z, e2, e3, _⟩ := DataW.trod_int Tryz.underlying74 (h1.trans hxi)
  have hk : (ks.map fun x => (DataW.lit (.int .u32 (num x)) : DataW Unit))[i]? = some (.lit (.int .u32 z)) := by
    rw [hx.1, List.getElem?_map, hxi, Option.map_some, e3]
  have hkl : i < ks.length := hi
  have hz : z = num (ks.getD i 0) := by
    rw [List.getElem?_map, List.getElem?_eq_getElem hkl] at hk
    simp only [Option.map_some, Option.some.injEq, DataW.lit.injEq, Lit.int.injEq, true_and] at hk
    rw [← hk]
    simp [List.getD, hkl]
  have hc := World.var?_cell hg0 hv0 i
  simp only [List.cons.injEq, and_true] at e2
  rw [hc, ← hz, ← e2]
  simp [Array.getElem?_eq_getElem (by simpa using hil : i < cs0.size)]

/-- A slice of integers that came in: it is nil; or it leads to a row of 'cap' cells, the numbers 'zs', each fitting its kind. -/
def IsRow (k : IntKind) (w : World) (a : Option Addr) (len cap : Nat) (zs : List Int) : Prop :=
  (a = none ∧ len = 0 ∧ cap = 0 ∧ zs = []) ∨
  ∃ x, a = some x ∧ len ≤ cap ∧ cap ≤ maxLen ∧ zs.length = cap ∧ (∀ i, i < zs.length → w.cell? (x.add i) = some (.int k (zs.getD i 0))) ∧ ∀ n ∈ zs, (Lit.int k n).wf = true
theorem wf_u8 {n : Int} (h : (Lit.int .u8 n).wf = true) : 0 ≤ n ∧ n < 256 := by
  have h1 : IntKind.u8.min = 0 := by decide
  have h2 : IntKind.u8.max = 255 := by decide
  simp [Lit.wf, h1, h2] at h
  omega
theorem isRow_row {w : World} {a : Option Addr} {n c : Nat} {zs : List Int} (h : IsRow .u8 w a n c zs) : ∃ l, Row w a n c l := by
  rcases h with ⟨rfl, rfl, rfl, rfl⟩ | ⟨x, rfl, hl, hm, hz, hcell, hwf⟩
  · exact ⟨[], Row.nil w⟩
  · refine ⟨(zs.take n).map (fun z => UInt8.ofNat z.toNat), by simp; omega, hl, hm, (fun e => by cases e), fun h0 => ?_⟩
    obtain ⟨b, off, spot⟩ := x
    have hspot : spot = none := by simpa [Addr.add] using World.cell?_spot (hcell 0 (by omega))
    subst hspot
    have hc0 := hcell 0 (by omega)
    refine ⟨b, off, rfl, by simpa [Addr.add] using World.block_lt_of_cell? w _ hc0, fun j hj => ?_⟩
    have e1 : (⟨b, off, none⟩ : Addr).add j = ⟨b, off + j, none⟩ := by simp [Addr.add]
    have hjz : j < zs.length := by omega
    have := hcell j hjz
    rw [e1] at this
    rw [this]
    have hw := wf_u8 (hwf _ (List.getElem_mem hjz))
    have e2 : zs.getD j 0 = zs[j] := by simp [List.getD, hjz]
    have e3 : ((zs.take n).map (fun z => UInt8.ofNat z.toNat)).getD j 0 = UInt8.ofNat zs[j].toNat := by simp [List.getD, hj, hjz]
    rw [e2, e3, UInt8.toNat_ofNat']
    congr 2
    omega
theorem okWide_array {P : Program} {w : World} {r : Reach} {base : Nat} {t e : TypeId} {n : Nat} {v : Value} (ht : P.underlying t = some (.array n e)) (h : Value.okWide P w r base t v) : ∃ cs, v = .agg cs ∧ cs.size = P.cellsOf t := by
  simp only [Value.okWide, ht] at h
  obtain ⟨cs, h1, h2, _⟩ := h
  exact ⟨cs, h1, h2⟩
theorem byte_of {n : Int} (h : (Lit.int .u8 n).wf = true) : ∃ b : UInt8, b.toNat = n.toNat ∧ ((n.toNat : Nat) : Int) = n := by
  have := wf_u8 h
  exact ⟨UInt8.ofNat n.toNat, by rw [UInt8.toNat_ofNat']; omega, by omega⟩
end Go.Proofs.YtodbhopeknlgiaaGreatDoor
