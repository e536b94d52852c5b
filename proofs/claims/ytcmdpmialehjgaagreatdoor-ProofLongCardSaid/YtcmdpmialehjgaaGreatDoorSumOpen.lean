/- How slices of bytes and sums that came in are opened. -/
import Derived.Test.YtcmdpmialehjgaaGreatDoorMemory
import Derived.Deep.Matrix
import Derived.Deep.SlicePairs
import Derived.ProofKit
import Derived.OpenShut
import Derived.LaidMore
namespace Go.Proofs.YtcmdpmialehjgaaGreatDoor
open Go.ChangeShapes Go.WideShapes Go.ChangeAt Go.RowKit Go.Deep
/-- A slice of integers that came in: it is nil; or it leads to a row of 'cap' cells, the numbers 'zs', each fitting its kind. -/
def IsRow (k : IntKind) (w : World) (a : Option Addr) (len cap : Nat) (zs : List Int) : Prop :=
  (a = none ∧ len = 0 ∧ cap = 0 ∧ zs = []) ∨
  ∃ x, a = some x ∧ len ≤ cap ∧ cap ≤ maxLen ∧ zs.length = cap ∧ (∀ i, i < zs.length → w.cell? (x.add i) = some (.int k (zs.getD i 0))) ∧ ∀ n ∈ zs, (Lit.int k n).wf = true
theorem wf_u8 {n : Int} (h : (Lit.int .u8 n).wf = true) : 0 ≤ n ∧ n < 256 := by
  have h1 : IntKind.u8.min = 0 := by decide
  have h2 : IntKind.u8.max = 255 := by decide
  simp [Lit.wf, h1, h2] at h
  omega
theorem isRow_row {w : World} {a : Option Addr} {n c : Nat} {zs : List Int} (h : IsRow .u8 w a n c zs) : ∃ l, Row w a n c l := by
  rcases h with ⟨rfl, rfl, rfl, rfl⟩ | ⟨x, rfl, hl, hm, hz, hcell, hwf⟩
  · exact ⟨[], Row.nil w⟩
  · refine ⟨(zs.take n).map (fun z => UInt8.ofNat z.toNat), by simp; omega, hl, hm, (fun e => by cases e), fun h0 => ?_⟩
    obtain ⟨b, off, spot⟩ := x
    have hspot : spot = none := by simpa [Addr.add] using World.cell?_spot (hcell 0 (by omega))
    subst hspot
    have hc0 := hcell 0 (by omega)
    refine ⟨b, off, rfl, by simpa [Addr.add] using World.block_lt_of_cell? w _ hc0, fun j hj => ?_⟩
    have e1 : (⟨b, off, none⟩ : Addr).add j = ⟨b, off + j, none⟩ := by simp [Addr.add]
    have hjz : j < zs.length := by omega
    have := hcell j hjz
    rw [e1] at this
    rw [this]
    have hw := wf_u8 (hwf _ (List.getElem_mem hjz))
    have e2 : zs.getD j 0 = zs[j] := by simp [List.getD, hjz]
    have e3 : ((zs.take n).map (fun z => UInt8.ofNat z.toNat)).getD j 0 = UInt8.ofNat zs[j].toNat := by simp [List.getD, hj, hjz]
    rw [e2, e3, UInt8.toNat_ofNat']
    congr 2
    omega
theorem okWide_array {P : Program} {w : World} {r : Reach} {base : Nat} {t e : TypeId} {n : Nat} {v : Value} (ht : P.underlying t = some (.array n e)) (h : Value.okWide P w r base t v) : ∃ cs, v = .agg cs ∧ cs.size = P.cellsOf t := by
  simp only [Value.okWide, ht] at h
  obtain ⟨cs, h1, h2, _⟩ := h
  exact ⟨cs, h1, h2⟩
theorem byte_of {n : Int} (h : (Lit.int .u8 n).wf = true) : ∃ b : UInt8, b.toNat = n.toNat ∧ ((n.toNat : Nat) : Int) = n := by
  have := wf_u8 h
  exact ⟨UInt8.ofNat n.toNat, by rw [UInt8.toNat_ofNat']; omega, by omega⟩
theorem cellsSum : Tryz.prog.cellsOf 23 = 32 := by kernel_rfl
/-- An array of 32 bytes that came in. -/
theorem sum_open {H : Type} {enc : TypeId × Value → H} {W : World} {fuel : Nat} {cs : Array Value} {x : DataW H × List MemPlace} (hsz : cs.size = 32)
    (h : DataW.trod enc Tryz.prog W 0 (fun _ => true) true fuel 23 cs.toList = some x) : ∃ s : List UInt8, s.length = 32 ∧ cs = (cellsOf s).toArray := by
  obtain ⟨xs, m, _, _, _, hxl, hf⟩ := DataW.trod_array Tryz.underlying23 h
  have each : ∀ i, i < 32 → ∃ b : UInt8, cs.toList[i]? = some (.int .u8 ((b.toNat : Nat) : Int)) := by
    intro i hi
    have h1 := hf i hi
    rw [Tryz.cells5, Nat.mul_one] at h1
    have hi' : i < cs.toList.length := by rw [Array.length_toList]; omega
    have e1 : (cs.toList.drop i).take 1 = [cs.toList[i]] := by
      rw [List.drop_eq_getElem_cons hi']
      rfl
    rw [e1] at h1
    have hx : xs[i]? = some (xs[i]'(by omega)) := List.getElem?_eq_getElem (by omega)
    obtain ⟨z, e2, _, hw⟩ := DataW.trod_int Tryz.underlying5 (h1.trans hx)
    have hw' := wf_u8 hw
    refine ⟨UInt8.ofNat z.toNat, ?_⟩
    rw [List.getElem?_eq_getElem hi']
    simp at e2
    rw [UInt8.toNat_ofNat']
    simp [e2]
    omega
  obtain ⟨f, hfb⟩ := choose_lt each
  refine ⟨(List.range 32).map f, by simp, ?_⟩
  apply Array.toList_inj.1
  apply List.ext_getElem?
  intro i
  by_cases hi : i < 32
  · rw [hfb i hi]
    simp [cellsOf, hi]
  · rw [List.getElem?_eq_none (by rw [Array.length_toList]; omega), List.getElem?_eq_none (by simp [cellsOf]; omega)]
end Go.Proofs.YtcmdpmialehjgaaGreatDoor
