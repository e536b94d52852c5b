/- What the listed variable gives the walks: the constants of the rounds lie at their block. -/
import Derived.Test.YtcmdpmialehjgaaGreatDoorRows
import Derived.Test.YtcmdpmialehjgaaGreatDoorSha
import Derived.Test.YtcmdpmialehjgaaGreatDoorSumOpen
import Derived.ProofKit
import Derived.OpenShut
import Derived.LaidMore
import Derived.MakeChecks
import Derived.Stop.Joined
import Derived.Deep.SlicePairs
namespace Go.Proofs.YtcmdpmialehjgaaGreatDoor
open Go.ChangeShapes Go.WideShapes Go.ChangeAt Go.RowKit Go.Deep

def laidKs : List (String × DataW Unit) := [("bartizan/sha.constants", Rows.laid_bartizan_sha_constants)]
theorem gKs : Tryz.prog.globalNamed "bartizan/sha.constants" = some 0 := by kernel_rfl
theorem tKs : (Tryz.prog.globals[0]?).map (·.type) = some 178 := by kernel_rfl
theorem cells36 : Tryz.prog.cellsOf 123 = 1 := by kernel_rfl
theorem dKs : (Rows.laid_bartizan_sha_constants : DataW Unit) = .agg (ks.map fun x => .lit (.int .u32 (num x))) := by kernel_rfl
theorem ks_of_laid {W : World} (h : laidMetH Tryz.prog laidKs W) : KsAt W := by
  rw [MakeChecks.laidMetH_plain _ _ _ (by kernel_rfl)] at h
  obtain ⟨ps, ⟨g0, t0, cs0, f0, p0, q0, hg0, ht0, hv0, hd0, _, _⟩, _⟩ := h
  obtain rfl := Option.some.inj (gKs.symm.trans hg0)
  obtain rfl := Option.some.inj (tKs.symm.trans ht0)
  rw [dKs] at hd0
  obtain ⟨xs, m1, _, hx, hlen, hn, hel⟩ := DataW.trod_array Tryz.underlying178 hd0
  simp only [Prod.mk.injEq, DataW.agg.injEq] at hx
  intro i hi
  have h1 := hel i hi
  rw [cells36, Nat.mul_one] at h1
  have hil : i < cs0.toList.length := by
    rw [hlen, show Tryz.prog.cellsOf 178 = 64 by kernel_rfl]
    exact hi
  have e1 : (cs0.toList.drop i).take 1 = [cs0.toList[i]] := by
    rw [List.drop_eq_getElem_cons hil]
    rfl
  rw [e1] at h1
  have hxi : xs[i]? = some (xs[i]'(by omega)) := List.getElem?_eq_getElem (by omega)
  obtain ⟨z, e2, e3, _⟩ := DataW.trod_int Tryz.underlying123 (h1.trans hxi)
  have hk : (ks.map fun x => (DataW.lit (.int .u32 (num x)) : DataW Unit))[i]? = some (.lit (.int .u32 z)) := by
    rw [hx.1, List.getElem?_map, hxi, Option.map_some, e3]
  have hkl : i < ks.length := hi
  have hz : z = num (ks.getD i 0) := by
    rw [List.getElem?_map, List.getElem?_eq_getElem hkl] at hk
    simp only [Option.map_some, Option.some.injEq, DataW.lit.injEq, Lit.int.injEq, true_and] at hk
    rw [← hk]
    simp [List.getD, hkl]
  have hc := World.var?_cell hg0 hv0 i
  simp only [List.cons.injEq, and_true] at e2
  rw [hc, ← hz, ← e2]
  simp [Array.getElem?_eq_getElem (by simpa using hil : i < cs0.size)]

end Go.Proofs.YtcmdpmialehjgaaGreatDoor
