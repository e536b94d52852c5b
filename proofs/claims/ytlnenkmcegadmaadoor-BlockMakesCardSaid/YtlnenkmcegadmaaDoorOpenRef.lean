/- Places that are parts of arguments, opened. No function of the program is named. -/
import Derived.Test.YtlnenkmcegadmaaDoorOpens
namespace Go.Proofs.YtlnenkmcegadmaaDoor
open Go.ChangeShapes Go.WideShapes Go.ChangeAt Go.RowKit Go.Deep

theorem ref_cells {H : Type} {enc : TypeId × Value → H} {W : World} {fuel : Nat} {cs : List Value} {x : DataW H × List MemPlace}
    (h : DataW.trod enc Tryd.prog W 0 (fun _ => true) true fuel 74 cs = some x) : ∃ s z, s.length = 32 ∧ Fits z ∧ cs = cellsOf s ++ [.int .i64 z] := by
  obtain ⟨xs, k, _, _, hl, hxl, hf⟩ := DataW.trod_struct Tryd.underlying74 h
  replace hl : cs.length = 33 := by rw [hl]; kernel_rfl
  replace hxl : xs.length = 2 := hxl
  obtain ⟨y0, h0⟩ := field_is (y := DataW.trod enc Tryd.prog W 0 (fun _ => true) true k 23 ((cs.drop 0).take (Tryd.prog.cellsOf 23))) (by omega) (hf 0 _ rfl)
  rw [show Tryd.prog.cellsOf 23 = 32 from by kernel_rfl] at h0
  obtain ⟨y1, h1⟩ := field_is (y := DataW.trod enc Tryd.prog W 0 (fun _ => true) true k 3 ((cs.drop 32).take (Tryd.prog.cellsOf 3))) (by omega) (hf 1 _ rfl)
  rw [show Tryd.prog.cellsOf 3 = 1 from by kernel_rfl] at h1
  obtain ⟨s0, g0, e0⟩ := sum_open (cs := ((cs.drop 0).take 32).toArray) (by simp; omega) h0
  replace e0 : (cs.drop 0).take 32 = cellsOf s0 := by simpa using e0
  obtain ⟨z1, e1, g1⟩ := int_cells Tryd.underlying3 h1
  refine ⟨s0, z1, g0, g1, ?_⟩
  have t0 := drop_split cs 0 32
  have t1 := drop_split cs 32 1
  have tl : cs.drop 33 = [] := List.drop_of_length_le (by omega)
  rw [List.drop_zero] at t0 e0
  rw [t0, e0, show (0 : Nat) + 32 = 32 from rfl, t1, e1, show (32 : Nat) + 1 = 33 from rfl, tl]
  simp
end Go.Proofs.YtlnenkmcegadmaaDoor
