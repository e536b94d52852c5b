/- Deals that came in as arguments, opened. No function of the program is named. -/
import Derived.Test.YtnjnomebcggccaaGreatDoorOpenFields
namespace Go.Proofs.YtnjnomebcggccaaGreatDoor
open Go.ChangeShapes Go.WideShapes Go.ChangeAt Go.RowKit Go.Deep

theorem deal_open {H : Type} {enc : TypeId × Value → H} {W : World} {fuel : Nat} {cs : List Value} {x : DataW H × List MemPlace}
    (h : DataW.trod enc Tryz.prog W 0 (fun _ => true) true fuel 37 cs = some x) : ∃ r f : Int, Fits r ∧ Fits f ∧ cs = [.int .i64 r, .int .i64 f] := by
  obtain ⟨xs, k, _, _, hl, hxl, hf⟩ := DataW.trod_struct Tryz.underlying37 h
  replace hl : cs.length = 2 := by rw [hl]; kernel_rfl
  replace hxl : xs.length = 2 := hxl
  obtain ⟨y0, h0⟩ := field_is (y := DataW.trod enc Tryz.prog W 0 (fun _ => true) true k 3 ((cs.drop 0).take (Tryz.prog.cellsOf 3))) (by omega) (hf 0 _ rfl)
  rw [show Tryz.prog.cellsOf 3 = 1 from by kernel_rfl] at h0
  obtain ⟨y1, h1⟩ := field_is (y := DataW.trod enc Tryz.prog W 0 (fun _ => true) true k 2 ((cs.drop 1).take (Tryz.prog.cellsOf 2))) (by omega) (hf 1 _ rfl)
  rw [show Tryz.prog.cellsOf 2 = 1 from by kernel_rfl] at h1
  obtain ⟨z0, e0, g0⟩ := int_cells Tryz.underlying3 h0
  obtain ⟨z1, e1, g1⟩ := int_cells Tryz.underlying2 h1
  refine ⟨z0, z1, g0, g1, ?_⟩
  have t0 := drop_split cs 0 1
  have t1 := drop_split cs 1 1
  have tl : cs.drop 2 = [] := List.drop_of_length_le (by omega)
  rw [List.drop_zero] at t0 e0
  rw [t0, e0, show (0 : Nat) + 1 = 1 from rfl, t1, e1, show (1 : Nat) + 1 = 2 from rfl, tl]
  rfl
end Go.Proofs.YtnjnomebcggccaaGreatDoor
