/- Receipts, and ones that are signed, that came in as arguments, opened. No function of the program is named. -/
import Derived.Test.YtcmdpmialehjgaaGreatDoorOpenFields
import Derived.Test.YtcmdpmialehjgaaGreatDoorRecMem
namespace Go.Proofs.YtcmdpmialehjgaaGreatDoor
open Go.ChangeShapes Go.WideShapes Go.ChangeAt Go.RowKit Go.Deep

theorem rec_open {H : Type} {enc : TypeId × Value → H} {W : World} {fuel : Nat} {cs : List Value} {x : DataW H × List MemPlace}
    (h : DataW.trod enc Tryz.prog W 0 (fun _ => true) true fuel 25 cs = some x) : ∃ y : PRec, RecIn y ∧ cs = y.cells := by
  obtain ⟨xs, k, _, _, hl, hxl, hf⟩ := DataW.trod_struct Tryz.underlying25 h
  replace hl : cs.length = 67 := by rw [hl]; kernel_rfl
  replace hxl : xs.length = 5 := hxl
  obtain ⟨y0, h0⟩ := field_is (y := DataW.trod enc Tryz.prog W 0 (fun _ => true) true k 3 ((cs.drop 0).take (Tryz.prog.cellsOf 3))) (by omega) (hf 0 _ rfl)
  rw [show Tryz.prog.cellsOf 3 = 1 from by kernel_rfl] at h0
  obtain ⟨y1, h1⟩ := field_is (y := DataW.trod enc Tryz.prog W 0 (fun _ => true) true k 3 ((cs.drop 1).take (Tryz.prog.cellsOf 3))) (by omega) (hf 1 _ rfl)
  rw [show Tryz.prog.cellsOf 3 = 1 from by kernel_rfl] at h1
  obtain ⟨y2, h2⟩ := field_is (y := DataW.trod enc Tryz.prog W 0 (fun _ => true) true k 3 ((cs.drop 2).take (Tryz.prog.cellsOf 3))) (by omega) (hf 2 _ rfl)
  rw [show Tryz.prog.cellsOf 3 = 1 from by kernel_rfl] at h2
  obtain ⟨y3, h3⟩ := field_is (y := DataW.trod enc Tryz.prog W 0 (fun _ => true) true k 23 ((cs.drop 3).take (Tryz.prog.cellsOf 23))) (by omega) (hf 3 _ rfl)
  rw [show Tryz.prog.cellsOf 23 = 32 from by kernel_rfl] at h3
  obtain ⟨y4, h4⟩ := field_is (y := DataW.trod enc Tryz.prog W 0 (fun _ => true) true k 23 ((cs.drop 35).take (Tryz.prog.cellsOf 23))) (by omega) (hf 4 _ rfl)
  rw [show Tryz.prog.cellsOf 23 = 32 from by kernel_rfl] at h4
  obtain ⟨z0, e0, g0⟩ := int_cells Tryz.underlying3 h0
  obtain ⟨z1, e1, g1⟩ := int_cells Tryz.underlying3 h1
  obtain ⟨z2, e2, g2⟩ := int_cells Tryz.underlying3 h2
  obtain ⟨s3, g3, e3⟩ := sum_open (cs := ((cs.drop 3).take 32).toArray) (by simp; omega) h3
  replace e3 : (cs.drop 3).take 32 = cellsOf s3 := by simpa using e3
  obtain ⟨s4, g4, e4⟩ := sum_open (cs := ((cs.drop 35).take 32).toArray) (by simp; omega) h4
  replace e4 : (cs.drop 35).take 32 = cellsOf s4 := by simpa using e4
  refine ⟨⟨z0, z1, z2, s3, s4⟩, ⟨g0, g1, g2, g3, g4⟩, ?_⟩
  have t0 := drop_split cs 0 1
  have t1 := drop_split cs 1 1
  have t2 := drop_split cs 2 1
  have t3 := drop_split cs 3 32
  have t4 := drop_split cs 35 32
  have tl : cs.drop 67 = [] := List.drop_of_length_le (by omega)
  rw [List.drop_zero] at t0 e0
  rw [t0, e0, show (0 : Nat) + 1 = 1 from rfl, t1, e1, show (1 : Nat) + 1 = 2 from rfl, t2, e2, show (2 : Nat) + 1 = 3 from rfl, t3, e3, show (3 : Nat) + 32 = 35 from rfl, t4, e4, show (35 : Nat) + 32 = 67 from rfl, tl]
  simp [PRec.cells]
end Go.Proofs.YtcmdpmialehjgaaGreatDoor
