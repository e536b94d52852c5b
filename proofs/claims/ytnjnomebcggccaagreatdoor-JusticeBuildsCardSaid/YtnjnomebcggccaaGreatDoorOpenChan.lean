/- Channels, and states of channels, that came in as arguments, opened. No function of the program is named. -/
import Derived.Test.YtnjnomebcggccaaGreatDoorOpenRef
import Derived.Test.YtnjnomebcggccaaGreatDoorCommit
namespace Go.Proofs.YtnjnomebcggccaaGreatDoor
open Go.ChangeShapes Go.WideShapes Go.ChangeAt Go.RowKit Go.Deep

theorem chan_open {H : Type} {enc : TypeId × Value → H} {W : World} {fuel : Nat} {cs : List Value} {x : DataW H × List MemPlace}
    (h : DataW.trod enc Tryz.prog W 0 (fun _ => true) true fuel 27 cs = some x) : ∃ y : PChan, ChanIn y ∧ cs = y.cells := by
  obtain ⟨xs, k, _, _, hl, hxl, hf⟩ := DataW.trod_struct Tryz.underlying27 h
  replace hl : cs.length = 39 := by rw [hl]; kernel_rfl
  replace hxl : xs.length = 7 := hxl
  obtain ⟨y0, h0⟩ := field_is (y := DataW.trod enc Tryz.prog W 0 (fun _ => true) true k 3 ((cs.drop 0).take (Tryz.prog.cellsOf 3))) (by omega) (hf 0 _ rfl)
  rw [show Tryz.prog.cellsOf 3 = 1 from by kernel_rfl] at h0
  obtain ⟨y1, h1⟩ := field_is (y := DataW.trod enc Tryz.prog W 0 (fun _ => true) true k 3 ((cs.drop 1).take (Tryz.prog.cellsOf 3))) (by omega) (hf 1 _ rfl)
  rw [show Tryz.prog.cellsOf 3 = 1 from by kernel_rfl] at h1
  obtain ⟨y2, h2⟩ := field_is (y := DataW.trod enc Tryz.prog W 0 (fun _ => true) true k 3 ((cs.drop 2).take (Tryz.prog.cellsOf 3))) (by omega) (hf 2 _ rfl)
  rw [show Tryz.prog.cellsOf 3 = 1 from by kernel_rfl] at h2
  obtain ⟨y3, h3⟩ := field_is (y := DataW.trod enc Tryz.prog W 0 (fun _ => true) true k 25 ((cs.drop 3).take (Tryz.prog.cellsOf 25))) (by omega) (hf 3 _ rfl)
  rw [show Tryz.prog.cellsOf 25 = 33 from by kernel_rfl] at h3
  obtain ⟨y4, h4⟩ := field_is (y := DataW.trod enc Tryz.prog W 0 (fun _ => true) true k 2 ((cs.drop 36).take (Tryz.prog.cellsOf 2))) (by omega) (hf 4 _ rfl)
  rw [show Tryz.prog.cellsOf 2 = 1 from by kernel_rfl] at h4
  obtain ⟨y5, h5⟩ := field_is (y := DataW.trod enc Tryz.prog W 0 (fun _ => true) true k 3 ((cs.drop 37).take (Tryz.prog.cellsOf 3))) (by omega) (hf 5 _ rfl)
  rw [show Tryz.prog.cellsOf 3 = 1 from by kernel_rfl] at h5
  obtain ⟨y6, h6⟩ := field_is (y := DataW.trod enc Tryz.prog W 0 (fun _ => true) true k 3 ((cs.drop 38).take (Tryz.prog.cellsOf 3))) (by omega) (hf 6 _ rfl)
  rw [show Tryz.prog.cellsOf 3 = 1 from by kernel_rfl] at h6
  obtain ⟨z0, e0, g0⟩ := int_cells Tryz.underlying3 h0
  obtain ⟨z1, e1, g1⟩ := int_cells Tryz.underlying3 h1
  obtain ⟨z2, e2, g2⟩ := int_cells Tryz.underlying3 h2
  obtain ⟨s3, z3, g3, g3b, e3⟩ := ref_cells h3
  obtain ⟨z4, e4, g4⟩ := int_cells Tryz.underlying2 h4
  obtain ⟨z5, e5, g5⟩ := int_cells Tryz.underlying3 h5
  obtain ⟨z6, e6, g6⟩ := int_cells Tryz.underlying3 h6
  refine ⟨⟨z0, z1, z2, s3, z3, z4, z5, z6⟩, ⟨g0, g1, g2, g3, g3b, g4, g5, g6⟩, ?_⟩
  have t0 := drop_split cs 0 1
  have t1 := drop_split cs 1 1
  have t2 := drop_split cs 2 1
  have t3 := drop_split cs 3 33
  have t4 := drop_split cs 36 1
  have t5 := drop_split cs 37 1
  have t6 := drop_split cs 38 1
  have tl : cs.drop 39 = [] := List.drop_of_length_le (by omega)
  rw [List.drop_zero] at t0 e0
  rw [t0, e0, show (0 : Nat) + 1 = 1 from rfl, t1, e1, show (1 : Nat) + 1 = 2 from rfl, t2, e2, show (2 : Nat) + 1 = 3 from rfl, t3, e3, show (3 : Nat) + 33 = 36 from rfl, t4, e4, show (36 : Nat) + 1 = 37 from rfl, t5, e5, show (37 : Nat) + 1 = 38 from rfl, t6, e6, show (38 : Nat) + 1 = 39 from rfl, tl]
  simp [PChan.cells, refCells]
end Go.Proofs.YtnjnomebcggccaaGreatDoor
