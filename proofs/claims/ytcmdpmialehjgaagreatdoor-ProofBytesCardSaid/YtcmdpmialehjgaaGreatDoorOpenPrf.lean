/- Proofs and facts that came in as arguments, opened. No function of the program is named. -/
import Derived.Test.YtcmdpmialehjgaaGreatDoorOpenRec
import Derived.Test.YtcmdpmialehjgaaGreatDoorTxOpen
import Derived.Test.YtcmdpmialehjgaaGreatDoorPrfMem
namespace Go.Proofs.YtcmdpmialehjgaaGreatDoor
open Go.ChangeShapes Go.WideShapes Go.ChangeAt Go.RowKit Go.Deep

theorem prf_open {H : Type} {enc : TypeId × Value → H} {W : World} {fuel : Nat} {cs : List Value} {x : DataW H × List MemPlace}
    (h : DataW.trod enc Tryz.prog W 0 (fun _ => true) true fuel 28 cs = some x) : ∃ y : PPrf, PrfIn W y ∧ cs = y.cells := by
  obtain ⟨xs, k, _, _, hl, hxl, hf⟩ := DataW.trod_struct Tryz.underlying28 h
  replace hl : cs.length = 101 := by rw [hl]; kernel_rfl
  replace hxl : xs.length = 4 := hxl
  obtain ⟨y0, h0⟩ := field_is (y := DataW.trod enc Tryz.prog W 0 (fun _ => true) true k 25 ((cs.drop 0).take (Tryz.prog.cellsOf 25))) (by omega) (hf 0 _ rfl)
  rw [show Tryz.prog.cellsOf 25 = 67 from by kernel_rfl] at h0
  obtain ⟨y1, h1⟩ := field_is (y := DataW.trod enc Tryz.prog W 0 (fun _ => true) true k 26 ((cs.drop 67).take (Tryz.prog.cellsOf 26))) (by omega) (hf 1 _ rfl)
  rw [show Tryz.prog.cellsOf 26 = 1 from by kernel_rfl] at h1
  obtain ⟨y2, h2⟩ := field_is (y := DataW.trod enc Tryz.prog W 0 (fun _ => true) true k 26 ((cs.drop 68).take (Tryz.prog.cellsOf 26))) (by omega) (hf 2 _ rfl)
  rw [show Tryz.prog.cellsOf 26 = 1 from by kernel_rfl] at h2
  obtain ⟨y3, h3⟩ := field_is (y := DataW.trod enc Tryz.prog W 0 (fun _ => true) true k 23 ((cs.drop 69).take (Tryz.prog.cellsOf 23))) (by omega) (hf 3 _ rfl)
  rw [show Tryz.prog.cellsOf 23 = 32 from by kernel_rfl] at h3
  obtain ⟨z0, g0, e0⟩ := rec_open h0
  obtain ⟨a1, n1, c1, l1, e1, g1⟩ := row_cells h1
  obtain ⟨a2, n2, c2, l2, e2, g2⟩ := row_cells h2
  obtain ⟨s3, g3, e3⟩ := sum_open (cs := ((cs.drop 69).take 32).toArray) (by simp; omega) h3
  replace e3 : (cs.drop 69).take 32 = cellsOf s3 := by simpa using e3
  refine ⟨⟨z0, a1, n1, c1, l1, a2, n2, c2, l2, s3⟩, ⟨g0, g1, g2, g3⟩, ?_⟩
  have t0 := drop_split cs 0 67
  have t1 := drop_split cs 67 1
  have t2 := drop_split cs 68 1
  have t3 := drop_split cs 69 32
  have tl : cs.drop 101 = [] := List.drop_of_length_le (by omega)
  rw [List.drop_zero] at t0 e0
  rw [t0, e0, show (0 : Nat) + 67 = 67 from rfl, t1, e1, show (67 : Nat) + 1 = 68 from rfl, t2, e2, show (68 : Nat) + 1 = 69 from rfl, t3, e3, show (69 : Nat) + 32 = 101 from rfl, tl]
  simp [PPrf.cells, PPrf.tail]
theorem facts_open {H : Type} {enc : TypeId × Value → H} {W : World} {fuel : Nat} {cs : List Value} {x : DataW H × List MemPlace}
    (h : DataW.trod enc Tryz.prog W 0 (fun _ => true) true fuel 58 cs = some x) : ∃ y : PFacts, FactsIn W y ∧ cs = y.cells := by
  obtain ⟨xs, k, _, _, hl, hxl, hf⟩ := DataW.trod_struct Tryz.underlying58 h
  replace hl : cs.length = 43 := by rw [hl]; kernel_rfl
  replace hxl : xs.length = 4 := hxl
  obtain ⟨y0, h0⟩ := field_is (y := DataW.trod enc Tryz.prog W 0 (fun _ => true) true k 56 ((cs.drop 0).take (Tryz.prog.cellsOf 56))) (by omega) (hf 0 _ rfl)
  rw [show Tryz.prog.cellsOf 56 = 40 from by kernel_rfl] at h0
  obtain ⟨y1, h1⟩ := field_is (y := DataW.trod enc Tryz.prog W 0 (fun _ => true) true k 3 ((cs.drop 40).take (Tryz.prog.cellsOf 3))) (by omega) (hf 1 _ rfl)
  rw [show Tryz.prog.cellsOf 3 = 1 from by kernel_rfl] at h1
  obtain ⟨y2, h2⟩ := field_is (y := DataW.trod enc Tryz.prog W 0 (fun _ => true) true k 4 ((cs.drop 41).take (Tryz.prog.cellsOf 4))) (by omega) (hf 2 _ rfl)
  rw [show Tryz.prog.cellsOf 4 = 1 from by kernel_rfl] at h2
  obtain ⟨y3, h3⟩ := field_is (y := DataW.trod enc Tryz.prog W 0 (fun _ => true) true k 3 ((cs.drop 42).take (Tryz.prog.cellsOf 3))) (by omega) (hf 3 _ rfl)
  rw [show Tryz.prog.cellsOf 3 = 1 from by kernel_rfl] at h3
  obtain ⟨z0, g0, e0⟩ := tx_open h0
  obtain ⟨z1, e1, g1⟩ := int_cells Tryz.underlying3 h1
  obtain ⟨z2, e2, _⟩ := DataW.trod_bool Tryz.underlying4 h2
  obtain ⟨z3, e3, g3⟩ := int_cells Tryz.underlying3 h3
  refine ⟨⟨z0, z1, z2, z3⟩, ⟨g0, g1, g3⟩, ?_⟩
  have t0 := drop_split cs 0 40
  have t1 := drop_split cs 40 1
  have t2 := drop_split cs 41 1
  have t3 := drop_split cs 42 1
  have tl : cs.drop 43 = [] := List.drop_of_length_le (by omega)
  rw [List.drop_zero] at t0 e0
  rw [t0, e0, show (0 : Nat) + 40 = 40 from rfl, t1, e1, show (40 : Nat) + 1 = 41 from rfl, t2, e2, show (41 : Nat) + 1 = 42 from rfl, t3, e3, show (42 : Nat) + 1 = 43 from rfl, tl]
  simp [PFacts.cells]
end Go.Proofs.YtcmdpmialehjgaaGreatDoor
