/- Channels, and states of channels, that came in as arguments, opened. No function of the program is named. -/
import Derived.Test.YtkihmhchdenamaaDoorOpenRef
import Derived.Test.YtkihmhchdenamaaDoorStateMem
namespace Go.Proofs.YtkihmhchdenamaaDoor
open Go.ChangeShapes Go.WideShapes Go.ChangeAt Go.RowKit Go.Deep

theorem chan_open {H : Type} {enc : TypeId × Value → H} {W : World} {fuel : Nat} {cs : List Value} {x : DataW H × List MemPlace}
    (h : DataW.trod enc Tryd.prog W 0 (fun _ => true) true fuel 27 cs = some x) : ∃ y : PChan, ChanIn y ∧ cs = y.cells := by
  obtain ⟨xs, k, _, _, hl, hxl, hf⟩ := DataW.trod_struct Tryd.underlying27 h
  replace hl : cs.length = 39 := by rw [hl]; kernel_rfl
  replace hxl : xs.length = 7 := hxl
  obtain ⟨y0, h0⟩ := field_is (y := DataW.trod enc Tryd.prog W 0 (fun _ => true) true k 3 ((cs.drop 0).take (Tryd.prog.cellsOf 3))) (by omega) (hf 0 _ rfl)
  rw [show Tryd.prog.cellsOf 3 = 1 from by kernel_rfl] at h0
  obtain ⟨y1, h1⟩ := field_is (y := DataW.trod enc Tryd.prog W 0 (fun _ => true) true k 3 ((cs.drop 1).take (Tryd.prog.cellsOf 3))) (by omega) (hf 1 _ rfl)
  rw [show Tryd.prog.cellsOf 3 = 1 from by kernel_rfl] at h1
  obtain ⟨y2, h2⟩ := field_is (y := DataW.trod enc Tryd.prog W 0 (fun _ => true) true k 3 ((cs.drop 2).take (Tryd.prog.cellsOf 3))) (by omega) (hf 2 _ rfl)
  rw [show Tryd.prog.cellsOf 3 = 1 from by kernel_rfl] at h2
  obtain ⟨y3, h3⟩ := field_is (y := DataW.trod enc Tryd.prog W 0 (fun _ => true) true k 25 ((cs.drop 3).take (Tryd.prog.cellsOf 25))) (by omega) (hf 3 _ rfl)
  rw [show Tryd.prog.cellsOf 25 = 33 from by kernel_rfl] at h3
  obtain ⟨y4, h4⟩ := field_is (y := DataW.trod enc Tryd.prog W 0 (fun _ => true) true k 2 ((cs.drop 36).take (Tryd.prog.cellsOf 2))) (by omega) (hf 4 _ rfl)
  rw [show Tryd.prog.cellsOf 2 = 1 from by kernel_rfl] at h4
  obtain ⟨y5, h5⟩ := field_is (y := DataW.trod enc Tryd.prog W 0 (fun _ => true) true k 3 ((cs.drop 37).take (Tryd.prog.cellsOf 3))) (by omega) (hf 5 _ rfl)
  rw [show Tryd.prog.cellsOf 3 = 1 from by kernel_rfl] at h5
  obtain ⟨y6, h6⟩ := field_is (y := DataW.trod enc Tryd.prog W 0 (fun _ => true) true k 3 ((cs.drop 38).take (Tryd.prog.cellsOf 3))) (by omega) (hf 6 _ rfl)
  rw [show Tryd.prog.cellsOf 3 = 1 from by kernel_rfl] at h6
  obtain ⟨z0, e0, g0⟩ := int_cells Tryd.underlying3 h0
  obtain ⟨z1, e1, g1⟩ := int_cells Tryd.underlying3 h1
  obtain ⟨z2, e2, g2⟩ := int_cells Tryd.underlying3 h2
  obtain ⟨s3, z3, g3, g3b, e3⟩ := ref_cells h3
  obtain ⟨z4, e4, g4⟩ := int_cells Tryd.underlying2 h4
  obtain ⟨z5, e5, g5⟩ := int_cells Tryd.underlying3 h5
  obtain ⟨z6, e6, g6⟩ := int_cells Tryd.underlying3 h6
  refine ⟨⟨z0, z1, z2, s3, z3, z4, z5, z6⟩, ⟨g0, g1, g2, g3, g3b, g4, g5, g6⟩, ?_⟩
  have t0 := drop_split cs 0 1
  have t1 := drop_split cs 1 1
  have t2 := drop_split cs 2 1
  have t3 := drop_split cs 3 33
  have t4 := drop_split cs 36 1
  have t5 := drop_split cs 37 1
  have t6 := drop_split cs 38 1
  have tl : cs.drop 39 = [] := List.drop_of_length_le (by omega)
  rw [List.drop_zero] at t0 e0
  rw [t0, e0, show (0 : Nat) + 1 = 1 from rfl, t1, e1, show (1 : Nat) + 1 = 2 from rfl, t2, e2, show (2 : Nat) + 1 = 3 from rfl, t3, e3, show (3 : Nat) + 33 = 36 from rfl, t4, e4, show (36 : Nat) + 1 = 37 from rfl, t5, e5, show (37 : Nat) + 1 = 38 from rfl, t6, e6, show (38 : Nat) + 1 = 39 from rfl, tl]
  simp [PChan.cells, refCells]
set_option maxRecDepth 100000 in
theorem two_sums {H : Type} {enc : TypeId × Value → H} {W : World} {fuel : Nat} {cs : List Value} {x : DataW H × List MemPlace} (hsz : cs.length = 64)
    (h : DataW.trod enc Tryd.prog W 0 (fun _ => true) true fuel 28 cs = some x) : ∃ s t : List UInt8, s.length = 32 ∧ t.length = 32 ∧ cs = cellsOf s ++ cellsOf t := by
  obtain ⟨xs, k, _, _, _, hxl, hf⟩ := DataW.trod_array Tryd.underlying28 h
  have hc : Tryd.prog.cellsOf 23 = 32 := by kernel_rfl
  have h0 := hf 0 (by omega)
  have h1 := hf 1 (by omega)
  rw [hc, List.getElem?_eq_getElem (by rw [hxl]; decide)] at h0
  rw [hc, List.getElem?_eq_getElem (by rw [hxl]; decide)] at h1
  rw [Nat.zero_mul, List.drop_zero] at h0
  rw [Nat.one_mul] at h1
  obtain ⟨s, g0, e0⟩ := sum_open (cs := (cs.take 32).toArray) (by simp; omega) h0
  obtain ⟨t, g1, e1⟩ := sum_open (cs := ((cs.drop 32).take 32).toArray) (by simp; omega) h1
  replace e0 : cs.take 32 = cellsOf s := by simpa using e0
  replace e1 : (cs.drop 32).take 32 = cellsOf t := by simpa using e1
  refine ⟨s, t, g0, g1, ?_⟩
  rw [← e0, ← e1, List.take_of_length_le (show (cs.drop 32).length ≤ 32 by simp; omega), List.take_append_drop]
theorem state_open {H : Type} {enc : TypeId × Value → H} {W : World} {fuel : Nat} {cs : List Value} {x : DataW H × List MemPlace}
    (h : DataW.trod enc Tryd.prog W 0 (fun _ => true) true fuel 30 cs = some x) : ∃ y : PState, StateIn y ∧ cs = y.cells := by
  obtain ⟨xs, k, _, _, hl, hxl, hf⟩ := DataW.trod_struct Tryd.underlying30 h
  replace hl : cs.length = 67 := by rw [hl]; kernel_rfl
  replace hxl : xs.length = 4 := hxl
  obtain ⟨y0, h0⟩ := field_is (y := DataW.trod enc Tryd.prog W 0 (fun _ => true) true k 3 ((cs.drop 0).take (Tryd.prog.cellsOf 3))) (by omega) (hf 0 _ rfl)
  rw [show Tryd.prog.cellsOf 3 = 1 from by kernel_rfl] at h0
  obtain ⟨y1, h1⟩ := field_is (y := DataW.trod enc Tryd.prog W 0 (fun _ => true) true k 2 ((cs.drop 1).take (Tryd.prog.cellsOf 2))) (by omega) (hf 1 _ rfl)
  rw [show Tryd.prog.cellsOf 2 = 1 from by kernel_rfl] at h1
  obtain ⟨y2, h2⟩ := field_is (y := DataW.trod enc Tryd.prog W 0 (fun _ => true) true k 2 ((cs.drop 2).take (Tryd.prog.cellsOf 2))) (by omega) (hf 2 _ rfl)
  rw [show Tryd.prog.cellsOf 2 = 1 from by kernel_rfl] at h2
  obtain ⟨y3, h3⟩ := field_is (y := DataW.trod enc Tryd.prog W 0 (fun _ => true) true k 28 ((cs.drop 3).take (Tryd.prog.cellsOf 28))) (by omega) (hf 3 _ rfl)
  rw [show Tryd.prog.cellsOf 28 = 64 from by kernel_rfl] at h3
  obtain ⟨z0, e0, g0⟩ := int_cells Tryd.underlying3 h0
  obtain ⟨z1, e1, g1⟩ := int_cells Tryd.underlying2 h1
  obtain ⟨z2, e2, g2⟩ := int_cells Tryd.underlying2 h2
  obtain ⟨s3, t3, g3, g3b, e3⟩ := two_sums (by simp; omega) h3
  refine ⟨⟨z0, z1, z2, s3, t3⟩, ⟨g0, g1, g2, g3, g3b⟩, ?_⟩
  have t0 := drop_split cs 0 1
  have t1 := drop_split cs 1 1
  have t2 := drop_split cs 2 1
  have t3 := drop_split cs 3 64
  have tl : cs.drop 67 = [] := List.drop_of_length_le (by omega)
  rw [List.drop_zero] at t0 e0
  rw [t0, e0, show (0 : Nat) + 1 = 1 from rfl, t1, e1, show (1 : Nat) + 1 = 2 from rfl, t2, e2, show (2 : Nat) + 1 = 3 from rfl, t3, e3, show (3 : Nat) + 64 = 67 from rfl, tl]
  simp [PState.cells]
end Go.Proofs.YtkihmhchdenamaaDoor
