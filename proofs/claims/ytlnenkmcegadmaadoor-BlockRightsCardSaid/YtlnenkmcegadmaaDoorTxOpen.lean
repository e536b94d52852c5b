/- Transactions that came in as arguments, opened. No function of the program is named. -/
import Derived.Test.YtlnenkmcegadmaaDoorOpenOf
import Derived.Test.YtlnenkmcegadmaaDoorOpenWay
import Derived.Test.YtlnenkmcegadmaaDoorOpenRef
import Derived.Test.YtlnenkmcegadmaaDoorTx
namespace Go.Proofs.YtlnenkmcegadmaaDoor
open Go.ChangeShapes Go.WideShapes Go.ChangeAt Go.RowKit Go.Deep

theorem in_open {H : Type} {enc : TypeId × Value → H} {W : World} {fuel : Nat} {cs : List Value} {x : DataW H × List MemPlace}
    (h : DataW.trod enc Tryd.prog W 0 (fun _ => true) true fuel 76 cs = some x) : ∃ y : PIn, InIn W y ∧ cs = y.cells := by
  obtain ⟨xs, k, _, _, hl, hxl, hf⟩ := DataW.trod_struct Tryd.underlying76 h
  replace hl : cs.length = 35 := by rw [hl]; kernel_rfl
  replace hxl : xs.length = 3 := hxl
  obtain ⟨y0, h0⟩ := field_is (y := DataW.trod enc Tryd.prog W 0 (fun _ => true) true k 74 ((cs.drop 0).take (Tryd.prog.cellsOf 74))) (by omega) (hf 0 _ rfl)
  rw [show Tryd.prog.cellsOf 74 = 33 from by kernel_rfl] at h0
  obtain ⟨y1, h1⟩ := field_is (y := DataW.trod enc Tryd.prog W 0 (fun _ => true) true k 3 ((cs.drop 33).take (Tryd.prog.cellsOf 3))) (by omega) (hf 1 _ rfl)
  rw [show Tryd.prog.cellsOf 3 = 1 from by kernel_rfl] at h1
  obtain ⟨y2, h2⟩ := field_is (y := DataW.trod enc Tryd.prog W 0 (fun _ => true) true k 45 ((cs.drop 34).take (Tryd.prog.cellsOf 45))) (by omega) (hf 2 _ rfl)
  rw [show Tryd.prog.cellsOf 45 = 1 from by kernel_rfl] at h2
  obtain ⟨s0, z0, g0, g0b, e0⟩ := ref_cells h0
  obtain ⟨z1, e1, g1⟩ := int_cells Tryd.underlying3 h1
  obtain ⟨a2, n2, c2, l2, e2, g2⟩ := row_cells h2
  refine ⟨⟨s0, z0, z1, a2, n2, c2, l2⟩, ⟨g0, g0b, g1, g2⟩, ?_⟩
  have t0 := drop_split cs 0 33
  have t1 := drop_split cs 33 1
  have t2 := drop_split cs 34 1
  have tl : cs.drop 35 = [] := List.drop_of_length_le (by omega)
  rw [List.drop_zero] at t0 e0
  rw [t0, e0, show (0 : Nat) + 33 = 33 from rfl, t1, e1, show (33 : Nat) + 1 = 34 from rfl, t2, e2, show (34 : Nat) + 1 = 35 from rfl, tl]
  simp [PIn.cells]
theorem sign_open {H : Type} {enc : TypeId × Value → H} {W : World} {fuel : Nat} {cs : List Value} {x : DataW H × List MemPlace}
    (h : DataW.trod enc Tryd.prog W 0 (fun _ => true) true fuel 86 cs = some x) : ∃ y : PSign, SignIn y ∧ cs = y.cells := by
  obtain ⟨xs, k, _, _, hl, hxl, hf⟩ := DataW.trod_struct Tryd.underlying86 h
  replace hl : cs.length = 33 := by rw [hl]; kernel_rfl
  replace hxl : xs.length = 2 := hxl
  obtain ⟨y0, h0⟩ := field_is (y := DataW.trod enc Tryd.prog W 0 (fun _ => true) true k 3 ((cs.drop 0).take (Tryd.prog.cellsOf 3))) (by omega) (hf 0 _ rfl)
  rw [show Tryd.prog.cellsOf 3 = 1 from by kernel_rfl] at h0
  obtain ⟨y1, h1⟩ := field_is (y := DataW.trod enc Tryd.prog W 0 (fun _ => true) true k 23 ((cs.drop 1).take (Tryd.prog.cellsOf 23))) (by omega) (hf 1 _ rfl)
  rw [show Tryd.prog.cellsOf 23 = 32 from by kernel_rfl] at h1
  obtain ⟨z0, e0, g0⟩ := int_cells Tryd.underlying3 h0
  obtain ⟨s1, g1, e1⟩ := sum_open (cs := ((cs.drop 1).take 32).toArray) (by simp; omega) h1
  replace e1 : (cs.drop 1).take 32 = cellsOf s1 := by simpa using e1
  refine ⟨⟨z0, s1⟩, ⟨g0, g1⟩, ?_⟩
  have t0 := drop_split cs 0 1
  have t1 := drop_split cs 1 32
  have tl : cs.drop 33 = [] := List.drop_of_length_le (by omega)
  rw [List.drop_zero] at t0 e0
  rw [t0, e0, show (0 : Nat) + 1 = 1 from rfl, t1, e1, show (1 : Nat) + 32 = 33 from rfl, tl]
  simp [PSign.cells]
theorem pout_open {H : Type} {enc : TypeId × Value → H} {W : World} {fuel : Nat} {cs : List Value} {x : DataW H × List MemPlace}
    (h : DataW.trod enc Tryd.prog W 0 (fun _ => true) true fuel 79 cs = some x) : ∃ y : POut, OutIn W y ∧ cs = y.cells := by
  obtain ⟨m, a, n, c, ys, e, g0, g1⟩ := out_open h
  exact ⟨⟨m, a, n, c, ys⟩, ⟨g0, g1⟩, e⟩
theorem op_open {H : Type} {enc : TypeId × Value → H} {W : World} {fuel : Nat} {cs : List Value} {x : DataW H × List MemPlace}
    (h : DataW.trod enc Tryd.prog W 0 (fun _ => true) true fuel 47 cs = some x) : ∃ y : POp, OpIn W y ∧ cs = y.cells := by
  obtain ⟨xs, k, _, _, hl, hxl, hf⟩ := DataW.trod_struct Tryd.underlying47 h
  replace hl : cs.length = 37 := by rw [hl]; kernel_rfl
  replace hxl : xs.length = 6 := hxl
  obtain ⟨y0, h0⟩ := field_is (y := DataW.trod enc Tryd.prog W 0 (fun _ => true) true k 3 ((cs.drop 0).take (Tryd.prog.cellsOf 3))) (by omega) (hf 0 _ rfl)
  rw [show Tryd.prog.cellsOf 3 = 1 from by kernel_rfl] at h0
  obtain ⟨y1, h1⟩ := field_is (y := DataW.trod enc Tryd.prog W 0 (fun _ => true) true k 3 ((cs.drop 1).take (Tryd.prog.cellsOf 3))) (by omega) (hf 1 _ rfl)
  rw [show Tryd.prog.cellsOf 3 = 1 from by kernel_rfl] at h1
  obtain ⟨y2, h2⟩ := field_is (y := DataW.trod enc Tryd.prog W 0 (fun _ => true) true k 3 ((cs.drop 2).take (Tryd.prog.cellsOf 3))) (by omega) (hf 2 _ rfl)
  rw [show Tryd.prog.cellsOf 3 = 1 from by kernel_rfl] at h2
  obtain ⟨y3, h3⟩ := field_is (y := DataW.trod enc Tryd.prog W 0 (fun _ => true) true k 2 ((cs.drop 3).take (Tryd.prog.cellsOf 2))) (by omega) (hf 3 _ rfl)
  rw [show Tryd.prog.cellsOf 2 = 1 from by kernel_rfl] at h3
  obtain ⟨y4, h4⟩ := field_is (y := DataW.trod enc Tryd.prog W 0 (fun _ => true) true k 23 ((cs.drop 4).take (Tryd.prog.cellsOf 23))) (by omega) (hf 4 _ rfl)
  rw [show Tryd.prog.cellsOf 23 = 32 from by kernel_rfl] at h4
  obtain ⟨y5, h5⟩ := field_is (y := DataW.trod enc Tryd.prog W 0 (fun _ => true) true k 45 ((cs.drop 36).take (Tryd.prog.cellsOf 45))) (by omega) (hf 5 _ rfl)
  rw [show Tryd.prog.cellsOf 45 = 1 from by kernel_rfl] at h5
  obtain ⟨z0, e0, g0⟩ := int_cells Tryd.underlying3 h0
  obtain ⟨z1, e1, g1⟩ := int_cells Tryd.underlying3 h1
  obtain ⟨z2, e2, g2⟩ := int_cells Tryd.underlying3 h2
  obtain ⟨z3, e3, g3⟩ := int_cells Tryd.underlying2 h3
  obtain ⟨s4, g4, e4⟩ := sum_open (cs := ((cs.drop 4).take 32).toArray) (by simp; omega) h4
  replace e4 : (cs.drop 4).take 32 = cellsOf s4 := by simpa using e4
  obtain ⟨a5, n5, c5, l5, e5, g5⟩ := row_cells h5
  refine ⟨⟨z0, z1, z2, z3, s4, a5, n5, c5, l5⟩, ⟨g0, g1, g2, g3, g4, g5⟩, ?_⟩
  have t0 := drop_split cs 0 1
  have t1 := drop_split cs 1 1
  have t2 := drop_split cs 2 1
  have t3 := drop_split cs 3 1
  have t4 := drop_split cs 4 32
  have t5 := drop_split cs 36 1
  have tl : cs.drop 37 = [] := List.drop_of_length_le (by omega)
  rw [List.drop_zero] at t0 e0
  rw [t0, e0, show (0 : Nat) + 1 = 1 from rfl, t1, e1, show (1 : Nat) + 1 = 2 from rfl, t2, e2, show (2 : Nat) + 1 = 3 from rfl, t3, e3, show (3 : Nat) + 1 = 4 from rfl, t4, e4, show (4 : Nat) + 32 = 36 from rfl, t5, e5, show (36 : Nat) + 1 = 37 from rfl, tl]
  simp [POp.cells]
theorem tx_open {H : Type} {enc : TypeId × Value → H} {W : World} {fuel : Nat} {cs : List Value} {x : DataW H × List MemPlace}
    (h : DataW.trod enc Tryd.prog W 0 (fun _ => true) true fuel 50 cs = some x) : ∃ y : PTx, TxIn W y ∧ cs = y.cells := by
  obtain ⟨xs, k, _, _, hl, hxl, hf⟩ := DataW.trod_struct Tryd.underlying50 h
  replace hl : cs.length = 40 := by rw [hl]; kernel_rfl
  replace hxl : xs.length = 4 := hxl
  obtain ⟨y0, h0⟩ := field_is (y := DataW.trod enc Tryd.prog W 0 (fun _ => true) true k 43 ((cs.drop 0).take (Tryd.prog.cellsOf 43))) (by omega) (hf 0 _ rfl)
  rw [show Tryd.prog.cellsOf 43 = 1 from by kernel_rfl] at h0
  obtain ⟨y1, h1⟩ := field_is (y := DataW.trod enc Tryd.prog W 0 (fun _ => true) true k 44 ((cs.drop 1).take (Tryd.prog.cellsOf 44))) (by omega) (hf 1 _ rfl)
  rw [show Tryd.prog.cellsOf 44 = 1 from by kernel_rfl] at h1
  obtain ⟨y2, h2⟩ := field_is (y := DataW.trod enc Tryd.prog W 0 (fun _ => true) true k 47 ((cs.drop 2).take (Tryd.prog.cellsOf 47))) (by omega) (hf 2 _ rfl)
  rw [show Tryd.prog.cellsOf 47 = 37 from by kernel_rfl] at h2
  obtain ⟨y3, h3⟩ := field_is (y := DataW.trod enc Tryd.prog W 0 (fun _ => true) true k 48 ((cs.drop 39).take (Tryd.prog.cellsOf 48))) (by omega) (hf 3 _ rfl)
  rw [show Tryd.prog.cellsOf 48 = 1 from by kernel_rfl] at h3
  obtain ⟨a0, n0, c0, l0, e0, g0⟩ := slice_cells (K := inK) Tryd.underlying43 (by kernel_rfl) (fun _ _ _ h => in_open h) h0
  obtain ⟨a1, n1, c1, l1, e1, g1⟩ := slice_cells (K := outK) Tryd.underlying44 (by kernel_rfl) (fun _ _ _ h => pout_open h) h1
  obtain ⟨op, g2, e2⟩ := op_open h2
  obtain ⟨a3, n3, c3, l3, e3, g3⟩ := slice_cells (K := signK) Tryd.underlying48 (by kernel_rfl) (fun _ _ _ h => sign_open h) h3
  refine ⟨⟨a0, n0, c0, l0, a1, n1, c1, l1, op, a3, n3, c3, l3⟩, ⟨g0, g1, g2, g3⟩, ?_⟩
  have t0 := drop_split cs 0 1
  have t1 := drop_split cs 1 1
  have t2 := drop_split cs 2 37
  have t3 := drop_split cs 39 1
  have tl : cs.drop 40 = [] := List.drop_of_length_le (by omega)
  rw [List.drop_zero] at t0 e0
  rw [t0, e0, show (0 : Nat) + 1 = 1 from rfl, t1, e1, show (1 : Nat) + 1 = 2 from rfl, t2, e2, show (2 : Nat) + 37 = 39 from rfl, t3, e3, show (39 : Nat) + 1 = 40 from rfl, tl]
  simp [PTx.cells]
end Go.Proofs.YtlnenkmcegadmaaDoor
