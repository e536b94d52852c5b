/- Heads, blocks, and slices of transactions that came in as arguments, opened. No function of the program is named. -/
import Derived.Test.YtlnenkmcegadmaaDoorTxOpen
import Derived.Test.YtlnenkmcegadmaaDoorBlk
namespace Go.Proofs.YtlnenkmcegadmaaDoor
open Go.ChangeShapes Go.WideShapes Go.ChangeAt Go.RowKit Go.Deep

theorem txs_open {H : Type} {enc : TypeId × Value → H} {W : World} {fuel : Nat} {cs : List Value} {x : DataW H × List MemPlace}
    (h : DataW.trod enc Tryd.prog W 0 (fun _ => true) true fuel 26 cs = some x) : ∃ a n c ys, cs = [.slice a n c] ∧ SliceOf txK W a n c ys :=
  slice_cells (K := txK) Tryd.underlying26 (by kernel_rfl) (fun _ _ _ h => tx_open h) h
theorem head_open {H : Type} {enc : TypeId × Value → H} {W : World} {fuel : Nat} {cs : List Value} {x : DataW H × List MemPlace}
    (h : DataW.trod enc Tryd.prog W 0 (fun _ => true) true fuel 25 cs = some x) : ∃ y : PHead, HeadIn y ∧ cs = y.cells := by
  obtain ⟨xs, k, _, _, hl, hxl, hf⟩ := DataW.trod_struct Tryd.underlying25 h
  replace hl : cs.length = 66 := by rw [hl]; kernel_rfl
  replace hxl : xs.length = 4 := hxl
  obtain ⟨y0, h0⟩ := field_is (y := DataW.trod enc Tryd.prog W 0 (fun _ => true) true k 23 ((cs.drop 0).take (Tryd.prog.cellsOf 23))) (by omega) (hf 0 _ rfl)
  rw [show Tryd.prog.cellsOf 23 = 32 from by kernel_rfl] at h0
  obtain ⟨y1, h1⟩ := field_is (y := DataW.trod enc Tryd.prog W 0 (fun _ => true) true k 3 ((cs.drop 32).take (Tryd.prog.cellsOf 3))) (by omega) (hf 1 _ rfl)
  rw [show Tryd.prog.cellsOf 3 = 1 from by kernel_rfl] at h1
  obtain ⟨y2, h2⟩ := field_is (y := DataW.trod enc Tryd.prog W 0 (fun _ => true) true k 23 ((cs.drop 33).take (Tryd.prog.cellsOf 23))) (by omega) (hf 2 _ rfl)
  rw [show Tryd.prog.cellsOf 23 = 32 from by kernel_rfl] at h2
  obtain ⟨y3, h3⟩ := field_is (y := DataW.trod enc Tryd.prog W 0 (fun _ => true) true k 3 ((cs.drop 65).take (Tryd.prog.cellsOf 3))) (by omega) (hf 3 _ rfl)
  rw [show Tryd.prog.cellsOf 3 = 1 from by kernel_rfl] at h3
  obtain ⟨s0, g0, e0⟩ := sum_open (cs := ((cs.drop 0).take 32).toArray) (by simp; omega) h0
  replace e0 : (cs.drop 0).take 32 = cellsOf s0 := by simpa using e0
  obtain ⟨z1, e1, g1⟩ := int_cells Tryd.underlying3 h1
  obtain ⟨s2, g2, e2⟩ := sum_open (cs := ((cs.drop 33).take 32).toArray) (by simp; omega) h2
  replace e2 : (cs.drop 33).take 32 = cellsOf s2 := by simpa using e2
  obtain ⟨z3, e3, g3⟩ := int_cells Tryd.underlying3 h3
  refine ⟨⟨s0, z1, s2, z3⟩, ⟨g0, g1, g2, g3⟩, ?_⟩
  have t0 := drop_split cs 0 32
  have t1 := drop_split cs 32 1
  have t2 := drop_split cs 33 32
  have t3 := drop_split cs 65 1
  have tl : cs.drop 66 = [] := List.drop_of_length_le (by omega)
  rw [List.drop_zero] at t0 e0
  rw [t0, e0, show (0 : Nat) + 32 = 32 from rfl, t1, e1, show (32 : Nat) + 1 = 33 from rfl, t2, e2, show (33 : Nat) + 32 = 65 from rfl, t3, e3, show (65 : Nat) + 1 = 66 from rfl, tl]
  simp [PHead.cells]
theorem block_open {H : Type} {enc : TypeId × Value → H} {W : World} {fuel : Nat} {cs : List Value} {x : DataW H × List MemPlace}
    (h : DataW.trod enc Tryd.prog W 0 (fun _ => true) true fuel 30 cs = some x) : ∃ y : PBlock, BlockIn W y ∧ cs = y.cells := by
  obtain ⟨xs, k, _, _, hl, hxl, hf⟩ := DataW.trod_struct Tryd.underlying30 h
  replace hl : cs.length = 67 := by rw [hl]; kernel_rfl
  replace hxl : xs.length = 2 := hxl
  obtain ⟨y0, h0⟩ := field_is (y := DataW.trod enc Tryd.prog W 0 (fun _ => true) true k 25 ((cs.drop 0).take (Tryd.prog.cellsOf 25))) (by omega) (hf 0 _ rfl)
  rw [show Tryd.prog.cellsOf 25 = 66 from by kernel_rfl] at h0
  obtain ⟨y1, h1⟩ := field_is (y := DataW.trod enc Tryd.prog W 0 (fun _ => true) true k 26 ((cs.drop 66).take (Tryd.prog.cellsOf 26))) (by omega) (hf 1 _ rfl)
  rw [show Tryd.prog.cellsOf 26 = 1 from by kernel_rfl] at h1
  obtain ⟨y00, g0, e0⟩ := head_open h0
  obtain ⟨a1, n1, c1, l1, e1, g1⟩ := txs_open h1
  refine ⟨⟨y00, a1, n1, c1, l1⟩, ⟨g0, g1⟩, ?_⟩
  have t0 := drop_split cs 0 66
  have t1 := drop_split cs 66 1
  have tl : cs.drop 67 = [] := List.drop_of_length_le (by omega)
  rw [List.drop_zero] at t0 e0
  rw [t0, e0, show (0 : Nat) + 66 = 66 from rfl, t1, e1, show (66 : Nat) + 1 = 67 from rfl, tl]
  simp [PBlock.cells]
end Go.Proofs.YtlnenkmcegadmaaDoor
