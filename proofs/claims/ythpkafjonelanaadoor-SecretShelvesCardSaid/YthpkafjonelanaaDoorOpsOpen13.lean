/- The calls of law 13 that came in as an argument, opened. No function of the program is named. -/
import Derived.Test.YthpkafjonelanaaDoorOpenOf
import Derived.Test.YthpkafjonelanaaDoorOpMem13
namespace Go.Proofs.YthpkafjonelanaaDoor
open Go.ChangeShapes Go.WideShapes Go.ChangeAt Go.RowKit Go.Deep

theorem op_open13 {H : Type} {enc : TypeId × Value → H} {W : World} {fuel : Nat} {cs : List Value} {x : DataW H × List MemPlace}
    (h : DataW.trod enc Tryd.prog W 0 (fun _ => true) true fuel 38 cs = some x) : ∃ y : POp13, OpIn13 y ∧ cs = y.cells := by
  obtain ⟨xs, k, _, _, hl, hxl, hf⟩ := DataW.trod_struct Tryd.underlying38 h
  replace hl : cs.length = 65 := by rw [hl]; kernel_rfl
  replace hxl : xs.length = 3 := hxl
  obtain ⟨y0, h0⟩ := field_is (y := DataW.trod enc Tryd.prog W 0 (fun _ => true) true k 23 ((cs.drop 0).take (Tryd.prog.cellsOf 23))) (by omega) (hf 0 _ rfl)
  rw [show Tryd.prog.cellsOf 23 = 32 from by kernel_rfl] at h0
  obtain ⟨y1, h1⟩ := field_is (y := DataW.trod enc Tryd.prog W 0 (fun _ => true) true k 23 ((cs.drop 32).take (Tryd.prog.cellsOf 23))) (by omega) (hf 1 _ rfl)
  rw [show Tryd.prog.cellsOf 23 = 32 from by kernel_rfl] at h1
  obtain ⟨y2, h2⟩ := field_is (y := DataW.trod enc Tryd.prog W 0 (fun _ => true) true k 4 ((cs.drop 64).take (Tryd.prog.cellsOf 4))) (by omega) (hf 2 _ rfl)
  rw [show Tryd.prog.cellsOf 4 = 1 from by kernel_rfl] at h2
  obtain ⟨s0, g0, e0⟩ := sum_open (cs := ((cs.drop 0).take 32).toArray) (by simp; omega) h0
  replace e0 : (cs.drop 0).take 32 = cellsOf s0 := by simpa using e0
  obtain ⟨s1, g1, e1⟩ := sum_open (cs := ((cs.drop 32).take 32).toArray) (by simp; omega) h1
  replace e1 : (cs.drop 32).take 32 = cellsOf s1 := by simpa using e1
  obtain ⟨b2, e2, _⟩ := DataW.trod_bool Tryd.underlying4 h2
  refine ⟨⟨s0, s1, b2⟩, ⟨g0, g1⟩, ?_⟩
  have t0 := drop_split cs 0 32
  have t1 := drop_split cs 32 32
  have t2 := drop_split cs 64 1
  have tl : cs.drop 65 = [] := List.drop_of_length_le (by omega)
  rw [List.drop_zero] at t0 e0
  rw [t0, e0, show (0 : Nat) + 32 = 32 from rfl, t1, e1, show (32 : Nat) + 32 = 64 from rfl, t2, e2, show (64 : Nat) + 1 = 65 from rfl, tl]
  simp [POp13.cells]
theorem ops_open13 {H : Type} {enc : TypeId × Value → H} {W : World} {fuel : Nat} {cs : List Value} {x : DataW H × List MemPlace}
    (h : DataW.trod enc Tryd.prog W 0 (fun _ => true) true fuel 30 cs = some x) : ∃ a n c ys, cs = [.slice a n c] ∧ SliceOf opK13 W a n c ys :=
  slice_cells (K := opK13) Tryd.underlying30 (by kernel_rfl) (fun _ _ _ h => op_open13 h) h
end Go.Proofs.YthpkafjonelanaaDoor
