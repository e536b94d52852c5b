/- Calls of law 9 that came in as arguments, opened. No function of the program is named. -/
import Derived.Test.YtdeilkpcmgcbaaaTxOpen
import Derived.Test.YtdeilkpcmgcbaaaRowMem
namespace Go.Proofs.Ytdeilkpcmgcbaaa
open Go.ChangeShapes Go.WideShapes Go.ChangeAt Go.RowKit Go.Deep

theorem call_open {H : Type} {enc : TypeId × Value → H} {W : World} {fuel : Nat} {cs : List Value} {x : DataW H × List MemPlace}
    (h : DataW.trod enc Try.prog W 0 (fun _ => true) true fuel 34 cs = some x) : ∃ y : PCall, CallIn W y ∧ cs = y.cells := by
  obtain ⟨xs, k, _, _, hl, hxl, hf⟩ := DataW.trod_struct Try.underlying34 h
  replace hl : cs.length = 37 := by rw [hl]; kernel_rfl
  replace hxl : xs.length = 4 := hxl
  obtain ⟨y0, h0⟩ := field_is (y := DataW.trod enc Try.prog W 0 (fun _ => true) true k 3 ((cs.drop 0).take (Try.prog.cellsOf 3))) (by omega) (hf 0 _ rfl)
  rw [show Try.prog.cellsOf 3 = 1 from by kernel_rfl] at h0
  obtain ⟨y1, h1⟩ := field_is (y := DataW.trod enc Try.prog W 0 (fun _ => true) true k 32 ((cs.drop 1).take (Try.prog.cellsOf 32))) (by omega) (hf 1 _ rfl)
  rw [show Try.prog.cellsOf 32 = 33 from by kernel_rfl] at h1
  obtain ⟨y2, h2⟩ := field_is (y := DataW.trod enc Try.prog W 0 (fun _ => true) true k 28 ((cs.drop 34).take (Try.prog.cellsOf 28))) (by omega) (hf 2 _ rfl)
  rw [show Try.prog.cellsOf 28 = 2 from by kernel_rfl] at h2
  obtain ⟨y3, h3⟩ := field_is (y := DataW.trod enc Try.prog W 0 (fun _ => true) true k 3 ((cs.drop 36).take (Try.prog.cellsOf 3))) (by omega) (hf 3 _ rfl)
  rw [show Try.prog.cellsOf 3 = 1 from by kernel_rfl] at h3
  obtain ⟨z0, e0, g0⟩ := int_cells Try.underlying3 h0
  obtain ⟨s1, z1, g1, g1b, e1⟩ := ref_cells h1
  obtain ⟨o2, g2, e2⟩ := pout_open h2
  obtain ⟨z3, e3, g3⟩ := int_cells Try.underlying3 h3
  refine ⟨⟨z0, s1, z1, o2, z3⟩, ⟨g0, g1, g1b, g2, g3⟩, ?_⟩
  have t0 := drop_split cs 0 1
  have t1 := drop_split cs 1 33
  have t2 := drop_split cs 34 2
  have t3 := drop_split cs 36 1
  have tl : cs.drop 37 = [] := List.drop_of_length_le (by omega)
  rw [List.drop_zero] at t0 e0
  rw [t0, e0, show (0 : Nat) + 1 = 1 from rfl, t1, e1, show (1 : Nat) + 33 = 34 from rfl, t2, e2, show (34 : Nat) + 2 = 36 from rfl, t3, e3, show (36 : Nat) + 1 = 37 from rfl, tl]
  simp [PCall.cells, PRow.cells]
/-- A script. -/
theorem calls_open {H : Type} {enc : TypeId × Value → H} {W : World} {fuel : Nat} {cs : List Value} {x : DataW H × List MemPlace}
    (h : DataW.trod enc Try.prog W 0 (fun _ => true) true fuel 22 cs = some x) : ∃ a n c ys, cs = [.slice a n c] ∧ SliceOf callK W a n c ys :=
  slice_cells (K := callK) Try.underlying22 (by kernel_rfl) (fun _ _ _ h => call_open h) h
end Go.Proofs.Ytdeilkpcmgcbaaa
