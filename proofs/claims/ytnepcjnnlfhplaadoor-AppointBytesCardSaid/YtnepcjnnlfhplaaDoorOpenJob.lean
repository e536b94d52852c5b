/- Jobs that came in as arguments, opened. No function of the program is named. -/
import Derived.Test.YtnepcjnnlfhplaaDoorOpenFields
import Derived.Test.YtnepcjnnlfhplaaDoorJobMem
namespace Go.Proofs.YtnepcjnnlfhplaaDoor
open Go.ChangeShapes Go.WideShapes Go.ChangeAt Go.RowKit Go.Deep

theorem job_open {H : Type} {enc : TypeId × Value → H} {W : World} {fuel : Nat} {cs : List Value} {x : DataW H × List MemPlace}
    (h : DataW.trod enc Tryd.prog W 0 (fun _ => true) true fuel 51 cs = some x) : ∃ y : PJob, JobIn W y ∧ cs = y.cells := by
  obtain ⟨xs, k, _, _, hl, hxl, hf⟩ := DataW.trod_struct Tryd.underlying51 h
  replace hl : cs.length = 35 := by rw [hl]; kernel_rfl
  replace hxl : xs.length = 4 := hxl
  obtain ⟨y0, h0⟩ := field_is (y := DataW.trod enc Tryd.prog W 0 (fun _ => true) true k 3 ((cs.drop 0).take (Tryd.prog.cellsOf 3))) (by omega) (hf 0 _ rfl)
  rw [show Tryd.prog.cellsOf 3 = 1 from by kernel_rfl] at h0
  obtain ⟨y1, h1⟩ := field_is (y := DataW.trod enc Tryd.prog W 0 (fun _ => true) true k 3 ((cs.drop 1).take (Tryd.prog.cellsOf 3))) (by omega) (hf 1 _ rfl)
  rw [show Tryd.prog.cellsOf 3 = 1 from by kernel_rfl] at h1
  obtain ⟨y2, h2⟩ := field_is (y := DataW.trod enc Tryd.prog W 0 (fun _ => true) true k 23 ((cs.drop 2).take (Tryd.prog.cellsOf 23))) (by omega) (hf 2 _ rfl)
  rw [show Tryd.prog.cellsOf 23 = 32 from by kernel_rfl] at h2
  obtain ⟨y3, h3⟩ := field_is (y := DataW.trod enc Tryd.prog W 0 (fun _ => true) true k 26 ((cs.drop 34).take (Tryd.prog.cellsOf 26))) (by omega) (hf 3 _ rfl)
  rw [show Tryd.prog.cellsOf 26 = 1 from by kernel_rfl] at h3
  obtain ⟨z0, e0, g0⟩ := int_cells Tryd.underlying3 h0
  obtain ⟨z1, e1, g1⟩ := int_cells Tryd.underlying3 h1
  obtain ⟨s2, g2, e2⟩ := sum_open (cs := ((cs.drop 2).take 32).toArray) (by simp; omega) h2
  replace e2 : (cs.drop 2).take 32 = cellsOf s2 := by simpa using e2
  obtain ⟨a3, n3, c3, l3, e3, g3⟩ := row_cells h3
  refine ⟨⟨z0, z1, s2, a3, n3, c3, l3⟩, ⟨g0, g1, g2, g3⟩, ?_⟩
  have t0 := drop_split cs 0 1
  have t1 := drop_split cs 1 1
  have t2 := drop_split cs 2 32
  have t3 := drop_split cs 34 1
  have tl : cs.drop 35 = [] := List.drop_of_length_le (by omega)
  rw [List.drop_zero] at t0 e0
  rw [t0, e0, show (0 : Nat) + 1 = 1 from rfl, t1, e1, show (1 : Nat) + 1 = 2 from rfl, t2, e2, show (2 : Nat) + 32 = 34 from rfl, t3, e3, show (34 : Nat) + 1 = 35 from rfl, tl]
  simp [PJob.cells]
end Go.Proofs.YtnepcjnnlfhplaaDoor
