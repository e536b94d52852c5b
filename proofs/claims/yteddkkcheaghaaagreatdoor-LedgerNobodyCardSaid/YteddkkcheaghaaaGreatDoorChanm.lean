/- Channels in memory. No function of the program is named. States of a channel in memory. No function of the program is named. Channels, and states of channels, that came in as arguments, opened. No function of the program is named. -/
import Derived.Test.YteddkkcheaghaaaGreatDoorSliceOf
import Derived.Test.YteddkkcheaghaaaGreatDoorTx
import Derived.Test.YteddkkcheaghaaaGreatDoorOpens
namespace Go.Proofs.YteddkkcheaghaaaGreatDoor
open Go.RowKit

theorem range_append {w : World} {b o : Nat} {cs ds : List Value} (h : w.rangeAt b o (cs ++ ds)) : w.rangeAt b o cs ∧ w.rangeAt b (o + cs.length) ds :=
  ⟨fun j v hv => h j v (by rw [List.getElem?_append_left (List.getElem?_eq_some_iff.1 hv).1]; exact hv), fun j v hv => by
    rw [Nat.add_assoc]
    exact h (cs.length + j) v (by rw [List.getElem?_append_right (by omega), Nat.add_sub_cancel_left]; exact hv)⟩
theorem range_cons {w : World} {b o : Nat} {v : Value} {ds : List Value} (h : w.rangeAt b o (v :: ds)) : w.cell? ⟨b, o, none⟩ = some v ∧ w.rangeAt b (o + 1) ds :=
  ⟨h 0 v rfl, fun j u hu => by
    rw [show o + 1 + j = o + (j + 1) by omega]
    exact h (j + 1) u (by rw [List.getElem?_cons_succ]; exact hu)⟩
structure PChan where
  id : Int
  client : Int
  peer : Int
  ftx : List UInt8
  fat : Int
  cap : Int
  wait : Int
  window : Int
def PChan.cells (x : PChan) : List Value := .int .i64 x.id :: .int .i64 x.client :: .int .i64 x.peer :: (refCells x.ftx x.fat ++ [.int .i64 x.cap, .int .i64 x.wait, .int .i64 x.window])
def noChan : PChan := ⟨0, 0, 0, zero32, 0, 0, 0, 0⟩
structure ChanIn (x : PChan) : Prop where
  id : Fits x.id
  client : Fits x.client
  peer : Fits x.peer
  ftx : x.ftx.length = 32
  fat : Fits x.fat
  cap : Fits x.cap
  wait : Fits x.wait
  window : Fits x.window
theorem PChan.len {x : PChan} (h : x.ftx.length = 32) : x.cells.length = 39 := by simp [PChan.cells, refCells_len h]
theorem refCells_one (s : List UInt8) (z : Int) : ∀ v ∈ refCells s z, v.oneCell' = true := by
  intro v hv
  simp only [refCells, List.mem_append, List.mem_cons, List.not_mem_nil, or_false] at hv
  rcases hv with hv | rfl
  · exact cellsOf_one _ v hv
  · rfl
theorem PChan.one (x : PChan) : ∀ v ∈ x.cells, v.oneCell' = true := by
  intro v hv
  simp only [PChan.cells, List.mem_cons, List.mem_append, List.not_mem_nil, or_false] at hv
  rcases hv with rfl | rfl | rfl | hv | rfl | rfl | rfl
  all_goals first | rfl | exact refCells_one _ _ v hv
theorem Tryz.sizeChan : (Tryz.prog.info? 73).map (·.size) = some 39 := by kernel_rfl
theorem chan_size {x : PChan} (h : x.ftx.length = 32) : (Tryz.prog.info? 73).map (·.size) = some x.cells.length := by rw [PChan.len h]; exact Tryz.sizeChan
theorem Tryz.zeroChan : (Tryz.prog.info? 73).map (fun i => (i.zero, i.size, i.bytes)) = some (some (.agg noChan.cells.toArray), 39, 88) := by kernel_rfl
/-- The parts of a channel that lies somewhere. -/
structure ChanAt (w : World) (b o : Nat) (x : PChan) : Prop where
  id : w.cell? ⟨b, o, none⟩ = some (.int .i64 x.id)
  client : w.cell? ⟨b, o + 1, none⟩ = some (.int .i64 x.client)
  peer : w.cell? ⟨b, o + 2, none⟩ = some (.int .i64 x.peer)
  fund : w.rangeAt b (o + 3) (refCells x.ftx x.fat)
  fat : w.cell? ⟨b, o + 35, none⟩ = some (.int .i64 x.fat)
  cap : w.cell? ⟨b, o + 36, none⟩ = some (.int .i64 x.cap)
  wait : w.cell? ⟨b, o + 37, none⟩ = some (.int .i64 x.wait)
  window : w.cell? ⟨b, o + 38, none⟩ = some (.int .i64 x.window)
theorem chan_at {w : World} {b o : Nat} {x : PChan} (hf : x.ftx.length = 32) (h : w.rangeAt b o x.cells) : ChanAt w b o x := by
  have h0 := range_cons h
  have h1 := range_cons h0.2
  have h2 := range_cons h1.2
  have h3 := range_append h2.2
  have h4 := h3.2
  rw [refCells_len hf] at h4
  have h5 := range_cons h4
  have h6 := range_cons h5.2
  have h7 := range_cons h6.2
  have h8 := (range_append h3.1).2
  rw [cellsOf_len, hf] at h8
  exact ⟨h0.1, h1.1, h2.1, h3.1, (range_cons h8).1, h5.1, h6.1, h7.1⟩
end Go.Proofs.YteddkkcheaghaaaGreatDoor
namespace Go.Proofs.YteddkkcheaghaaaGreatDoor
open Go.RowKit

structure PState where
  n : Int
  client : Int
  peer : Int
  h0 : List UInt8
  h1 : List UInt8
def PState.cells (x : PState) : List Value := .int .i64 x.n :: .int .i64 x.client :: .int .i64 x.peer :: (cellsOf x.h0 ++ cellsOf x.h1)
structure StateIn (x : PState) : Prop where
  n : Fits x.n
  client : Fits x.client
  peer : Fits x.peer
  h0 : x.h0.length = 32
  h1 : x.h1.length = 32
/-- The parts of a state that lies somewhere. -/
structure StateAt (w : World) (b o : Nat) (x : PState) : Prop where
  n : w.cell? ⟨b, o, none⟩ = some (.int .i64 x.n)
  client : w.cell? ⟨b, o + 1, none⟩ = some (.int .i64 x.client)
  peer : w.cell? ⟨b, o + 2, none⟩ = some (.int .i64 x.peer)
  h0 : w.rangeAt b (o + 3) (cellsOf x.h0)
  h1 : w.rangeAt b (o + 35) (cellsOf x.h1)
end Go.Proofs.YteddkkcheaghaaaGreatDoor
namespace Go.Proofs.YteddkkcheaghaaaGreatDoor
open Go.ChangeShapes Go.WideShapes Go.ChangeAt Go.RowKit Go.Deep

theorem chan_open {H : Type} {enc : TypeId × Value → H} {W : World} {fuel : Nat} {cs : List Value} {x : DataW H × List MemPlace}
    (h : DataW.trod enc Tryz.prog W 0 (fun _ => true) true fuel 73 cs = some x) : ∃ y : PChan, ChanIn y ∧ cs = y.cells := by
  obtain ⟨xs, k, _, _, hl, hxl, hf⟩ := DataW.trod_struct Tryz.underlying73 h
  replace hl : cs.length = 39 := by rw [hl]; kernel_rfl
  replace hxl : xs.length = 7 := hxl
  obtain ⟨y0, h0⟩ := field_is (y := DataW.trod enc Tryz.prog W 0 (fun _ => true) true k 3 ((cs.drop 0).take (Tryz.prog.cellsOf 3))) (by omega) (hf 0 _ rfl)
  rw [show Tryz.prog.cellsOf 3 = 1 from by kernel_rfl] at h0
  obtain ⟨y1, h1⟩ := field_is (y := DataW.trod enc Tryz.prog W 0 (fun _ => true) true k 3 ((cs.drop 1).take (Tryz.prog.cellsOf 3))) (by omega) (hf 1 _ rfl)
  rw [show Tryz.prog.cellsOf 3 = 1 from by kernel_rfl] at h1
  obtain ⟨y2, h2⟩ := field_is (y := DataW.trod enc Tryz.prog W 0 (fun _ => true) true k 3 ((cs.drop 2).take (Tryz.prog.cellsOf 3))) (by omega) (hf 2 _ rfl)
  rw [show Tryz.prog.cellsOf 3 = 1 from by kernel_rfl] at h2
  obtain ⟨y3, h3⟩ := field_is (y := DataW.trod enc Tryz.prog W 0 (fun _ => true) true k 71 ((cs.drop 3).take (Tryz.prog.cellsOf 71))) (by omega) (hf 3 _ rfl)
  rw [show Tryz.prog.cellsOf 71 = 33 from by kernel_rfl] at h3
  obtain ⟨y4, h4⟩ := field_is (y := DataW.trod enc Tryz.prog W 0 (fun _ => true) true k 2 ((cs.drop 36).take (Tryz.prog.cellsOf 2))) (by omega) (hf 4 _ rfl)
  rw [show Tryz.prog.cellsOf 2 = 1 from by kernel_rfl] at h4
  obtain ⟨y5, h5⟩ := field_is (y := DataW.trod enc Tryz.prog W 0 (fun _ => true) true k 3 ((cs.drop 37).take (Tryz.prog.cellsOf 3))) (by omega) (hf 5 _ rfl)
  rw [show Tryz.prog.cellsOf 3 = 1 from by kernel_rfl] at h5
  obtain ⟨y6, h6⟩ := field_is (y := DataW.trod enc Tryz.prog W 0 (fun _ => true) true k 3 ((cs.drop 38).take (Tryz.prog.cellsOf 3))) (by omega) (hf 6 _ rfl)
  rw [show Tryz.prog.cellsOf 3 = 1 from by kernel_rfl] at h6
  obtain ⟨z0, e0, g0⟩ := int_cells Tryz.underlying3 h0
  obtain ⟨z1, e1, g1⟩ := int_cells Tryz.underlying3 h1
  obtain ⟨z2, e2, g2⟩ := int_cells Tryz.underlying3 h2
  obtain ⟨s3, z3, g3, g3b, e3⟩ := ref_cells h3
  obtain ⟨z4, e4, g4⟩ := int_cells Tryz.underlying2 h4
  obtain ⟨z5, e5, g5⟩ := int_cells Tryz.underlying3 h5
  obtain ⟨z6, e6, g6⟩ := int_cells Tryz.underlying3 h6
  refine ⟨⟨z0, z1, z2, s3, z3, z4, z5, z6⟩, ⟨g0, g1, g2, g3, g3b, g4, g5, g6⟩, ?_⟩
  have t0 := drop_split cs 0 1
  have t1 := drop_split cs 1 1
  have t2 := drop_split cs 2 1
  have t3 := drop_split cs 3 33
  have t4 := drop_split cs 36 1
  have t5 := drop_split cs 37 1
  have t6 := drop_split cs 38 1
  have tl : cs.drop 39 = [] := List.drop_of_length_le (by omega)
  rw [List.drop_zero] at t0 e0
  rw [t0, e0, show (0 : Nat) + 1 = 1 from rfl, t1, e1, show (1 : Nat) + 1 = 2 from rfl, t2, e2, show (2 : Nat) + 1 = 3 from rfl, t3, e3, show (3 : Nat) + 33 = 36 from rfl, t4, e4, show (36 : Nat) + 1 = 37 from rfl, t5, e5, show (37 : Nat) + 1 = 38 from rfl, t6, e6, show (38 : Nat) + 1 = 39 from rfl, tl]
  simp [PChan.cells, refCells]
end Go.Proofs.YteddkkcheaghaaaGreatDoor
