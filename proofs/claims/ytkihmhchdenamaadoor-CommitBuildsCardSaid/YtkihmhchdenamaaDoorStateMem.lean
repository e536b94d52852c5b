/- States of a channel in memory. No function of the program is named. -/
import Derived.Test.YtkihmhchdenamaaDoorChanMem
namespace Go.Proofs.YtkihmhchdenamaaDoor
open Go.RowKit

structure PState where
  n : Int
  client : Int
  peer : Int
  h0 : List UInt8
  h1 : List UInt8
def PState.cells (x : PState) : List Value := .int .i64 x.n :: .int .i64 x.client :: .int .i64 x.peer :: (cellsOf x.h0 ++ cellsOf x.h1)
def noState : PState := ⟨0, 0, 0, zero32, zero32⟩
structure StateIn (x : PState) : Prop where
  n : Fits x.n
  client : Fits x.client
  peer : Fits x.peer
  h0 : x.h0.length = 32
  h1 : x.h1.length = 32
theorem PState.len {x : PState} (h : StateIn x) : x.cells.length = 67 := by simp [PState.cells, cellsOf_len, h.h0, h.h1]
theorem PState.one (x : PState) : ∀ v ∈ x.cells, v.oneCell' = true := by
  intro v hv
  simp only [PState.cells, List.mem_cons, List.mem_append] at hv
  rcases hv with rfl | rfl | rfl | hv | hv
  all_goals first | rfl | exact cellsOf_one _ v hv
/-- The parts of a state that lies somewhere. -/
structure StateAt (w : World) (b o : Nat) (x : PState) : Prop where
  n : w.cell? ⟨b, o, none⟩ = some (.int .i64 x.n)
  client : w.cell? ⟨b, o + 1, none⟩ = some (.int .i64 x.client)
  peer : w.cell? ⟨b, o + 2, none⟩ = some (.int .i64 x.peer)
  h0 : w.rangeAt b (o + 3) (cellsOf x.h0)
  h1 : w.rangeAt b (o + 35) (cellsOf x.h1)
theorem state_at {w : World} {b o : Nat} {x : PState} (hx : StateIn x) (h : w.rangeAt b o x.cells) : StateAt w b o x := by
  have h0 := range_cons h
  have h1 := range_cons h0.2
  have h2 := range_cons h1.2
  have h3 := range_append h2.2
  have h4 := h3.2
  rw [cellsOf_len, hx.h0] at h4
  exact ⟨h0.1, h1.1, h2.1, h3.1, h4⟩
theorem state_size {x : PState} (h : StateIn x) : (Tryd.prog.info? 30).map (·.size) = some x.cells.length := by rw [PState.len h]; kernel_rfl
theorem state_sizeA {x : PState} (h : StateIn x) : (Tryd.prog.info? 30).map (·.size) = some x.cells.toArray.size := by rw [List.size_toArray]; exact state_size h
theorem Tryd.zeroState : (Tryd.prog.info? 30).map (fun i => (i.zero, i.size, i.bytes)) = some (some (.agg noState.cells.toArray), 67, 88) := by kernel_rfl
end Go.Proofs.YtkihmhchdenamaaDoor
