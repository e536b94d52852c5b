/- Channels in memory. No function of the program is named. -/
import Derived.Test.YtlnenkmcegadmaaDoorSliceOf
import Derived.Test.YtlnenkmcegadmaaDoorTx
namespace Go.Proofs.YtlnenkmcegadmaaDoor
open Go.RowKit

theorem range_append {w : World} {b o : Nat} {cs ds : List Value} (h : w.rangeAt b o (cs ++ ds)) : w.rangeAt b o cs ∧ w.rangeAt b (o + cs.length) ds :=
  ⟨fun j v hv => h j v (by rw [List.getElem?_append_left (List.getElem?_eq_some_iff.1 hv).1]; exact hv), fun j v hv => by
    rw [Nat.add_assoc]
    exact h (cs.length + j) v (by rw [List.getElem?_append_right (by omega), Nat.add_sub_cancel_left]; exact hv)⟩
theorem range_cons {w : World} {b o : Nat} {v : Value} {ds : List Value} (h : w.rangeAt b o (v :: ds)) : w.cell? ⟨b, o, none⟩ = some v ∧ w.rangeAt b (o + 1) ds :=
  ⟨h 0 v rfl, fun j u hu => by
    rw [show o + 1 + j = o + (j + 1) by omega]
    exact h (j + 1) u (by rw [List.getElem?_cons_succ]; exact hu)⟩
theorem range_join {w : World} {b o : Nat} {cs ds : List Value} (h1 : w.rangeAt b o cs) (h2 : w.rangeAt b (o + cs.length) ds) : w.rangeAt b o (cs ++ ds) := fun j v hv => by
  by_cases hj : j < cs.length
  · rw [List.getElem?_append_left hj] at hv
    exact h1 j v hv
  · rw [List.getElem?_append_right (by omega)] at hv
    have h := h2 (j - cs.length) v hv
    rwa [show o + cs.length + (j - cs.length) = o + j by omega] at h

structure PChan where
  id : Int
  client : Int
  peer : Int
  ftx : List UInt8
  fat : Int
  cap : Int
  wait : Int
  window : Int
def PChan.cells (x : PChan) : List Value := .int .i64 x.id :: .int .i64 x.client :: .int .i64 x.peer :: (refCells x.ftx x.fat ++ [.int .i64 x.cap, .int .i64 x.wait, .int .i64 x.window])
def noChan : PChan := ⟨0, 0, 0, zero32, 0, 0, 0, 0⟩
structure ChanIn (x : PChan) : Prop where
  id : Fits x.id
  client : Fits x.client
  peer : Fits x.peer
  ftx : x.ftx.length = 32
  fat : Fits x.fat
  cap : Fits x.cap
  wait : Fits x.wait
  window : Fits x.window
theorem noChan_in : ChanIn noChan := ⟨by constructor <;> decide, by constructor <;> decide, by constructor <;> decide, rfl, by constructor <;> decide, by constructor <;> decide, by constructor <;> decide, by constructor <;> decide⟩
theorem PChan.len {x : PChan} (h : x.ftx.length = 32) : x.cells.length = 39 := by simp [PChan.cells, refCells_len h]
theorem refCells_one (s : List UInt8) (z : Int) : ∀ v ∈ refCells s z, v.oneCell' = true := by
  intro v hv
  simp only [refCells, List.mem_append, List.mem_cons, List.not_mem_nil, or_false] at hv
  rcases hv with hv | rfl
  · exact cellsOf_one _ v hv
  · rfl
theorem PChan.one (x : PChan) : ∀ v ∈ x.cells, v.oneCell' = true := by
  intro v hv
  simp only [PChan.cells, List.mem_cons, List.mem_append, List.not_mem_nil, or_false] at hv
  rcases hv with rfl | rfl | rfl | hv | rfl | rfl | rfl
  all_goals first | rfl | exact refCells_one _ _ v hv
theorem chan_id {w : World} {b o : Nat} {x : PChan} (h : w.rangeAt b o x.cells) : w.cell? ⟨b, o, none⟩ = some (.int .i64 x.id) := (range_cons h).1
theorem chan_cap {w : World} {b o : Nat} {x : PChan} (hf : x.ftx.length = 32) (h : w.rangeAt b o x.cells) : w.cell? ⟨b, o + 36, none⟩ = some (.int .i64 x.cap) := by
  have h9 := (range_append (range_cons (range_cons (range_cons h).2).2).2).2
  rw [refCells_len hf] at h9
  exact (range_cons h9).1

/-- The parts of a channel that lies somewhere. -/
structure ChanAt (w : World) (b o : Nat) (x : PChan) : Prop where
  id : w.cell? ⟨b, o, none⟩ = some (.int .i64 x.id)
  client : w.cell? ⟨b, o + 1, none⟩ = some (.int .i64 x.client)
  peer : w.cell? ⟨b, o + 2, none⟩ = some (.int .i64 x.peer)
  fund : w.rangeAt b (o + 3) (refCells x.ftx x.fat)
  fat : w.cell? ⟨b, o + 35, none⟩ = some (.int .i64 x.fat)
  cap : w.cell? ⟨b, o + 36, none⟩ = some (.int .i64 x.cap)
  wait : w.cell? ⟨b, o + 37, none⟩ = some (.int .i64 x.wait)
  window : w.cell? ⟨b, o + 38, none⟩ = some (.int .i64 x.window)
theorem chan_at {w : World} {b o : Nat} {x : PChan} (hf : x.ftx.length = 32) (h : w.rangeAt b o x.cells) : ChanAt w b o x := by
  have h0 := range_cons h
  have h1 := range_cons h0.2
  have h2 := range_cons h1.2
  have h3 := range_append h2.2
  have h4 := h3.2
  rw [refCells_len hf] at h4
  have h5 := range_cons h4
  have h6 := range_cons h5.2
  have h7 := range_cons h6.2
  have h8 := (range_append h3.1).2
  rw [cellsOf_len, hf] at h8
  exact ⟨h0.1, h1.1, h2.1, h3.1, (range_cons h8).1, h5.1, h6.1, h7.1⟩
end Go.Proofs.YtlnenkmcegadmaaDoor
