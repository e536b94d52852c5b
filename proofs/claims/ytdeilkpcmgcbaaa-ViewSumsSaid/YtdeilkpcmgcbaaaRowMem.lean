/- Rows of a view in memory: a Ref, an out, a height; and the law's own calls (a kind ahead of a row). No function of the program is named. -/
import Derived.Test.YtdeilkpcmgcbaaaTxMem
import Derived.Test.YtdeilkpcmgcbaaaEqRef
namespace Go.Proofs.Ytdeilkpcmgcbaaa
open Go.RowKit

/-- A row. -/
structure PRow where
  tx : List UInt8
  place : Int
  out : POut
  height : Int
def PRow.cells (x : PRow) : List Value := cellsOf x.tx ++ (.int .i64 x.place :: (x.out.cells ++ [.int .i64 x.height]))
def noRow : PRow := ⟨zero32, 0, noOut, 0⟩
structure RowIn (w : World) (x : PRow) : Prop where
  tx : x.tx.length = 32
  place : Fits x.place
  out : OutIn w x.out
  height : Fits x.height
theorem OutIn.below {w w' : World} {x : POut} (h : OutIn w x) (hb : Below w.heap.size w w') : OutIn w' x := ⟨h.m, h.ws.below hb⟩
theorem RowIn.below {w w' : World} {x : PRow} (h : RowIn w x) (hb : Below w.heap.size w w') : RowIn w' x := ⟨h.tx, h.place, h.out.below hb, h.height⟩
theorem PRow.len {x : PRow} (h : x.tx.length = 32) : x.cells.length = 36 := by simp [PRow.cells, POut.cells, cellsOf_len, h]
theorem PRow.one (x : PRow) : ∀ v ∈ x.cells, v.oneCell' = true := by
  intro v hv
  simp only [PRow.cells, List.mem_cons, List.mem_append, List.not_mem_nil, or_false] at hv
  rcases hv with hv | rfl | hv | rfl
  · exact cellsOf_one _ v hv
  · rfl
  · exact x.out.one v hv
  · rfl
def rowK : Sort8 PRow := ⟨36, PRow.cells, RowIn, noRow, by omega, fun _ _ h => PRow.len h.tx, PRow.one, fun h hb => h.below hb⟩
/-- A call of the law's. -/
structure PCall where
  kind : Int
  row : PRow
def PCall.cells (x : PCall) : List Value := .int .i64 x.kind :: x.row.cells
def noCall : PCall := ⟨0, noRow⟩
structure CallIn (w : World) (x : PCall) : Prop where
  kind : Fits x.kind
  row : RowIn w x.row
theorem CallIn.below {w w' : World} {x : PCall} (h : CallIn w x) (hb : Below w.heap.size w w') : CallIn w' x := ⟨h.kind, h.row.below hb⟩
theorem PCall.len {x : PCall} (h : x.row.tx.length = 32) : x.cells.length = 37 := by simp [PCall.cells, PRow.len h]
theorem PCall.one (x : PCall) : ∀ v ∈ x.cells, v.oneCell' = true := by
  intro v hv
  simp only [PCall.cells, List.mem_cons] at hv
  rcases hv with rfl | hv
  · rfl
  · exact x.row.one v hv
def callK : Sort8 PCall := ⟨37, PCall.cells, CallIn, noCall, by omega, fun _ _ h => PCall.len h.row.tx, PCall.one, fun h hb => h.below hb⟩
/-- The parts of a row that lies somewhere. -/
theorem row_ref {w : World} {b o : Nat} {x : PRow} (h : w.rangeAt b o x.cells) : w.rangeAt b o (refCells x.tx x.place) := fun j v hv => h j v (by
  have hj := (List.getElem?_eq_some_iff.1 hv).1
  have e : x.cells = refCells x.tx x.place ++ (x.out.cells ++ [.int .i64 x.height]) := by simp [PRow.cells, refCells]
  rw [e, List.getElem?_append_left hj]
  exact hv)
theorem row_place {w : World} {b o : Nat} {x : PRow} (ht : x.tx.length = 32) (h : w.rangeAt b o x.cells) : w.cell? ⟨b, o + 32, none⟩ = some (.int .i64 x.place) := h 32 _ (by
  unfold PRow.cells
  rw [List.getElem?_append_right (by rw [cellsOf_len, ht]; omega), cellsOf_len, ht]
  rfl)
theorem row_out {w : World} {b o : Nat} {x : PRow} (ht : x.tx.length = 32) (h : w.rangeAt b o x.cells) : w.rangeAt b (o + 33) x.out.cells := mid_range h (fun j v hv => by
  have hj := (List.getElem?_eq_some_iff.1 hv).1
  unfold PRow.cells
  rw [List.getElem?_append_right (by rw [cellsOf_len, ht]; omega), cellsOf_len, ht, show 33 + j - 32 = j + 1 by omega, List.getElem?_cons_succ, List.getElem?_append_left hj]
  exact hv)
theorem row_height {w : World} {b o : Nat} {x : PRow} (ht : x.tx.length = 32) (h : w.rangeAt b o x.cells) : w.cell? ⟨b, o + 35, none⟩ = some (.int .i64 x.height) := h 35 _ (by
  unfold PRow.cells
  rw [List.getElem?_append_right (by rw [cellsOf_len, ht]; omega), cellsOf_len, ht]
  rfl)
theorem call_row {w : World} {b o : Nat} {x : PCall} (h : w.rangeAt b o x.cells) : w.rangeAt b (o + 1) x.row.cells := mid_range h (fun j v hv => by
  show (Value.int .i64 x.kind :: x.row.cells)[1 + j]? = some v
  rw [show 1 + j = j + 1 by omega, List.getElem?_cons_succ]
  exact hv)
theorem Try.sizeRow : (Try.prog.info? 43).map (·.size) = some 36 := by kernel_rfl
theorem Try.sizeCall : (Try.prog.info? 34).map (·.size) = some 37 := by kernel_rfl
theorem row_size {x : PRow} (h : x.tx.length = 32) : (Try.prog.info? 43).map (·.size) = some x.cells.length := by rw [PRow.len h]; exact Try.sizeRow
theorem row_sizeA {x : PRow} (h : x.tx.length = 32) : (Try.prog.info? 43).map (·.size) = some x.cells.toArray.size := by rw [List.size_toArray]; exact row_size h
theorem call_size {x : PCall} (h : x.row.tx.length = 32) : (Try.prog.info? 34).map (·.size) = some x.cells.length := by rw [PCall.len h]; exact Try.sizeCall
theorem call_sizeA {x : PCall} (h : x.row.tx.length = 32) : (Try.prog.info? 34).map (·.size) = some x.cells.toArray.size := by rw [List.size_toArray]; exact call_size h
end Go.Proofs.Ytdeilkpcmgcbaaa
