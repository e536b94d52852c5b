/- Towers, channels and holds in memory; those of the law with their numbers; the law's calls. No function of the program is named. -/
import Derived.Test.YtijanllppbambaaSliceOf
import Derived.Test.YtijanllppbambaaEqRef
namespace Go.Proofs.Ytijanllppbambaa
open Go.RowKit

/-! ### Cells of parts -/
theorem range_append {w : World} {b o : Nat} {cs ds : List Value} (h : w.rangeAt b o (cs ++ ds)) : w.rangeAt b o cs ∧ w.rangeAt b (o + cs.length) ds :=
  ⟨fun j v hv => h j v (by rw [List.getElem?_append_left (List.getElem?_eq_some_iff.1 hv).1]; exact hv), fun j v hv => by
    rw [Nat.add_assoc]
    exact h (cs.length + j) v (by rw [List.getElem?_append_right (by omega), Nat.add_sub_cancel_left]; exact hv)⟩
theorem range_cons {w : World} {b o : Nat} {v : Value} {ds : List Value} (h : w.rangeAt b o (v :: ds)) : w.cell? ⟨b, o, none⟩ = some v ∧ w.rangeAt b (o + 1) ds :=
  ⟨h 0 v rfl, fun j u hu => by
    rw [show o + 1 + j = o + (j + 1) by omega]
    exact h (j + 1) u (by rw [List.getElem?_cons_succ]; exact hu)⟩
theorem range_join {w : World} {b o : Nat} {cs ds : List Value} (h1 : w.rangeAt b o cs) (h2 : w.rangeAt b (o + cs.length) ds) : w.rangeAt b o (cs ++ ds) := fun j v hv => by
  by_cases hj : j < cs.length
  · rw [List.getElem?_append_left hj] at hv
    exact h1 j v hv
  · rw [List.getElem?_append_right (by omega)] at hv
    have h := h2 (j - cs.length) v hv
    rwa [show o + cs.length + (j - cs.length) = o + j by omega] at h

/-! ### A tower -/
structure PTow where
  root : List UInt8
  locked : Int
  asked : Int
  at9 : Int
def PTow.cells (x : PTow) : List Value := cellsOf x.root ++ [.int .i64 x.locked, .int .i64 x.asked, .int .i64 x.at9]
def noTow : PTow := ⟨zero32, 0, 0, 0⟩
structure TowIn (x : PTow) : Prop where
  root : x.root.length = 32
  locked : Fits x.locked
  asked : Fits x.asked
  at9 : Fits x.at9
theorem noTow_in : TowIn noTow := ⟨rfl, by constructor <;> decide, by constructor <;> decide, by constructor <;> decide⟩
theorem PTow.len {x : PTow} (h : x.root.length = 32) : x.cells.length = 35 := by simp [PTow.cells, cellsOf_len, h]
theorem PTow.one (x : PTow) : ∀ v ∈ x.cells, v.oneCell' = true := by
  intro v hv
  simp only [PTow.cells, List.mem_cons, List.mem_append, List.not_mem_nil, or_false] at hv
  rcases hv with hv | rfl | rfl | rfl
  · exact cellsOf_one _ v hv
  all_goals rfl
structure TowAt (w : World) (b o : Nat) (x : PTow) : Prop where
  root : w.rangeAt b o (cellsOf x.root)
  locked : w.cell? ⟨b, o + 32, none⟩ = some (.int .i64 x.locked)
  asked : w.cell? ⟨b, o + 33, none⟩ = some (.int .i64 x.asked)
  at9 : w.cell? ⟨b, o + 34, none⟩ = some (.int .i64 x.at9)
theorem tow_at {w : World} {b o : Nat} {x : PTow} (hr : x.root.length = 32) (h : w.rangeAt b o x.cells) : TowAt w b o x := by
  obtain ⟨h1, h2⟩ := range_append h
  rw [cellsOf_len, hr] at h2
  obtain ⟨h3, h4⟩ := range_cons h2
  obtain ⟨h5, h6⟩ := range_cons h4
  exact ⟨h1, h3, h5, (range_cons h6).1⟩

/-! ### A channel -/
structure PChan where
  id : Int
  client : Int
  peer : Int
  ftx : List UInt8
  fat : Int
  cap : Int
  wait : Int
  window : Int
def PChan.cells (x : PChan) : List Value := .int .i64 x.id :: .int .i64 x.client :: .int .i64 x.peer :: (refCells x.ftx x.fat ++ [.int .i64 x.cap, .int .i64 x.wait, .int .i64 x.window])
def noChan : PChan := ⟨0, 0, 0, zero32, 0, 0, 0, 0⟩
structure ChanIn (x : PChan) : Prop where
  id : Fits x.id
  client : Fits x.client
  peer : Fits x.peer
  ftx : x.ftx.length = 32
  fat : Fits x.fat
  cap : Fits x.cap
  wait : Fits x.wait
  window : Fits x.window
theorem noChan_in : ChanIn noChan := ⟨by constructor <;> decide, by constructor <;> decide, by constructor <;> decide, rfl, by constructor <;> decide, by constructor <;> decide, by constructor <;> decide, by constructor <;> decide⟩
theorem PChan.len {x : PChan} (h : x.ftx.length = 32) : x.cells.length = 39 := by simp [PChan.cells, refCells_len h]
theorem refCells_one (s : List UInt8) (z : Int) : ∀ v ∈ refCells s z, v.oneCell' = true := by
  intro v hv
  simp only [refCells, List.mem_append, List.mem_cons, List.not_mem_nil, or_false] at hv
  rcases hv with hv | rfl
  · exact cellsOf_one _ v hv
  · rfl
theorem PChan.one (x : PChan) : ∀ v ∈ x.cells, v.oneCell' = true := by
  intro v hv
  simp only [PChan.cells, List.mem_cons, List.mem_append, List.not_mem_nil, or_false] at hv
  rcases hv with rfl | rfl | rfl | hv | rfl | rfl | rfl
  all_goals first | rfl | exact refCells_one _ _ v hv
theorem chan_id {w : World} {b o : Nat} {x : PChan} (h : w.rangeAt b o x.cells) : w.cell? ⟨b, o, none⟩ = some (.int .i64 x.id) := (range_cons h).1
theorem chan_cap {w : World} {b o : Nat} {x : PChan} (hf : x.ftx.length = 32) (h : w.rangeAt b o x.cells) : w.cell? ⟨b, o + 36, none⟩ = some (.int .i64 x.cap) := by
  have h9 := (range_append (range_cons (range_cons (range_cons h).2).2).2).2
  rw [refCells_len hf] at h9
  exact (range_cons h9).1

/-! ### A hold -/
structure PHold where
  ch : PChan
  amount : Int
  proved : Bool
  at9 : Int
  commit : List UInt8
def PHold.cells (x : PHold) : List Value := x.ch.cells ++ (.int .i64 x.amount :: .bool x.proved :: .int .i64 x.at9 :: cellsOf x.commit)
def noHold : PHold := ⟨noChan, 0, false, 0, zero32⟩
structure HoldIn (x : PHold) : Prop where
  ch : ChanIn x.ch
  amount : Fits x.amount
  at9 : Fits x.at9
  commit : x.commit.length = 32
theorem noHold_in : HoldIn noHold := ⟨noChan_in, by constructor <;> decide, by constructor <;> decide, rfl⟩
theorem PHold.len {x : PHold} (h : HoldIn x) : x.cells.length = 74 := by simp [PHold.cells, PChan.len h.ch.ftx, cellsOf_len, h.commit]
theorem PHold.one (x : PHold) : ∀ v ∈ x.cells, v.oneCell' = true := by
  intro v hv
  simp only [PHold.cells, List.mem_cons, List.mem_append] at hv
  rcases hv with hv | rfl | rfl | rfl | hv
  · exact x.ch.one v hv
  · rfl
  · rfl
  · rfl
  · exact cellsOf_one _ v hv
structure HoldAt (w : World) (b o : Nat) (x : PHold) : Prop where
  ch : w.rangeAt b o x.ch.cells
  id : w.cell? ⟨b, o, none⟩ = some (.int .i64 x.ch.id)
  cap : w.cell? ⟨b, o + 36, none⟩ = some (.int .i64 x.ch.cap)
  amount : w.cell? ⟨b, o + 39, none⟩ = some (.int .i64 x.amount)
  proved : w.cell? ⟨b, o + 40, none⟩ = some (.bool x.proved)
  at9 : w.cell? ⟨b, o + 41, none⟩ = some (.int .i64 x.at9)
  commit : w.rangeAt b (o + 42) (cellsOf x.commit)
theorem hold_at {w : World} {b o : Nat} {x : PHold} (hx : HoldIn x) (h : w.rangeAt b o x.cells) : HoldAt w b o x := by
  obtain ⟨h1, h2⟩ := range_append h
  rw [PChan.len hx.ch.ftx] at h2
  obtain ⟨h3, h4⟩ := range_cons h2
  obtain ⟨h5, h6⟩ := range_cons h4
  obtain ⟨h7, h8⟩ := range_cons h6
  exact ⟨h1, chan_id h1, chan_cap hx.ch.ftx h1, h3, h5, h7, h8⟩

/-! ### The law's own: with their numbers -/
structure PTE where
  n : Int
  t : PTow
def PTE.cells (x : PTE) : List Value := .int .i64 x.n :: x.t.cells
structure TEIn (x : PTE) : Prop where
  n : Fits x.n
  t : TowIn x.t
theorem PTE.len {x : PTE} (h : x.t.root.length = 32) : x.cells.length = 36 := by simp [PTE.cells, PTow.len h]
theorem PTE.one (x : PTE) : ∀ v ∈ x.cells, v.oneCell' = true := by
  intro v hv
  simp only [PTE.cells, List.mem_cons] at hv
  rcases hv with rfl | hv
  · rfl
  · exact x.t.one v hv
def teK : Sort8 PTE := ⟨36, PTE.cells, fun _ x => TEIn x, ⟨0, noTow⟩, by omega, fun _ _ h => PTE.len h.t.root, PTE.one, fun h _ => h⟩
structure PHE where
  n : Int
  h : PHold
def PHE.cells (x : PHE) : List Value := .int .i64 x.n :: x.h.cells
structure HEIn (x : PHE) : Prop where
  n : Fits x.n
  h : HoldIn x.h
theorem PHE.len {x : PHE} (h : HoldIn x.h) : x.cells.length = 75 := by simp [PHE.cells, PHold.len h]
theorem PHE.one (x : PHE) : ∀ v ∈ x.cells, v.oneCell' = true := by
  intro v hv
  simp only [PHE.cells, List.mem_cons] at hv
  rcases hv with rfl | hv
  · rfl
  · exact x.h.one v hv
def heK : Sort8 PHE := ⟨75, PHE.cells, fun _ x => HEIn x, ⟨0, noHold⟩, by omega, fun _ _ h => PHE.len h.h, PHE.one, fun h _ => h⟩
/-- A call. -/
structure PCall where
  kind : Int
  tower : Int
  n : Int
  root : List UInt8
  ch : PChan
  height : Int
def PCall.cells (x : PCall) : List Value := .int .i64 x.kind :: .int .i64 x.tower :: .int .i64 x.n :: (cellsOf x.root ++ (x.ch.cells ++ [.int .i64 x.height]))
structure CallIn (x : PCall) : Prop where
  kind : Fits x.kind
  tower : Fits x.tower
  n : Fits x.n
  root : x.root.length = 32
  ch : ChanIn x.ch
  height : Fits x.height
theorem PCall.len {x : PCall} (h : CallIn x) : x.cells.length = 75 := by simp [PCall.cells, PChan.len h.ch.ftx, cellsOf_len, h.root]
theorem PCall.one (x : PCall) : ∀ v ∈ x.cells, v.oneCell' = true := by
  intro v hv
  simp only [PCall.cells, List.mem_cons, List.mem_append, List.not_mem_nil, or_false] at hv
  rcases hv with rfl | rfl | rfl | hv | hv | rfl
  · rfl
  · rfl
  · rfl
  · exact cellsOf_one _ v hv
  · exact x.ch.one v hv
  · rfl
def callK : Sort8 PCall := ⟨75, PCall.cells, fun _ x => CallIn x, ⟨0, 0, 0, zero32, noChan, 0⟩, by omega, fun _ _ h => PCall.len h, PCall.one, fun h _ => h⟩
structure CallAt (w : World) (b o : Nat) (x : PCall) : Prop where
  kind : w.cell? ⟨b, o, none⟩ = some (.int .i64 x.kind)
  tower : w.cell? ⟨b, o + 1, none⟩ = some (.int .i64 x.tower)
  n : w.cell? ⟨b, o + 2, none⟩ = some (.int .i64 x.n)
  root : w.rangeAt b (o + 3) (cellsOf x.root)
  ch : w.rangeAt b (o + 35) x.ch.cells
  id : w.cell? ⟨b, o + 35, none⟩ = some (.int .i64 x.ch.id)
  cap : w.cell? ⟨b, o + 71, none⟩ = some (.int .i64 x.ch.cap)
  height : w.cell? ⟨b, o + 74, none⟩ = some (.int .i64 x.height)
theorem call_at {w : World} {b o : Nat} {x : PCall} (hx : CallIn x) (h : w.rangeAt b o x.cells) : CallAt w b o x := by
  obtain ⟨h1, h2⟩ := range_cons h
  obtain ⟨h3, h4⟩ := range_cons h2
  obtain ⟨h5, h6⟩ := range_cons h4
  obtain ⟨h7, h8⟩ := range_append h6
  rw [cellsOf_len, hx.root] at h8
  obtain ⟨h9, h10⟩ := range_append h8
  rw [PChan.len hx.ch.ftx] at h10
  exact ⟨h1, h3, h5, h7, h9, chan_id h9, chan_cap hx.ch.ftx h9, (range_cons h10).1⟩

/-! ### What the program says of them -/
theorem Try.sizeTow : (Try.prog.info? 67).map (·.size) = some 35 := by kernel_rfl
theorem Try.sizeChan : (Try.prog.info? 35).map (·.size) = some 39 := by kernel_rfl
theorem Try.sizeHold : (Try.prog.info? 53).map (·.size) = some 74 := by kernel_rfl
theorem Try.sizeTE : (Try.prog.info? 71).map (·.size) = some 36 := by kernel_rfl
theorem Try.sizeHE : (Try.prog.info? 73).map (·.size) = some 75 := by kernel_rfl
theorem Try.sizeCall : (Try.prog.info? 37).map (·.size) = some 75 := by kernel_rfl
theorem tow_size {x : PTow} (h : x.root.length = 32) : (Try.prog.info? 67).map (·.size) = some x.cells.length := by rw [PTow.len h]; exact Try.sizeTow
theorem tow_sizeA {x : PTow} (h : x.root.length = 32) : (Try.prog.info? 67).map (·.size) = some x.cells.toArray.size := by rw [List.size_toArray]; exact tow_size h
theorem chan_size {x : PChan} (h : x.ftx.length = 32) : (Try.prog.info? 35).map (·.size) = some x.cells.length := by rw [PChan.len h]; exact Try.sizeChan
theorem chan_sizeA {x : PChan} (h : x.ftx.length = 32) : (Try.prog.info? 35).map (·.size) = some x.cells.toArray.size := by rw [List.size_toArray]; exact chan_size h
theorem hold_size {x : PHold} (h : HoldIn x) : (Try.prog.info? 53).map (·.size) = some x.cells.length := by rw [PHold.len h]; exact Try.sizeHold
theorem hold_sizeA {x : PHold} (h : HoldIn x) : (Try.prog.info? 53).map (·.size) = some x.cells.toArray.size := by rw [List.size_toArray]; exact hold_size h
theorem te_size {x : PTE} (h : x.t.root.length = 32) : (Try.prog.info? 71).map (·.size) = some x.cells.length := by rw [PTE.len h]; exact Try.sizeTE
theorem te_sizeA {x : PTE} (h : x.t.root.length = 32) : (Try.prog.info? 71).map (·.size) = some x.cells.toArray.size := by rw [List.size_toArray]; exact te_size h
theorem he_size {x : PHE} (h : HoldIn x.h) : (Try.prog.info? 73).map (·.size) = some x.cells.length := by rw [PHE.len h]; exact Try.sizeHE
theorem he_sizeA {x : PHE} (h : HoldIn x.h) : (Try.prog.info? 73).map (·.size) = some x.cells.toArray.size := by rw [List.size_toArray]; exact he_size h
theorem call_size {x : PCall} (h : CallIn x) : (Try.prog.info? 37).map (·.size) = some x.cells.length := by rw [PCall.len h]; exact Try.sizeCall
theorem call_sizeA {x : PCall} (h : CallIn x) : (Try.prog.info? 37).map (·.size) = some x.cells.toArray.size := by rw [List.size_toArray]; exact call_size h
theorem Try.zeroTow : (Try.prog.info? 67).map (fun i => (i.zero, i.size, i.bytes)) = some (some (.agg noTow.cells.toArray), 35, 56) := by kernel_rfl
theorem Try.zeroHold : (Try.prog.info? 53).map (fun i => (i.zero, i.size, i.bytes)) = some (some (.agg noHold.cells.toArray), 74, 144) := by kernel_rfl
theorem Try.zeroChan : (Try.prog.info? 35).map (fun i => (i.zero, i.size, i.bytes)) = some (some (.agg noChan.cells.toArray), 39, 88) := by kernel_rfl
theorem Try.zeroTE : (Try.prog.info? 71).map (fun i => (i.zero, i.size, i.bytes)) = some (some (.agg (PTE.cells ⟨0, noTow⟩).toArray), 36, 64) := by kernel_rfl
theorem Try.zeroHE : (Try.prog.info? 73).map (fun i => (i.zero, i.size, i.bytes)) = some (some (.agg (PHE.cells ⟨0, noHold⟩).toArray), 75, 152) := by kernel_rfl
def Try.teAt : SortAt Try.prog teK 26 71 := ⟨64, by omega, by show 36 ≤ 100000; omega, .agg (PTE.cells ⟨0, noTow⟩).toArray, Try.underlying26, Try.zeroTE, by kernel_rfl⟩
def Try.heAt : SortAt Try.prog heK 27 73 := ⟨152, by omega, by show 75 ≤ 100000; omega, .agg (PHE.cells ⟨0, noHold⟩).toArray, Try.underlying27, Try.zeroHE, by kernel_rfl⟩
end Go.Proofs.Ytijanllppbambaa
