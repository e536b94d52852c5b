/- Transactions in memory: ins, outs, ops, signs, and what they read as. No function of the program is named. -/
import Derived.Test.YtkihmhchdenamaaDoorSliceOf
import Derived.Test.YtkihmhchdenamaaDoorLock
namespace Go.Proofs.YtkihmhchdenamaaDoor
open Go.RowKit

/-- An in. -/
structure PIn where
  tx : List UInt8
  place : Int
  way : Int
  a : Option Addr
  n : Nat
  c : Nat
  pre : List UInt8
def PIn.cells (x : PIn) : List Value := cellsOf x.tx ++ [.int .i64 x.place, .int .i64 x.way, .slice x.a x.n x.c]
def noIn : PIn := ⟨zero32, 0, 0, none, 0, 0, []⟩
structure InIn (w : World) (x : PIn) : Prop where
  tx : x.tx.length = 32
  place : Fits x.place
  way : Fits x.way
  pre : Row w x.a x.n x.c x.pre
theorem PIn.len {x : PIn} (h : x.tx.length = 32) : x.cells.length = 35 := by simp [PIn.cells, cellsOf_len, h]
theorem PIn.one (x : PIn) : ∀ v ∈ x.cells, v.oneCell' = true := by
  intro v hv
  simp only [PIn.cells, List.mem_cons, List.mem_append, List.not_mem_nil, or_false] at hv
  rcases hv with hv | rfl | rfl | rfl
  · exact cellsOf_one _ v hv
  all_goals rfl
def inK : Sort8 PIn := ⟨35, PIn.cells, InIn, noIn, by omega, fun _ _ h => PIn.len h.tx, PIn.one, fun h hb => ⟨h.tx, h.place, h.way, h.pre.below hb⟩⟩
/-- A sign. -/
structure PSign where
  key : Int
  sum : List UInt8
def PSign.cells (x : PSign) : List Value := .int .i64 x.key :: cellsOf x.sum
def noSign : PSign := ⟨0, zero32⟩
structure SignIn (x : PSign) : Prop where
  key : Fits x.key
  sum : x.sum.length = 32
theorem PSign.len {x : PSign} (h : x.sum.length = 32) : x.cells.length = 33 := by simp [PSign.cells, cellsOf_len, h]
theorem PSign.one (x : PSign) : ∀ v ∈ x.cells, v.oneCell' = true := by
  intro v hv
  simp only [PSign.cells, List.mem_cons] at hv
  rcases hv with rfl | hv
  · rfl
  · exact cellsOf_one _ v hv
def signK : Sort8 PSign := ⟨33, PSign.cells, fun _ x => SignIn x, noSign, by omega, fun _ _ h => PSign.len h.sum, PSign.one, fun h _ => h⟩
/-- An out. -/
structure POut where
  m : Int
  a : Option Addr
  n : Nat
  c : Nat
  ws : List PWay
def POut.cells (x : POut) : List Value := [.int .i64 x.m, .slice x.a x.n x.c]
def noOut : POut := ⟨0, none, 0, 0, []⟩
structure OutIn (w : World) (x : POut) : Prop where
  m : Fits x.m
  ws : Ways w x.a x.n x.c x.ws
theorem POut.one (x : POut) : ∀ v ∈ x.cells, v.oneCell' = true := by
  intro v hv
  simp only [POut.cells, List.mem_cons, List.not_mem_nil, or_false] at hv
  rcases hv with rfl | rfl <;> rfl
def outK : Sort8 POut := ⟨2, POut.cells, OutIn, noOut, by omega, fun _ _ _ => rfl, POut.one, fun h hb => ⟨h.m, h.ws.below hb⟩⟩
/-- An op. -/
structure POp where
  kind : Int
  tower : Int
  channel : Int
  amount : Int
  root : List UInt8
  a : Option Addr
  n : Nat
  c : Nat
  data : List UInt8
def POp.cells (x : POp) : List Value := .int .i64 x.kind :: .int .i64 x.tower :: .int .i64 x.channel :: .int .i64 x.amount :: (cellsOf x.root ++ [.slice x.a x.n x.c])
def noOp : POp := ⟨0, 0, 0, 0, zero32, none, 0, 0, []⟩
structure OpIn (w : World) (x : POp) : Prop where
  kind : Fits x.kind
  tower : Fits x.tower
  channel : Fits x.channel
  amount : Fits x.amount
  root : x.root.length = 32
  data : Row w x.a x.n x.c x.data
theorem OpIn.below {w w' : World} {x : POp} (h : OpIn w x) (hb : Below w.heap.size w w') : OpIn w' x := ⟨h.kind, h.tower, h.channel, h.amount, h.root, h.data.below hb⟩
theorem POp.len {x : POp} (h : x.root.length = 32) : x.cells.length = 37 := by simp [POp.cells, cellsOf_len, h]
theorem POp.one (x : POp) : ∀ v ∈ x.cells, v.oneCell' = true := by
  intro v hv
  simp only [POp.cells, List.mem_cons, List.mem_append, List.not_mem_nil, or_false] at hv
  rcases hv with rfl | rfl | rfl | rfl | hv | rfl
  all_goals first | rfl | exact cellsOf_one _ v hv
/-- A transaction. -/
structure PTx where
  ia : Option Addr
  inn : Nat
  ic : Nat
  ins : List PIn
  oa : Option Addr
  on : Nat
  oc : Nat
  outs : List POut
  op : POp
  sa : Option Addr
  sn : Nat
  sc : Nat
  signs : List PSign
def PTx.cells (x : PTx) : List Value := .slice x.ia x.inn x.ic :: .slice x.oa x.on x.oc :: (x.op.cells ++ [.slice x.sa x.sn x.sc])
def noTx : PTx := ⟨none, 0, 0, [], none, 0, 0, [], noOp, none, 0, 0, []⟩
structure TxIn (w : World) (x : PTx) : Prop where
  ins : SliceOf inK w x.ia x.inn x.ic x.ins
  outs : SliceOf outK w x.oa x.on x.oc x.outs
  op : OpIn w x.op
  signs : SliceOf signK w x.sa x.sn x.sc x.signs
theorem TxIn.below {w w' : World} {x : PTx} (h : TxIn w x) (hb : Below w.heap.size w w') : TxIn w' x := ⟨h.ins.below hb, h.outs.below hb, h.op.below hb, h.signs.below hb⟩
theorem PTx.len {x : PTx} (h : x.op.root.length = 32) : x.cells.length = 40 := by simp [PTx.cells, POp.len h]
theorem PTx.one (x : PTx) : ∀ v ∈ x.cells, v.oneCell' = true := by
  intro v hv
  simp only [PTx.cells, List.mem_cons, List.mem_append, List.not_mem_nil, or_false] at hv
  rcases hv with rfl | rfl | hv | rfl
  · rfl
  · rfl
  · exact x.op.one v hv
  · rfl
theorem Tryd.sizeIn : (Tryd.prog.info? 47).map (·.size) = some 35 := by kernel_rfl
theorem Tryd.sizeSign : (Tryd.prog.info? 86).map (·.size) = some 33 := by kernel_rfl
theorem Tryd.sizeOut : (Tryd.prog.info? 50).map (·.size) = some 2 := by kernel_rfl
theorem Tryd.sizeOp : (Tryd.prog.info? 35).map (·.size) = some 37 := by kernel_rfl
theorem Tryd.sizeTx : (Tryd.prog.info? 38).map (·.size) = some 40 := by kernel_rfl
/-- Cells of a range in the midst of it. -/
theorem mid_range {w : World} {b o k : Nat} {cs ds : List Value} (h : w.rangeAt b o cs) (hk : ∀ j v, ds[j]? = some v → cs[k + j]? = some v) : w.rangeAt b (o + k) ds := fun j v hv => by
  rw [show o + k + j = o + (k + j) by omega]
  exact h (k + j) v (hk j v hv)
/-- The parts of a transaction that lies somewhere. -/
theorem tx_ins {w : World} {b o : Nat} {x : PTx} (h : w.rangeAt b o x.cells) : w.cell? ⟨b, o, none⟩ = some (.slice x.ia x.inn x.ic) := h 0 _ rfl
theorem tx_outs {w : World} {b o : Nat} {x : PTx} (h : w.rangeAt b o x.cells) : w.cell? ⟨b, o + 1, none⟩ = some (.slice x.oa x.on x.oc) := h 1 _ rfl
theorem tx_op {w : World} {b o : Nat} {x : PTx} (h : w.rangeAt b o x.cells) : w.rangeAt b (o + 2) x.op.cells := mid_range h (fun j v hv => by
  have hj := (List.getElem?_eq_some_iff.1 hv).1
  show (Value.slice x.ia x.inn x.ic :: .slice x.oa x.on x.oc :: (x.op.cells ++ [.slice x.sa x.sn x.sc]))[2 + j]? = some v
  rw [show 2 + j = j + 1 + 1 by omega, List.getElem?_cons_succ, List.getElem?_cons_succ, List.getElem?_append_left hj]
  exact hv)
theorem tx_signs {w : World} {b o : Nat} {x : PTx} (hr : x.op.root.length = 32) (h : w.rangeAt b o x.cells) : w.cell? ⟨b, o + 39, none⟩ = some (.slice x.sa x.sn x.sc) := h 39 _ (by
  show (Value.slice x.ia x.inn x.ic :: .slice x.oa x.on x.oc :: (x.op.cells ++ [.slice x.sa x.sn x.sc]))[37 + 1 + 1]? = _
  rw [List.getElem?_cons_succ, List.getElem?_cons_succ, List.getElem?_append_right (by rw [POp.len hr]; omega), POp.len hr]
  rfl)
theorem op_kind {w : World} {b o : Nat} {x : POp} (h : w.rangeAt b o x.cells) : w.cell? ⟨b, o, none⟩ = some (.int .i64 x.kind) := h 0 _ rfl
theorem op_tower {w : World} {b o : Nat} {x : POp} (h : w.rangeAt b o x.cells) : w.cell? ⟨b, o + 1, none⟩ = some (.int .i64 x.tower) := h 1 _ rfl
theorem op_channel {w : World} {b o : Nat} {x : POp} (h : w.rangeAt b o x.cells) : w.cell? ⟨b, o + 2, none⟩ = some (.int .i64 x.channel) := h 2 _ rfl
theorem op_amount {w : World} {b o : Nat} {x : POp} (h : w.rangeAt b o x.cells) : w.cell? ⟨b, o + 3, none⟩ = some (.int .i64 x.amount) := h 3 _ rfl
theorem op_root {w : World} {b o : Nat} {x : POp} (h : w.rangeAt b o x.cells) : w.rangeAt b (o + 4) (cellsOf x.root) := mid_range h (fun j v hv => by
  have hj := (List.getElem?_eq_some_iff.1 hv).1
  show (Value.int .i64 x.kind :: .int .i64 x.tower :: .int .i64 x.channel :: .int .i64 x.amount :: (cellsOf x.root ++ [.slice x.a x.n x.c]))[4 + j]? = some v
  rw [show 4 + j = j + 1 + 1 + 1 + 1 by omega, List.getElem?_cons_succ, List.getElem?_cons_succ, List.getElem?_cons_succ, List.getElem?_cons_succ, List.getElem?_append_left hj]
  exact hv)
theorem op_data {w : World} {b o : Nat} {x : POp} (hr : x.root.length = 32) (h : w.rangeAt b o x.cells) : w.cell? ⟨b, o + 36, none⟩ = some (.slice x.a x.n x.c) := h 36 _ (by
  show (Value.int .i64 x.kind :: .int .i64 x.tower :: .int .i64 x.channel :: .int .i64 x.amount :: (cellsOf x.root ++ [.slice x.a x.n x.c]))[32 + 1 + 1 + 1 + 1]? = _
  rw [List.getElem?_cons_succ, List.getElem?_cons_succ, List.getElem?_cons_succ, List.getElem?_cons_succ, List.getElem?_append_right (by rw [cellsOf_len, hr]; omega), cellsOf_len, hr]
  rfl)
theorem in_tx {w : World} {b o : Nat} {x : PIn} (h : w.rangeAt b o x.cells) : w.rangeAt b o (cellsOf x.tx) := fun j v hv => h j v (by
  have hj := (List.getElem?_eq_some_iff.1 hv).1
  unfold PIn.cells
  rw [List.getElem?_append_left hj]
  exact hv)
theorem in_at {w : World} {b o : Nat} {x : PIn} (ht : x.tx.length = 32) (h : w.rangeAt b o x.cells) : w.cell? ⟨b, o + 32, none⟩ = some (.int .i64 x.place) := h 32 _ (by
  unfold PIn.cells
  rw [List.getElem?_append_right (by rw [cellsOf_len, ht]; omega), cellsOf_len, ht]
  rfl)
theorem in_way {w : World} {b o : Nat} {x : PIn} (ht : x.tx.length = 32) (h : w.rangeAt b o x.cells) : w.cell? ⟨b, o + 33, none⟩ = some (.int .i64 x.way) := h 33 _ (by
  unfold PIn.cells
  rw [List.getElem?_append_right (by rw [cellsOf_len, ht]; omega), cellsOf_len, ht]
  rfl)
theorem in_pre {w : World} {b o : Nat} {x : PIn} (ht : x.tx.length = 32) (h : w.rangeAt b o x.cells) : w.cell? ⟨b, o + 34, none⟩ = some (.slice x.a x.n x.c) := h 34 _ (by
  unfold PIn.cells
  rw [List.getElem?_append_right (by rw [cellsOf_len, ht]; omega), cellsOf_len, ht]
  rfl)
theorem sign_key {w : World} {b o : Nat} {x : PSign} (h : w.rangeAt b o x.cells) : w.cell? ⟨b, o, none⟩ = some (.int .i64 x.key) := h 0 _ rfl
theorem sign_sum {w : World} {b o : Nat} {x : PSign} (h : w.rangeAt b o x.cells) : w.rangeAt b (o + 1) (cellsOf x.sum) := mid_range h (fun j v hv => by
  show (Value.int .i64 x.key :: cellsOf x.sum)[1 + j]? = some v
  rw [show 1 + j = j + 1 by omega, List.getElem?_cons_succ]
  exact hv)
end Go.Proofs.YtkihmhchdenamaaDoor
