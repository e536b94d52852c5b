/- Transactions in memory: ins, outs, ops, signs, and what they read as. No function of the program is named. The cells of an api.Ref. No function of the program is named. Which ops, ins, outs, signs and transactions may be, plainly. No function of the program is named. Two refs (a sum and a place) compared. No function of the program is named. A transaction's bytes, plainly; a pen's text; a struct that is laid into a new block. What package tx's checks come to: RightOp, rightIns, rightOuts, rise, Right. What tx.putFront comes to: a transaction's front is written. What tx.Sum, tx.Bytes, tx.Same and tx.Keys come to. A transaction that is read of bytes, plainly; what is read has these bytes, and what may be is read of its own. -/
import Derived.Test.YtlnenkmcegadmaaDoorSliceOf
import Derived.Test.YtlnenkmcegadmaaDoorLock
import Derived.Test.YtlnenkmcegadmaaDoorMemory
import Derived.Laws.StructEq
import Derived.Test.YtlnenkmcegadmaaDoorSha
import Derived.Test.YtlnenkmcegadmaaDoorWire
namespace Go.Proofs.YtlnenkmcegadmaaDoor
open Go.RowKit

/-- An in. -/
structure PIn where
  tx : List UInt8
  place : Int
  way : Int
  a : Option Addr
  n : Nat
  c : Nat
  pre : List UInt8
def PIn.cells (x : PIn) : List Value := cellsOf x.tx ++ [.int .i64 x.place, .int .i64 x.way, .slice x.a x.n x.c]
def noIn : PIn := ⟨zero32, 0, 0, none, 0, 0, []⟩
structure InIn (w : World) (x : PIn) : Prop where
  tx : x.tx.length = 32
  place : Fits x.place
  way : Fits x.way
  pre : Row w x.a x.n x.c x.pre
theorem PIn.len {x : PIn} (h : x.tx.length = 32) : x.cells.length = 35 := by simp [PIn.cells, cellsOf_len, h]
theorem PIn.one (x : PIn) : ∀ v ∈ x.cells, v.oneCell' = true := by
  intro v hv
  simp only [PIn.cells, List.mem_cons, List.mem_append, List.not_mem_nil, or_false] at hv
  rcases hv with hv | rfl | rfl | rfl
  · exact cellsOf_one _ v hv
  all_goals rfl
def inK : Sort8 PIn := ⟨35, PIn.cells, InIn, noIn, by omega, fun _ _ h => PIn.len h.tx, PIn.one, fun h hb => ⟨h.tx, h.place, h.way, h.pre.below hb⟩⟩
/-- A sign. -/
structure PSign where
  key : Int
  sum : List UInt8
def PSign.cells (x : PSign) : List Value := .int .i64 x.key :: cellsOf x.sum
def noSign : PSign := ⟨0, zero32⟩
structure SignIn (x : PSign) : Prop where
  key : Fits x.key
  sum : x.sum.length = 32
theorem PSign.len {x : PSign} (h : x.sum.length = 32) : x.cells.length = 33 := by simp [PSign.cells, cellsOf_len, h]
theorem PSign.one (x : PSign) : ∀ v ∈ x.cells, v.oneCell' = true := by
  intro v hv
  simp only [PSign.cells, List.mem_cons] at hv
  rcases hv with rfl | hv
  · rfl
  · exact cellsOf_one _ v hv
def signK : Sort8 PSign := ⟨33, PSign.cells, fun _ x => SignIn x, noSign, by omega, fun _ _ h => PSign.len h.sum, PSign.one, fun h _ => h⟩
/-- An out. -/
structure POut where
  m : Int
  a : Option Addr
  n : Nat
  c : Nat
  ws : List PWay
def POut.cells (x : POut) : List Value := [.int .i64 x.m, .slice x.a x.n x.c]
def noOut : POut := ⟨0, none, 0, 0, []⟩
structure OutIn (w : World) (x : POut) : Prop where
  m : Fits x.m
  ws : Ways w x.a x.n x.c x.ws
theorem POut.one (x : POut) : ∀ v ∈ x.cells, v.oneCell' = true := by
  intro v hv
  simp only [POut.cells, List.mem_cons, List.not_mem_nil, or_false] at hv
  rcases hv with rfl | rfl <;> rfl
def outK : Sort8 POut := ⟨2, POut.cells, OutIn, noOut, by omega, fun _ _ _ => rfl, POut.one, fun h hb => ⟨h.m, h.ws.below hb⟩⟩
/-- An op. -/
structure POp where
  kind : Int
  tower : Int
  channel : Int
  amount : Int
  root : List UInt8
  a : Option Addr
  n : Nat
  c : Nat
  data : List UInt8
def POp.cells (x : POp) : List Value := .int .i64 x.kind :: .int .i64 x.tower :: .int .i64 x.channel :: .int .i64 x.amount :: (cellsOf x.root ++ [.slice x.a x.n x.c])
def noOp : POp := ⟨0, 0, 0, 0, zero32, none, 0, 0, []⟩
structure OpIn (w : World) (x : POp) : Prop where
  kind : Fits x.kind
  tower : Fits x.tower
  channel : Fits x.channel
  amount : Fits x.amount
  root : x.root.length = 32
  data : Row w x.a x.n x.c x.data
theorem OpIn.below {w w' : World} {x : POp} (h : OpIn w x) (hb : Below w.heap.size w w') : OpIn w' x := ⟨h.kind, h.tower, h.channel, h.amount, h.root, h.data.below hb⟩
theorem POp.len {x : POp} (h : x.root.length = 32) : x.cells.length = 37 := by simp [POp.cells, cellsOf_len, h]
theorem POp.one (x : POp) : ∀ v ∈ x.cells, v.oneCell' = true := by
  intro v hv
  simp only [POp.cells, List.mem_cons, List.mem_append, List.not_mem_nil, or_false] at hv
  rcases hv with rfl | rfl | rfl | rfl | hv | rfl
  all_goals first | rfl | exact cellsOf_one _ v hv
/-- A transaction. -/
structure PTx where
  ia : Option Addr
  inn : Nat
  ic : Nat
  ins : List PIn
  oa : Option Addr
  on : Nat
  oc : Nat
  outs : List POut
  op : POp
  sa : Option Addr
  sn : Nat
  sc : Nat
  signs : List PSign
def PTx.cells (x : PTx) : List Value := .slice x.ia x.inn x.ic :: .slice x.oa x.on x.oc :: (x.op.cells ++ [.slice x.sa x.sn x.sc])
def noTx : PTx := ⟨none, 0, 0, [], none, 0, 0, [], noOp, none, 0, 0, []⟩
structure TxIn (w : World) (x : PTx) : Prop where
  ins : SliceOf inK w x.ia x.inn x.ic x.ins
  outs : SliceOf outK w x.oa x.on x.oc x.outs
  op : OpIn w x.op
  signs : SliceOf signK w x.sa x.sn x.sc x.signs
theorem TxIn.below {w w' : World} {x : PTx} (h : TxIn w x) (hb : Below w.heap.size w w') : TxIn w' x := ⟨h.ins.below hb, h.outs.below hb, h.op.below hb, h.signs.below hb⟩
theorem PTx.len {x : PTx} (h : x.op.root.length = 32) : x.cells.length = 40 := by simp [PTx.cells, POp.len h]
theorem PTx.one (x : PTx) : ∀ v ∈ x.cells, v.oneCell' = true := by
  intro v hv
  simp only [PTx.cells, List.mem_cons, List.mem_append, List.not_mem_nil, or_false] at hv
  rcases hv with rfl | rfl | hv | rfl
  · rfl
  · rfl
  · exact x.op.one v hv
  · rfl
theorem Tryd.sizeIn : (Tryd.prog.info? 76).map (·.size) = some 35 := by kernel_rfl
theorem Tryd.sizeSign : (Tryd.prog.info? 86).map (·.size) = some 33 := by kernel_rfl
theorem Tryd.sizeOut : (Tryd.prog.info? 79).map (·.size) = some 2 := by kernel_rfl
theorem Tryd.sizeOp : (Tryd.prog.info? 47).map (·.size) = some 37 := by kernel_rfl
theorem Tryd.sizeTx : (Tryd.prog.info? 50).map (·.size) = some 40 := by kernel_rfl
/-- Cells of a range in the midst of it. -/
theorem mid_range {w : World} {b o k : Nat} {cs ds : List Value} (h : w.rangeAt b o cs) (hk : ∀ j v, ds[j]? = some v → cs[k + j]? = some v) : w.rangeAt b (o + k) ds := fun j v hv => by
  rw [show o + k + j = o + (k + j) by omega]
  exact h (k + j) v (hk j v hv)
/-- The parts of a transaction that lies somewhere. -/
theorem tx_ins {w : World} {b o : Nat} {x : PTx} (h : w.rangeAt b o x.cells) : w.cell? ⟨b, o, none⟩ = some (.slice x.ia x.inn x.ic) := h 0 _ rfl
theorem tx_outs {w : World} {b o : Nat} {x : PTx} (h : w.rangeAt b o x.cells) : w.cell? ⟨b, o + 1, none⟩ = some (.slice x.oa x.on x.oc) := h 1 _ rfl
theorem tx_op {w : World} {b o : Nat} {x : PTx} (h : w.rangeAt b o x.cells) : w.rangeAt b (o + 2) x.op.cells := mid_range h (fun j v hv => by
  have hj := (List.getElem?_eq_some_iff.1 hv).1
  show (Value.slice x.ia x.inn x.ic :: .slice x.oa x.on x.oc :: (x.op.cells ++ [.slice x.sa x.sn x.sc]))[2 + j]? = some v
  rw [show 2 + j = j + 1 + 1 by omega, List.getElem?_cons_succ, List.getElem?_cons_succ, List.getElem?_append_left hj]
  exact hv)
theorem tx_signs {w : World} {b o : Nat} {x : PTx} (hr : x.op.root.length = 32) (h : w.rangeAt b o x.cells) : w.cell? ⟨b, o + 39, none⟩ = some (.slice x.sa x.sn x.sc) := h 39 _ (by
  show (Value.slice x.ia x.inn x.ic :: .slice x.oa x.on x.oc :: (x.op.cells ++ [.slice x.sa x.sn x.sc]))[37 + 1 + 1]? = _
  rw [List.getElem?_cons_succ, List.getElem?_cons_succ, List.getElem?_append_right (by rw [POp.len hr]; omega), POp.len hr]
  rfl)
theorem op_kind {w : World} {b o : Nat} {x : POp} (h : w.rangeAt b o x.cells) : w.cell? ⟨b, o, none⟩ = some (.int .i64 x.kind) := h 0 _ rfl
theorem op_tower {w : World} {b o : Nat} {x : POp} (h : w.rangeAt b o x.cells) : w.cell? ⟨b, o + 1, none⟩ = some (.int .i64 x.tower) := h 1 _ rfl
theorem op_channel {w : World} {b o : Nat} {x : POp} (h : w.rangeAt b o x.cells) : w.cell? ⟨b, o + 2, none⟩ = some (.int .i64 x.channel) := h 2 _ rfl
theorem op_amount {w : World} {b o : Nat} {x : POp} (h : w.rangeAt b o x.cells) : w.cell? ⟨b, o + 3, none⟩ = some (.int .i64 x.amount) := h 3 _ rfl
theorem op_root {w : World} {b o : Nat} {x : POp} (h : w.rangeAt b o x.cells) : w.rangeAt b (o + 4) (cellsOf x.root) := mid_range h (fun j v hv => by
  have hj := (List.getElem?_eq_some_iff.1 hv).1
  show (Value.int .i64 x.kind :: .int .i64 x.tower :: .int .i64 x.channel :: .int .i64 x.amount :: (cellsOf x.root ++ [.slice x.a x.n x.c]))[4 + j]? = some v
  rw [show 4 + j = j + 1 + 1 + 1 + 1 by omega, List.getElem?_cons_succ, List.getElem?_cons_succ, List.getElem?_cons_succ, List.getElem?_cons_succ, List.getElem?_append_left hj]
  exact hv)
theorem op_data {w : World} {b o : Nat} {x : POp} (hr : x.root.length = 32) (h : w.rangeAt b o x.cells) : w.cell? ⟨b, o + 36, none⟩ = some (.slice x.a x.n x.c) := h 36 _ (by
  show (Value.int .i64 x.kind :: .int .i64 x.tower :: .int .i64 x.channel :: .int .i64 x.amount :: (cellsOf x.root ++ [.slice x.a x.n x.c]))[32 + 1 + 1 + 1 + 1]? = _
  rw [List.getElem?_cons_succ, List.getElem?_cons_succ, List.getElem?_cons_succ, List.getElem?_cons_succ, List.getElem?_append_right (by rw [cellsOf_len, hr]; omega), cellsOf_len, hr]
  rfl)
theorem in_tx {w : World} {b o : Nat} {x : PIn} (h : w.rangeAt b o x.cells) : w.rangeAt b o (cellsOf x.tx) := fun j v hv => h j v (by
  have hj := (List.getElem?_eq_some_iff.1 hv).1
  unfold PIn.cells
  rw [List.getElem?_append_left hj]
  exact hv)
theorem in_at {w : World} {b o : Nat} {x : PIn} (ht : x.tx.length = 32) (h : w.rangeAt b o x.cells) : w.cell? ⟨b, o + 32, none⟩ = some (.int .i64 x.place) := h 32 _ (by
  unfold PIn.cells
  rw [List.getElem?_append_right (by rw [cellsOf_len, ht]; omega), cellsOf_len, ht]
  rfl)
theorem in_way {w : World} {b o : Nat} {x : PIn} (ht : x.tx.length = 32) (h : w.rangeAt b o x.cells) : w.cell? ⟨b, o + 33, none⟩ = some (.int .i64 x.way) := h 33 _ (by
  unfold PIn.cells
  rw [List.getElem?_append_right (by rw [cellsOf_len, ht]; omega), cellsOf_len, ht]
  rfl)
theorem in_pre {w : World} {b o : Nat} {x : PIn} (ht : x.tx.length = 32) (h : w.rangeAt b o x.cells) : w.cell? ⟨b, o + 34, none⟩ = some (.slice x.a x.n x.c) := h 34 _ (by
  unfold PIn.cells
  rw [List.getElem?_append_right (by rw [cellsOf_len, ht]; omega), cellsOf_len, ht]
  rfl)
theorem sign_key {w : World} {b o : Nat} {x : PSign} (h : w.rangeAt b o x.cells) : w.cell? ⟨b, o, none⟩ = some (.int .i64 x.key) := h 0 _ rfl
theorem sign_sum {w : World} {b o : Nat} {x : PSign} (h : w.rangeAt b o x.cells) : w.rangeAt b (o + 1) (cellsOf x.sum) := mid_range h (fun j v hv => by
  show (Value.int .i64 x.key :: cellsOf x.sum)[1 + j]? = some v
  rw [show 1 + j = j + 1 by omega, List.getElem?_cons_succ]
  exact hv)
end Go.Proofs.YtlnenkmcegadmaaDoor
namespace Go.Proofs.YtlnenkmcegadmaaDoor
open Go.RowKit

def refCells (s : List UInt8) (z : Int) : List Value := cellsOf s ++ [.int .i64 z]
theorem refCells_len {s : List UInt8} {z : Int} (h : s.length = 32) : (refCells s z).length = 33 := by simp [refCells, cellsOf_len, h]
theorem Tryd.sizeRef : (Tryd.prog.info? 74).map (·.size) = some 33 := by kernel_rfl
theorem refSize {s : List UInt8} {z : Int} (h : s.length = 32) : (Tryd.prog.info? 74).map (·.size) = some (refCells s z).length := by rw [refCells_len h]; exact Tryd.sizeRef
end Go.Proofs.YtlnenkmcegadmaaDoor
namespace Go.Proofs.YtlnenkmcegadmaaDoor
open Go.RowKit

/-- An op may be. -/
def opOk (x : POp) : Bool :=
  if x.kind = 0 then (decide (x.tower = 0) && (decide (x.channel = 0) && (decide (x.amount = 0) && (decide (x.root = zero32) && decide (x.n = 0)))))
  else (decide (0 < x.kind) && (decide (x.kind < 8) && (decide (0 ≤ x.tower) && (decide (x.tower < 16) && (decide (0 ≤ x.channel) && (decide (x.channel ≤ 1048576) && (decide (0 ≤ x.amount) && (decide (x.amount ≤ 1125899906842624) && decide (x.n ≤ 65536)))))))))
theorem opOk_none {x : POp} (h : x.kind = 0) : opOk x = (decide (x.tower = 0) && (decide (x.channel = 0) && (decide (x.amount = 0) && (decide (x.root = zero32) && decide (x.n = 0))))) := by unfold opOk; rw [if_pos h]
theorem opOk_some {x : POp} (h : x.kind ≠ 0) : opOk x = (decide (0 < x.kind) && (decide (x.kind < 8) && (decide (0 ≤ x.tower) && (decide (x.tower < 16) && (decide (0 ≤ x.channel) && (decide (x.channel ≤ 1048576) && (decide (0 ≤ x.amount) && (decide (x.amount ≤ 1125899906842624) && decide (x.n ≤ 65536))))))))) := by unfold opOk; rw [if_neg h]
def uptoB (n m : Int) : Bool := decide (0 ≤ n) && decide (n ≤ m)
theorem opOk_upto {x : POp} (h : x.kind ≠ 0) : opOk x = (uptoB x.kind 7 && (uptoB x.tower 15 && (uptoB x.channel 1048576 && (uptoB x.amount 1125899906842624 && decide (x.n ≤ 65536))))) := by
  rw [opOk_some h]
  unfold uptoB
  rw [Bool.eq_iff_iff]
  simp only [Bool.and_eq_true, decide_eq_true_eq]
  omega
/-- An in, by itself, may be. -/
def inOk (y : PIn) : Bool := uptoB y.place 15 && (uptoB y.way 15 && decide (y.n ≤ 64))
/-- Two ins have the same place. -/
def sameRef (a b : PIn) : Bool := decide (a.tx = b.tx) && decide (a.place = b.place)
/-- Ins may be, behind others. -/
def insOk : List PIn → List PIn → Bool
  | _, [] => true
  | pre, y :: ys => inOk y && (!(pre.any fun a => sameRef a y) && insOk (pre ++ [y]) ys)
theorem insOk_step {xs : List PIn} {k : Nat} (h : k < xs.length) : insOk (xs.take k) (xs.drop k) = (inOk (xs.getD k noIn) && (!((xs.take k).any fun a => sameRef a (xs.getD k noIn)) && insOk (xs.take (k + 1)) (xs.drop (k + 1)))) := by
  rw [drop_getD (d := noIn) h, insOk, take_getD (d := noIn) h]
theorem insOk_end {xs : List PIn} {k : Nat} (h : xs.length ≤ k) : insOk (xs.take k) (xs.drop k) = true := by
  rw [List.drop_of_length_le h]
  rfl
def outsOk (xs : List POut) : Bool := xs.all fun y => outOk y.m y.ws
def keysOf (xs : List PSign) : List Int := xs.map PSign.key
/-- A transaction may be. -/
def txOk (x : PTx) : Bool := decide (x.inn ≤ 16 ∧ x.on ≤ 16 ∧ x.sn ≤ 16) && (decide (x.inn ≠ 0 ∨ x.op.kind ≠ 0) && (opOk x.op && (insOk [] x.ins && (outsOk x.outs && rises 0 (keysOf x.signs)))))
theorem in_ref {w : World} {b o : Nat} {x : PIn} (h : w.rangeAt b o x.cells) : w.rangeAt b o (refCells x.tx x.place) := fun j v hv => h j v (by
  have hj := (List.getElem?_eq_some_iff.1 hv).1
  have e : x.cells = refCells x.tx x.place ++ [.int .i64 x.way, .slice x.a x.n x.c] := by simp [PIn.cells, refCells]
  rw [e, List.getElem?_append_left hj]
  exact hv)
theorem in_size {x : PIn} (h : x.tx.length = 32) : (Tryd.prog.info? 76).map (·.size) = some x.cells.length := by rw [PIn.len h]; exact Tryd.sizeIn
theorem in_sizeA {x : PIn} (h : x.tx.length = 32) : (Tryd.prog.info? 76).map (·.size) = some x.cells.toArray.size := by rw [List.size_toArray]; exact in_size h
theorem op_size {x : POp} (h : x.root.length = 32) : (Tryd.prog.info? 47).map (·.size) = some x.cells.length := by rw [POp.len h]; exact Tryd.sizeOp
theorem op_sizeA {x : POp} (h : x.root.length = 32) : (Tryd.prog.info? 47).map (·.size) = some x.cells.toArray.size := by rw [List.size_toArray]; exact op_size h
theorem sign_size {x : PSign} (h : x.sum.length = 32) : (Tryd.prog.info? 86).map (·.size) = some x.cells.length := by rw [PSign.len h]; exact Tryd.sizeSign
theorem sign_sizeA {x : PSign} (h : x.sum.length = 32) : (Tryd.prog.info? 86).map (·.size) = some x.cells.toArray.size := by rw [List.size_toArray]; exact sign_size h
theorem tx_size {x : PTx} (h : x.op.root.length = 32) : (Tryd.prog.info? 50).map (·.size) = some x.cells.length := by rw [PTx.len h]; exact Tryd.sizeTx
theorem tx_sizeA {x : PTx} (h : x.op.root.length = 32) : (Tryd.prog.info? 50).map (·.size) = some x.cells.toArray.size := by rw [List.size_toArray]; exact tx_size h
/-- The first ones of a slice. -/
theorem SliceOf.take {α : Type} {K : Sort8 α} {w : World} {n c k : Nat} {a : Option Addr} {xs : List α} (h : SliceOf K w a n c xs) (hk : k ≤ n) : SliceOf K w a k c (xs.take k) := by
  obtain ⟨h1, h2, h3, h4, h6, h5⟩ := h
  refine ⟨by rw [List.length_take, h1]; omega, by omega, h3, h4, fun x hx => h6 x (List.mem_of_mem_take hx), fun h0 => ?_⟩
  obtain ⟨b, off, e, hlt, hc⟩ := h5 (by omega)
  refine ⟨b, off, e, hlt, fun j hj => ?_⟩
  have e2 : (xs.take k).getD j K.dflt = xs.getD j K.dflt := by
    rw [List.getD_eq_getElem?_getD, List.getD_eq_getElem?_getD, List.getElem?_take, if_pos hj]
  rw [e2]
  exact hc j (by omega)
end Go.Proofs.YtlnenkmcegadmaaDoor
namespace Go.Proofs.YtlnenkmcegadmaaDoor
open Go.RowKit

set_option maxRecDepth 100000 in
theorem run_eqSumsAt (d : Nat) (s t : List UInt8) (hs : s.length = 32) (ht : t.length = 32) (W : World) : (Op.equalIn (d + 2) 23 (.agg (cellsOf s).toArray) (.agg (cellsOf t).toArray)).run Tryd.prog W = .ok (decide (s = t)) W := by
  obtain ⟨i0, hi, _⟩ := info_parts Tryd.info5
  have h := run_equalIn_array (P := Tryd.prog) W (d + 1) (cellsOf s).toArray (cellsOf t).toArray Tryd.underlying23 hi
  rw [Tryd.cells5] at h
  rw [h, run_eqItems_bytes d s t W _ (fun i hi => by rw [List.mem_range] at hi; omega)]
  congr 1
  rw [decide_eq_decide]
  constructor
  · intro h
    exact bytes_eq s t (by omega) (fun i hi => h i (by rw [List.mem_range]; omega))
  · rintro rfl i _
    rfl
theorem run_part_sum (s : List UInt8) (z : Int) (hs : s.length = 32) (W : World) : (part 23 (refCells s z).toArray 0).run Tryd.prog W = .ok (.agg (cellsOf s).toArray) W := by
  have h1 : (isAgg 23).run Tryd.prog W = .ok true W := by kernel_rfl
  have h2 : (sizeOf 23).run Tryd.prog W = .ok 32 W := by kernel_rfl
  have e : (refCells s z).toArray.extract 0 (0 + 32) = (cellsOf s).toArray := by
    apply Array.toList_inj.1
    simp [refCells, cellsOf_len, hs]
  simp only [part, Sem.run_bind, h1, h2, Result.andThen_ok, if_true, Sem.run_pure, e]
theorem run_part_place (s : List UInt8) (z : Int) (hs : s.length = 32) (W : World) : (part 3 (refCells s z).toArray 32).run Tryd.prog W = .ok (.int .i64 z) W := by
  have h1 : (isAgg 3).run Tryd.prog W = .ok false W := Tryd.isAgg3 W
  have e : (refCells s z).toArray[32]? = some (.int .i64 z) := by
    simp only [List.getElem?_toArray, refCells]
    rw [List.getElem?_append_right (by rw [cellsOf_len, hs]; omega), cellsOf_len, hs]
    rfl
  simp [part, Sem.run_bind, h1, Result.andThen_ok, Sem.run_pure, e]
theorem run_eqRefs (s t : List UInt8) (a b : Int) (hs : s.length = 32) (ht : t.length = 32) (W : World) : (Op.equalIn 10000 74 (.agg (refCells s a).toArray) (.agg (refCells t b).toArray)).run Tryd.prog W = .ok (decide (s = t) && decide (a = b)) W := by
  rw [run_equalIn_struct W 9999 74 _ _ (by kernel_rfl) (by kernel_rfl)]
  have hf : (Tryd.prog.fieldsOf 74).toList.map (fun f => (f.name, f.type, f.offset)) = [("Tx", 23, 0), ("At", 3, 32)] := by kernel_rfl
  revert hf
  generalize (Tryd.prog.fieldsOf 74).toList = fs
  intro hf
  have hl : fs.length = 2 := by have h9 := congrArg List.length hf; simpa using h9
  obtain ⟨f1, fs, rfl⟩ : ∃ f1 l, fs = f1 :: l := by cases fs with
    | nil => simp at hl
    | cons f l => exact ⟨f, l, rfl⟩
  obtain ⟨f2, fs, rfl⟩ : ∃ f2 l, fs = f2 :: l := by cases fs with
    | nil => simp at hl
    | cons f l => exact ⟨f, l, rfl⟩
  obtain rfl : fs = [] := List.eq_nil_of_length_eq_zero (by simpa using hl)
  simp only [List.map_cons, List.map_nil, List.cons.injEq, Prod.mk.injEq, and_true] at hf
  obtain ⟨⟨n1, t1, o1⟩, n2, t2, o2⟩ := hf
  have k1 : f1.name ≠ "_" := by rw [n1]; decide
  have k2 : f2.name ≠ "_" := by rw [n2]; decide
  have g1 := run_eqSumsAt 9997 s t hs ht W
  have g2 := run_equalIn_int (P := Tryd.prog) W 9998 3 .i64 .i64 a b Tryd.underlying3
  generalize hr : decide (s = t) = r at g1
  rw [Op.eqFields, if_pos k1, t1, o1]
  simp only [Sem.run_bind, run_part_sum s a hs, run_part_sum t b ht, Result.andThen_ok, g1]
  cases r
  · rfl
  · simp only [Bool.not_true, Bool.false_eq_true, if_false, Bool.true_and]
    rw [Op.eqFields, if_pos k2, t2, o2]
    simp only [Sem.run_bind, run_part_place s a hs, run_part_place t b ht, Result.andThen_ok, g2]
    by_cases h : a = b
    · subst h
      simp [Op.eqFields, Sem.run_pure]
    · have hb : (a == b) = false := by simpa using h
      rw [hb, decide_eq_false h]
      rfl
end Go.Proofs.YtlnenkmcegadmaaDoor
namespace Go.Proofs.YtlnenkmcegadmaaDoor
open Go.RowKit

def inB (sh : Bool) (x : PIn) : List UInt8 := x.tx ++ (numB x.place ++ (numB x.way ++ (if sh then numB (x.pre.length : Nat) ++ x.pre else [])))
def insB (sh : Bool) : List PIn → List UInt8
  | [] => []
  | x :: xs => inB sh x ++ insB sh xs
def outsB : List POut → List UInt8
  | [] => []
  | x :: xs => outB x.m x.ws ++ outsB xs
def opB (x : POp) : List UInt8 := numB x.kind ++ (numB x.tower ++ (numB x.channel ++ (numB x.amount ++ (x.root ++ (numB (x.data.length : Nat) ++ x.data)))))
def frontB (sh : Bool) (x : PTx) : List UInt8 := numB (x.ins.length : Nat) ++ (insB sh x.ins ++ (numB (x.outs.length : Nat) ++ (outsB x.outs ++ opB x.op)))
theorem insB_append (sh : Bool) : ∀ u v : List PIn, insB sh (u ++ v) = insB sh u ++ insB sh v
  | [], _ => rfl
  | x :: u, v => by simp [insB, insB_append sh u v]
theorem outsB_append : ∀ u v : List POut, outsB (u ++ v) = outsB u ++ outsB v
  | [], _ => rfl
  | x :: u, v => by simp [outsB, outsB_append u v]
theorem insB_take (sh : Bool) {xs : List PIn} {k : Nat} (h : k < xs.length) : insB sh (xs.take (k + 1)) = insB sh (xs.take k) ++ inB sh (xs.getD k noIn) := by
  rw [take_getD (d := noIn) h, insB_append]
  simp [insB]
theorem outsB_take {xs : List POut} {k : Nat} (h : k < xs.length) : outsB (xs.take (k + 1)) = outsB (xs.take k) ++ outB (xs.getD k noOut).m (xs.getD k noOut).ws := by
  rw [take_getD (d := noOut) h, outsB_append]
  simp [outsB]
theorem insB_le (sh : Bool) {xs : List PIn} {k : Nat} : (insB sh (xs.take k)).length ≤ (insB sh xs).length := by
  have e : insB sh xs = insB sh (xs.take k) ++ insB sh (xs.drop k) := by rw [← insB_append, List.take_append_drop]
  rw [e, List.length_append]
  omega
theorem outsB_le {xs : List POut} {k : Nat} : (outsB (xs.take k)).length ≤ (outsB xs).length := by
  have e : outsB xs = outsB (xs.take k) ++ outsB (xs.drop k) := by rw [← outsB_append, List.take_append_drop]
  rw [e, List.length_append]
  omega
/-- What old bytes a pen writes as a text; all else as it was. -/
theorem ptext_typed {a : Option Addr} {n c B pb : Nat} {l q : List UInt8} (w : World) (hq : Row w a n c q) (hp : PenAt w B pb l) (hbz : B ≤ w.heap.size) (hB : 0 < n → ∀ x, a = some x → x.block < B) (hn : n ≤ 1000000) (hl : l.length ≤ 1000000) :
    Calls Tryd.prog 44 #[.pointer (some ⟨pb, 0, none⟩), .slice a n c] w fun r w' => r = .returned (.pointer (some ⟨pb, 0, none⟩)) ∧ PenAt w' B pb (l ++ (numB (q.length : Nat) ++ q)) ∧ But B pb w w' ∧ Keeps w w' := by
  have hql := hq.1
  have HP := Lib.hid hp
  have HQ := Lib.hid hq
  have HNB := Lib.hid hp.noBytes
  have HB := Lib.hid hB
  have HQL := Lib.hid hql
  clear hp hq hB hql
  go_enter Tryd.func44, Tryd.ntmps44
  go_wp2_with fail
  refine (pnum_typed _ HP.out hbz (by omega) (by omega)).mono ?_
  rintro r w1 ⟨rfl, hp1, hb1, hk1⟩
  have HP1 := Lib.hid hp1
  have HB1 := Lib.hid hb1
  have HK1 := Lib.hid hk1
  have HQ1 : Hid (Row w1 a n c q) := HQ.out.butB hb1 HNB.out HB.out
  have hbz1 : B ≤ w1.heap.size := Nat.le_trans hbz hb1.size
  have HLB : Hid ((l ++ numB (n : Int)).length + n ≤ 140737488355328) := by
    have h1 := numB_len (n : Int)
    show _ ≤ _
    rw [List.length_append]
    omega
  clear hp1 hb1 hk1
  go_wp2_with fail
  refine (write_typed HP1.out hbz1 HQ1.out HLB.out).mono ?_
  rintro r w2 ⟨rfl, hp2, hb2, hk2⟩
  have HP2 := Lib.hid hp2
  have HB2 := Lib.hid hb2
  have HK2 := Lib.hid hk2
  clear hp2 hb2 hk2
  go_wp2_with fail
  go_ret
  exact ⟨rfl, by rw [HQL.out, ← List.append_assoc]; exact HP2.out, HB1.out.trans HB2.out, HK1.out.trans HK2.out⟩
/-- A struct is laid into a new block. -/
def layT (T : TypeId) (z : List Value) (w : World) (cs : List Value) : World := (w.alloc (.cells z.toArray T)).setRow w.heap.size cs.toArray
theorem layT_is (T : TypeId) (z : List Value) (w : World) (cs : List Value) : (w.alloc (.cells z.toArray T)).setRow w.heap.size cs.toArray = layT T z w cs := rfl
theorem layT_heap (T : TypeId) (z : List Value) (w : World) (cs : List Value) : (layT T z w cs).heap[w.heap.size]? = some (.cells cs.toArray T (0, 0)) := setRow_heap _ _ _ _ _ _ (heap_alloc_new _ _)
theorem layT_self (T : TypeId) (z : List Value) (w : World) (cs : List Value) : Below w.heap.size w (layT T z w cs) := by
  have b : Below w.heap.size w (w.alloc (.cells z.toArray T)) := (Below.refl _ _).alloc (Nat.le_refl _) _
  exact b.trans (((but_setRow _ w.heap.size _).mono b.size).below (Nat.le_refl _))
theorem noIn_is : noIn.cells.toArray = #[.int .u8 0, .int .u8 0, .int .u8 0, .int .u8 0, .int .u8 0, .int .u8 0, .int .u8 0, .int .u8 0, .int .u8 0, .int .u8 0, .int .u8 0, .int .u8 0, .int .u8 0, .int .u8 0, .int .u8 0, .int .u8 0, .int .u8 0, .int .u8 0, .int .u8 0, .int .u8 0, .int .u8 0, .int .u8 0, .int .u8 0, .int .u8 0, .int .u8 0, .int .u8 0, .int .u8 0, .int .u8 0, .int .u8 0, .int .u8 0, .int .u8 0, .int .u8 0, .int .i64 0, .int .i64 0, .slice none 0 0] := rfl
theorem noOp_is : noOp.cells.toArray = #[.int .i64 0, .int .i64 0, .int .i64 0, .int .i64 0, .int .u8 0, .int .u8 0, .int .u8 0, .int .u8 0, .int .u8 0, .int .u8 0, .int .u8 0, .int .u8 0, .int .u8 0, .int .u8 0, .int .u8 0, .int .u8 0, .int .u8 0, .int .u8 0, .int .u8 0, .int .u8 0, .int .u8 0, .int .u8 0, .int .u8 0, .int .u8 0, .int .u8 0, .int .u8 0, .int .u8 0, .int .u8 0, .int .u8 0, .int .u8 0, .int .u8 0, .int .u8 0, .int .u8 0, .int .u8 0, .int .u8 0, .int .u8 0, .slice none 0 0] := rfl
theorem kept_in {w w' : World} {g : Nat} {cs : Array Value} {fr : Nat × Nat} (hk : Keeps w w') (h : w.heap[g]? = some (.cells cs 76 fr)) : w'.heap[g]? = some (.cells cs 76 fr) := (hk g _ _ _ h (by decide) (by decide) (by decide)).trans h
theorem kept_op {w w' : World} {g : Nat} {cs : Array Value} {fr : Nat × Nat} (hk : Keeps w w') (h : w.heap[g]? = some (.cells cs 47 fr)) : w'.heap[g]? = some (.cells cs 47 fr) := (hk g _ _ _ h (by decide) (by decide) (by decide)).trans h
theorem kept_tx {w w' : World} {g : Nat} {cs : Array Value} {fr : Nat × Nat} (hk : Keeps w w') (h : w.heap[g]? = some (.cells cs 50 fr)) : w'.heap[g]? = some (.cells cs 50 fr) := (hk g _ _ _ h (by decide) (by decide) (by decide)).trans h
end Go.Proofs.YtlnenkmcegadmaaDoor
namespace Go.Proofs.YtlnenkmcegadmaaDoor
open Go.RowKit

/-- An op says nothing but its kind. -/
def opEmpty (x : POp) : Bool := (decide (x.tower = 0) && (decide (x.channel = 0) && (decide (x.amount = 0) && (decide (x.root = zero32) && decide (x.n = 0)))))
theorem noSign_is : noSign.cells.toArray = #[.int .i64 0, .int .u8 0, .int .u8 0, .int .u8 0, .int .u8 0, .int .u8 0, .int .u8 0, .int .u8 0, .int .u8 0, .int .u8 0, .int .u8 0, .int .u8 0, .int .u8 0, .int .u8 0, .int .u8 0, .int .u8 0, .int .u8 0, .int .u8 0, .int .u8 0, .int .u8 0, .int .u8 0, .int .u8 0, .int .u8 0, .int .u8 0, .int .u8 0, .int .u8 0, .int .u8 0, .int .u8 0, .int .u8 0, .int .u8 0, .int .u8 0, .int .u8 0, .int .u8 0] := rfl
end Go.Proofs.YtlnenkmcegadmaaDoor
namespace Go.Proofs.YtlnenkmcegadmaaDoor
open Go.RowKit

theorem step_four_gen {ops : Array Oper} {o : Oper} {tmps : Array Value} {ds : List Deferred} {w : World} {K : Act → World → Prop} {Q : Exit → Act → World → Prop} {E : Prop} {d : Nat} {u v u2 v2 : Operand} {y z y2 z2 : Int} (hd : o.dst = some d) (hw : Region.wanted o (yielded ops tmps) = true) (ho : o.op = .buildSlice 80 4 #[(0, u), (1, v), (2, u2), (3, v2)])
    (hu : Act.eval { tmps := tmps, defers := ds } u = .int .i64 y) (hv : Act.eval { tmps := tmps, defers := ds } v = .int .i64 z) (hu2 : Act.eval { tmps := tmps, defers := ds } u2 = .int .i64 y2) (hv2 : Act.eval { tmps := tmps, defers := ds } v2 = .int .i64 z2)
    (h : ∀ (p : Nat) (w' : World), w.heap.size ≤ p → w'.heap[p]? = some (.cells #[.int .i64 y, .int .i64 z, .int .i64 y2, .int .i64 z2] 3 (0, 0)) → Below w.heap.size w w' → K { tmps := tmps.setIfInBounds d (.slice (some ⟨p, 0, none⟩) 4 4), defers := ds } w') :
    if Region.wanted o (yielded ops tmps) = true then Oper.wp Tryd.prog o { tmps := tmps, defers := ds } w K Q else E := by
  rw [if_pos hw]
  obtain ⟨ie, h1, h2, h3, _⟩ := info_parts Tryd.zeroInt
  have hrun : (Instr.buildSlice 80 4 #[(0, .int .i64 y), (1, .int .i64 z), (2, .int .i64 y2), (3, .int .i64 z2)]).run Tryd.prog w = .ok (.slice (some ⟨w.heap.size, 0, none⟩) 4 4) (w.alloc (.cells #[.int .i64 y, .int .i64 z, .int .i64 y2, .int .i64 z2] 3)) :=
    run_buildSlice w 80 3 4 _ _ ie _ Tryd.underlying80 h1 h2 (by rw [h3]; omega) (by rw [h3]; omega) (by rw [h3]; simp [Instr.fill, Value.cells]; rw [show Array.range 4 = #[0, 1, 2, 3] by rfl]; simp)
  unfold Oper.wp execOp
  simp only [ho, List.map_toArray, List.map_cons, List.map_nil, hu, hv, hu2, hv2, Sem.run_bind, hrun, Sem.run_pure, Result.andThen_ok]
  show K (Act.put _ o.dst _) _
  rw [hd]
  exact h _ _ (Nat.le_refl _) (heap_alloc_new _ _) ((Below.refl _ _).alloc (Nat.le_refl _) _)
theorem lit4 {w : World} {g B pb : Nat} {y z y2 z2 : Int} {fr : Nat × Nat} (h : w.heap[g]? = some (.cells #[.int .i64 y, .int .i64 z, .int .i64 y2, .int .i64 z2] 3 fr)) : ∀ wr, But B pb w wr → Keeps w wr → ∀ j, j < 4 → wr.cell? ⟨g, 0 + j, none⟩ = some (.int .i64 ([y, z, y2, z2].getD j 0)) := fun wr _ hk j hj => by
  rw [Nat.zero_add, cell_of_row _ _ _ _ _ _ (kept_int hk h)]
  rcases (show j = 0 ∨ j = 1 ∨ j = 2 ∨ j = 3 by omega) with rfl | rfl | rfl | rfl <;> rfl
theorem noOut_is : noOut.cells.toArray = #[.int .i64 0, .slice none 0 0] := rfl
theorem tx_op0 {w : World} {b : Nat} {x : PTx} (h : w.rangeAt b 0 x.cells) : w.rangeAt b 2 x.op.cells := by have h9 := tx_op h; rw [Nat.zero_add] at h9; exact h9
/-- Sizes at which a front is written. -/
structure FrontFew (sh : Bool) (x : PTx) : Prop where
  ins : x.inn ≤ 1000
  outs : x.on ≤ 1000
  pre : ∀ y ∈ x.ins, y.pre.length ≤ 100000
  ways : ∀ y ∈ x.outs, y.ws.length ≤ 1000 ∧ ∀ z ∈ y.ws, z.ks.length ≤ 1000
  data : x.op.data.length ≤ 100000
  len : (frontB sh x).length ≤ 900000
set_option linter.unusedSimpArgs false in
set_option maxRecDepth 100000 in
set_option maxHeartbeats 25600000 in
theorem putFront_at {w1 w : World} {x : PTx} {sh : Bool} {pb : Nat} (h : TxIn w1 x) (hs : w1.heap.size = pb) (hb : Below pb w1 w) (hp : PenAt w pb pb []) (hf : FrontFew sh x) :
    Calls Tryd.prog 30 #[.pointer (some ⟨pb, 0, none⟩), .agg x.cells.toArray, .bool sh] w fun e w' => e = .returned (.tuple #[]) ∧ PenAt w' pb pb (frontB sh x) ∧ PStep pb pb w w' := by
  have hi := hf.ins
  have ho := hf.outs
  have HPR := Lib.hid hf.pre
  have HOU := Lib.hid hf.ways
  have HL := Lib.hid hf.len
  have hdn : x.op.n ≤ 100000 := by rw [← h.op.data.1]; exact hf.data
  have hz : pb ≤ w.heap.size := Nat.le_of_lt hp.lt
  have b4 : Below w.heap.size w (w.alloc (.cells x.cells.toArray 50)) := (Below.refl _ _).alloc (Nat.le_refl _) _
  have h4 := heap_alloc_new w (.cells x.cells.toArray 50)
  have H1 := Lib.hid h
  have HB := Lib.hid hb
  have HP := Lib.hid hp
  -- below the pen all is as in w1
  have OLD : Hid (∀ W : World, Below pb w1 W → TxIn W x) := Lib.hid (fun W hW => h.below (by rw [hs]; exact hW))
  have OW : Hid (∀ y ∈ x.outs, OldWs pb pb y.n y.a y.ws) := Lib.hid (fun y hy => (h.outs.2.2.2.2.1 y hy).ws.oldWs (by rw [hs]; exact Nat.le_refl _) (by rw [hs]; exact Nat.le_refl _))
  have HOR : Hid (∀ {a : Option Addr} {n c : Nat} {l : List UInt8}, Row w1 a n c l → 0 < n → ∀ ad, a = some ad → ad.block < pb) := Lib.hid (fun hr h0 ad e => by
    obtain ⟨b, off, e2, hlt, _⟩ := hr.2.2.2.2 h0
    rw [e] at e2
    cases e2
    rw [← hs]
    exact hlt)
  have OLDR : Hid (∀ {W : World} {a : Option Addr} {n c : Nat} {l : List UInt8}, Row w1 a n c l → Below pb w1 W → Row W a n c l) := Lib.hid (fun hr hW => hr.below (by rw [hs]; exact hW))
  clear h hb hp hf hs
  go_enter Tryd.func30, Tryd.ntmps30
  go_upto_region 1 with (fail)
  revert b4 h4
  generalize (w.alloc (.cells x.cells.toArray 50)) = w4
  obtain ⟨g, hg⟩ : ∃ g, g = w.heap.size := ⟨_, rfl⟩
  rw [← hg]
  intro b4 h4
  rw [hg] at b4
  have HG := Lib.hid h4
  have HP0 : Hid (PStep pb pb w w4) := Lib.hid ⟨But.of (b4.mono hz), Keeps.below b4⟩
  have HP4 := Lib.hid (HP.out.below hz b4)
  have hz4 : pb ≤ w4.heap.size := Nat.le_trans hz b4.size
  have HB4 : Hid (Below pb w1 w4) := Lib.hid (HB.out.trans (b4.mono hz))
  have HBS : Hid (∀ W : World, PStep pb pb w4 W → Below pb w1 W) := Lib.hid (fun W hW => HB4.out.trans (hW.1.below (Nat.le_refl _)))
  have HTXR : Hid (∀ W : World, Keeps w4 W → W.rangeAt g 0 x.cells) := Lib.hid (fun W hW => range_of (kept_tx hW HG.out))
  obtain ⟨A, hA⟩ : ∃ A, A = x.ia := ⟨_, rfl⟩
  obtain ⟨A2, hA2⟩ : ∃ A, A = x.oa := ⟨_, rfl⟩
  have HA := Lib.hid hA
  have HA2 := Lib.hid hA2
  clear hA hA2
  have c0 : w4.cell? ⟨g, 0, none⟩ = some (.slice A x.inn x.ic) := by rw [HA.out]; exact tx_ins (range_of h4)
  have hin63 : (x.inn : Int) ≤ 9223372036854775807 := by omega
  have HLI : Hid ((0 : Nat) + 9 ≤ 140737488355328) := Lib.hid (by omega)
  clear h4 b4 hg HP HB
  go_wp2_with fail
  refine (pnum_typed (x.inn : Int) HP4.out hz4 HLI.out hin63).mono ?_
  rintro e w3 ⟨rfl, hp3, hb3, hk3⟩
  rw [List.nil_append] at hp3
  have HP3 := Lib.hid hp3
  have HS3 : Hid (PStep pb pb w4 w3) := Lib.hid ⟨hb3, hk3⟩
  replace c0 : w3.cell? ⟨g, 0, none⟩ = some (.slice A x.inn x.ic) := by rw [HA.out]; exact tx_ins (HTXR.out _ hk3)
  clear hp3 hb3 hk3 HP4
  go_upto_region 3 with (fail)
  clear c0
  go_loopw [18] (fun i wr => ∃ k : Nat, k ≤ x.inn ∧ i = .int .i64 k ∧ PenAt wr pb pb (numB (x.inn : Int) ++ insB sh (x.ins.take k)) ∧ PStep pb pb w4 wr) (fun i _ => x.inn - (intOf i).toNat)
  case atStart => exact ⟨0, Nat.zero_le _, rfl, by have h9 := HP3.out; simpa [insB] using h9, HS3.out⟩
  case round =>
    obtain ⟨k, hk, rfl, hpk, hsk⟩ := hrel
    have HPK := Lib.hid hpk
    have HSK := Lib.hid hsk
    have HBK := Lib.hid (HBS.out _ hsk)
    have hbzr : pb ≤ wr.heap.size := Nat.le_of_lt hpk.lt
    have htx := OLD.out wr HBK.out
    clear hpk HP3 HS3 hsk
    by_cases hkn : k < x.inn
    · have f1 : (k : Int) < (x.inn : Int) := by omega
      have f0 : (0 : Int) ≤ (k : Int) := by omega
      have ft : ((k : Int)).toNat = k := by omega
      have hkl : k < x.ins.length := by rw [H1.out.ins.1]; exact hkn
      obtain ⟨b1, o1, e1, hltb, hc1⟩ := htx.ins.2.2.2.2.2 (by omega)
      have hrx : wr.rangeAt b1 (o1 + k * 35) (x.ins.getD k noIn).cells := hc1 k hkn
      have hym : x.ins.getD k noIn ∈ x.ins := H1.out.ins.mem hkn
      have hy1 : InIn w1 (x.ins.getD k noIn) := H1.out.ins.get hkn
      have hpy := HPR.out _ hym
      have hnx := insB_take sh hkl
      have hll := insB_le sh (xs := x.ins) (k := k + 1)
      rw [hnx] at hll
      revert hrx hym hy1 hpy hnx hll
      generalize x.ins.getD k noIn = y
      intro hrx hym hy1 hpy hnx hll
      obtain ⟨P, hP⟩ : ∃ P, P = numB (x.inn : Int) ++ insB sh (x.ins.take k) := ⟨_, rfl⟩
      have HNX : Hid (numB (x.inn : Int) ++ insB sh (x.ins.take (k + 1)) = P ++ inB sh y) := Lib.hid (by rw [hnx, hP]; simp only [List.append_assoc])
      have HLW : Hid ((P ++ (y.tx ++ (numB y.place ++ (numB y.way ++ [])))).length + 109 ≤ 1000000) := Lib.hid (by
        have h9 := HL.out
        unfold frontB at h9
        rw [H1.out.ins.1] at h9
        rw [hP]
        unfold inB at hll
        simp only [List.length_append] at h9 hll ⊢
        simp only [List.length_nil]
        omega)
      rw [← hP] at HPK
      have RY := Lib.hid hrx
      have STX := Lib.hid (sumLen hy1.tx)
      have SY := Lib.hid (in_size hy1.tx)
      have AY := Lib.hid (in_sizeA hy1.tx)
      have ZY : Hid (noIn.cells.toArray.size = y.cells.toArray.size) := Lib.hid (by rw [List.size_toArray, List.size_toArray, PIn.len hy1.tx]; rfl)
      have HTX := Lib.hid hy1.tx
      have HFP : Hid (Fits y.place) := Lib.hid hy1.place
      have HFW : Hid (Fits y.way) := Lib.hid hy1.way
      have HPRE : Hid (Row w1 y.a y.n y.c y.pre) := Lib.hid hy1.pre
      have HPB := Lib.hid (HOR.out hy1.pre)
      have hyn : y.n ≤ 100000 := by rw [← hy1.pre.1]; exact hpy
      rw [← HA.out] at e1
      subst e1
      clear hc1 hrx hym hy1 hpy hnx hll hP hkl htx
      go_upto_region 5 with (first | (refine wpList_load_mid rfl 76 _ rfl b1 (o1 + k * 35) rfl y.cells _ RY.out Tryd.underlying76 rfl SY.out ?_) | (refine wpList_store_row rfl 76 _ _ rfl wr.heap.size y.cells.toArray rfl rfl 76 noIn.cells.toArray (heap_alloc_new _ _) AY.out ZY.out (all_oneCell_toArray y.one) ?_) | fail)
      rw [← noIn_is, layT_is]
      have h5 := layT_heap 76 noIn.cells wr y.cells
      have b5 := layT_self 76 noIn.cells wr y.cells
      revert h5 b5
      generalize layT 76 noIn.cells wr y.cells = w5
      obtain ⟨g5, hg5⟩ : ∃ g5, g5 = wr.heap.size := ⟨_, rfl⟩
      rw [← hg5]
      intro h5 b5
      rw [hg5] at b5
      have H5 := Lib.hid h5
      have hbz5 : pb ≤ w5.heap.size := Nat.le_trans hbzr b5.size
      have HPEN0 : Hid (PenAt w5.drew pb pb P) := Lib.hid ((HPK.out.below hbzr b5).below hbz5 (below_drew (Below.refl _ _)))
      have HBW : Hid (Below pb w1 w5) := Lib.hid (HBK.out.trans (b5.mono hbzr))
      have HPW : Hid (PStep pb pb w4 w5) := Lib.hid ⟨HSK.out.1.trans (But.of (b5.mono hbzr)), HSK.out.2.trans (Keeps.below b5)⟩
      clear h5 b5 hg5 HPK RY
      try simp only [Act.put]
      refine wp_region_held_drew (S := fun w' => PStep pb pb w5 w') (by kernel_rfl) (⟨But.of (below_drew (Below.refl _ _)), fun _ _ _ _ _ _ _ _ => rfl⟩) (fun hHeld => ?_)
      refine take_at (i := 0) (v := ?_) rfl rfl (by kernel_rfl) (by kernel_rfl) (by kernel_rfl) (fun _ _ _ h => h) (Or.inl ⟨by rfl, ?_⟩) (by assumption) ?_
      rotate_left
      · intro w0 hSw; (try dsimp only at hSw); first | (go_simp; done) | (go_simp; with_reducible rfl)
      simp only [List.setIfInBounds_toArray, List.set_cons_zero, List.set_cons_succ]
      refine take_at (i := 1) (v := ?_) rfl rfl (by kernel_rfl) (by kernel_rfl) (by kernel_rfl) (fun _ _ _ h => h) (Or.inl ⟨by rfl, ?_⟩) (by assumption) ?_
      rotate_left
      · intro w0 hSw; (try dsimp only at hSw); first | (go_simp; done) | (go_simp; with_reducible rfl)
      simp only [List.setIfInBounds_toArray, List.set_cons_zero, List.set_cons_succ]
      refine take_at (i := 2) (v := ?_) rfl rfl (by kernel_rfl) (by kernel_rfl) (by kernel_rfl) (fun _ _ _ h => h) (Or.inl ⟨by rfl, ?_⟩) (by assumption) ?_
      rotate_left
      · intro w0 hSw; (try dsimp only at hSw); first | (go_simp; done) | (go_simp; with_reducible rfl)
      simp only [List.setIfInBounds_toArray, List.set_cons_zero, List.set_cons_succ]
      refine take_at (i := 3) rfl rfl (by kernel_rfl) (by kernel_rfl) (by kernel_rfl) (fun _ _ _ h => h) (yieldsIf_load_mid (by rfl) _ _ rfl g5 0 rfl (cellsOf y.tx) _ (fun w0 hSw => in_tx (range_of (kept_in hSw.2 H5.out))) Tryd.underlying23 rfl STX.out) (by assumption) ?_
      simp only [List.setIfInBounds_toArray, List.set_cons_zero, List.set_cons_succ]
      refine take_at (i := 5) (v := ?_) rfl rfl (by kernel_rfl) (by kernel_rfl) (by kernel_rfl) (fun _ _ _ h => h) (Or.inl ⟨by rfl, ?_⟩) (by assumption) ?_
      rotate_left
      · intro w0 hSw; (try dsimp only at hSw); first | (go_simp; done) | (go_simp; with_reducible rfl)
      simp only [List.setIfInBounds_toArray, List.set_cons_zero, List.set_cons_succ]
      refine take_at (i := 6) (v := ?_) rfl rfl (by kernel_rfl) (by kernel_rfl) (by kernel_rfl) (fun _ _ _ h => h) (Or.inl ⟨by rfl, ?_⟩) (by assumption) ?_
      rotate_left
      · intro w0 hSw; (try dsimp only at hSw); first | (go_simp; done) | (go_simp; with_reducible rfl)
      simp only [List.setIfInBounds_toArray, List.set_cons_zero, List.set_cons_succ]
      refine take_at (i := 7) rfl rfl (by kernel_rfl) (by kernel_rfl) (by kernel_rfl) (fun _ _ _ h => h) (yields_cell (by rfl) rfl rfl (b := g5) (o := 32) (fun w0 hSw => in_at HTX.out (range_of (kept_in hSw.2 H5.out))) Tryd.isAgg3) (by assumption) ?_
      simp only [List.setIfInBounds_toArray, List.set_cons_zero, List.set_cons_succ]
      refine take_at (i := 8) (v := ?_) rfl rfl (by kernel_rfl) (by kernel_rfl) (by kernel_rfl) (fun _ _ _ h => h) (Or.inl ⟨by rfl, ?_⟩) (by assumption) ?_
      rotate_left
      · intro w0 hSw; (try dsimp only at hSw); first | (go_simp; done) | (go_simp; with_reducible rfl)
      simp only [List.setIfInBounds_toArray, List.set_cons_zero, List.set_cons_succ]
      refine take_at (i := 9) rfl rfl (by kernel_rfl) (by kernel_rfl) (by kernel_rfl) (fun _ _ _ h => h) (yields_cell (by rfl) rfl rfl (b := g5) (o := 33) (fun w0 hSw => in_way HTX.out (range_of (kept_in hSw.2 H5.out))) Tryd.isAgg3) (by assumption) ?_
      simp only [List.setIfInBounds_toArray, List.set_cons_zero, List.set_cons_succ]
      refine wpAnyH_ready (rs := [4, 10]) (by kernel_rfl) (by simp) ?_
      refine AllReadyH.cons rfl (fun K hK => ?_) ?_
      · have HZw5drew : Hid (pb ≤ (w5.drew).heap.size) := Lib.hid (Nat.le_trans hbz5 hHeld.1.size)
        have hHbw5drew : Hid (But pb pb w5 (w5.drew)) := Lib.hid hHeld.1
        go_simp
        go_wp2_with ((go_at_call 24; (with_reducible refine (psum_typed _ HTX.out HPEN0.out HZw5drew.out (by have h0 := HLW.out; simp only [List.length_append] at h0 ⊢; omega)).mono ?_); rintro e ya4 ⟨rfl, hp, hb, hk⟩; have HPya4 := Lib.hid hp; have HSya4 : Hid (PStep pb pb _ ya4) := Lib.hid ⟨hb, hk⟩; clear hp hb hk))
        refine hK.out _ _ (by (try dsimp only); exact ⟨hHeld.1.trans HSya4.out.1, hHeld.2.trans HSya4.out.2⟩) (fun hHeld => ?_)
        clear hK K
        refine wpAnyH_ready (rs := [10]) (by kernel_rfl) (by simp) ?_
        refine AllReadyH.cons rfl (fun K hK => ?_) ?_
        · have HZya4 : Hid (pb ≤ (ya4).heap.size) := Lib.hid (Nat.le_trans hbz5 hHeld.1.size)
          have hHbya4 : Hid (But pb pb w5 (ya4)) := Lib.hid hHeld.1
          refine step_two_gen (d := 32) (y := y.place) (z := y.way) rfl (by rfl) rfl (by rfl) (by rfl) ?_
          intro p ya10 hgp hlit hbl
          have LIT := Lib.hid hlit
          have HPya10 := Lib.hid (PenAt.below HPya4.out (Nat.le_trans hbz5 hHeld.1.size) hbl)
          have HSya10 : Hid (PStep pb pb _ ya10) := Lib.hid ⟨But.of (hbl.mono (Nat.le_trans hbz5 hHeld.1.size)), Keeps.below hbl⟩
          clear hlit hbl hgp
          refine hK.out _ _ (by (try dsimp only); exact ⟨hHeld.1.trans HSya10.out.1, hHeld.2.trans HSya10.out.2⟩) (fun hHeld => ?_)
          clear hK K
          refine wpAnyH_ready (rs := [11]) (by kernel_rfl) (by simp) ?_
          refine AllReadyH.cons rfl (fun K hK => ?_) ?_
          · have HZya10 : Hid (pb ≤ (ya10).heap.size) := Lib.hid (Nat.le_trans hbz5 hHeld.1.size)
            have hHbya10 : Hid (But pb pb w5 (ya10)) := Lib.hid hHeld.1
            go_simp
            go_wp2_with ((go_at_call 43; (with_reducible refine (pnums_typed (n := 2) (c := 2) (off := 0) _ rfl (Nat.le_refl _) (by unfold maxLen; omega) (two_small HFP.out HFW.out) (lit2 LIT.out) HPya10.out HZya10.out (by omega) (by have h0 := HLW.out; simp only [List.length_append] at h0 ⊢; omega)).mono ?_); rintro e ya11 ⟨rfl, hp, hb, hk⟩; have HPya11 := Lib.hid hp; have HSya11 : Hid (PStep pb pb _ ya11) := Lib.hid ⟨hb, hk⟩; clear hp hb hk))
            refine hK.out _ _ (by (try dsimp only); exact ⟨hHeld.1.trans HSya11.out.1, hHeld.2.trans HSya11.out.2⟩) (fun hHeld => ?_)
            clear hK K
            refine wpAnyH_done (by kernel_rfl) ?_ _
            have HST := Lib.hid (show PStep pb pb w5 ya11 from hHeld)
            clear hHeld
            have HBY := Lib.hid (HBW.out.trans (HST.out.1.below (Nat.le_refl _)))
            have HSW := Lib.hid (show PStep pb pb w4 ya11 from ⟨HPW.out.1.trans HST.out.1, HPW.out.2.trans HST.out.2⟩)
            have c34 : ya11.cell? ⟨g5, 34, none⟩ = some (.slice y.a y.n y.c) := by have h9 := in_pre HTX.out (range_of (kept_in HST.out.2 H5.out)); rw [Nat.zero_add] at h9; exact h9
            have hz10 : pb ≤ ya11.heap.size := Nat.le_trans hbz5 HST.out.1.size
            have HPR := Lib.hid (OLDR.out HPRE.out HBY.out)
            cases sh
            · have HPE : Hid (PenAt ya11 pb pb (numB (x.inn : Int) ++ insB false (x.ins.take (k + 1)))) := Lib.hid (by have h9 := HPya11.out; rw [HNX.out]; unfold inB; simpa [numsB] using h9)
              go_wp2_with fail
              go_roundw
              case rel => exact ⟨k + 1, by omega, by go_num, HPE.out, HSW.out⟩
              case measure => simp [intOf]; omega
            · go_wp2_with fail
              refine (ptext_typed _ HPR.out HPya11.out hz10 HPB.out (by omega) (by have h0 := HLW.out; simp only [List.length_append, numsB, List.length_nil] at h0 ⊢; omega)).mono ?_
              rintro e y20 ⟨rfl, hp, hb, hk⟩
              have HPE : Hid (PenAt y20 pb pb (numB (x.inn : Int) ++ insB true (x.ins.take (k + 1)))) := Lib.hid (by rw [HNX.out]; unfold inB; simpa [numsB] using hp)
              have HSW2 := Lib.hid (show PStep pb pb w4 y20 from ⟨HSW.out.1.trans hb, HSW.out.2.trans hk⟩)
              clear hp hb hk c34
              go_wp2_with fail
              go_roundw
              case rel => exact ⟨k + 1, by omega, by go_num, HPE.out, HSW2.out⟩
              case measure => simp [intOf]; omega
          exact AllReadyH.nil
        exact AllReadyH.nil
      refine AllReadyH.cons rfl (fun K hK => ?_) ?_
      · have HZw5drew : Hid (pb ≤ (w5.drew).heap.size) := Lib.hid (Nat.le_trans hbz5 hHeld.1.size)
        have hHbw5drew : Hid (But pb pb w5 (w5.drew)) := Lib.hid hHeld.1
        refine step_two_gen (d := 32) (y := y.place) (z := y.way) rfl (by rfl) rfl (by rfl) (by rfl) ?_
        intro p yb10 hgp hlit hbl
        have LIT := Lib.hid hlit
        have HPyb10 := Lib.hid (PenAt.below HPEN0.out (Nat.le_trans hbz5 hHeld.1.size) hbl)
        have HSyb10 : Hid (PStep pb pb _ yb10) := Lib.hid ⟨But.of (hbl.mono (Nat.le_trans hbz5 hHeld.1.size)), Keeps.below hbl⟩
        clear hlit hbl hgp
        refine hK.out _ _ (by (try dsimp only); exact ⟨hHeld.1.trans HSyb10.out.1, hHeld.2.trans HSyb10.out.2⟩) (fun hHeld => ?_)
        clear hK K
        refine wpAnyH_ready (rs := [4]) (by kernel_rfl) (by simp) ?_
        refine AllReadyH.cons rfl (fun K hK => ?_) ?_
        · have HZyb10 : Hid (pb ≤ (yb10).heap.size) := Lib.hid (Nat.le_trans hbz5 hHeld.1.size)
          have hHbyb10 : Hid (But pb pb w5 (yb10)) := Lib.hid hHeld.1
          go_simp
          go_wp2_with ((go_at_call 24; (with_reducible refine (psum_typed _ HTX.out HPyb10.out HZyb10.out (by have h0 := HLW.out; simp only [List.length_append] at h0 ⊢; omega)).mono ?_); rintro e yb4 ⟨rfl, hp, hb, hk⟩; have HPyb4 := Lib.hid hp; have HSyb4 : Hid (PStep pb pb _ yb4) := Lib.hid ⟨hb, hk⟩; clear hp hb hk))
          have LIT0 := LIT.out
          have LIT := Lib.hid (kept_int HSyb4.out.2 LIT0)
          clear LIT0
          refine hK.out _ _ (by (try dsimp only); exact ⟨hHeld.1.trans HSyb4.out.1, hHeld.2.trans HSyb4.out.2⟩) (fun hHeld => ?_)
          clear hK K
          refine wpAnyH_ready (rs := [11]) (by kernel_rfl) (by simp) ?_
          refine AllReadyH.cons rfl (fun K hK => ?_) ?_
          · have HZyb4 : Hid (pb ≤ (yb4).heap.size) := Lib.hid (Nat.le_trans hbz5 hHeld.1.size)
            have hHbyb4 : Hid (But pb pb w5 (yb4)) := Lib.hid hHeld.1
            go_simp
            go_wp2_with ((go_at_call 43; (with_reducible refine (pnums_typed (n := 2) (c := 2) (off := 0) _ rfl (Nat.le_refl _) (by unfold maxLen; omega) (two_small HFP.out HFW.out) (lit2 LIT.out) HPyb4.out HZyb4.out (by omega) (by have h0 := HLW.out; simp only [List.length_append] at h0 ⊢; omega)).mono ?_); rintro e yb11 ⟨rfl, hp, hb, hk⟩; have HPyb11 := Lib.hid hp; have HSyb11 : Hid (PStep pb pb _ yb11) := Lib.hid ⟨hb, hk⟩; clear hp hb hk))
            refine hK.out _ _ (by (try dsimp only); exact ⟨hHeld.1.trans HSyb11.out.1, hHeld.2.trans HSyb11.out.2⟩) (fun hHeld => ?_)
            clear hK K
            refine wpAnyH_done (by kernel_rfl) ?_ _
            have HST := Lib.hid (show PStep pb pb w5 yb11 from hHeld)
            clear hHeld
            have HBY := Lib.hid (HBW.out.trans (HST.out.1.below (Nat.le_refl _)))
            have HSW := Lib.hid (show PStep pb pb w4 yb11 from ⟨HPW.out.1.trans HST.out.1, HPW.out.2.trans HST.out.2⟩)
            have c34 : yb11.cell? ⟨g5, 34, none⟩ = some (.slice y.a y.n y.c) := by have h9 := in_pre HTX.out (range_of (kept_in HST.out.2 H5.out)); rw [Nat.zero_add] at h9; exact h9
            have hz10 : pb ≤ yb11.heap.size := Nat.le_trans hbz5 HST.out.1.size
            have HPR := Lib.hid (OLDR.out HPRE.out HBY.out)
            cases sh
            · have HPE : Hid (PenAt yb11 pb pb (numB (x.inn : Int) ++ insB false (x.ins.take (k + 1)))) := Lib.hid (by have h9 := HPyb11.out; rw [HNX.out]; unfold inB; simpa [numsB] using h9)
              go_wp2_with fail
              go_roundw
              case rel => exact ⟨k + 1, by omega, by go_num, HPE.out, HSW.out⟩
              case measure => simp [intOf]; omega
            · go_wp2_with fail
              refine (ptext_typed _ HPR.out HPyb11.out hz10 HPB.out (by omega) (by have h0 := HLW.out; simp only [List.length_append, numsB, List.length_nil] at h0 ⊢; omega)).mono ?_
              rintro e y20 ⟨rfl, hp, hb, hk⟩
              have HPE : Hid (PenAt y20 pb pb (numB (x.inn : Int) ++ insB true (x.ins.take (k + 1)))) := Lib.hid (by rw [HNX.out]; unfold inB; simpa [numsB] using hp)
              have HSW2 := Lib.hid (show PStep pb pb w4 y20 from ⟨HSW.out.1.trans hb, HSW.out.2.trans hk⟩)
              clear hp hb hk c34
              go_wp2_with fail
              go_roundw
              case rel => exact ⟨k + 1, by omega, by go_num, HPE.out, HSW2.out⟩
              case measure => simp [intOf]; omega
          exact AllReadyH.nil
        exact AllReadyH.nil
      exact AllReadyH.nil
    · obtain rfl : k = x.inn := by omega
      have f1 : ¬ ((x.inn : Int) < (x.inn : Int)) := by omega
      have htk : x.ins.take x.inn = x.ins := List.take_of_length_le (by rw [H1.out.ins.1]; exact Nat.le_refl _)
      obtain ⟨Q, hQ⟩ : ∃ Q, Q = numB (x.inn : Int) ++ insB sh x.ins := ⟨_, rfl⟩
      rw [htk, ← hQ] at HPK
      have HQD := Lib.hid hQ
      have HLQ : Hid (Q.length + (9 + (outsB x.outs).length + (opB x.op).length) ≤ 900009) := Lib.hid (by
        have h9 := HL.out
        unfold frontB at h9
        rw [H1.out.ins.1] at h9
        rw [hQ]
        have h8 := (numB_len (x.outs.length : Nat)).1
        simp only [List.length_append] at h9 ⊢
        omega)
      have HTO : Hid (∀ W : World, Keeps w4 W → W.cell? ⟨g, 1, none⟩ = some (.slice A2 x.on x.oc)) := Lib.hid (fun W hW => by have h9 := tx_outs (HTXR.out _ hW); rw [Nat.zero_add] at h9; rw [HA2.out]; exact h9)
      have c1 := HTO.out _ HSK.out.2
      have ho63 : (x.on : Int) ≤ 9223372036854775807 := by omega
      have HLQ9 : Hid (Q.length + 9 ≤ 140737488355328) := Lib.hid (by have := HLQ.out; omega)
      clear htk hQ htx
      go_wp2_with fail
      refine (pnum_typed (x.on : Int) HPK.out hbzr HLQ9.out ho63).mono ?_
      rintro e w6 ⟨rfl, hp4, hb4, hk4⟩
      have HP6 := Lib.hid hp4
      have HS6 : Hid (PStep pb pb w4 w6) := Lib.hid ⟨HSK.out.1.trans hb4, HSK.out.2.trans hk4⟩
      replace c1 := HTO.out _ HS6.out.2
      clear hp4 hb4 hk4 HPK HBK hbzr HSK
      go_upto_region 11 with (fail)
      clear c1
      go_loopw [48] (fun i wr => ∃ k : Nat, k ≤ x.on ∧ i = .int .i64 k ∧ PenAt wr pb pb (Q ++ numB (x.on : Int) ++ outsB (x.outs.take k)) ∧ PStep pb pb w4 wr) (fun i _ => x.on - (intOf i).toNat)
      case atStart => exact ⟨0, Nat.zero_le _, rfl, by have h9 := HP6.out; simpa [outsB] using h9, HS6.out⟩
      case round =>
        obtain ⟨k, hk, rfl, hpk, hsk⟩ := hrel
        have HPK := Lib.hid hpk
        have HSK := Lib.hid hsk
        have HBK := Lib.hid (HBS.out _ hsk)
        have hbzr : pb ≤ wr.heap.size := Nat.le_of_lt hpk.lt
        have htx := OLD.out wr HBK.out
        clear hpk HP6 HS6 hsk
        by_cases hkn : k < x.on
        · have f1 : (k : Int) < (x.on : Int) := by omega
          have f0 : (0 : Int) ≤ (k : Int) := by omega
          have ft : ((k : Int)).toNat = k := by omega
          have hkl : k < x.outs.length := by rw [H1.out.outs.1]; exact hkn
          obtain ⟨b1, o1, e1, hltb, hc1⟩ := htx.outs.2.2.2.2.2 (by omega)
          have hrx : wr.rangeAt b1 (o1 + k * 2) (x.outs.getD k noOut).cells := hc1 k hkn
          have hym : x.outs.getD k noOut ∈ x.outs := H1.out.outs.mem hkn
          have hyr : OutIn wr (x.outs.getD k noOut) := htx.outs.get hkn
          have how := OW.out _ hym
          obtain ⟨hy1, hy2⟩ := HOU.out _ hym
          have hnx := outsB_take hkl
          have hll := outsB_le (xs := x.outs) (k := k + 1)
          rw [hnx] at hll
          revert hrx hym hyr how hy1 hy2 hnx hll
          generalize x.outs.getD k noOut = y
          intro hrx hym hyr how hy1 hy2 hnx hll
          obtain ⟨P, hP⟩ : ∃ P, P = Q ++ numB (x.on : Int) ++ outsB (x.outs.take k) := ⟨_, rfl⟩
          have HNX : Hid (Q ++ numB (x.on : Int) ++ outsB (x.outs.take (k + 1)) = P ++ outB y.m y.ws) := Lib.hid (by rw [hnx, hP]; simp only [List.append_assoc])
          have HLW : Hid (P.length + (outB y.m y.ws).length ≤ 1000000) := Lib.hid (by
            have h9 := HLQ.out
            have h8 := (numB_len (x.on : Int)).2
            rw [hP]
            simp only [List.length_append] at h9 hll ⊢
            omega)
          rw [← hP] at HPK
          have hyn : y.n ≤ 1000 := by rw [← hyr.ws.1]; exact hy1
          have RY := Lib.hid hrx
          have SY : Hid ((Tryd.prog.info? 79).map (·.size) = some y.cells.length) := Lib.hid Tryd.sizeOut
          have AY : Hid ((Tryd.prog.info? 79).map (·.size) = some y.cells.toArray.size) := Lib.hid Tryd.sizeOut
          have ZY : Hid (noOut.cells.toArray.size = y.cells.toArray.size) := Lib.hid rfl
          have HYR := Lib.hid hyr
          have HOW := Lib.hid how
          have HY2 := Lib.hid hy2
          rw [← HA2.out] at e1
          subst e1
          clear hc1 hrx hym hyr how hy1 hy2 hnx hll hP hkl htx
          go_upto_region 13 with (first | (refine wpList_load_mid rfl 79 _ rfl b1 (o1 + k * 2) rfl y.cells _ RY.out Tryd.underlying79 rfl SY.out ?_) | (refine wpList_store_row rfl 79 _ _ rfl wr.heap.size y.cells.toArray rfl rfl 79 noOut.cells.toArray (heap_alloc_new _ _) AY.out ZY.out (all_oneCell_toArray y.one) ?_) | fail)
          rw [← noOut_is, layT_is]
          have h5 := layT_heap 79 noOut.cells wr y.cells
          have b5 := layT_self 79 noOut.cells wr y.cells
          revert h5 b5
          generalize layT 79 noOut.cells wr y.cells = w5
          obtain ⟨g5, hg5⟩ : ∃ g5, g5 = wr.heap.size := ⟨_, rfl⟩
          rw [← hg5]
          intro h5 b5
          rw [hg5] at b5
          have H5 := Lib.hid h5
          have hbz5 : pb ≤ w5.heap.size := Nat.le_trans hbzr b5.size
          have HPW : Hid (PStep pb pb w4 w5) := Lib.hid ⟨HSK.out.1.trans (But.of (b5.mono hbzr)), HSK.out.2.trans (Keeps.below b5)⟩
          have hyr5 : OutIn w5 y := outK.below (w := wr) (x := y) HYR.out b5
          have RY5 := Lib.hid (show w5.rangeAt g5 0 [.int .i64 y.m, .slice y.a y.n y.c] from range_of h5)
          have HPT := Lib.hid (lockPut_at (B := pb) (pb := pb) (l := P) (m := y.m) hyr5.ws HOW.out (HPK.out.below hbzr b5) hbz5 hyr5.m hyn HY2.out HLW.out)
          have SY2 : Hid ((Tryd.prog.info? 79).map (·.size) = some [Value.int .i64 y.m, .slice y.a y.n y.c].length) := Lib.hid Tryd.sizeOut
          clear h5 b5 hg5 HPK RY hyr5 HYR
          try simp only [Act.put]
          go_wp2_with (first | (refine wpList_load_mid rfl 79 _ rfl g5 0 rfl [.int .i64 y.m, .slice y.a y.n y.c] _ RY5.out Tryd.underlying79 rfl SY2.out ?_) | fail)
          refine HPT.out.mono ?_
          rintro e w7 ⟨rfl, hp5, hb5, hk5⟩
          have HPE : Hid (PenAt w7 pb pb (Q ++ numB (x.on : Int) ++ outsB (x.outs.take (k + 1)))) := Lib.hid (by rw [HNX.out]; exact hp5)
          have HSE := Lib.hid (show PStep pb pb w4 w7 from ⟨HPW.out.1.trans hb5, HPW.out.2.trans hk5⟩)
          clear hp5 hb5 hk5 HPT
          go_wp2_with fail
          go_roundw
          case rel => exact ⟨k + 1, by omega, by go_num, HPE.out, HSE.out⟩
          case measure => simp [intOf]; omega
        · obtain rfl : k = x.on := by omega
          have f1 : ¬ ((x.on : Int) < (x.on : Int)) := by omega
          have htk : x.outs.take x.on = x.outs := List.take_of_length_le (by rw [H1.out.outs.1]; exact Nat.le_refl _)
          obtain ⟨P, hP⟩ : ∃ P, P = Q ++ numB (x.on : Int) ++ outsB x.outs := ⟨_, rfl⟩
          rw [htk, ← hP] at HPK
          have HFR : Hid (frontB sh x = P ++ opB x.op) := Lib.hid (by unfold frontB; rw [hP, HQD.out, H1.out.ins.1, H1.out.outs.1]; simp only [List.append_assoc])
          have HOPB : Hid (opB x.op = numB x.op.kind ++ (numB x.op.tower ++ (numB x.op.channel ++ (numB x.op.amount ++ (x.op.root ++ (numB (x.op.data.length : Nat) ++ x.op.data)))))) := Lib.hid rfl
          have HLW : Hid ((P ++ (numB x.op.kind ++ (numB x.op.tower ++ (numB x.op.channel ++ (numB x.op.amount ++ x.op.root))))).length + 9 ≤ 1000000) := Lib.hid (by
            have h9 := HL.out
            rw [HFR.out, HOPB.out] at h9
            simp only [List.length_append] at h9 ⊢
            omega)
          have hop := H1.out.op
          have HOP := Lib.hid hop
          have HFO : Hid (∀ v ∈ [x.op.kind, x.op.tower, x.op.channel, x.op.amount], v ≤ 9223372036854775807) := Lib.hid (fun v hv => by
            simp at hv
            rcases hv with rfl | rfl | rfl | rfl
            · exact hop.kind.2
            · exact hop.tower.2
            · exact hop.channel.2
            · exact hop.amount.2)
          have HRT := Lib.hid hop.root
          have SRT := Lib.hid (sumLen hop.root)
          have HDB := Lib.hid (HOR.out hop.data)
          have HPEN0 : Hid (PenAt wr.drew pb pb P) := Lib.hid (HPK.out.below hbzr (below_drew (Below.refl _ _)))
          have HOPR : Hid (∀ W : World, Keeps wr W → W.rangeAt g 2 x.op.cells) := Lib.hid (fun W hW => tx_op0 (HTXR.out _ (HSK.out.2.trans hW)))
          have hbz5 : pb ≤ wr.heap.size := hbzr
          have HBW := HBK
          have HPW := HSK
          clear htk hP hop htx hbzr HPK HBK HSK
          go_upto_region 15 with (fail)
          try simp only [Act.put]
          refine wp_region_held_drew (S := fun w' => PStep pb pb wr w') (by kernel_rfl) (⟨But.of (below_drew (Below.refl _ _)), fun _ _ _ _ _ _ _ _ => rfl⟩) (fun hHeld => ?_)
          refine take_at (i := 0) (v := ?_) rfl rfl (by kernel_rfl) (by kernel_rfl) (by kernel_rfl) (fun _ _ _ h => h) (Or.inl ⟨by rfl, ?_⟩) (by assumption) ?_
          rotate_left
          · intro w0 hSw; (try dsimp only at hSw); first | (go_simp; done) | (go_simp; with_reducible rfl)
          simp only [List.setIfInBounds_toArray, List.set_cons_zero, List.set_cons_succ]
          refine take_at (i := 1) (v := ?_) rfl rfl (by kernel_rfl) (by kernel_rfl) (by kernel_rfl) (fun _ _ _ h => h) (Or.inl ⟨by rfl, ?_⟩) (by assumption) ?_
          rotate_left
          · intro w0 hSw; (try dsimp only at hSw); first | (go_simp; done) | (go_simp; with_reducible rfl)
          simp only [List.setIfInBounds_toArray, List.set_cons_zero, List.set_cons_succ]
          refine take_at (i := 2) (v := ?_) rfl rfl (by kernel_rfl) (by kernel_rfl) (by kernel_rfl) (fun _ _ _ h => h) (Or.inl ⟨by rfl, ?_⟩) (by assumption) ?_
          rotate_left
          · intro w0 hSw; (try dsimp only at hSw); first | (go_simp; done) | (go_simp; with_reducible rfl)
          simp only [List.setIfInBounds_toArray, List.set_cons_zero, List.set_cons_succ]
          refine take_at (i := 3) rfl rfl (by kernel_rfl) (by kernel_rfl) (by kernel_rfl) (fun _ _ _ h => h) (yields_cell (by rfl) rfl rfl (b := g) (o := 2) (fun w0 hSw => op_kind (HOPR.out _ hSw.2)) Tryd.isAgg3) (by assumption) ?_
          simp only [List.setIfInBounds_toArray, List.set_cons_zero, List.set_cons_succ]
          refine take_at (i := 4) (v := ?_) rfl rfl (by kernel_rfl) (by kernel_rfl) (by kernel_rfl) (fun _ _ _ h => h) (Or.inl ⟨by rfl, ?_⟩) (by assumption) ?_
          rotate_left
          · intro w0 hSw; (try dsimp only at hSw); first | (go_simp; done) | (go_simp; with_reducible rfl)
          simp only [List.setIfInBounds_toArray, List.set_cons_zero, List.set_cons_succ]
          refine take_at (i := 5) (v := ?_) rfl rfl (by kernel_rfl) (by kernel_rfl) (by kernel_rfl) (fun _ _ _ h => h) (Or.inl ⟨by rfl, ?_⟩) (by assumption) ?_
          rotate_left
          · intro w0 hSw; (try dsimp only at hSw); first | (go_simp; done) | (go_simp; with_reducible rfl)
          simp only [List.setIfInBounds_toArray, List.set_cons_zero, List.set_cons_succ]
          refine take_at (i := 6) rfl rfl (by kernel_rfl) (by kernel_rfl) (by kernel_rfl) (fun _ _ _ h => h) (yields_cell (by rfl) rfl rfl (b := g) (o := 3) (fun w0 hSw => op_tower (HOPR.out _ hSw.2)) Tryd.isAgg3) (by assumption) ?_
          simp only [List.setIfInBounds_toArray, List.set_cons_zero, List.set_cons_succ]
          refine take_at (i := 7) (v := ?_) rfl rfl (by kernel_rfl) (by kernel_rfl) (by kernel_rfl) (fun _ _ _ h => h) (Or.inl ⟨by rfl, ?_⟩) (by assumption) ?_
          rotate_left
          · intro w0 hSw; (try dsimp only at hSw); first | (go_simp; done) | (go_simp; with_reducible rfl)
          simp only [List.setIfInBounds_toArray, List.set_cons_zero, List.set_cons_succ]
          refine take_at (i := 8) (v := ?_) rfl rfl (by kernel_rfl) (by kernel_rfl) (by kernel_rfl) (fun _ _ _ h => h) (Or.inl ⟨by rfl, ?_⟩) (by assumption) ?_
          rotate_left
          · intro w0 hSw; (try dsimp only at hSw); first | (go_simp; done) | (go_simp; with_reducible rfl)
          simp only [List.setIfInBounds_toArray, List.set_cons_zero, List.set_cons_succ]
          refine take_at (i := 9) rfl rfl (by kernel_rfl) (by kernel_rfl) (by kernel_rfl) (fun _ _ _ h => h) (yields_cell (by rfl) rfl rfl (b := g) (o := 4) (fun w0 hSw => op_channel (HOPR.out _ hSw.2)) Tryd.isAgg3) (by assumption) ?_
          simp only [List.setIfInBounds_toArray, List.set_cons_zero, List.set_cons_succ]
          refine take_at (i := 10) (v := ?_) rfl rfl (by kernel_rfl) (by kernel_rfl) (by kernel_rfl) (fun _ _ _ h => h) (Or.inl ⟨by rfl, ?_⟩) (by assumption) ?_
          rotate_left
          · intro w0 hSw; (try dsimp only at hSw); first | (go_simp; done) | (go_simp; with_reducible rfl)
          simp only [List.setIfInBounds_toArray, List.set_cons_zero, List.set_cons_succ]
          refine take_at (i := 11) (v := ?_) rfl rfl (by kernel_rfl) (by kernel_rfl) (by kernel_rfl) (fun _ _ _ h => h) (Or.inl ⟨by rfl, ?_⟩) (by assumption) ?_
          rotate_left
          · intro w0 hSw; (try dsimp only at hSw); first | (go_simp; done) | (go_simp; with_reducible rfl)
          simp only [List.setIfInBounds_toArray, List.set_cons_zero, List.set_cons_succ]
          refine take_at (i := 12) rfl rfl (by kernel_rfl) (by kernel_rfl) (by kernel_rfl) (fun _ _ _ h => h) (yields_cell (by rfl) rfl rfl (b := g) (o := 5) (fun w0 hSw => op_amount (HOPR.out _ hSw.2)) Tryd.isAgg2) (by assumption) ?_
          simp only [List.setIfInBounds_toArray, List.set_cons_zero, List.set_cons_succ]
          refine take_at (i := 15) (v := ?_) rfl rfl (by kernel_rfl) (by kernel_rfl) (by kernel_rfl) (fun _ _ _ h => h) (Or.inl ⟨by rfl, ?_⟩) (by assumption) ?_
          rotate_left
          · intro w0 hSw; (try dsimp only at hSw); first | (go_simp; done) | (go_simp; with_reducible rfl)
          simp only [List.setIfInBounds_toArray, List.set_cons_zero, List.set_cons_succ]
          refine take_at (i := 16) (v := ?_) rfl rfl (by kernel_rfl) (by kernel_rfl) (by kernel_rfl) (fun _ _ _ h => h) (Or.inl ⟨by rfl, ?_⟩) (by assumption) ?_
          rotate_left
          · intro w0 hSw; (try dsimp only at hSw); first | (go_simp; done) | (go_simp; with_reducible rfl)
          simp only [List.setIfInBounds_toArray, List.set_cons_zero, List.set_cons_succ]
          refine take_at (i := 17) rfl rfl (by kernel_rfl) (by kernel_rfl) (by kernel_rfl) (fun _ _ _ h => h) (yieldsIf_load_mid (by rfl) _ _ rfl g 6 rfl (cellsOf x.op.root) _ (fun w0 hSw => op_root (HOPR.out _ hSw.2)) Tryd.underlying23 rfl SRT.out) (by assumption) ?_
          simp only [List.setIfInBounds_toArray, List.set_cons_zero, List.set_cons_succ]
          refine take_at (i := 19) (v := ?_) rfl rfl (by kernel_rfl) (by kernel_rfl) (by kernel_rfl) (fun _ _ _ h => h) (Or.inl ⟨by rfl, ?_⟩) (by assumption) ?_
          rotate_left
          · intro w0 hSw; (try dsimp only at hSw); first | (go_simp; done) | (go_simp; with_reducible rfl)
          simp only [List.setIfInBounds_toArray, List.set_cons_zero, List.set_cons_succ]
          refine take_at (i := 20) (v := ?_) rfl rfl (by kernel_rfl) (by kernel_rfl) (by kernel_rfl) (fun _ _ _ h => h) (Or.inl ⟨by rfl, ?_⟩) (by assumption) ?_
          rotate_left
          · intro w0 hSw; (try dsimp only at hSw); first | (go_simp; done) | (go_simp; with_reducible rfl)
          simp only [List.setIfInBounds_toArray, List.set_cons_zero, List.set_cons_succ]
          refine take_at (i := 21) rfl rfl (by kernel_rfl) (by kernel_rfl) (by kernel_rfl) (fun _ _ _ h => h) (yields_cell (by rfl) rfl rfl (b := g) (o := 38) (fun w0 hSw => op_data HRT.out (HOPR.out _ hSw.2)) Tryd.isAgg45) (by assumption) ?_
          simp only [List.setIfInBounds_toArray, List.set_cons_zero, List.set_cons_succ]
          refine wpAnyH_ready (rs := [13]) (by kernel_rfl) (by simp) ?_
          refine AllReadyH.cons rfl (fun K hK => ?_) ?_
          · have HZwrdrew : Hid (pb ≤ (wr.drew).heap.size) := Lib.hid (Nat.le_trans hbz5 hHeld.1.size)
            have hHbwrdrew : Hid (But pb pb wr (wr.drew)) := Lib.hid hHeld.1
            refine step_four_gen (d := 69) (y := x.op.kind) (z := x.op.tower) (y2 := x.op.channel) (z2 := x.op.amount) rfl (by rfl) rfl (by rfl) (by rfl) (by rfl) (by rfl) ?_
            intro p y13 hgp hlit hbl
            have LIT := Lib.hid hlit
            have HPy13 := Lib.hid (PenAt.below HPEN0.out (Nat.le_trans hbz5 hHeld.1.size) hbl)
            have HSy13 : Hid (PStep pb pb _ y13) := Lib.hid ⟨But.of (hbl.mono (Nat.le_trans hbz5 hHeld.1.size)), Keeps.below hbl⟩
            clear hlit hbl hgp
            refine hK.out _ _ (by (try dsimp only); exact ⟨hHeld.1.trans HSy13.out.1, hHeld.2.trans HSy13.out.2⟩) (fun hHeld => ?_)
            clear hK K
            refine wpAnyH_ready (rs := [14]) (by kernel_rfl) (by simp) ?_
            refine AllReadyH.cons rfl (fun K hK => ?_) ?_
            · have HZy13 : Hid (pb ≤ (y13).heap.size) := Lib.hid (Nat.le_trans hbz5 hHeld.1.size)
              have hHby13 : Hid (But pb pb wr (y13)) := Lib.hid hHeld.1
              go_simp
              go_wp2_with ((go_at_call 43; (with_reducible refine (pnums_typed (n := 4) (c := 4) (off := 0) (zs := [x.op.kind, x.op.tower, x.op.channel, x.op.amount]) _ rfl (Nat.le_refl _) (by unfold maxLen; omega) HFO.out (lit4 LIT.out) HPy13.out HZy13.out (by omega) (by have h0 := HLW.out; simp only [List.length_append] at h0 ⊢; omega)).mono ?_); rintro e y14 ⟨rfl, hp, hb, hk⟩; have HPy14 := Lib.hid hp; have HSy14 : Hid (PStep pb pb _ y14) := Lib.hid ⟨hb, hk⟩; clear hp hb hk))
              refine hK.out _ _ (by (try dsimp only); exact ⟨hHeld.1.trans HSy14.out.1, hHeld.2.trans HSy14.out.2⟩) (fun hHeld => ?_)
              clear hK K
              refine wpAnyH_ready (rs := [18]) (by kernel_rfl) (by simp) ?_
              refine AllReadyH.cons rfl (fun K hK => ?_) ?_
              · have HZy14 : Hid (pb ≤ (y14).heap.size) := Lib.hid (Nat.le_trans hbz5 hHeld.1.size)
                have hHby14 : Hid (But pb pb wr (y14)) := Lib.hid hHeld.1
                go_simp
                go_wp2_with ((go_at_call 24; (with_reducible refine (psum_typed _ HRT.out HPy14.out HZy14.out (by have h0 := HLW.out; simp only [List.length_append, numsB, List.length_nil] at h0 ⊢; omega)).mono ?_); rintro e y18 ⟨rfl, hp, hb, hk⟩; have HPy18 := Lib.hid hp; have HSy18 : Hid (PStep pb pb _ y18) := Lib.hid ⟨hb, hk⟩; clear hp hb hk))
                refine hK.out _ _ (by (try dsimp only); exact ⟨hHeld.1.trans HSy18.out.1, hHeld.2.trans HSy18.out.2⟩) (fun hHeld => ?_)
                clear hK K
                refine wpAnyH_ready (rs := [22]) (by kernel_rfl) (by simp) ?_
                refine AllReadyH.cons rfl (fun K hK => ?_) ?_
                · have HZy18 : Hid (pb ≤ (y18).heap.size) := Lib.hid (Nat.le_trans hbz5 hHeld.1.size)
                  have hHby18 : Hid (But pb pb wr (y18)) := Lib.hid hHeld.1
                  go_simp
                  go_wp2_with ((go_at_call 44; (with_reducible refine (ptext_typed _ (OLDR.out HOP.out.data (HBW.out.trans ((hHby18.out).below (Nat.le_refl _)))) HPy18.out HZy18.out HDB.out (by omega) (by have h0 := HLW.out; simp only [List.length_append, numsB, List.length_nil] at h0 ⊢; omega)).mono ?_); rintro e y22 ⟨rfl, hp, hb, hk⟩; have HPy22 := Lib.hid hp; have HSy22 : Hid (PStep pb pb _ y22) := Lib.hid ⟨hb, hk⟩; clear hp hb hk))
                  refine hK.out _ _ (by (try dsimp only); exact ⟨hHeld.1.trans HSy22.out.1, hHeld.2.trans HSy22.out.2⟩) (fun hHeld => ?_)
                  clear hK K
                  refine wpAnyH_done (by kernel_rfl) ?_ _
                  have HST := Lib.hid (show PStep pb pb wr y22 from hHeld)
                  clear hHeld
                  have HPF : Hid (PenAt y22 pb pb (frontB sh x)) := Lib.hid (by have h9 := HPy22.out; rw [HFR.out, HOPB.out]; simpa [numsB] using h9)
                  go_wp2_with fail
                  go_end0
                  exact ⟨rfl, HPF.out, HP0.out.1.trans (HPW.out.1.trans HST.out.1), HP0.out.2.trans (HPW.out.2.trans HST.out.2)⟩
                exact AllReadyH.nil
              exact AllReadyH.nil
            exact AllReadyH.nil
          exact AllReadyH.nil
end Go.Proofs.YtlnenkmcegadmaaDoor
namespace Go.Proofs.YtlnenkmcegadmaaDoor
open Go.RowKit

def signB (x : PSign) : List UInt8 := numB x.key ++ x.sum
def signsB : List PSign → List UInt8
  | [] => []
  | x :: xs => signB x ++ signsB xs
theorem signsB_append : ∀ u v : List PSign, signsB (u ++ v) = signsB u ++ signsB v
  | [], _ => rfl
  | x :: u, v => by simp [signsB, signsB_append u v]
theorem signsB_take {xs : List PSign} {k : Nat} (h : k < xs.length) : signsB (xs.take (k + 1)) = signsB (xs.take k) ++ signB (xs.getD k noSign) := by
  rw [take_getD (d := noSign) h, signsB_append]
  simp [signsB]
/-- A transaction's bytes. -/
def txB (x : PTx) : List UInt8 := frontB true x ++ (numB (x.signs.length : Nat) ++ signsB x.signs)
def packB (x : PTx) : List UInt8 := if txOk x = true then txB x else []
def packE (x : PTx) : Int := if txOk x = true then 0 else 1
/-- A transaction's sum. -/
def txSum (x : PTx) : List UInt8 := sumOf (partsOf 41 [frontB false x])
theorem txSum_len (x : PTx) : (txSum x).length = 32 := by unfold txSum; exact sumOf_len _

/-! ### Sizes -/
theorem numB_le (z : Int) : (numB z).length ≤ 9 := (numB_len z).2
theorem insB_size (sh : Bool) {M : Nat} : ∀ {xs : List PIn}, (∀ y ∈ xs, y.tx.length = 32 ∧ y.pre.length ≤ M) → (insB sh xs).length ≤ xs.length * (59 + M)
  | [], _ => by simp [insB]
  | x :: xs, h => by
    have ih := insB_size sh (xs := xs) (fun y hy => h y (by simp [hy]))
    obtain ⟨h1, h2⟩ := h x (by simp)
    have n1 := numB_le x.place
    have n2 := numB_le x.way
    have n3 := numB_le (x.pre.length : Nat)
    simp only [insB, inB, List.length_append, List.length_cons, Nat.add_mul, h1]
    split <;> simp only [List.length_append, List.length_nil] <;> omega
theorem outsB_size {W K : Nat} : ∀ {xs : List POut}, (∀ y ∈ xs, y.ws.length ≤ W ∧ ∀ z ∈ y.ws, z.h.length = 32 ∧ z.ks.length ≤ K) → (outsB xs).length ≤ xs.length * (18 + W * (59 + 9 * K))
  | [], _ => by simp [outsB]
  | x :: xs, h => by
    have ih := outsB_size (xs := xs) (fun y hy => h y (by simp [hy]))
    obtain ⟨h1, h2⟩ := h x (by simp)
    have n1 := numB_le x.m
    have n2 := numB_le (x.ws.length : Nat)
    have n3 := waysB_len h2
    have n4 : x.ws.length * (59 + 9 * K) ≤ W * (59 + 9 * K) := Nat.mul_le_mul_right _ h1
    have key : (outB x.m x.ws).length ≤ 18 + W * (59 + 9 * K) := by
      simp only [outB, numsB, List.length_append, List.length_nil]
      omega
    revert key ih
    generalize 18 + W * (59 + 9 * K) = D
    intro ih key
    rw [outsB, List.length_append, List.length_cons, Nat.succ_mul]
    omega
theorem opB_size {x : POp} (h : x.root.length = 32) : (opB x).length ≤ 77 + x.data.length := by
  have n1 := numB_le x.kind
  have n2 := numB_le x.tower
  have n3 := numB_le x.channel
  have n4 := numB_le x.amount
  have n5 := numB_le (x.data.length : Nat)
  simp only [opB, List.length_append, h]
  omega
theorem frontFew {w : World} {x : PTx} (sh : Bool) (h : TxIn w x) (hi : x.inn ≤ 20) (ho : x.on ≤ 20) (hp : ∀ y ∈ x.ins, y.n ≤ 100) (hw : ∀ y ∈ x.outs, y.ws.length ≤ 20 ∧ ∀ z ∈ y.ws, z.ks.length ≤ 20) (hd : x.op.n ≤ 65536) : FrontFew sh x := by
  have hpre : ∀ y ∈ x.ins, y.tx.length = 32 ∧ y.pre.length ≤ 100 := fun y hy => by
    have h9 : InIn w y := h.ins.2.2.2.2.1 y hy
    exact ⟨h9.tx, by rw [h9.pre.1]; exact hp y hy⟩
  have hout : ∀ y ∈ x.outs, y.ws.length ≤ 20 ∧ ∀ z ∈ y.ws, z.h.length = 32 ∧ z.ks.length ≤ 20 := fun y hy => by
    have h9 : OutIn w y := h.outs.2.2.2.2.1 y hy
    exact ⟨(hw y hy).1, fun z hz => ⟨(h9.ws.2.2.2.2.1 z hz).sum, (hw y hy).2 z hz⟩⟩
  have hdl : x.op.data.length ≤ 65536 := by rw [h.op.data.1]; exact hd
  refine ⟨by omega, by omega, fun y hy => by have := (hpre y hy).2; omega, fun y hy => ⟨by have := (hout y hy).1; omega, fun z hz => by have := ((hout y hy).2 z hz).2; omega⟩, by omega, ?_⟩
  have n1 := insB_size sh hpre
  have n2 := outsB_size hout
  have n3 := opB_size h.op.root
  have n4 := numB_le (x.ins.length : Nat)
  have n5 := numB_le (x.outs.length : Nat)
  have l1 := h.ins.1
  have l2 := h.outs.1
  have m1 : x.ins.length * (59 + 100) ≤ 20 * (59 + 100) := Nat.mul_le_mul_right _ (by omega)
  have m2 : x.outs.length * (18 + 20 * (59 + 9 * 20)) ≤ 20 * (18 + 20 * (59 + 9 * 20)) := Nat.mul_le_mul_right _ (by omega)
  simp only [frontB, List.length_append]
  omega
theorem txOk_parts {x : PTx} (h : txOk x = true) : x.inn ≤ 16 ∧ x.on ≤ 16 ∧ x.sn ≤ 16 ∧ (x.inn ≠ 0 ∨ x.op.kind ≠ 0) ∧ opOk x.op = true ∧ insOk [] x.ins = true ∧ outsOk x.outs = true ∧ rises 0 (keysOf x.signs) = true := by
  unfold txOk at h
  simp only [Bool.and_eq_true, decide_eq_true_eq] at h
  obtain ⟨⟨h1, h2, h3⟩, h4, h5, h6, h7, h8⟩ := h
  exact ⟨h1, h2, h3, h4, h5, h6, h7, h8⟩
theorem insOk_each : ∀ {xs pre : List PIn}, insOk pre xs = true → ∀ y ∈ xs, inOk y = true
  | [], _, _, y, hy => by cases hy
  | x :: xs, pre, h, y, hy => by
    simp only [insOk, Bool.and_eq_true] at h
    rcases List.mem_cons.1 hy with rfl | hy
    · exact h.1
    · exact insOk_each h.2.2 y hy
theorem opOk_data {x : POp} (h : opOk x = true) : x.n ≤ 65536 := by
  by_cases hk : x.kind = 0
  · rw [opOk_none hk] at h
    simp only [Bool.and_eq_true, decide_eq_true_eq] at h
    omega
  · rw [opOk_upto hk] at h
    simp only [Bool.and_eq_true, decide_eq_true_eq] at h
    omega
theorem frontOk {w : World} {x : PTx} (sh : Bool) (h : TxIn w x) (hk : txOk x = true) : FrontFew sh x := by
  obtain ⟨h1, h2, _, _, h5, h6, h7, _⟩ := txOk_parts hk
  refine frontFew sh h (by omega) (by omega) (fun y hy => ?_) (fun y hy => ?_) (opOk_data h5)
  · have h9 := insOk_each h6 y hy
    unfold inOk at h9
    simp only [Bool.and_eq_true, decide_eq_true_eq] at h9
    omega
  · unfold outsOk at h7
    rw [List.all_eq_true] at h7
    obtain ⟨_, _, _, h9, h8⟩ := outOk_parts (h7 y hy)
    refine ⟨by omega, fun z hz => ?_⟩
    have h10 := h8 z hz
    unfold wayOk at h10
    simp only [Bool.and_eq_true, decide_eq_true_eq] at h10
    omega

/-! ### Sum -/
set_option linter.unusedSimpArgs false in
set_option maxRecDepth 100000 in
set_option maxHeartbeats 25600000 in
theorem txSum_any {w : World} {x : PTx} (h : TxIn w x) (hk : KsAt w) (hf : FrontFew false x) : Calls Tryd.prog 17 #[.agg x.cells.toArray] w fun e w' => e = .returned (.agg (cellsOf (txSum x)).toArray) ∧ Below w.heap.size w w' := by
  obtain ⟨F, hF⟩ : ∃ F, F = frontB false x := ⟨_, rfl⟩
  have hlen : (partsOf 41 [F]).length ≤ 1125899906842624 := by
    have := hf.len
    rw [hF]
    unfold partsOf partOf
    simp only [List.flatMap_cons, List.flatMap_nil, List.length_cons, List.length_append, four_len, List.length_nil]
    omega
  have hFl : F.length ≤ 140737488355328 := by have := hf.len; rw [hF]; omega
  have e : txSum x = sumOf (partsOf 41 [F]) := by unfold txSum; rw [hF]
  obtain ⟨s, hs, hsl, hj⟩ : ∃ s, sumOf (partsOf 41 [F]) = s ∧ s.length = 32 ∧ ∀ (W : World) (a : Option Addr) (n c : Nat), Rows2 W a n c [F] → KsAt W → Calls Tryd.prog 26 #[.int .u8 41, .slice a n c] W fun e w' => e = .returned (.agg (cellsOf s).toArray) ∧ Below W.heap.size W w' := ⟨_, rfl, sumOf_len _, fun W a n c hr hK => join_any 41 41 rfl hr hK hlen⟩
  rw [e, hs]
  have HF := Lib.hid hf
  have HFE := Lib.hid hF
  have HFL := Lib.hid hFl
  have HK := Lib.hid hk
  have HJ := Lib.hid hj
  have HSL := Lib.hid hsl
  have AX := Lib.hid (tx_sizeA h.op.root)
  have H := Lib.hid h
  clear h hk hf hF hs e hlen hj hsl hFl
  go_enter Tryd.func17, Tryd.ntmps17
  go_upto_region 1 with (fail)
  rw [← zero32_is]
  have b2 : Below w.heap.size w ((w.alloc (.cells x.cells.toArray 50)).alloc (.cells (cellsOf zero32).toArray 23)) := ((Below.refl _ _).alloc (Nat.le_refl _) _).alloc (by simp) _
  have h1 : ((w.alloc (.cells x.cells.toArray 50)).alloc (.cells (cellsOf zero32).toArray 23)).heap[w.heap.size]? = some (.cells x.cells.toArray 50 (0, 0)) := by
    rw [heap_alloc_old _ _ (by simp), heap_alloc_new]
  have h2 : ((w.alloc (.cells x.cells.toArray 50)).alloc (.cells (cellsOf zero32).toArray 23)).heap[w.heap.size + 1]? = some (.cells (cellsOf zero32).toArray 23 (0, 0)) := heap_alloc_at _ _ _ (by simp)
  have h3 : ((w.alloc (.cells x.cells.toArray 50)).alloc (.cells (cellsOf zero32).toArray 23)).heap.size = w.heap.size + 1 + 1 := by simp
  revert b2 h1 h2 h3
  generalize ((w.alloc (.cells x.cells.toArray 50)).alloc (.cells (cellsOf zero32).toArray 23)) = w2
  obtain ⟨g, hg⟩ : ∃ g, g = w.heap.size := ⟨_, rfl⟩
  rw [← hg]
  intro b2 h1 h2 h3
  rw [hg] at b2
  have HG := Lib.hid hg
  have HB2 := Lib.hid b2
  have H2 := Lib.hid (H.out.below b2)
  have H1 := Lib.hid h1
  have HS := Lib.hid h2
  have H3 := Lib.hid h3
  clear b2 h1 h2 h3 hg H
  go_upto_region 2 with (fail)
  have b3 : Below w2.heap.size w2 (w2.alloc (.cells #[.pointer none, .int .i64 0] 61)) := (Below.refl _ _).alloc (Nat.le_refl _) _
  have h4 := heap_alloc_new w2 (.cells #[.pointer none, .int .i64 0] 61)
  revert b3 h4
  generalize (w2.alloc (.cells #[.pointer none, .int .i64 0] 61)) = w3
  obtain ⟨pb, hpb⟩ : ∃ pb, pb = w2.heap.size := ⟨_, rfl⟩
  rw [← hpb]
  intro b3 h4
  have HPBE := Lib.hid hpb
  have HB3 := Lib.hid b3
  have HT3 := Lib.hid ((b3.block g (by rw [HPBE.out, H3.out]; omega)).trans H1.out)
  have HPF := Lib.hid (putFront_at (sh := false) H2.out hpb.symm b3 (.inl ⟨h4, rfl⟩) HF.out)
  clear hpb b3 h4
  go_wp2_with (first | (refine wpList_load_row rfl 50 _ rfl g rfl 50 x.cells.toArray (0, 0) _ HT3.out Tryd.underlying50 rfl AX.out ?_) | fail)
  refine HPF.out.mono ?_
  rintro e w4 ⟨rfl, hp4, hs4⟩
  rw [← HFE.out] at hp4
  have HP4 := Lib.hid hp4
  have HB4 : Hid (Below pb w2 w4) := Lib.hid (HB3.out.trans (hs4.1.below (Nat.le_refl _)))
  have hz4 : pb ≤ w4.heap.size := Nat.le_of_lt hp4.lt
  clear hp4 hs4 HPF HT3
  go_wp2_with fail
  refine (bytes_any HP4.out HFL.out).mono ?_
  rintro e w5 ⟨a5, n5, c5, rfl, hr5, _, hb5⟩
  have HR5 := Lib.hid hr5
  have HB5 : Hid (Below pb w2 w5) := Lib.hid (HB4.out.trans (hb5.mono hz4))
  clear hr5 hb5
  go_wp2_with fail
  have b6 : Below w5.heap.size w5 (w5.alloc (.cells #[.slice a5 n5 c5] 45)) := (Below.refl _ _).alloc (Nat.le_refl _) _
  have hk6 : KsAt (w5.alloc (.cells #[.slice a5 n5 c5] 45)) := (((HK.out.below HB2.out).below (by rw [← HPBE.out]; exact HB5.out))).below b6
  refine (HJ.out _ _ _ _ (rows2_one (heap_alloc_new _ _) (HR5.out.below b6)) hk6).mono ?_
  rintro e w7 ⟨rfl, hb7⟩
  have hb57 : Below w5.heap.size w5 w7 := b6.trans (hb7.mono b6.size)
  have HB7 : Hid (Below pb w2 w7) := Lib.hid (HB5.out.trans (hb57.mono (by have h8 := HB5.out.size; rw [← HPBE.out] at h8; exact h8)))
  have HT1 := Lib.hid ((HB7.out.block (g + 1) (by rw [HPBE.out, H3.out]; omega)).trans HS.out)
  have SS := Lib.hid (size_of HSL.out)
  have SZ : Hid ((cellsOf zero32).toArray.size = (cellsOf s).toArray.size) := Lib.hid (by rw [List.size_toArray, List.size_toArray, cellsOf_len, cellsOf_len, HSL.out]; exact zero32_len)
  clear b6 hk6 hb7 hb57
  go_wp2_with (refine wpList_store_row rfl 23 _ _ rfl (g + 1) (cellsOf s).toArray rfl rfl 23 (cellsOf zero32).toArray HT1.out SS.out SZ.out (all_oneCell_toArray (cellsOf_one s)) ?_)
  refine bodyPost_ret (results_cell_row rfl _ _ (g + 1) 23 (cellsOf s).toArray (0, 0) _ rfl (setRow_heap w7 (g + 1) _ _ 23 _ HT1.out) Tryd.underlying23 rfl SS.out) rfl ⟨rfl, ?_⟩
  have b7 : Below w.heap.size w w7 := HB2.out.trans (HB7.out.mono (by rw [HPBE.out]; exact HB2.out.size))
  exact b7.trans (((but_setRow _ (g + 1) _).mono b7.size).below (by rw [HG.out]; omega))

/-! ### Bytes -/
theorem kept_sign {w w' : World} {g : Nat} {cs : Array Value} {fr : Nat × Nat} (hk : Keeps w w') (h : w.heap[g]? = some (.cells cs 86 fr)) : w'.heap[g]? = some (.cells cs 86 fr) := (hk g _ _ _ h (by decide) (by decide) (by decide)).trans h
theorem signsB_size : ∀ {xs : List PSign}, (∀ y ∈ xs, y.sum.length = 32) → (signsB xs).length ≤ xs.length * 41
  | [], _ => by simp [signsB]
  | x :: xs, h => by
    have ih := signsB_size (xs := xs) (fun y hy => h y (by simp [hy]))
    have n1 := numB_le x.key
    simp only [signsB, signB, List.length_append, List.length_cons, Nat.add_mul, h x (by simp)]
    omega
theorem signsB_le {xs : List PSign} {k : Nat} : (signsB (xs.take k)).length ≤ (signsB xs).length := by
  have e : signsB xs = signsB (xs.take k) ++ signsB (xs.drop k) := by rw [← signsB_append, List.take_append_drop]
  rw [e, List.length_append]
  omega
theorem nums_back (l : List UInt8) : (l.map fun b => ((b.toNat : Nat) : Int)).map (fun n => UInt8.ofNat n.toNat) = l := by
  rw [List.map_map]
  conv => rhs; rw [← List.map_id l]
  apply List.map_congr_left
  intro b _
  simp
end Go.Proofs.YtlnenkmcegadmaaDoor
namespace Go.Proofs.YtlnenkmcegadmaaDoor
open Go.RowKit

/-- What they say, without where it lies. -/
def PIn.strip (x : PIn) : PIn := ⟨x.tx, x.place, x.way, none, x.pre.length, 0, x.pre⟩
def POut.strip (x : POut) : POut := ⟨x.m, none, x.ws.length, 0, x.ws.map PWay.strip⟩
def POp.strip (x : POp) : POp := ⟨x.kind, x.tower, x.channel, x.amount, x.root, none, x.data.length, 0, x.data⟩
def PTx.strip (x : PTx) : PTx := ⟨none, x.ins.length, 0, x.ins.map PIn.strip, none, x.outs.length, 0, x.outs.map POut.strip, x.op.strip, none, x.signs.length, 0, x.signs⟩
theorem insB_strip (sh : Bool) : ∀ xs : List PIn, insB sh (xs.map PIn.strip) = insB sh xs
  | [] => rfl
  | x :: xs => by
    rw [List.map_cons, insB, insB, insB_strip sh xs]
    rfl
theorem outsB_strip : ∀ xs : List POut, outsB (xs.map POut.strip) = outsB xs
  | [] => rfl
  | x :: xs => by
    rw [List.map_cons, outsB, outsB, outsB_strip xs]
    show outB x.m (x.ws.map PWay.strip) ++ outsB xs = _
    rw [outB_strip]
theorem txB_strip (x : PTx) : txB x.strip = txB x := by
  have e : frontB true x.strip = frontB true x := by
    show numB ((x.ins.map PIn.strip).length : Nat) ++ (insB true (x.ins.map PIn.strip) ++ (numB ((x.outs.map POut.strip).length : Nat) ++ (outsB (x.outs.map POut.strip) ++ opB x.op.strip))) = _
    rw [insB_strip, outsB_strip, List.length_map, List.length_map]
    rfl
  unfold txB
  rw [e]
  rfl
/-- The lengths are the slices' own. -/
structure Lens (x : PTx) : Prop where
  ins : x.ins.length = x.inn
  pre : ∀ y ∈ x.ins, y.pre.length = y.n ∧ y.tx.length = 32
  outs : x.outs.length = x.on
  ways : ∀ y ∈ x.outs, ∀ z ∈ y.ws, z.h.length = 32
  op : x.op.data.length = x.op.n
  root : x.op.root.length = 32
  signs : x.signs.length = x.sn
  sums : ∀ y ∈ x.signs, y.sum.length = 32
theorem TxIn.lens {w : World} {x : PTx} (h : TxIn w x) : Lens x :=
  ⟨h.ins.1, fun y hy => have h9 : InIn w y := h.ins.2.2.2.2.1 y hy; ⟨h9.pre.1, h9.tx⟩, h.outs.1, fun y hy z hz => have h9 : OutIn w y := h.outs.2.2.2.2.1 y hy; (h9.ws.2.2.2.2.1 z hz).sum, h.op.data.1, h.op.root, h.signs.1, fun y hy => have h9 : SignIn y := h.signs.2.2.2.2.1 y hy; h9.sum⟩
theorem insOk_strip : ∀ {xs pre : List PIn}, (∀ y ∈ xs, y.pre.length = y.n) → insOk (pre.map PIn.strip) (xs.map PIn.strip) = insOk pre xs
  | [], _, _ => rfl
  | x :: xs, pre, h => by
    have e1 : inOk x.strip = inOk x := by
      show (uptoB x.place 15 && (uptoB x.way 15 && decide (x.pre.length ≤ 64))) = _
      rw [h x (by simp)]
      rfl
    have e2 : ((pre.map PIn.strip).any fun a => sameRef a x.strip) = pre.any fun a => sameRef a x := by
      rw [List.any_map]
      rfl
    have e3 := insOk_strip (xs := xs) (pre := pre ++ [x]) (fun y hy => h y (by simp [hy]))
    rw [List.map_append] at e3
    rw [List.map_cons, insOk, insOk, e1, e2]
    show (_ && (_ && insOk (pre.map PIn.strip ++ [x].map PIn.strip) (xs.map PIn.strip))) = _
    rw [e3]
theorem outsOk_strip (xs : List POut) : outsOk (xs.map POut.strip) = outsOk xs := by
  unfold outsOk
  rw [List.all_map]
  congr 1
  funext y
  exact outOk_strip y.m y.ws
theorem opOk_strip {x : POp} (h : x.data.length = x.n) : opOk x.strip = opOk x := by
  have e : x.strip = { x with a := none, c := 0 } := by
    unfold POp.strip
    rw [h]
  rw [e]
  rfl
theorem txOk_strip {x : PTx} (h : Lens x) : txOk x.strip = txOk x := by
  have e1 := insOk_strip (pre := []) (fun y hy => (h.pre y hy).1)
  have e2 := outsOk_strip x.outs
  have e3 := opOk_strip h.op
  unfold txOk
  show (decide (x.ins.length ≤ 16 ∧ x.outs.length ≤ 16 ∧ x.signs.length ≤ 16) && (decide (x.ins.length ≠ 0 ∨ x.op.strip.kind ≠ 0) && (opOk x.op.strip && (insOk [] (x.ins.map PIn.strip) && (outsOk (x.outs.map POut.strip) && rises 0 (keysOf x.signs)))))) = _
  rw [show ([] : List PIn) = [].map PIn.strip from rfl, e1, e2, e3, h.ins, h.outs, h.signs]
  rfl

/-! ### An in, an op, a sign, an out -/
def inR (s : List UInt8 × Int) : PIn × (List UInt8 × Int) :=
  (⟨(sumR s).1, (upR (sumR s).2 15).1, (upR (upR (sumR s).2 15).2 15).1, none, (textR (upR (upR (sumR s).2 15).2 15).2 64).1.length, 0, (textR (upR (upR (sumR s).2 15).2 15).2 64).1⟩, (textR (upR (upR (sumR s).2 15).2 15).2 64).2)
theorem inR_parts (s : List UInt8 × Int) : ∃ (s1 s2 s3 s4 : List UInt8 × Int) (h : List UInt8) (a b : Int) (p : List UInt8), sumR s = (h, s1) ∧ upR s1 15 = (a, s2) ∧ upR s2 15 = (b, s3) ∧ textR s3 64 = (p, s4) ∧ inR s = (⟨h, a, b, none, p.length, 0, p⟩, s4) :=
  ⟨_, _, _, _, _, _, _, _, rfl, rfl, rfl, rfl, rfl⟩
theorem inR_ok {s : List UInt8 × Int} (h : (inR s).2.2 = 0) : s.2 = 0 ∧ s.1 = inB true (inR s).1 ++ (inR s).2.1 := by
  obtain ⟨s1, s2, s3, s4, g, a, b, p, e1, e2, e3, e4, e⟩ := inR_parts s
  rw [e] at h ⊢
  obtain ⟨h3, g4⟩ := textR_ok (s := s3) (m := 64) (by omega) (by rw [e4]; exact h)
  obtain ⟨h2, g3⟩ := upR_ok (s := s2) (m := 15) (by rw [e3]; exact h3)
  obtain ⟨h1, g2⟩ := upR_ok (s := s1) (m := 15) (by rw [e2]; exact h2)
  obtain ⟨h0, g1⟩ := sumR_ok (s := s) (by rw [e1]; exact h1)
  rw [e4] at g4
  rw [e3] at g3
  rw [e2] at g2
  rw [e1] at g1
  dsimp only at g1 g2 g3 g4
  refine ⟨h0, ?_⟩
  show s.1 = (g ++ (numB a ++ (numB b ++ (numB (p.length : Nat) ++ p)))) ++ s4.1
  rw [g1, g2, g3, g4]
  simp
theorem inR_put {x : PIn} (t : List UInt8) (ht : x.tx.length = 32) (hn : x.pre.length = x.n) (h : inOk x = true) : inR (inB true x ++ t, 0) = (x.strip, (t, 0)) := by
  unfold inOk uptoB at h
  simp only [Bool.and_eq_true, decide_eq_true_eq] at h
  obtain ⟨s1, s2, s3, s4, g, a, b, p, e1, e2, e3, e4, e⟩ := inR_parts (inB true x ++ t, 0)
  have eb : inB true x ++ t = x.tx ++ (numB x.place ++ (numB x.way ++ (numB (x.pre.length : Nat) ++ (x.pre ++ t)))) := by
    unfold inB
    simp
  rw [eb, sumR_put _ ht] at e1
  cases e1
  rw [upR_put _ (by omega) (by omega) (by omega)] at e2
  cases e2
  rw [upR_put _ (by omega) (by omega) (by omega)] at e3
  cases e3
  rw [textR_put _ (by omega) (by omega)] at e4
  cases e4
  exact e
theorem inR_le (s : List UInt8 × Int) : (inR s).2.1.length ≤ s.1.length := Nat.le_trans textR_le (Nat.le_trans (upR_le _ _) (Nat.le_trans (upR_le _ _) (sumR_le _)))
def signR (s : List UInt8 × Int) : PSign × (List UInt8 × Int) := (⟨(upR s 255).1, (sumR (upR s 255).2).1⟩, (sumR (upR s 255).2).2)
theorem signR_ok {s : List UInt8 × Int} (h : (signR s).2.2 = 0) : s.2 = 0 ∧ s.1 = signB (signR s).1 ++ (signR s).2.1 := by
  obtain ⟨h1, g2⟩ := sumR_ok (s := (upR s 255).2) h
  obtain ⟨h0, g1⟩ := upR_ok (s := s) (m := 255) h1
  refine ⟨h0, ?_⟩
  show s.1 = (numB (upR s 255).1 ++ (sumR (upR s 255).2).1) ++ (sumR (upR s 255).2).2.1
  rw [List.append_assoc, ← g2]
  exact g1
theorem signR_put {x : PSign} (t : List UInt8) (hs : x.sum.length = 32) (h0 : 0 ≤ x.key) (h1 : x.key ≤ 255) : signR (signB x ++ t, 0) = (x, (t, 0)) := by
  unfold signR signB
  rw [List.append_assoc, upR_put _ h0 h1 (by omega)]
  dsimp only
  rw [sumR_put _ hs]
theorem signR_le (s : List UInt8 × Int) : (signR s).2.1.length ≤ s.1.length := Nat.le_trans (sumR_le _) (upR_le _ _)
def opR (s : List UInt8 × Int) : POp × (List UInt8 × Int) :=
  let a := upR s 7
  let b := upR a.2 15
  let c := upR b.2 1048576
  let d := upR c.2 1125899906842624
  let e := sumR d.2
  let f := textR e.2 65536
  (⟨a.1, b.1, c.1, d.1, e.1, none, f.1.length, 0, f.1⟩, f.2)
theorem opR_parts (s : List UInt8 × Int) : ∃ (s1 s2 s3 s4 s5 s6 : List UInt8 × Int) (a b c d : Int) (g p : List UInt8), upR s 7 = (a, s1) ∧ upR s1 15 = (b, s2) ∧ upR s2 1048576 = (c, s3) ∧ upR s3 1125899906842624 = (d, s4) ∧ sumR s4 = (g, s5) ∧ textR s5 65536 = (p, s6) ∧ opR s = (⟨a, b, c, d, g, none, p.length, 0, p⟩, s6) :=
  ⟨_, _, _, _, _, _, _, _, _, _, _, _, rfl, rfl, rfl, rfl, rfl, rfl, rfl⟩
theorem opR_ok {s : List UInt8 × Int} (h : (opR s).2.2 = 0) : s.2 = 0 ∧ s.1 = opB (opR s).1 ++ (opR s).2.1 := by
  obtain ⟨s1, s2, s3, s4, s5, s6, a, b, c, d, g, p, e1, e2, e3, e4, e5, e6, e⟩ := opR_parts s
  rw [e] at h ⊢
  obtain ⟨h5, g6⟩ := textR_ok (s := s5) (m := 65536) (by omega) (by rw [e6]; exact h)
  obtain ⟨h4, g5⟩ := sumR_ok (s := s4) (by rw [e5]; exact h5)
  obtain ⟨h3, g4⟩ := upR_ok (s := s3) (m := 1125899906842624) (by rw [e4]; exact h4)
  obtain ⟨h2, g3⟩ := upR_ok (s := s2) (m := 1048576) (by rw [e3]; exact h3)
  obtain ⟨h1, g2⟩ := upR_ok (s := s1) (m := 15) (by rw [e2]; exact h2)
  obtain ⟨h0, g1⟩ := upR_ok (s := s) (m := 7) (by rw [e1]; exact h1)
  rw [e6] at g6
  rw [e5] at g5
  rw [e4] at g4
  rw [e3] at g3
  rw [e2] at g2
  rw [e1] at g1
  dsimp only at g1 g2 g3 g4 g5 g6
  refine ⟨h0, ?_⟩
  show s.1 = (numB a ++ (numB b ++ (numB c ++ (numB d ++ (g ++ (numB (p.length : Nat) ++ p)))))) ++ s6.1
  rw [g1, g2, g3, g4, g5, g6]
  simp
theorem opOk_range {x : POp} (h : opOk x = true) : 0 ≤ x.kind ∧ x.kind ≤ 7 ∧ 0 ≤ x.tower ∧ x.tower ≤ 15 ∧ 0 ≤ x.channel ∧ x.channel ≤ 1048576 ∧ 0 ≤ x.amount ∧ x.amount ≤ 1125899906842624 ∧ x.n ≤ 65536 := by
  by_cases hk : x.kind = 0
  · rw [opOk_none hk] at h
    simp only [Bool.and_eq_true, decide_eq_true_eq] at h
    omega
  · rw [opOk_upto hk] at h
    unfold uptoB at h
    simp only [Bool.and_eq_true, decide_eq_true_eq] at h
    omega
theorem opR_put {x : POp} (t : List UInt8) (hr : x.root.length = 32) (hn : x.data.length = x.n) (h : opOk x = true) : opR (opB x ++ t, 0) = (x.strip, (t, 0)) := by
  obtain ⟨k1, k2, k3, k4, k5, k6, k7, k8, k9⟩ := opOk_range h
  obtain ⟨s1, s2, s3, s4, s5, s6, a, b, c, d, g, p, e1, e2, e3, e4, e5, e6, e⟩ := opR_parts (opB x ++ t, 0)
  have eb : opB x ++ t = numB x.kind ++ (numB x.tower ++ (numB x.channel ++ (numB x.amount ++ (x.root ++ (numB (x.data.length : Nat) ++ (x.data ++ t)))))) := by
    unfold opB
    simp
  rw [eb, upR_put _ k1 k2 (by omega)] at e1
  cases e1
  rw [upR_put _ k3 k4 (by omega)] at e2
  cases e2
  rw [upR_put _ k5 k6 (by omega)] at e3
  cases e3
  rw [upR_put _ k7 k8 (by omega)] at e4
  cases e4
  rw [sumR_put _ hr] at e5
  cases e5
  rw [textR_put _ (by omega) (by omega)] at e6
  cases e6
  exact e
theorem opR_le (s : List UInt8 × Int) : (opR s).2.1.length ≤ s.1.length := Nat.le_trans textR_le (Nat.le_trans (sumR_le _) (Nat.le_trans (upR_le _ _) (Nat.le_trans (upR_le _ _) (Nat.le_trans (upR_le _ _) (upR_le _ _)))))
def pOutR (s : List UInt8 × Int) : POut × (List UInt8 × Int) := (⟨(outR s).1.1, none, (outR s).1.2.length, 0, (outR s).1.2⟩, (outR s).2)
theorem pOutR_ok {s : List UInt8 × Int} (h : (pOutR s).2.2 = 0) : s.2 = 0 ∧ s.1 = outB (pOutR s).1.m (pOutR s).1.ws ++ (pOutR s).2.1 := by
  obtain ⟨_, h1, h2⟩ := outR_ok h
  exact ⟨h1, h2⟩
theorem pOutR_put {x : POut} (t : List UInt8) (h : outOk x.m x.ws = true) (hs : ∀ z ∈ x.ws, z.h.length = 32) : pOutR (outB x.m x.ws ++ t, 0) = (x.strip, (t, 0)) := by
  unfold pOutR
  rw [outR_put t h hs]
  simp [POut.strip]

/-! ### Lists -/
def listR {α : Type} (f : List UInt8 × Int → α × (List UInt8 × Int)) : Nat → List UInt8 × Int → List α × (List UInt8 × Int)
  | 0, s => ([], s)
  | k + 1, s => ((listR f k s).1 ++ [(f (listR f k s).2).1], (f (listR f k s).2).2)
theorem listR_len {α : Type} (f : List UInt8 × Int → α × (List UInt8 × Int)) (s : List UInt8 × Int) : ∀ k, (listR f k s).1.length = k
  | 0 => rfl
  | k + 1 => by simp [listR, listR_len f s k]
theorem listR_le {α : Type} {f : List UInt8 × Int → α × (List UInt8 × Int)} (hf : ∀ s, (f s).2.1.length ≤ s.1.length) (s : List UInt8 × Int) : ∀ k, (listR f k s).2.1.length ≤ s.1.length
  | 0 => Nat.le_refl _
  | k + 1 => Nat.le_trans (hf _) (listR_le hf s k)
theorem listR_ok {α : Type} {f : List UInt8 × Int → α × (List UInt8 × Int)} {b : α → List UInt8} {bs : List α → List UInt8} (h0 : bs [] = []) (h1 : ∀ x, bs [x] = b x) (ha : ∀ u v, bs (u ++ v) = bs u ++ bs v) (hf : ∀ {s}, (f s).2.2 = 0 → s.2 = 0 ∧ s.1 = b (f s).1 ++ (f s).2.1) {s : List UInt8 × Int} :
    ∀ {k : Nat}, (listR f k s).2.2 = 0 → s.2 = 0 ∧ s.1 = bs (listR f k s).1 ++ (listR f k s).2.1
  | 0, h => ⟨h, by simp [listR, h0]⟩
  | k + 1, h => by
    obtain ⟨h2, h3⟩ := hf h
    obtain ⟨h4, h5⟩ := listR_ok h0 h1 ha hf (k := k) h2
    refine ⟨h4, ?_⟩
    show s.1 = bs ((listR f k s).1 ++ [(f (listR f k s).2).1]) ++ (f (listR f k s).2).2.1
    rw [ha, h1, List.append_assoc, ← h3]
    exact h5
theorem listR_put {α : Type} {f : List UInt8 × Int → α × (List UInt8 × Int)} {b : α → List UInt8} {bs : List α → List UInt8} {g : α → α} (d : α) (hc : ∀ x xs, bs (x :: xs) = b x ++ bs xs) (l : List α) (hf : ∀ x ∈ l, ∀ t, f (b x ++ t, 0) = (g x, (t, 0))) (t : List UInt8) :
    ∀ k, k ≤ l.length → listR f k (bs l ++ t, 0) = ((l.take k).map g, (bs (l.drop k) ++ t, 0))
  | 0, _ => by simp [listR]
  | k + 1, hk => by
    have hm : l.getD k d ∈ l := by
      rw [List.getD_eq_getElem?_getD, List.getElem?_eq_getElem (by omega)]
      exact List.getElem_mem (by omega)
    rw [listR, listR_put d hc l hf t k (by omega), drop_getD (d := d) (by omega), hc, List.append_assoc, hf _ hm, take_getD (d := d) (by omega)]
    simp

/-! ### A transaction -/
def txR (s : List UInt8 × Int) : PTx × (List UInt8 × Int) :=
  let a := upR s 16
  let b := listR inR a.1.toNat a.2
  let c := upR b.2 16
  let d := listR pOutR c.1.toNat c.2
  let e := opR d.2
  let f := upR e.2 16
  let g := listR signR f.1.toNat f.2
  (⟨none, b.1.length, 0, b.1, none, d.1.length, 0, d.1, e.1, none, g.1.length, 0, g.1⟩, g.2)
theorem txR_parts (s : List UInt8 × Int) : ∃ (s1 s2 s3 s4 s5 s6 s7 : List UInt8 × Int) (n1 n2 n3 : Nat) (is : List PIn) (os : List POut) (op : POp) (ss : List PSign), upR s 16 = ((n1 : Int), s1) ∧ listR inR n1 s1 = (is, s2) ∧ upR s2 16 = ((n2 : Int), s3) ∧ listR pOutR n2 s3 = (os, s4) ∧ opR s4 = (op, s5) ∧ upR s5 16 = ((n3 : Int), s6) ∧ listR signR n3 s6 = (ss, s7) ∧
    txR s = (⟨none, is.length, 0, is, none, os.length, 0, os, op, none, ss.length, 0, ss⟩, s7) ∧ n1 ≤ 16 ∧ n2 ≤ 16 ∧ n3 ≤ 16 := by
  have e : ∀ s : List UInt8 × Int, ∃ (n : Nat) (s1 : List UInt8 × Int), upR s 16 = ((n : Int), s1) ∧ n ≤ 16 := fun s => by
    have hr := upR_range s (m := 16) (by omega)
    exact ⟨(upR s 16).1.toNat, (upR s 16).2, by rw [Int.toNat_of_nonneg hr.1], by omega⟩
  obtain ⟨n1, s1, e1, l1⟩ := e s
  obtain ⟨is, s2, e2⟩ : ∃ l s', listR inR n1 s1 = (l, s') := ⟨_, _, rfl⟩
  obtain ⟨n2, s3, e3, l2⟩ := e s2
  obtain ⟨os, s4, e4⟩ : ∃ l s', listR pOutR n2 s3 = (l, s') := ⟨_, _, rfl⟩
  obtain ⟨op, s5, e5⟩ : ∃ l s', opR s4 = (l, s') := ⟨_, _, rfl⟩
  obtain ⟨n3, s6, e6, l3⟩ := e s5
  obtain ⟨ss, s7, e7⟩ : ∃ l s', listR signR n3 s6 = (l, s') := ⟨_, _, rfl⟩
  refine ⟨s1, s2, s3, s4, s5, s6, s7, n1, n2, n3, is, os, op, ss, e1, e2, e3, e4, e5, e6, e7, ?_, l1, l2, l3⟩
  unfold txR
  rw [e1]
  dsimp only
  rw [Int.toNat_natCast, e2]
  dsimp only
  rw [e3]
  dsimp only
  rw [Int.toNat_natCast, e4]
  dsimp only
  rw [e5]
  dsimp only
  rw [e6]
  dsimp only
  rw [Int.toNat_natCast, e7]
theorem txR_ok {s : List UInt8 × Int} (h : (txR s).2.2 = 0) : s.2 = 0 ∧ s.1 = txB (txR s).1 ++ (txR s).2.1 := by
  obtain ⟨s1, s2, s3, s4, s5, s6, s7, n1, n2, n3, is, os, op, ss, e1, e2, e3, e4, e5, e6, e7, e, _⟩ := txR_parts s
  rw [e] at h ⊢
  obtain ⟨h6, g7⟩ := listR_ok (f := signR) (b := signB) (bs := signsB) rfl (fun x => by simp [signsB]) signsB_append signR_ok (s := s6) (k := n3) (by rw [e7]; exact h)
  obtain ⟨h5, g6⟩ := upR_ok (s := s5) (m := 16) (by rw [e6]; exact h6)
  obtain ⟨h4, g5⟩ := opR_ok (s := s4) (by rw [e5]; exact h5)
  obtain ⟨h3, g4⟩ := listR_ok (f := pOutR) (b := fun x => outB x.m x.ws) (bs := outsB) rfl (fun x => by simp [outsB]) outsB_append pOutR_ok (s := s3) (k := n2) (by rw [e4]; exact h4)
  obtain ⟨h2, g3⟩ := upR_ok (s := s2) (m := 16) (by rw [e3]; exact h3)
  obtain ⟨h1, g2⟩ := listR_ok (f := inR) (b := inB true) (bs := insB true) rfl (fun x => by simp [insB]) (insB_append true) inR_ok (s := s1) (k := n1) (by rw [e2]; exact h2)
  obtain ⟨h0, g1⟩ := upR_ok (s := s) (m := 16) (by rw [e1]; exact h1)
  have l1 := listR_len inR s1 n1
  have l2 := listR_len pOutR s3 n2
  have l3 := listR_len signR s6 n3
  rw [e7] at g7 l3
  rw [e6] at g6
  rw [e5] at g5
  rw [e4] at g4 l2
  rw [e3] at g3
  rw [e2] at g2 l1
  rw [e1] at g1
  dsimp only at g1 g2 g3 g4 g5 g6 g7 l1 l2 l3
  refine ⟨h0, ?_⟩
  show s.1 = ((numB (is.length : Nat) ++ (insB true is ++ (numB (os.length : Nat) ++ (outsB os ++ opB op)))) ++ (numB (ss.length : Nat) ++ signsB ss)) ++ s7.1
  rw [l1, l2, l3, g1, g2, g3, g4, g5, g6, g7]
  simp
set_option maxHeartbeats 1600000 in
theorem txR_put {x : PTx} (hl : Lens x) (h : txOk x = true) : txR (txB x, 0) = (x.strip, ([], 0)) := by
  obtain ⟨h1, h2, h3, _, h5, h6, h7, h8⟩ := txOk_parts h
  obtain ⟨s1, s2, s3, s4, s5, s6, s7, n1, n2, n3, is, os, op, ss, e1, e2, e3, e4, e5, e6, e7, e, _⟩ := txR_parts (txB x, 0)
  have eb : txB x = numB (x.ins.length : Nat) ++ (insB true x.ins ++ (numB (x.outs.length : Nat) ++ (outsB x.outs ++ (opB x.op ++ (numB (x.signs.length : Nat) ++ (signsB x.signs ++ [])))))) := by
    unfold txB frontB
    simp
  have l1 := hl.ins
  have l2 := hl.outs
  have l3 := hl.signs
  have m1 := fun y hy => insOk_each h6 y hy
  have m2 : ∀ y ∈ x.outs, outOk y.m y.ws = true := by
    unfold outsOk at h7
    rw [List.all_eq_true] at h7
    exact h7
  have m3 : ∀ y ∈ x.signs, 0 ≤ y.key ∧ y.key ≤ 255 := fun y hy => rises_range (Int.le_refl _) h8 y.key (List.mem_map_of_mem hy)
  rw [eb, upR_put _ (by omega) (by omega) (by omega)] at e1
  obtain ⟨q1, rfl⟩ := Prod.mk.inj e1
  obtain rfl : x.ins.length = n1 := by omega
  rw [listR_put (b := inB true) (g := PIn.strip) noIn (fun _ _ => rfl) x.ins (fun y hy t => inR_put t (hl.pre y hy).2 (hl.pre y hy).1 (m1 y hy)) _ _ (Nat.le_refl _), List.take_of_length_le (Nat.le_refl _), List.drop_of_length_le (Nat.le_refl _)] at e2
  obtain ⟨rfl, rfl⟩ := Prod.mk.inj e2
  rw [show insB true ([] : List PIn) = [] from rfl, List.nil_append, upR_put _ (by omega) (by omega) (by omega)] at e3
  obtain ⟨q2, rfl⟩ := Prod.mk.inj e3
  obtain rfl : x.outs.length = n2 := by omega
  rw [listR_put (b := fun x => outB x.m x.ws) (g := POut.strip) noOut (fun _ _ => rfl) x.outs (fun y hy t => pOutR_put t (m2 y hy) (hl.ways y hy)) _ _ (Nat.le_refl _), List.take_of_length_le (Nat.le_refl _), List.drop_of_length_le (Nat.le_refl _)] at e4
  obtain ⟨rfl, rfl⟩ := Prod.mk.inj e4
  rw [show outsB ([] : List POut) = [] from rfl, List.nil_append, opR_put _ hl.root hl.op h5] at e5
  obtain ⟨rfl, rfl⟩ := Prod.mk.inj e5
  rw [upR_put _ (by omega) (by omega) (by omega)] at e6
  obtain ⟨q3, rfl⟩ := Prod.mk.inj e6
  obtain rfl : x.signs.length = n3 := by omega
  rw [listR_put (b := signB) (g := id) noSign (fun _ _ => rfl) x.signs (fun y hy t => signR_put t (hl.sums y hy) (m3 y hy).1 (m3 y hy).2) _ _ (Nat.le_refl _), List.take_of_length_le (Nat.le_refl _), List.drop_of_length_le (Nat.le_refl _)] at e7
  obtain ⟨rfl, rfl⟩ := Prod.mk.inj e7
  rw [e]
  simp [PTx.strip, signsB]
end Go.Proofs.YtlnenkmcegadmaaDoor
