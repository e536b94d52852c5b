/- Which ops, ins, outs, signs and transactions may be, plainly. No function of the program is named. -/
import Derived.Test.YtkihmhchdenamaaDoorTxMem
import Derived.Test.YtkihmhchdenamaaDoorRefs
import Derived.Test.YtkihmhchdenamaaDoorLock
namespace Go.Proofs.YtkihmhchdenamaaDoor
open Go.RowKit

/-- An op may be. -/
def opOk (x : POp) : Bool :=
  if x.kind = 0 then (decide (x.tower = 0) && (decide (x.channel = 0) && (decide (x.amount = 0) && (decide (x.root = zero32) && decide (x.n = 0)))))
  else (decide (0 < x.kind) && (decide (x.kind < 8) && (decide (0 ≤ x.tower) && (decide (x.tower < 16) && (decide (0 ≤ x.channel) && (decide (x.channel ≤ 1048576) && (decide (0 ≤ x.amount) && (decide (x.amount ≤ 1125899906842624) && decide (x.n ≤ 65536)))))))))
theorem opOk_none {x : POp} (h : x.kind = 0) : opOk x = (decide (x.tower = 0) && (decide (x.channel = 0) && (decide (x.amount = 0) && (decide (x.root = zero32) && decide (x.n = 0))))) := by unfold opOk; rw [if_pos h]
theorem opOk_some {x : POp} (h : x.kind ≠ 0) : opOk x = (decide (0 < x.kind) && (decide (x.kind < 8) && (decide (0 ≤ x.tower) && (decide (x.tower < 16) && (decide (0 ≤ x.channel) && (decide (x.channel ≤ 1048576) && (decide (0 ≤ x.amount) && (decide (x.amount ≤ 1125899906842624) && decide (x.n ≤ 65536))))))))) := by unfold opOk; rw [if_neg h]
def uptoB (n m : Int) : Bool := decide (0 ≤ n) && decide (n ≤ m)
theorem opOk_upto {x : POp} (h : x.kind ≠ 0) : opOk x = (uptoB x.kind 7 && (uptoB x.tower 15 && (uptoB x.channel 1048576 && (uptoB x.amount 1125899906842624 && decide (x.n ≤ 65536))))) := by
  rw [opOk_some h]
  unfold uptoB
  rw [Bool.eq_iff_iff]
  simp only [Bool.and_eq_true, decide_eq_true_eq]
  omega
/-- An in, by itself, may be. -/
def inOk (y : PIn) : Bool := uptoB y.place 15 && (uptoB y.way 15 && decide (y.n ≤ 64))
/-- Two ins have the same place. -/
def sameRef (a b : PIn) : Bool := decide (a.tx = b.tx) && decide (a.place = b.place)
/-- Ins may be, behind others. -/
def insOk : List PIn → List PIn → Bool
  | _, [] => true
  | pre, y :: ys => inOk y && (!(pre.any fun a => sameRef a y) && insOk (pre ++ [y]) ys)
theorem insOk_step {xs : List PIn} {k : Nat} (h : k < xs.length) : insOk (xs.take k) (xs.drop k) = (inOk (xs.getD k noIn) && (!((xs.take k).any fun a => sameRef a (xs.getD k noIn)) && insOk (xs.take (k + 1)) (xs.drop (k + 1)))) := by
  rw [drop_getD (d := noIn) h, insOk, take_getD (d := noIn) h]
theorem insOk_end {xs : List PIn} {k : Nat} (h : xs.length ≤ k) : insOk (xs.take k) (xs.drop k) = true := by
  rw [List.drop_of_length_le h]
  rfl
def outsOk (xs : List POut) : Bool := xs.all fun y => outOk y.m y.ws
def keysOf (xs : List PSign) : List Int := xs.map PSign.key
/-- A transaction may be. -/
def txOk (x : PTx) : Bool := decide (x.inn ≤ 16 ∧ x.on ≤ 16 ∧ x.sn ≤ 16) && (decide (x.inn ≠ 0 ∨ x.op.kind ≠ 0) && (opOk x.op && (insOk [] x.ins && (outsOk x.outs && rises 0 (keysOf x.signs)))))
theorem in_ref {w : World} {b o : Nat} {x : PIn} (h : w.rangeAt b o x.cells) : w.rangeAt b o (refCells x.tx x.place) := fun j v hv => h j v (by
  have hj := (List.getElem?_eq_some_iff.1 hv).1
  have e : x.cells = refCells x.tx x.place ++ [.int .i64 x.way, .slice x.a x.n x.c] := by simp [PIn.cells, refCells]
  rw [e, List.getElem?_append_left hj]
  exact hv)
theorem in_size {x : PIn} (h : x.tx.length = 32) : (Tryd.prog.info? 47).map (·.size) = some x.cells.length := by rw [PIn.len h]; exact Tryd.sizeIn
theorem in_sizeA {x : PIn} (h : x.tx.length = 32) : (Tryd.prog.info? 47).map (·.size) = some x.cells.toArray.size := by rw [List.size_toArray]; exact in_size h
theorem op_size {x : POp} (h : x.root.length = 32) : (Tryd.prog.info? 35).map (·.size) = some x.cells.length := by rw [POp.len h]; exact Tryd.sizeOp
theorem op_sizeA {x : POp} (h : x.root.length = 32) : (Tryd.prog.info? 35).map (·.size) = some x.cells.toArray.size := by rw [List.size_toArray]; exact op_size h
theorem sign_size {x : PSign} (h : x.sum.length = 32) : (Tryd.prog.info? 86).map (·.size) = some x.cells.length := by rw [PSign.len h]; exact Tryd.sizeSign
theorem sign_sizeA {x : PSign} (h : x.sum.length = 32) : (Tryd.prog.info? 86).map (·.size) = some x.cells.toArray.size := by rw [List.size_toArray]; exact sign_size h
theorem tx_size {x : PTx} (h : x.op.root.length = 32) : (Tryd.prog.info? 38).map (·.size) = some x.cells.length := by rw [PTx.len h]; exact Tryd.sizeTx
theorem tx_sizeA {x : PTx} (h : x.op.root.length = 32) : (Tryd.prog.info? 38).map (·.size) = some x.cells.toArray.size := by rw [List.size_toArray]; exact tx_size h
/-- The first ones of a slice. -/
theorem SliceOf.take {α : Type} {K : Sort8 α} {w : World} {n c k : Nat} {a : Option Addr} {xs : List α} (h : SliceOf K w a n c xs) (hk : k ≤ n) : SliceOf K w a k c (xs.take k) := by
  obtain ⟨h1, h2, h3, h4, h6, h5⟩ := h
  refine ⟨by rw [List.length_take, h1]; omega, by omega, h3, h4, fun x hx => h6 x (List.mem_of_mem_take hx), fun h0 => ?_⟩
  obtain ⟨b, off, e, hlt, hc⟩ := h5 (by omega)
  refine ⟨b, off, e, hlt, fun j hj => ?_⟩
  have e2 : (xs.take k).getD j K.dflt = xs.getD j K.dflt := by
    rw [List.getD_eq_getElem?_getD, List.getD_eq_getElem?_getD, List.getElem?_take, if_pos hj]
  rw [e2]
  exact hc j (by omega)
end Go.Proofs.YtkihmhchdenamaaDoor
