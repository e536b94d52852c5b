/- Proofs and facts: in memory, and a proof's bytes. No function of the program is named. -/
import Derived.Test.YtcmdpmialehjgaaGreatDoorRecMem
import Derived.Test.YtcmdpmialehjgaaGreatDoorCommit
import Derived.Test.YtcmdpmialehjgaaGreatDoorTx
import Derived.Test.YtcmdpmialehjgaaGreatDoorSteps
namespace Go.Proofs.YtcmdpmialehjgaaGreatDoor
open Go.RowKit

structure PPrf where
  r : PRec
  sa : Option Addr
  sn : Nat
  sc : Nat
  sig : List UInt8
  ba : Option Addr
  bn : Nat
  bc : Nat
  blob : List UInt8
  commit : List UInt8
def PPrf.tail (x : PPrf) : List Value := .slice x.sa x.sn x.sc :: .slice x.ba x.bn x.bc :: cellsOf x.commit
def PPrf.cells (x : PPrf) : List Value := x.r.cells ++ x.tail
def noPrf : PPrf := ⟨noRec, none, 0, 0, [], none, 0, 0, [], zero32⟩
structure PrfIn (w : World) (x : PPrf) : Prop where
  r : RecIn x.r
  sig : Row w x.sa x.sn x.sc x.sig
  blob : Row w x.ba x.bn x.bc x.blob
  commit : x.commit.length = 32
theorem PrfIn.below {w w' : World} {x : PPrf} (h : PrfIn w x) (hb : Below w.heap.size w w') : PrfIn w' x := ⟨h.r, h.sig.below hb, h.blob.below hb, h.commit⟩
theorem noPrf_in (w : World) : PrfIn w noPrf := ⟨noRec_in, Row.nil w, Row.nil w, rfl⟩
theorem PPrf.len {x : PPrf} (h : RecIn x.r) (hc : x.commit.length = 32) : x.cells.length = 101 := by
  unfold PPrf.cells PPrf.tail
  rw [List.length_append, PRec.len h]
  simp [cellsOf_len, hc]
theorem PPrf.one (x : PPrf) : ∀ v ∈ x.cells, v.oneCell' = true := by
  intro v hv
  unfold PPrf.cells PPrf.tail at hv
  simp only [List.mem_append, List.mem_cons] at hv
  rcases hv with hv | rfl | rfl | hv
  · exact x.r.one v hv
  · rfl
  · rfl
  · exact cellsOf_one _ v hv
theorem Tryz.sizePrf : (Tryz.prog.info? 28).map (·.size) = some 101 := by kernel_rfl
theorem prf_size {w : World} {x : PPrf} (h : PrfIn w x) : (Tryz.prog.info? 28).map (·.size) = some x.cells.length := by rw [PPrf.len h.r h.commit]; exact Tryz.sizePrf
theorem prf_sizeA {w : World} {x : PPrf} (h : PrfIn w x) : (Tryz.prog.info? 28).map (·.size) = some x.cells.toArray.size := by rw [List.size_toArray]; exact prf_size h
theorem Tryz.infoPrf : (Tryz.prog.info? 28).map (fun i => (i.zero, i.size, i.bytes)) = some (some (.agg noPrf.cells.toArray), 101, 168) := by kernel_rfl
theorem build_prf0 (w : World) : (Instr.build 28 ([] : List (Nat × Value)).toArray).run Tryz.prog w = .ok (.agg noPrf.cells.toArray) w := by kernel_rfl
/-! Its parts, where it lies. -/
theorem prf_rec {w : World} {g : Nat} {x : PPrf} (h : w.rangeAt g 0 x.cells) : w.rangeAt g 0 x.r.cells := (range_append h).1
theorem prf_tail {w : World} {g : Nat} {x : PPrf} (hr : RecIn x.r) (h : w.rangeAt g 0 x.cells) : w.rangeAt g 67 x.tail := by
  have h9 := (range_append h).2
  rwa [PRec.len hr] at h9
theorem prf_sig {w : World} {g : Nat} {x : PPrf} (hr : RecIn x.r) (h : w.rangeAt g 0 x.cells) : w.cell? ⟨g, 67, none⟩ = some (.slice x.sa x.sn x.sc) := (range_cons (prf_tail hr h)).1
theorem prf_blob {w : World} {g : Nat} {x : PPrf} (hr : RecIn x.r) (h : w.rangeAt g 0 x.cells) : w.cell? ⟨g, 68, none⟩ = some (.slice x.ba x.bn x.bc) := (range_cons (range_cons (prf_tail hr h)).2).1
theorem prf_commit {w : World} {g : Nat} {x : PPrf} (hr : RecIn x.r) (h : w.rangeAt g 0 x.cells) : w.rangeAt g 69 (cellsOf x.commit) := (range_cons (range_cons (prf_tail hr h)).2).2
/-! ### Facts -/
structure PFacts where
  t : PTx
  at' : Int
  taken : Bool
  when : Int
def PFacts.cells (x : PFacts) : List Value := x.t.cells ++ [.int .i64 x.at', .bool x.taken, .int .i64 x.when]
def noFacts : PFacts := ⟨noTx, 0, false, 0⟩
structure FactsIn (w : World) (x : PFacts) : Prop where
  t : TxIn w x.t
  at' : Fits x.at'
  when : Fits x.when
theorem FactsIn.below {w w' : World} {x : PFacts} (h : FactsIn w x) (hb : Below w.heap.size w w') : FactsIn w' x := ⟨h.t.below hb, h.at', h.when⟩
theorem PFacts.len {x : PFacts} (h : x.t.op.root.length = 32) : x.cells.length = 43 := by
  unfold PFacts.cells
  rw [List.length_append, PTx.len h]
  rfl
theorem PFacts.one (x : PFacts) : ∀ v ∈ x.cells, v.oneCell' = true := by
  intro v hv
  unfold PFacts.cells at hv
  simp only [List.mem_append, List.mem_cons, List.not_mem_nil, or_false] at hv
  rcases hv with hv | rfl | rfl | rfl
  · exact x.t.one v hv
  · rfl
  · rfl
  · rfl
theorem Tryz.sizeFacts : (Tryz.prog.info? 58).map (·.size) = some 43 := by kernel_rfl
theorem facts_size {w : World} {x : PFacts} (h : FactsIn w x) : (Tryz.prog.info? 58).map (·.size) = some x.cells.length := by rw [PFacts.len h.t.op.root]; exact Tryz.sizeFacts
theorem facts_sizeA {w : World} {x : PFacts} (h : FactsIn w x) : (Tryz.prog.info? 58).map (·.size) = some x.cells.toArray.size := by rw [List.size_toArray]; exact facts_size h
theorem build_facts0 (w : World) : (Instr.build 58 ([] : List (Nat × Value)).toArray).run Tryz.prog w = .ok (.agg noFacts.cells.toArray) w := by kernel_rfl
theorem facts_tx {w : World} {g : Nat} {x : PFacts} (h : w.rangeAt g 0 x.cells) : w.rangeAt g 0 x.t.cells := (range_append h).1
theorem facts_tail {w : World} {g : Nat} {x : PFacts} (ht : x.t.op.root.length = 32) (h : w.rangeAt g 0 x.cells) : w.rangeAt g 40 [.int .i64 x.at', .bool x.taken, .int .i64 x.when] := by
  have h9 := (range_append h).2
  rwa [PTx.len ht] at h9
theorem facts_at {w : World} {g : Nat} {x : PFacts} (ht : x.t.op.root.length = 32) (h : w.rangeAt g 0 x.cells) : w.cell? ⟨g, 40, none⟩ = some (.int .i64 x.at') := (range_cons (facts_tail ht h)).1
theorem facts_taken {w : World} {g : Nat} {x : PFacts} (ht : x.t.op.root.length = 32) (h : w.rangeAt g 0 x.cells) : w.cell? ⟨g, 41, none⟩ = some (.bool x.taken) := (range_cons (range_cons (facts_tail ht h)).2).1
theorem facts_when {w : World} {g : Nat} {x : PFacts} (ht : x.t.op.root.length = 32) (h : w.rangeAt g 0 x.cells) : w.cell? ⟨g, 42, none⟩ = some (.int .i64 x.when) := (range_cons (range_cons (range_cons (facts_tail ht h)).2).2).1
/-! ### A channel's other parts -/
theorem chan_tail17 {w : World} {b : Nat} {x : PChan} (hf : x.ftx.length = 32) (h : w.rangeAt b 0 x.cells) : w.rangeAt b 36 [.int .i64 x.cap, .int .i64 x.wait, .int .i64 x.window] := by
  have h9 := (range_append (range_cons (range_cons (range_cons h).2).2).2).2
  rwa [refCells_len hf] at h9
theorem chan_window17 {w : World} {b : Nat} {x : PChan} (hf : x.ftx.length = 32) (h : w.rangeAt b 0 x.cells) : w.cell? ⟨b, 38, none⟩ = some (.int .i64 x.window) := (range_cons (range_cons (range_cons (chan_tail17 hf h)).2).2).1
theorem chan_client17 {w : World} {b : Nat} {x : PChan} (h : w.rangeAt b 0 x.cells) : w.cell? ⟨b, 1, none⟩ = some (.int .i64 x.client) := (range_cons (range_cons h).2).1
theorem chan_peer17 {w : World} {b : Nat} {x : PChan} (h : w.rangeAt b 0 x.cells) : w.cell? ⟨b, 2, none⟩ = some (.int .i64 x.peer) := (range_cons (range_cons (range_cons h).2).2).1
/-! ### A proof's bytes -/
def prfB (x : PPrf) : List UInt8 := numB ((textB x.r).length : Nat) ++ (textB x.r ++ (numB (x.sig.length : Nat) ++ (x.sig ++ (numB (x.blob.length : Nat) ++ (x.blob ++ x.commit)))))
theorem prfB_len {x : PPrf} (h : RecIn x.r) (hc : x.commit.length = 32) : (prfB x).length ≤ 150 + x.sig.length + x.blob.length := by
  have n1 := (numB_len (((textB x.r).length : Nat) : Int)).2
  have n2 := (numB_len ((x.sig.length : Nat) : Int)).2
  have n3 := (numB_len ((x.blob.length : Nat) : Int)).2
  have n4 := textB_len h
  simp only [prfB, List.length_append]
  omega
end Go.Proofs.YtcmdpmialehjgaaGreatDoor
