/- Receipts: in memory, their texts, and what bytes are read as. No function of the program is named. -/
import Derived.Test.YtcmdpmialehjgaaGreatDoorNumbers
import Derived.Test.YtcmdpmialehjgaaGreatDoorTxGets
import Derived.Test.YtcmdpmialehjgaaGreatDoorWire
import Derived.Test.YtcmdpmialehjgaaGreatDoorMemory
import Derived.Test.YtcmdpmialehjgaaGreatDoorSteps
namespace Go.Proofs.YtcmdpmialehjgaaGreatDoor
open Go.RowKit

/-! ### A receipt -/
structure PRec where
  tower : Int
  channel : Int
  state : Int
  hint : List UInt8
  blob : List UInt8
def PRec.cells (x : PRec) : List Value := .int .i64 x.tower :: .int .i64 x.channel :: .int .i64 x.state :: (cellsOf x.hint ++ cellsOf x.blob)
def noRec : PRec := ⟨0, 0, 0, zero32, zero32⟩
structure RecIn (x : PRec) : Prop where
  tower : Fits x.tower
  channel : Fits x.channel
  state : Fits x.state
  hint : x.hint.length = 32
  blob : x.blob.length = 32
theorem fits0 : Fits 0 := ⟨by decide, by decide⟩
theorem noRec_in : RecIn noRec := ⟨fits0, fits0, fits0, zero32_size, zero32_size⟩
theorem PRec.len {x : PRec} (h : RecIn x) : x.cells.length = 67 := by simp [PRec.cells, cellsOf_len, h.hint, h.blob]
theorem PRec.one (x : PRec) : ∀ v ∈ x.cells, v.oneCell' = true := by
  intro v hv
  simp only [PRec.cells, List.mem_cons, List.mem_append] at hv
  rcases hv with rfl | rfl | rfl | hv | hv
  · rfl
  · rfl
  · rfl
  · exact cellsOf_one _ v hv
  · exact cellsOf_one _ v hv
theorem Tryz.sizeRec : (Tryz.prog.info? 25).map (·.size) = some 67 := by kernel_rfl
theorem rec_size {x : PRec} (h : RecIn x) : (Tryz.prog.info? 25).map (·.size) = some x.cells.length := by rw [PRec.len h]; exact Tryz.sizeRec
theorem rec_sizeA {x : PRec} (h : RecIn x) : (Tryz.prog.info? 25).map (·.size) = some x.cells.toArray.size := by rw [List.size_toArray]; exact rec_size h
theorem rec_zero {x : PRec} (h : RecIn x) : noRec.cells.toArray.size = x.cells.toArray.size := by rw [List.size_toArray, List.size_toArray, PRec.len h, PRec.len noRec_in]
theorem Tryz.infoRec : (Tryz.prog.info? 25).map (fun i => (i.zero, i.size, i.bytes)) = some (some (.agg noRec.cells.toArray), 67, 88) := by kernel_rfl
theorem build_rec0 (w : World) : (Instr.build 25 ([] : List (Nat × Value)).toArray).run Tryz.prog w = .ok (.agg noRec.cells.toArray) w := by kernel_rfl
/-! Its parts, where it lies. -/
theorem rec_tower {w : World} {g o : Nat} {x : PRec} {r : List Value} (h : w.rangeAt g o (x.cells ++ r)) : w.cell? ⟨g, o, none⟩ = some (.int .i64 x.tower) := h 0 _ rfl
theorem rec_channel {w : World} {g o : Nat} {x : PRec} {r : List Value} (h : w.rangeAt g o (x.cells ++ r)) : w.cell? ⟨g, o + 1, none⟩ = some (.int .i64 x.channel) := h 1 _ rfl
theorem rec_state {w : World} {g o : Nat} {x : PRec} {r : List Value} (h : w.rangeAt g o (x.cells ++ r)) : w.cell? ⟨g, o + 2, none⟩ = some (.int .i64 x.state) := h 2 _ rfl
theorem rec_hint {w : World} {g o : Nat} {x : PRec} {r : List Value} (h : w.rangeAt g o (x.cells ++ r)) : w.rangeAt g (o + 3) (cellsOf x.hint) := fun j v hv => by
  have hj : j < (cellsOf x.hint).length := (List.getElem?_eq_some_iff.1 hv).1
  rw [Nat.add_assoc, Nat.add_comm 3 j]
  refine h (j + 3) v ?_
  show (cellsOf x.hint ++ cellsOf x.blob ++ r)[j]? = some v
  rw [List.append_assoc, List.getElem?_append_left hj]
  exact hv
theorem rec_blob {w : World} {g o : Nat} {x : PRec} {r : List Value} (hx : RecIn x) (h : w.rangeAt g o (x.cells ++ r)) : w.rangeAt g (o + 35) (cellsOf x.blob) := fun j v hv => by
  have hj : j < (cellsOf x.blob).length := (List.getElem?_eq_some_iff.1 hv).1
  rw [Nat.add_assoc, Nat.add_comm 35 j]
  refine h (j + 35) v ?_
  show (cellsOf x.hint ++ cellsOf x.blob ++ r)[j + 32]? = some v
  have e : (cellsOf x.hint).length = 32 := by rw [cellsOf_len, hx.hint]
  rw [List.append_assoc, List.getElem?_append_right (by omega), e, Nat.add_sub_cancel, List.getElem?_append_left hj]
  exact hv
theorem range_nil {w : World} {g o : Nat} {cs : List Value} (h : w.rangeAt g o cs) : w.rangeAt g o (cs ++ []) := by rw [List.append_nil]; exact h

/-! ### Which may be, and the text -/
def recOk (x : PRec) : Bool := decide (0 ≤ x.tower) && (decide (x.tower ≤ 15) && (decide (0 ≤ x.channel) && (decide (x.channel ≤ 1048576) && (decide (0 ≤ x.state) && decide (x.state ≤ 1048576)))))
theorem recOk_iff {x : PRec} : recOk x = true ↔ (0 ≤ x.tower ∧ x.tower ≤ 15) ∧ (0 ≤ x.channel ∧ x.channel ≤ 1048576) ∧ 0 ≤ x.state ∧ x.state ≤ 1048576 := by
  simp [recOk, and_assoc]
theorem noRec_ok : recOk noRec = true := by decide
/-- A receipt's text. -/
def textB (x : PRec) : List UInt8 := numsB [x.tower, x.channel, x.state] ++ (x.hint ++ x.blob)
theorem nums3 (a b c : Int) : numsB [a, b, c] = numB a ++ (numB b ++ numB c) := by simp [numsB]
theorem textB_len {x : PRec} (h : RecIn x) : (textB x).length ≤ 91 := by
  have n1 := (numB_len x.tower).2
  have n2 := (numB_len x.channel).2
  have n3 := (numB_len x.state).2
  have h1 := h.hint
  have h2 := h.blob
  simp only [textB, nums3, List.length_append]
  omega

/-! ### Reading -/
def recR (s : List UInt8 × Int) : PRec × (List UInt8 × Int) :=
  (⟨(upR s 15).1, (upR (upR s 15).2 1048576).1, (upR (upR (upR s 15).2 1048576).2 1048576).1, (sumR (upR (upR (upR s 15).2 1048576).2 1048576).2).1, (sumR (sumR (upR (upR (upR s 15).2 1048576).2 1048576).2).2).1⟩, (sumR (sumR (upR (upR (upR s 15).2 1048576).2 1048576).2).2).2)
theorem recR_parts (s : List UInt8 × Int) : ∃ (a b c : Int) (d e : List UInt8) (s1 s2 s3 s4 s5 : List UInt8 × Int), upR s 15 = (a, s1) ∧ upR s1 1048576 = (b, s2) ∧ upR s2 1048576 = (c, s3) ∧ sumR s3 = (d, s4) ∧ sumR s4 = (e, s5) ∧ recR s = (⟨a, b, c, d, e⟩, s5) :=
  ⟨_, _, _, _, _, _, _, _, _, _, rfl, rfl, rfl, rfl, rfl, rfl⟩
theorem recR_ok_all (s : List UInt8 × Int) : recOk (recR s).1 = true := by
  obtain ⟨a, b, c, d, e, s1, s2, s3, s4, s5, e1, e2, e3, _, _, e6⟩ := recR_parts s
  have h1 := upR_range s (m := 15) (by omega)
  have h2 := upR_range s1 (m := 1048576) (by omega)
  have h3 := upR_range s2 (m := 1048576) (by omega)
  rw [e1] at h1
  rw [e2] at h2
  rw [e3] at h3
  rw [e6]
  exact recOk_iff.2 ⟨h1, h2, h3.1, h3.2⟩
theorem recR_in (s : List UInt8 × Int) : RecIn (recR s).1 := by
  have h := recOk_iff.1 (recR_ok_all s)
  refine ⟨⟨by omega, by omega⟩, ⟨by omega, by omega⟩, ⟨by omega, by omega⟩, sumR_len _, sumR_len _⟩
theorem recR_put {x : PRec} (t : List UInt8) (hx : RecIn x) (h : recOk x = true) : recR (textB x ++ t, 0) = (x, (t, 0)) := by
  obtain ⟨⟨h1, h2⟩, ⟨h3, h4⟩, h5, h6⟩ := recOk_iff.1 h
  obtain ⟨a, b, c, d, e, s1, s2, s3, s4, s5, e1, e2, e3, e4, e5, e6⟩ := recR_parts (textB x ++ t, 0)
  rw [show textB x ++ t = numB x.tower ++ (numB x.channel ++ (numB x.state ++ (x.hint ++ (x.blob ++ t)))) by simp [textB, nums3, List.append_assoc], upR_put _ h1 h2 (by omega)] at e1
  cases e1
  rw [upR_put _ h3 h4 (by omega)] at e2
  cases e2
  rw [upR_put _ h5 h6 (by omega)] at e3
  cases e3
  rw [sumR_put _ hx.hint] at e4
  cases e4
  rw [sumR_put _ hx.blob] at e5
  cases e5
  exact e6
/-- The error that is told of bytes, and the receipt. -/
def readE (b : List UInt8) : Int := doneE (recR (b, 0)).2
def readX (b : List UInt8) : PRec := if readE b = 0 then (recR (b, 0)).1 else noRec
theorem readX_in (b : List UInt8) : RecIn (readX b) := by
  unfold readX
  split
  · exact recR_in _
  · exact noRec_in
theorem read_back {x : PRec} (hx : RecIn x) (h : recOk x = true) : readE (textB x) = 0 ∧ readX (textB x) = x := by
  have h1 := recR_put [] hx h
  rw [List.append_nil] at h1
  have h2 : readE (textB x) = 0 := by unfold readE; rw [h1]; rfl
  refine ⟨h2, ?_⟩
  unfold readX
  rw [if_pos h2, h1]
/-! ### One that is signed -/
def getT (b : List UInt8) : List UInt8 × (List UInt8 × Int) := textR (b, 0) 65536
def getQ (b : List UInt8) : List UInt8 × (List UInt8 × Int) := textR (getT b).2 65536
def getD (b : List UInt8) : Int := doneE (getQ b).2
end Go.Proofs.YtcmdpmialehjgaaGreatDoor
