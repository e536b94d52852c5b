/- A sum under way, as it lies in memory: eight words, a block's bytes, how many there were. -/
import Derived.Test.YtjmdkgjfcfnbiaaDoorSpread
namespace Go.Proofs.YtjmdkgjfcfnbiaaDoor
open Go.RowKit

def hashRow (ws : List (BitVec 32)) (bs : List UInt8) (m : Nat) : List Value := wordsOf ws ++ (cellsOf bs ++ [.int .i64 (m : Nat)])
theorem hashRow_word {ws : List (BitVec 32)} {bs : List UInt8} {m i : Nat} (h : i < ws.length) : (hashRow ws bs m)[i]? = some (.int .u32 (num (ws.getD i 0))) := by
  unfold hashRow
  rw [List.getElem?_append_left (by simpa [wordsOf] using h), wordsOf_get h]
theorem wordsOf_len (l : List (BitVec 32)) : (wordsOf l).length = l.length := by simp [wordsOf]
theorem cellsOf_len (l : List UInt8) : (cellsOf l).length = l.length := by simp [cellsOf]
theorem hashRow_many {ws : List (BitVec 32)} {bs : List UInt8} {m : Nat} (h : ws.length = 8) (hb : bs.length = 64) : (hashRow ws bs m)[72]? = some (.int .i64 (m : Nat)) := by
  unfold hashRow
  rw [List.getElem?_append_right (by rw [wordsOf_len]; omega), List.getElem?_append_right (by rw [wordsOf_len, cellsOf_len]; omega), wordsOf_len, cellsOf_len, h, hb]
  rfl
theorem hashRow_byte {ws : List (BitVec 32)} {bs : List UInt8} {m j : Nat} (h : ws.length = 8) (hj : j < bs.length) : (hashRow ws bs m)[8 + j]? = some (.int .u8 (((bs.getD j 0).toNat : Nat) : Int)) := by
  unfold hashRow
  rw [List.getElem?_append_right (by rw [wordsOf_len]; omega), wordsOf_len, h, show 8 + j - 8 = j by omega, List.getElem?_append_left (by rw [cellsOf_len]; exact hj), cellsOf_get hj]
theorem hashRow_set {ws : List (BitVec 32)} {bs : List UInt8} {m i : Nat} (x : BitVec 32) (h : i < ws.length) : (hashRow ws bs m).set i (.int .u32 (num x)) = hashRow (ws.set i x) bs m := by
  unfold hashRow
  rw [List.set_append_left _ _ (by simpa [wordsOf] using h)]
  simp [wordsOf]
theorem hashRow_setMany {ws : List (BitVec 32)} {bs : List UInt8} {m : Nat} (m' : Nat) (h : ws.length = 8) (hb : bs.length = 64) : (hashRow ws bs m).set 72 (.int .i64 (m' : Nat)) = hashRow ws bs m' := by
  unfold hashRow
  rw [List.set_append_right _ _ (by rw [wordsOf_len]; omega), List.set_append_right _ _ (by rw [wordsOf_len, cellsOf_len]; omega), wordsOf_len, cellsOf_len, h, hb]
  rfl
theorem hashRow_splice {ws : List (BitVec 32)} {bs q : List UInt8} {m off : Nat} (h : ws.length = 8) (hq : off + q.length ≤ bs.length) : splice (hashRow ws bs m) (8 + off) (cellsOf q) = hashRow ws (splice bs off q) m := by
  unfold hashRow splice
  have e1 : (8 + off) - (wordsOf ws).length = off := by rw [wordsOf_len, h]; omega
  have e2 : (8 + off + (cellsOf q).length) - (wordsOf ws).length = off + q.length := by rw [wordsOf_len, cellsOf_len, h]; omega
  rw [List.take_append, List.drop_append, e1, e2, List.take_of_length_le (l := wordsOf ws) (by rw [wordsOf_len]; omega), List.drop_of_length_le (l := wordsOf ws) (by rw [wordsOf_len]; omega)]
  rw [List.take_append_of_le_length (by rw [cellsOf_len]; omega), List.drop_append_of_le_length (by rw [cellsOf_len]; omega)]
  simp [cellsOf]
theorem hashRow_len {ws : List (BitVec 32)} {bs : List UInt8} {m : Nat} (h : ws.length = 8) (hb : bs.length = 64) : (hashRow ws bs m).length = 73 := by
  simp [hashRow, wordsOf, cellsOf, h, hb]
theorem hashRow_one (ws : List (BitVec 32)) (bs : List UInt8) (m : Nat) : ∀ v ∈ hashRow ws bs m, v.oneCell' = true := by
  intro v hv
  unfold hashRow at hv
  simp only [List.mem_append, List.mem_singleton] at hv
  rcases hv with hv | hv | rfl
  · exact wordsOf_one _ v hv
  · exact cellsOf_one _ v hv
  · rfl

/-- A sum under way at block hb. -/
def HashAt (w : World) (hb : Nat) (ws : List (BitVec 32)) (bs : List UInt8) (m : Nat) : Prop :=
  w.heap[hb]? = some (.cells (hashRow ws bs m).toArray 45 (0, 0)) ∧ ws.length = 8 ∧ bs.length = 64
theorem HashAt.word {w : World} {hb m i : Nat} {ws : List (BitVec 32)} {bs : List UInt8} (h : HashAt w hb ws bs m) (hi : i < 8) : w.cell? ⟨hb, i, none⟩ = some (.int .u32 (num (ws.getD i 0))) := by
  rw [cell_of_row w hb i _ _ _ h.1]; simpa using hashRow_word (by rw [h.2.1]; exact hi)
theorem HashAt.many {w : World} {hb m : Nat} {ws : List (BitVec 32)} {bs : List UInt8} (h : HashAt w hb ws bs m) : w.cell? ⟨hb, 72, none⟩ = some (.int .i64 (m : Nat)) := by
  rw [cell_of_row w hb 72 _ _ _ h.1]; simpa using hashRow_many h.2.1 h.2.2
theorem HashAt.free {w : World} {hb m : Nat} {ws : List (BitVec 32)} {bs : List UInt8} (h : HashAt w hb ws bs m) (i : Nat) : w.frozen? ⟨hb, i, none⟩ = false := frozen_of_row w hb i _ _ h.1
theorem HashAt.lt {w : World} {hb m : Nat} {ws : List (BitVec 32)} {bs : List UInt8} (h : HashAt w hb ws bs m) : hb < w.heap.size := lt_of_block h.1
theorem HashAt.below {w w' : World} {hb m : Nat} {ws : List (BitVec 32)} {bs : List UInt8} (h : HashAt w hb ws bs m) (hb' : Below w.heap.size w w') : HashAt w' hb ws bs m := ⟨(hb'.block _ h.lt).trans h.1, h.2⟩
theorem HashAt.but {w w' : World} {hb p m : Nat} {ws : List (BitVec 32)} {bs : List UInt8} (h : HashAt w hb ws bs m) (hb' : But w.heap.size p w w') (hp : hb ≠ p) : HashAt w' hb ws bs m := ⟨hb'.heap h.1 h.lt hp, h.2⟩
theorem HashAt.setWord {w : World} {hb m i : Nat} {ws : List (BitVec 32)} {bs : List UInt8} (h : HashAt w hb ws bs m) (hi : i < 8) (x : BitVec 32) : HashAt (w.setCell ⟨hb, i, none⟩ (.int .u32 (num x))) hb (ws.set i x) bs m := by
  refine ⟨?_, by rw [List.length_set]; exact h.2.1, h.2.2⟩
  rw [heap_setCell_same w hb i _ _ _ h.1, ← hashRow_set x (by rw [h.2.1]; exact hi)]
  simp
theorem HashAt.setMany {w : World} {hb m : Nat} {ws : List (BitVec 32)} {bs : List UInt8} (h : HashAt w hb ws bs m) (m' : Nat) : HashAt (w.setCell ⟨hb, 72, none⟩ (.int .i64 (m' : Nat))) hb ws bs m' := by
  refine ⟨?_, h.2⟩
  rw [heap_setCell_same w hb 72 _ _ _ h.1, ← hashRow_setMany (m := m) m' h.2.1 h.2.2]
  simp
/-- The block's bytes, as a slice of it. -/
theorem HashAt.row {w : World} {hb m : Nat} {ws : List (BitVec 32)} {bs : List UInt8} (h : HashAt w hb ws bs m) : Row w (some ⟨hb, 8, none⟩) 64 64 bs :=
  ⟨h.2.2, by omega, by unfold maxLen; omega, (fun e => by cases e), fun _ => ⟨hb, 8, rfl, h.lt, fun j hj => by
    rw [cell_of_row w hb _ _ _ _ h.1]; simpa using hashRow_byte h.2.1 (by rw [h.2.2]; exact hj)⟩⟩

/-- The constants lie where they were laid. -/
def KsAt (w : World) : Prop := ∀ i, i < 64 → w.cell? ⟨0, i, none⟩ = some (.int .u32 (num (ks.getD i 0)))
theorem KsAt.block {w w' : World} (h : KsAt w) (hb : w'.heap[0]? = w.heap[0]?) : KsAt w' := fun i hi => by
  rw [World.cell?_of_block (a := ⟨0, i, none⟩) (w := w) hb]; exact h i hi
theorem KsAt.lt {w : World} (h : KsAt w) : 0 < w.heap.size := World.block_lt_of_cell? w ⟨0, 0, none⟩ (h 0 (by decide))
theorem KsAt.below {w w' : World} (h : KsAt w) (hb : Below w.heap.size w w') : KsAt w' := h.block (hb.block 0 h.lt)
theorem KsAt.but {w w' : World} {p : Nat} (h : KsAt w) (hb : But w.heap.size p w w') (hp : p ≠ 0) : KsAt w' := h.block (hb.block 0 h.lt (Ne.symm hp))

/-- The first k words, each with its fellow of r added. -/
def addUp (l r : List (BitVec 32)) (k : Nat) : List (BitVec 32) := (List.zipWith (· + ·) l r).take k ++ l.drop k
theorem addUp_set (l r : List (BitVec 32)) (k : Nat) (hl : l.length = 8) (hr : r.length = 8) (hk : k < 8) : (addUp l r k).set k (l.getD k 0 + r.getD k 0) = addUp l r (k + 1) := by
  have hz : (List.zipWith (· + ·) l r).length = 8 := by simp [hl, hr]
  unfold addUp
  rw [List.set_append_right _ _ (by simp [hl]; omega)]
  have e : ((List.zipWith (· + ·) l r).take k).length = k := by rw [List.length_take, hz]; omega
  rw [e, Nat.sub_self, List.take_succ_eq_append_getElem (by omega : k < (List.zipWith (· + ·) l r).length), List.append_assoc, List.drop_eq_getElem_cons (by omega : k < l.length), List.set_cons_zero]
  simp [List.getD, hl, hr, hk]
theorem addUp_get (l r : List (BitVec 32)) (k : Nat) (hl : l.length = 8) (hr : r.length = 8) (hk : k < 8) : (addUp l r k).getD k 0 = l.getD k 0 := by
  have e : ((List.zipWith (· + ·) l r).take k).length = k := by rw [List.length_take, List.length_zipWith, hl, hr]; omega
  unfold addUp List.getD
  rw [List.getElem?_append_right (by omega), e, List.getElem?_drop, Nat.sub_self, Nat.add_zero]
theorem addUp_none (l r : List (BitVec 32)) : addUp l r 0 = l := by simp [addUp]
theorem addUp_all (v V : Eight) : addUp v.list V.list 8 = (v.add V).list := rfl
end Go.Proofs.YtjmdkgjfcfnbiaaDoor
