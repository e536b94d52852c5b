/- The document's own Of: its padding and its blocks, as plain lists; what stays while it appends. -/
import Derived.Test.YtfjedbfghcdbdaaDoorOne
import Derived.Test.YtfjedbfghcdbdaaDoorEqSum
namespace Go.Proofs.YtfjedbfghcdbdaaDoor
open Go.RowKit

/-- How many bytes 0 there are. -/
def zerosOf (n : Nat) : Nat := (119 - n % 64) % 64
theorem zeros_end (n : Nat) : (n + 1 + zerosOf n) % 64 = 56 := by unfold zerosOf; omega
theorem zeros_mid (n k : Nat) (h : k < zerosOf n) : (n + 1 + k) % 64 ≠ 56 := by unfold zerosOf at h; omega
theorem behind_take (m : Nat) (h : 0 < m) (h2 : m ≤ 64) : behind.take m = [128] ++ List.replicate (m - 1) 0 := by
  obtain ⟨k, rfl⟩ : ∃ k, m = k + 1 := ⟨m - 1, by omega⟩
  unfold behind
  rw [List.take_succ_cons, List.take_replicate, Nat.min_eq_left (by omega)]
  rfl
theorem pad_ref (q : List UInt8) : pad q = ((q ++ [128]) ++ List.replicate (zerosOf q.length) 0) ++ bitsOf q.length := by
  unfold pad
  have h : fill q.length = zerosOf q.length + 1 := by unfold fill zerosOf; omega
  rw [h, behind_take _ (by omega) (by unfold zerosOf; omega), Nat.add_sub_cancel]
  simp only [List.append_assoc]
theorem bits_len (n : Nat) : (bitsOf n).length = 8 := rfl
/-- The t-th byte of how many bits there were. -/
theorem bits_byte (n t I : Nat) (hn : n ≤ 1000000) (ht : t < 8) (hI : I = 7 - t) : (((bitsOf n).getD t 0).toNat : Int) = ((n : Int) * 8) / 2 ^ (8 * I) % 256 := by
  subst hI
  have e1 : (BitVec.ofNat 32 (8 * n / 4294967296)).toNat = 0 := by rw [BitVec.toNat_ofNat]; omega
  have e2 : (BitVec.ofNat 32 (8 * n)).toNat = 8 * n := by rw [BitVec.toNat_ofNat]; omega
  have key : ∀ x y : Nat, ((UInt8.ofNat x).toNat : Int) = ((x : Nat) : Int) % 256 := fun x _ => by rw [UInt8.toNat_ofNat']; omega
  rcases (show t = 0 ∨ t = 1 ∨ t = 2 ∨ t = 3 ∨ t = 4 ∨ t = 5 ∨ t = 6 ∨ t = 7 by omega) with rfl | rfl | rfl | rfl | rfl | rfl | rfl | rfl
  · show ((UInt8.ofNat ((BitVec.ofNat 32 (8 * n / 4294967296)).toNat / 16777216)).toNat : Int) = _
    rw [key _ 0, e1]; simp; omega
  · show ((UInt8.ofNat ((BitVec.ofNat 32 (8 * n / 4294967296)).toNat / 65536)).toNat : Int) = _
    rw [key _ 0, e1]; simp; omega
  · show ((UInt8.ofNat ((BitVec.ofNat 32 (8 * n / 4294967296)).toNat / 256)).toNat : Int) = _
    rw [key _ 0, e1]; simp; omega
  · show ((UInt8.ofNat ((BitVec.ofNat 32 (8 * n / 4294967296)).toNat)).toNat : Int) = _
    rw [key _ 0, e1]; simp; omega
  · show ((UInt8.ofNat ((BitVec.ofNat 32 (8 * n)).toNat / 16777216)).toNat : Int) = _
    rw [key _ 0, e2]; simp; omega
  · show ((UInt8.ofNat ((BitVec.ofNat 32 (8 * n)).toNat / 65536)).toNat : Int) = _
    rw [key _ 0, e2]; simp; omega
  · show ((UInt8.ofNat ((BitVec.ofNat 32 (8 * n)).toNat / 256)).toNat : Int) = _
    rw [key _ 0, e2]; simp; omega
  · show ((UInt8.ofNat ((BitVec.ofNat 32 (8 * n)).toNat)).toNat : Int) = _
    rw [key _ 0, e2]; simp; omega

theorem own_apart {w : World} {B b : Nat} {v : Value} {l : List UInt8} {cs : Array Value} {t : TypeId} (h : Own w B v l) (hb : w.heap[b]? = some (.cells cs t (0, 0))) (ht : t ≠ 5) : some b ≠ v.ownBlock := by
  rcases h.2 with ⟨rfl, _⟩ | ⟨g, cap, cur, rfl, _, hh, _⟩
  · intro e; cases e
  · intro e
    simp [Value.ownBlock] at e
    subst e
    rw [hh] at hb
    simp at hb
    exact ht hb.2.symm
theorem take_snoc (l : List UInt8) (t : Nat) (h : t < l.length) : l.take t ++ [l.getD t 0] = l.take (t + 1) := by
  rw [List.take_succ_eq_append_getElem h]
  simp [List.getD, h]
/-- A slice of bytes that was made just now. -/
theorem own_fresh {w : World} {B g n : Nat} {l : List UInt8} (hg : w.heap[g]? = some (.cells (cellsOf l).toArray 5 (0, 0))) (hB : B ≤ g) (hn : n = l.length) (hm : n ≤ 1000) : Own w B (.slice (some ⟨g, 0, none⟩) n n) l := by
  subst hn
  exact ⟨by rw [cellsOf_len, Nat.mul_one], .inr ⟨g, l.length, _, rfl, hB, hg, Nat.le_refl _, by unfold maxLen; omega, by rw [List.size_toArray, cellsOf_len, Nat.mul_one], by rw [Nat.mul_one]; exact List.take_of_length_le (by rw [List.toList_toArray, cellsOf_len]; exact Nat.le_refl _)⟩⟩
theorem row_one {w : World} {z : Int} {b : UInt8} (hz : z = ((b.toNat : Nat) : Int)) : Row (w.alloc (.cells #[.int .u8 z] 5)) (some ⟨w.heap.size, 0, none⟩) 1 1 [b] := by
  subst hz
  exact row_all (l := [b]) (heap_alloc_new _ _) 1 rfl (by omega)
theorem row_four {w : World} (x : BitVec 32) : Row (w.alloc (.cells #[.int .u8 (num x / 16777216 % 256), .int .u8 (num x / 65536 % 256), .int .u8 (num x / 256 % 256), .int .u8 (num x % 256)] 5)) (some ⟨w.heap.size, 0, none⟩) 4 4 (four x) := by
  rw [← four_cells]
  exact row_all (heap_alloc_new _ _) 4 rfl (by omega)
theorem four_succ (V : Eight) (j : Nat) (h : j < 8) : (V.list.take j).flatMap four ++ four (V.list.getD j 0) = (V.list.take (j + 1)).flatMap four := by
  rcases (show j = 0 ∨ j = 1 ∨ j = 2 ∨ j = 3 ∨ j = 4 ∨ j = 5 ∨ j = 6 ∨ j = 7 by omega) with rfl | rfl | rfl | rfl | rfl | rfl | rfl | rfl <;> rfl
theorem four_size (V : Eight) (j : Nat) (h : j ≤ 8) : ((V.list.take j).flatMap four).length = 4 * j := by
  rcases (show j = 0 ∨ j = 1 ∨ j = 2 ∨ j = 3 ∨ j = 4 ∨ j = 5 ∨ j = 6 ∨ j = 7 ∨ j = 8 by omega) with rfl | rfl | rfl | rfl | rfl | rfl | rfl | rfl | rfl <;> rfl
/-- The document's sum as it is told. -/
def OutAt (w : World) (hv : Nat) (V : Eight) (v : Value) (j : Nat) (W : World) : Prop :=
  Own W w.heap.size v ((V.list.take j).flatMap four) ∧ W.heap[hv]? = some (.cells (wordsOf V.list).toArray 36 (0, 0)) ∧ Below w.heap.size w W
theorem OutAt.grown {w W W' : World} {hv j : Nat} {V : Eight} {v v' : Value} (h : OutAt w hv V v j W) (ho : Own W' w.heap.size v' ((V.list.take (j + 1)).flatMap four)) (hg : W.grownBy W' v.ownBlock) : OutAt w hv V v' (j + 1) W' :=
  ⟨ho, (hg.block _ (lt_of_block h.2.1) (own_apart h.1 h.2.1 (by decide))).trans h.2.1, Below.grown h.2.2 hg h.2.2.size h.1.lt⟩
theorem OutAt.below {w W W' : World} {hv j : Nat} {V : Eight} {v : Value} (h : OutAt w hv V v j W) (hb : Below W.heap.size W W') : OutAt w hv V v j W' :=
  ⟨h.1.below hb, (hb.block _ (lt_of_block h.2.1)).trans h.2.1, h.2.2.trans (hb.mono h.2.2.size)⟩
/-- The document's Of under way: its bytes so far, its constants, its eight words. -/
def RefAt (w : World) (kg vb : Nat) (ws : List (BitVec 32)) (v : Value) (L : List UInt8) (W : World) : Prop :=
  Own W w.heap.size v L ∧ W.heap[kg]? = some (.cells (wordsOf ks).toArray 36 (0, 0)) ∧ W.heap[vb]? = some (.cells (wordsOf ws).toArray 36 (0, 0)) ∧ Below w.heap.size w W
theorem RefAt.below {w W W' : World} {kg vb : Nat} {ws : List (BitVec 32)} {v : Value} {L : List UInt8} (h : RefAt w kg vb ws v L W) (hb : Below W.heap.size W W') : RefAt w kg vb ws v L W' :=
  ⟨h.1.below hb, (hb.block _ (lt_of_block h.2.1)).trans h.2.1, (hb.block _ (lt_of_block h.2.2.1)).trans h.2.2.1, h.2.2.2.trans (hb.mono h.2.2.2.size)⟩
theorem RefAt.grown {w W W' : World} {kg vb : Nat} {ws : List (BitVec 32)} {v v' : Value} {L L' : List UInt8} (h : RefAt w kg vb ws v L W) (ho : Own W' w.heap.size v' L') (hg : W.grownBy W' v.ownBlock) : RefAt w kg vb ws v' L' W' :=
  ⟨ho, (hg.block _ (lt_of_block h.2.1) (own_apart h.1 h.2.1 (by decide))).trans h.2.1, (hg.block _ (lt_of_block h.2.2.1) (own_apart h.1 h.2.2.1 (by decide))).trans h.2.2.1, Below.grown h.2.2.2 hg h.2.2.2.size h.1.lt⟩
end Go.Proofs.YtfjedbfghcdbdaaDoor
