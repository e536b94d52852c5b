/- Covers and marks as plain functions on bytes. No function of the program is named. -/
import Derived.Test.YtjfkhclcjggoeaaDoorSha
import Derived.Test.YtjfkhclcjggoeaaDoorMemory
namespace Go.Proofs.YtjfkhclcjggoeaaDoor
open Go.RowKit

/-- A number in three bytes, the highest first. -/
def three (j : Nat) : List UInt8 := [UInt8.ofNat (j / 65536), UInt8.ofNat (j / 256), UInt8.ofNat j]
/-- The j-th 32 bytes of a key. -/
def keySum (s : List UInt8) (j : Nat) : List UInt8 := sumOf (partsOf 51 [s, three j])
theorem keySum_len (s : List UInt8) (j : Nat) : (keySum s j).length = 32 := sumOf_len _
/-- A byte of a key. -/
def kb (s : List UInt8) (i : Nat) : UInt8 := (keySum s (i / 32)).getD (i % 32) 0
/-- So many bytes of a key. -/
def keyB (s : List UInt8) (n : Nat) : List UInt8 := (List.range n).map (kb s)
theorem keyB_len (s : List UInt8) (n : Nat) : (keyB s n).length = n := by simp [keyB]
theorem keyB_get {s : List UInt8} {n i : Nat} (h : i < n) : (keyB s n).getD i 0 = kb s i := by simp [keyB, List.getD, h]
/-- Bytes, each exclusive-or the key's at its place. -/
def coverB (s t : List UInt8) : List UInt8 := (List.range t.length).map fun i => t.getD i 0 ^^^ kb s i
theorem coverB_len (s t : List UInt8) : (coverB s t).length = t.length := by simp [coverB]
theorem coverB_get {s t : List UInt8} {i : Nat} (h : i < t.length) : (coverB s t).getD i 0 = t.getD i 0 ^^^ kb s i := by simp [coverB, List.getD, h]
theorem xor_back (a b : UInt8) : a ^^^ b ^^^ b = a := by rw [UInt8.xor_assoc, UInt8.xor_self, UInt8.xor_zero]
theorem coverB_back (s t : List UInt8) : coverB s (coverB s t) = t := by
  refine bytes_eq _ _ (by rw [coverB_len, coverB_len]) (fun i hi => ?_)
  rw [coverB_len, coverB_len] at hi
  rw [coverB_get (by rw [coverB_len]; exact hi), coverB_get hi, xor_back]
/-- A text's mark. -/
def markB (s t : List UInt8) : List UInt8 := (sumOf (partsOf 52 [s, t])).take 16
theorem markB_len (s t : List UInt8) : (markB s t).length = 16 := by
  unfold markB
  rw [List.length_take, sumOf_len]
  rfl
/-- What a text is covered to. -/
def closeB (s t : List UInt8) : List UInt8 := markB s t ++ coverB s t
theorem closeB_len (s t : List UInt8) : (closeB s t).length = 16 + t.length := by rw [closeB, List.length_append, markB_len, coverB_len]
theorem closeB_take (s t : List UInt8) : (closeB s t).take 16 = markB s t := by
  unfold closeB
  rw [List.take_append_of_le_length (by rw [markB_len]; exact Nat.le_refl _), List.take_of_length_le (by rw [markB_len]; exact Nat.le_refl _)]
theorem closeB_drop (s t : List UInt8) : (closeB s t).drop 16 = coverB s t := by
  unfold closeB
  rw [List.drop_append_of_le_length (by rw [markB_len]; exact Nat.le_refl _), List.drop_eq_nil_of_le (by rw [markB_len]; exact Nat.le_refl _), List.nil_append]
/-- Parts of a sum are few enough. -/
theorem parts2_few (tag : UInt8) {s t : List UInt8} (hs : s.length = 32) (ht : t.length ≤ 1000000) : (partsOf tag [s, t]).length ≤ 1125899906842624 := by
  unfold partsOf partOf
  simp only [List.flatMap_cons, List.flatMap_nil, List.length_cons, List.length_append, four_len, List.length_nil, hs]
  omega
/-- What is known of a block: its first k bytes are the key's. -/
def KeyTo (s : List UInt8) (n k : Nat) (L : List UInt8) : Prop := L.length = n ∧ ∀ i, i < k → i < n → L.getD i 0 = kb s i
theorem KeyTo.all {s L : List UInt8} {n k : Nat} (h : KeyTo s n k L) (hk : n ≤ k) : L = keyB s n :=
  bytes_eq _ _ (by rw [keyB_len, h.1]) (fun i hi => by rw [h.1] at hi; rw [h.2 i (by omega) hi, keyB_get hi])
theorem KeyTo.none (s : List UInt8) (n : Nat) (L : List UInt8) (h : L.length = n) : KeyTo s n 0 L := ⟨h, fun i hi => by omega⟩
theorem KeyTo.next {s L : List UInt8} {n j m : Nat} (h : KeyTo s n (32 * j) L) (hm : m = min 32 (n - 32 * j)) (hj : 32 * j < n) : KeyTo s n (32 * (j + 1)) (splice L (32 * j) ((keySum s j).take m)) := by
  have hl := h.1
  have hsl : ((keySum s j).take m).length = m := by rw [List.length_take, keySum_len]; omega
  refine ⟨?_, fun i hi hin => ?_⟩
  · unfold splice
    rw [List.length_append, List.length_append, List.length_take, List.length_drop, hsl, hl]
    omega
  · unfold splice
    simp only [List.getD]
    by_cases h1 : i < 32 * j
    · rw [← h.2 i h1 hin]
      simp only [List.getD]
      rw [List.getElem?_append_left (by rw [List.length_take, hl]; omega), List.getElem?_take, if_pos h1]
    · have htl : (L.take (32 * j)).length = 32 * j := by rw [List.length_take, hl]; omega
      rw [List.getElem?_append_right (by rw [htl]; omega), htl, List.getElem?_append_left (by rw [hsl]; omega), List.getElem?_take, if_pos (by omega)]
      unfold kb
      rw [show i / 32 = j by omega, show i % 32 = i - 32 * j by omega]
      rfl
end Go.Proofs.YtjfkhclcjggoeaaDoor
