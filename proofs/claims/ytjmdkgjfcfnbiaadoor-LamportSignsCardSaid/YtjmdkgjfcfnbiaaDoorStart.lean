/- A call that sums: what stands under way. -/
import Derived.Test.YtjmdkgjfcfnbiaaDoorEnd
namespace Go.Proofs.YtjmdkgjfcfnbiaaDoor
open Go.RowKit

theorem sumAt_start {w : World} {hb : Nat} (h : w.heap[hb]? = some (.cells (hashRow start.list (List.replicate 64 0) 0).toArray 45 (0, 0))) : SumAt w hb [] :=
  ⟨List.replicate 64 0, ⟨h, rfl, by simp⟩, rfl⟩
theorem zero32_is : (cellsOf zero32).toArray = #[.int .u8 0, .int .u8 0, .int .u8 0, .int .u8 0, .int .u8 0, .int .u8 0, .int .u8 0, .int .u8 0, .int .u8 0, .int .u8 0, .int .u8 0, .int .u8 0, .int .u8 0, .int .u8 0, .int .u8 0, .int .u8 0, .int .u8 0, .int .u8 0, .int .u8 0, .int .u8 0, .int .u8 0, .int .u8 0, .int .u8 0, .int .u8 0, .int .u8 0, .int .u8 0, .int .u8 0, .int .u8 0, .int .u8 0, .int .u8 0, .int .u8 0, .int .u8 0] := rfl
theorem hash_size : (hashRow start.list (List.replicate 64 0) 0).toArray.size = 73 := rfl
theorem start_all : (hashRow start.list (List.replicate 64 0) 0).toArray.all (·.oneCell') = true := by
  rw [List.all_toArray]
  exact List.all_eq_true.2 (hashRow_one _ _ _)
theorem sum_all (l : List UInt8) : (cellsOf (sumOf l)).toArray.all (·.oneCell') = true := by
  rw [List.all_toArray]
  exact List.all_eq_true.2 (cellsOf_one _)
theorem sum_size (l : List UInt8) : (cellsOf (sumOf l)).toArray.size = 32 := by rw [List.size_toArray, cellsOf_len]; exact sumOf_len l
theorem sum_size' (l : List UInt8) : (Tryd.prog.info? 23).map (·.size) = some (cellsOf (sumOf l)).toArray.size := by rw [sum_size]; exact Tryd.size23

/-- A call that sums: its result's block rb, its sum under way at hb. -/
def StartAt (w : World) (rb hb : Nat) (l : List UInt8) (W : World) : Prop :=
  SumAt W hb l ∧ W.heap[rb]? = some (.cells (cellsOf zero32).toArray 23 (0, 0)) ∧ rb = w.heap.size ∧ rb < hb ∧ KsAt W ∧ Below w.heap.size w W
theorem StartAt.begun {w w1 : World} (hk : KsAt w) (hb1 : Below (w.alloc (.cells (cellsOf zero32).toArray 23)).heap.size (w.alloc (.cells (cellsOf zero32).toArray 23)) w1) :
    StartAt w w.heap.size w1.heap.size [] ((w1.alloc (.cells zeroHash 45)).setRow w1.heap.size (hashRow start.list (List.replicate 64 0) 0).toArray) := by
  have b1 : Below w.heap.size w w1 := ((Below.refl _ _).alloc (Nat.le_refl _) _).trans (hb1.mono (by simp))
  have b2 : Below w1.heap.size w1 (w1.alloc (.cells zeroHash 45)) := (Below.refl _ _).alloc (Nat.le_refl _) _
  have b3 : Below w1.heap.size w1 ((w1.alloc (.cells zeroHash 45)).setRow w1.heap.size (hashRow start.list (List.replicate 64 0) 0).toArray) := b2.trans (((but_setRow _ w1.heap.size _).mono b2.size).below (Nat.le_refl _))
  have hlt : w.heap.size < w1.heap.size := Nat.lt_of_lt_of_le (by simp) hb1.size
  have b4 : Below w.heap.size w ((w1.alloc (.cells zeroHash 45)).setRow w1.heap.size (hashRow start.list (List.replicate 64 0) 0).toArray) := b1.trans (b3.mono b1.size)
  refine ⟨sumAt_start (setRow_heap _ _ _ _ _ _ (heap_alloc_new _ _)), ?_, rfl, hlt, hk.below b4, b4⟩
  rw [b3.block _ hlt, hb1.block _ (by simp), heap_alloc_new]
theorem StartAt.step {w W W' : World} {rb hb : Nat} {l m : List UInt8} (h : StartAt w rb hb l W) (hs : SumAt W' hb m) (hb' : But W.heap.size hb W W') : StartAt w rb hb m W' := by
  obtain ⟨h1, h2, h3, h4, h5, h6⟩ := h
  exact ⟨hs, hb'.heap h2 (lt_of_block h2) (by omega), h3, h4, h5.but hb' (by omega), h6.trans ((hb'.mono h6.size).below (by omega))⟩
theorem StartAt.below {w W W' : World} {rb hb : Nat} {l : List UInt8} (h : StartAt w rb hb l W) (hb' : Below W.heap.size W W') : StartAt w rb hb l W' := by
  obtain ⟨h1, h2, h3, h4, h5, h6⟩ := h
  exact ⟨h1.below hb', (hb'.block _ (lt_of_block h2)).trans h2, h3, h4, h5.below hb', h6.trans (hb'.mono h6.size)⟩
/-- The sum is told. -/
theorem StartAt.told {w W W' : World} {rb hb : Nat} {l : List UInt8} (h : StartAt w rb hb l W) (hb' : But W.heap.size hb W W') : W'.heap[rb]? = some (.cells (cellsOf zero32).toArray 23 (0, 0)) ∧ Below w.heap.size w (W'.setRow rb (cellsOf (sumOf l)).toArray) := by
  obtain ⟨h1, h2, h3, h4, h5, h6⟩ := h
  have b1 : Below w.heap.size w W' := h6.trans ((hb'.mono h6.size).below (by omega))
  exact ⟨hb'.heap h2 (lt_of_block h2) (by omega), b1.trans (((but_setRow _ rb _).mono b1.size).below (by omega))⟩
end Go.Proofs.YtjmdkgjfcfnbiaaDoor
