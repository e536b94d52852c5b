/- What Of comes to: the sum of bytes. -/
import Derived.Test.YtmbfpopfabjodaaDoorEnd
namespace Go.Proofs.YtmbfpopfabjodaaDoor
open Go.RowKit

theorem sumAt_start {w : World} {hb : Nat} (h : w.heap[hb]? = some (.cells (hashRow start.list (List.replicate 64 0) 0).toArray 51 (0, 0))) : SumAt w hb [] :=
  ⟨List.replicate 64 0, ⟨h, rfl, by simp⟩, rfl⟩
theorem zero32_is : (cellsOf zero32).toArray = #[.int .u8 0, .int .u8 0, .int .u8 0, .int .u8 0, .int .u8 0, .int .u8 0, .int .u8 0, .int .u8 0, .int .u8 0, .int .u8 0, .int .u8 0, .int .u8 0, .int .u8 0, .int .u8 0, .int .u8 0, .int .u8 0, .int .u8 0, .int .u8 0, .int .u8 0, .int .u8 0, .int .u8 0, .int .u8 0, .int .u8 0, .int .u8 0, .int .u8 0, .int .u8 0, .int .u8 0, .int .u8 0, .int .u8 0, .int .u8 0, .int .u8 0, .int .u8 0] := rfl
theorem hash_size : (hashRow start.list (List.replicate 64 0) 0).toArray.size = 73 := rfl
theorem start_all : (hashRow start.list (List.replicate 64 0) 0).toArray.all (·.oneCell') = true := by
  rw [List.all_toArray]
  exact List.all_eq_true.2 (hashRow_one _ _ _)
theorem sum_all (l : List UInt8) : (cellsOf (sumOf l)).toArray.all (·.oneCell') = true := by
  rw [List.all_toArray]
  exact List.all_eq_true.2 (cellsOf_one _)
theorem sum_size (l : List UInt8) : (cellsOf (sumOf l)).toArray.size = 32 := by rw [List.size_toArray, cellsOf_len]; exact sumOf_len l
theorem sum_size' (l : List UInt8) : (Tryd.prog.info? 24).map (·.size) = some (cellsOf (sumOf l)).toArray.size := by rw [sum_size]; exact Tryd.size24

/-- A call that sums: its result's block rb, its sum under way at hb. -/
def StartAt (w : World) (rb hb : Nat) (l : List UInt8) (W : World) : Prop :=
  SumAt W hb l ∧ W.heap[rb]? = some (.cells (cellsOf zero32).toArray 24 (0, 0)) ∧ rb = w.heap.size ∧ rb < hb ∧ KsAt W ∧ Below w.heap.size w W
theorem StartAt.begun {w w1 : World} (hk : KsAt w) (hb1 : Below (w.alloc (.cells (cellsOf zero32).toArray 24)).heap.size (w.alloc (.cells (cellsOf zero32).toArray 24)) w1) :
    StartAt w w.heap.size w1.heap.size [] ((w1.alloc (.cells zeroHash 51)).setRow w1.heap.size (hashRow start.list (List.replicate 64 0) 0).toArray) := by
  have b1 : Below w.heap.size w w1 := ((Below.refl _ _).alloc (Nat.le_refl _) _).trans (hb1.mono (by simp))
  have b2 : Below w1.heap.size w1 (w1.alloc (.cells zeroHash 51)) := (Below.refl _ _).alloc (Nat.le_refl _) _
  have b3 : Below w1.heap.size w1 ((w1.alloc (.cells zeroHash 51)).setRow w1.heap.size (hashRow start.list (List.replicate 64 0) 0).toArray) := b2.trans (((but_setRow _ w1.heap.size _).mono b2.size).below (Nat.le_refl _))
  have hlt : w.heap.size < w1.heap.size := Nat.lt_of_lt_of_le (by simp) hb1.size
  have b4 : Below w.heap.size w ((w1.alloc (.cells zeroHash 51)).setRow w1.heap.size (hashRow start.list (List.replicate 64 0) 0).toArray) := b1.trans (b3.mono b1.size)
  refine ⟨sumAt_start (setRow_heap _ _ _ _ _ _ (heap_alloc_new _ _)), ?_, rfl, hlt, hk.below b4, b4⟩
  rw [b3.block _ hlt, hb1.block _ (by simp), heap_alloc_new]
theorem StartAt.step {w W W' : World} {rb hb : Nat} {l m : List UInt8} (h : StartAt w rb hb l W) (hs : SumAt W' hb m) (hb' : But W.heap.size hb W W') : StartAt w rb hb m W' := by
  obtain ⟨h1, h2, h3, h4, h5, h6⟩ := h
  exact ⟨hs, hb'.heap h2 (lt_of_block h2) (by omega), h3, h4, h5.but hb' (by omega), h6.trans ((hb'.mono h6.size).below (by omega))⟩
theorem StartAt.below {w W W' : World} {rb hb : Nat} {l : List UInt8} (h : StartAt w rb hb l W) (hb' : Below W.heap.size W W') : StartAt w rb hb l W' := by
  obtain ⟨h1, h2, h3, h4, h5, h6⟩ := h
  exact ⟨h1.below hb', (hb'.block _ (lt_of_block h2)).trans h2, h3, h4, h5.below hb', h6.trans (hb'.mono h6.size)⟩
/-- The sum is told. -/
theorem StartAt.told {w W W' : World} {rb hb : Nat} {l : List UInt8} (h : StartAt w rb hb l W) (hb' : But W.heap.size hb W W') : W'.heap[rb]? = some (.cells (cellsOf zero32).toArray 24 (0, 0)) ∧ Below w.heap.size w (W'.setRow rb (cellsOf (sumOf l)).toArray) := by
  obtain ⟨h1, h2, h3, h4, h5, h6⟩ := h
  have b1 : Below w.heap.size w W' := h6.trans ((hb'.mono h6.size).below (by omega))
  exact ⟨hb'.heap h2 (lt_of_block h2) (by omega), b1.trans (((but_setRow _ rb _).mono b1.size).below (by omega))⟩

set_option maxRecDepth 100000 in
set_option maxHeartbeats 1600000 in
theorem of_any {w : World} {a : Option Addr} {n c : Nat} {q : List UInt8} (h : Row w a n c q) (hk : KsAt w) (hn : n ≤ 1125899906842624) :
    Calls Tryd.prog 23 #[.slice a n c] w fun e w' => e = .returned (.agg (cellsOf (sumOf q)).toArray) ∧ Below w.heap.size w w' := by
  have hz := zero_row
  have HZS := Lib.hid zeroHash_size
  have H := Lib.hid h
  have HK := Lib.hid hk
  clear h hk
  go_enter Tryd.func23, Tryd.ntmps23
  go_wp2_with fail
  refine (begin_any _).mono ?_
  rintro e w1 ⟨rfl, hb1⟩
  have HB1 := Lib.hid hb1
  clear hb1
  go_upto_region 2 with (refine wpList_store_row rfl 51 _ _ rfl w1.heap.size (hashRow start.list (List.replicate 64 0) 0).toArray rfl rfl 51 zeroHash (heap_alloc_new _ _) (by rw [hash_size]; exact Tryd.size51) (by rw [hash_size]; exact HZS.out) start_all ?_)
  have hw5 := StartAt.begun HK.out HB1.out
  revert hw5
  generalize ((w1.alloc (.cells zeroHash 51)).setRow w1.heap.size (hashRow start.list (List.replicate 64 0) 0).toArray) = w5
  obtain ⟨hb, hhb⟩ : ∃ hb, hb = w1.heap.size := ⟨_, rfl⟩
  rw [← hhb]
  intro hw5
  have H5 := Lib.hid hw5
  clear hw5 hhb hz
  simp only [Act.put]
  go_wp2_with fail
  refine (put_any H5.out.1 (H.out.below H5.out.2.2.2.2.2) (Off.of_lt H.out (by have := H5.out.2.2.2.1; omega)) H5.out.2.2.2.2.1 (by have := H5.out.2.2.2.1; omega) (by simp; omega)).mono ?_
  rintro e w6 ⟨rfl, hs6, hb6⟩
  rw [List.nil_append] at hs6
  have H6 := Lib.hid (H5.out.step hs6 hb6)
  clear hs6 hb6
  go_wp2_with fail
  refine (end_any H6.out.1 H6.out.2.2.2.2.1 (by have := H6.out.2.2.2.1; omega) (by rw [H.out.1]; exact hn)).mono ?_
  rintro e w7 ⟨rfl, hb7⟩
  have ht := H6.out.told hb7
  have HT1 := Lib.hid ht.1
  have HT2 := Lib.hid ht.2
  clear hb7 ht
  go_wp2_with (refine wpList_store_row rfl 24 _ _ rfl w.heap.size (cellsOf (sumOf q)).toArray rfl rfl 24 (cellsOf zero32).toArray HT1.out (sum_size' q) (by rw [sum_size]; rfl) (sum_all q) ?_)
  exact bodyPost_ret (results_cell_row rfl _ _ w.heap.size 24 (cellsOf (sumOf q)).toArray (0, 0) _ rfl (setRow_heap w7 w.heap.size _ _ 24 _ HT1.out) Tryd.underlying24 rfl (sum_size' q)) rfl ⟨rfl, HT2.out⟩
end Go.Proofs.YtmbfpopfabjodaaDoor
