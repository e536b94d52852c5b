/- Package appoint's sums: a hint, a key, a mark. -/
import Derived.Test.YtcmdpmialehjgaaGreatDoorSha
import Derived.Test.YtcmdpmialehjgaaGreatDoorMemory
namespace Go.Proofs.YtcmdpmialehjgaaGreatDoor
open Go.RowKit

set_option linter.unusedSimpArgs false in
set_option maxRecDepth 100000 in
set_option maxHeartbeats 6400000 in
theorem hint_any {w : World} {s : List UInt8} (hs : s.length = 32) (hk : KsAt w) : Calls Tryz.prog 31 #[.agg (cellsOf s).toArray] w fun e w' => e = .returned (.agg (cellsOf (sumOf (partsOf 71 [s]))).toArray) ∧ Below w.heap.size w w' := by
  have hlen : (partsOf 71 [s]).length ≤ 1125899906842624 := by
    unfold partsOf partOf
    simp only [List.flatMap_cons, List.flatMap_nil, List.length_cons, List.length_append, four_len, List.length_nil]
    omega
  obtain ⟨X, hX, hXl, hjoin⟩ : ∃ X, sumOf (partsOf 71 [s]) = X ∧ X.length = 32 ∧ ∀ (W : World) (gg : Nat) (a : Option Addr) (n c : Nat), KsAt W → W.heap[gg]? = some (.cells #[.slice a n c] 26 (0, 0)) → Row W a n c s → Calls Tryz.prog 43 #[.int .u8 71, .slice (some ⟨gg, 0, none⟩) 1 1] W fun e w' => e = .returned (.agg (cellsOf X).toArray) ∧ Below W.heap.size W w' :=
    ⟨_, rfl, sumOf_len _, fun W gg a n c hW hg hr => join_any 71 71 rfl (rows2_one hg hr) hW hlen⟩
  rw [hX]
  have HJ := Lib.hid hjoin
  have SX := Lib.hid (size_of hXl)
  have ZX : Hid ((cellsOf zero32).toArray.size = (cellsOf X).toArray.size) := Lib.hid (by rw [List.size_toArray, List.size_toArray, cellsOf_len, cellsOf_len, hXl]; rfl)
  clear hX hXl hjoin hlen
  have HK := Lib.hid hk
  have HS := Lib.hid hs
  clear hk hs
  go_enter Tryz.func31, Tryz.ntmps31
  go_upto_region 1 with (fail)
  rw [← zero32_is]
  have b1 : Below w.heap.size w ((w.alloc (.cells (cellsOf s).toArray 23)).alloc (.cells (cellsOf zero32).toArray 23)) := ((Below.refl _ _).alloc (Nat.le_refl _) _).alloc (by simp) _
  have h1 : ((w.alloc (.cells (cellsOf s).toArray 23)).alloc (.cells (cellsOf zero32).toArray 23)).heap[w.heap.size]? = some (.cells (cellsOf s).toArray 23 (0, 0)) := by
    rw [heap_alloc_old _ _ (by simp), heap_alloc_new]
  have h2 : ((w.alloc (.cells (cellsOf s).toArray 23)).alloc (.cells (cellsOf zero32).toArray 23)).heap[w.heap.size + 1]? = some (.cells (cellsOf zero32).toArray 23 (0, 0)) := heap_alloc_at _ _ _ (by simp)
  revert b1 h1 h2
  generalize ((w.alloc (.cells (cellsOf s).toArray 23)).alloc (.cells (cellsOf zero32).toArray 23)) = w3
  obtain ⟨g, hg⟩ : ∃ g, g = w.heap.size := ⟨_, rfl⟩
  obtain ⟨r, hr⟩ : ∃ r, r = g + 1 := ⟨_, rfl⟩
  rw [← hg, ← hr]
  intro b1 h1 h2
  rw [hg] at b1
  have HR : Hid (w.heap.size ≤ r) := Lib.hid (by omega)
  have HB1 := Lib.hid b1
  have H1 := Lib.hid h1
  have H2 := Lib.hid h2
  clear b1 h1 h2 hg hr
  go_wp2_with fail
  have b4 : Below w3.heap.size w3 (w3.alloc (.cells #[.slice (some ⟨g, 0, none⟩) 32 32] 26)) := (Below.refl _ _).alloc (Nat.le_refl _) _
  have r1 : Row (w3.alloc (.cells #[.slice (some ⟨g, 0, none⟩) 32 32] 26)) (some ⟨g, 0, none⟩) 32 32 s := (row_all H1.out 32 HS.out.symm (by omega)).below b4
  refine (HJ.out _ _ _ _ _ ((HK.out.below HB1.out).below b4) (heap_alloc_new _ _) r1).mono ?_
  rintro e w5 ⟨rfl, hb5⟩
  have HB6 := Lib.hid (b4.trans (hb5.mono b4.size))
  have HT1 := Lib.hid ((HB6.out.block _ (lt_of_block H2.out)).trans H2.out)
  clear b4 r1 hb5
  go_wp2_with (refine wpList_store_row rfl 23 _ _ rfl r (cellsOf X).toArray rfl rfl 23 (cellsOf zero32).toArray HT1.out SX.out ZX.out (all_oneCell_toArray (cellsOf_one X)) ?_)
  refine bodyPost_ret (results_cell_row rfl _ _ r 23 (cellsOf X).toArray (0, 0) _ rfl (setRow_heap w5 r _ _ 23 _ HT1.out) Tryz.underlying23 rfl SX.out) rfl ⟨rfl, ?_⟩
  have b7 : Below w.heap.size w w5 := HB1.out.trans (HB6.out.mono HB1.out.size)
  exact b7.trans (((but_setRow _ r _).mono b7.size).below HR.out)
set_option linter.unusedSimpArgs false in
set_option maxRecDepth 100000 in
set_option maxHeartbeats 6400000 in
theorem appkey_any {w : World} {s : List UInt8} (hs : s.length = 32) (hk : KsAt w) : Calls Tryz.prog 48 #[.agg (cellsOf s).toArray] w fun e w' => e = .returned (.agg (cellsOf (sumOf (partsOf 72 [s]))).toArray) ∧ Below w.heap.size w w' := by
  have hlen : (partsOf 72 [s]).length ≤ 1125899906842624 := by
    unfold partsOf partOf
    simp only [List.flatMap_cons, List.flatMap_nil, List.length_cons, List.length_append, four_len, List.length_nil]
    omega
  obtain ⟨X, hX, hXl, hjoin⟩ : ∃ X, sumOf (partsOf 72 [s]) = X ∧ X.length = 32 ∧ ∀ (W : World) (gg : Nat) (a : Option Addr) (n c : Nat), KsAt W → W.heap[gg]? = some (.cells #[.slice a n c] 26 (0, 0)) → Row W a n c s → Calls Tryz.prog 43 #[.int .u8 72, .slice (some ⟨gg, 0, none⟩) 1 1] W fun e w' => e = .returned (.agg (cellsOf X).toArray) ∧ Below W.heap.size W w' :=
    ⟨_, rfl, sumOf_len _, fun W gg a n c hW hg hr => join_any 72 72 rfl (rows2_one hg hr) hW hlen⟩
  rw [hX]
  have HJ := Lib.hid hjoin
  have SX := Lib.hid (size_of hXl)
  have ZX : Hid ((cellsOf zero32).toArray.size = (cellsOf X).toArray.size) := Lib.hid (by rw [List.size_toArray, List.size_toArray, cellsOf_len, cellsOf_len, hXl]; rfl)
  clear hX hXl hjoin hlen
  have HK := Lib.hid hk
  have HS := Lib.hid hs
  clear hk hs
  go_enter Tryz.func48, Tryz.ntmps48
  go_upto_region 1 with (fail)
  rw [← zero32_is]
  have b1 : Below w.heap.size w ((w.alloc (.cells (cellsOf s).toArray 23)).alloc (.cells (cellsOf zero32).toArray 23)) := ((Below.refl _ _).alloc (Nat.le_refl _) _).alloc (by simp) _
  have h1 : ((w.alloc (.cells (cellsOf s).toArray 23)).alloc (.cells (cellsOf zero32).toArray 23)).heap[w.heap.size]? = some (.cells (cellsOf s).toArray 23 (0, 0)) := by
    rw [heap_alloc_old _ _ (by simp), heap_alloc_new]
  have h2 : ((w.alloc (.cells (cellsOf s).toArray 23)).alloc (.cells (cellsOf zero32).toArray 23)).heap[w.heap.size + 1]? = some (.cells (cellsOf zero32).toArray 23 (0, 0)) := heap_alloc_at _ _ _ (by simp)
  revert b1 h1 h2
  generalize ((w.alloc (.cells (cellsOf s).toArray 23)).alloc (.cells (cellsOf zero32).toArray 23)) = w3
  obtain ⟨g, hg⟩ : ∃ g, g = w.heap.size := ⟨_, rfl⟩
  obtain ⟨r, hr⟩ : ∃ r, r = g + 1 := ⟨_, rfl⟩
  rw [← hg, ← hr]
  intro b1 h1 h2
  rw [hg] at b1
  have HR : Hid (w.heap.size ≤ r) := Lib.hid (by omega)
  have HB1 := Lib.hid b1
  have H1 := Lib.hid h1
  have H2 := Lib.hid h2
  clear b1 h1 h2 hg hr
  go_wp2_with fail
  have b4 : Below w3.heap.size w3 (w3.alloc (.cells #[.slice (some ⟨g, 0, none⟩) 32 32] 26)) := (Below.refl _ _).alloc (Nat.le_refl _) _
  have r1 : Row (w3.alloc (.cells #[.slice (some ⟨g, 0, none⟩) 32 32] 26)) (some ⟨g, 0, none⟩) 32 32 s := (row_all H1.out 32 HS.out.symm (by omega)).below b4
  refine (HJ.out _ _ _ _ _ ((HK.out.below HB1.out).below b4) (heap_alloc_new _ _) r1).mono ?_
  rintro e w5 ⟨rfl, hb5⟩
  have HB6 := Lib.hid (b4.trans (hb5.mono b4.size))
  have HT1 := Lib.hid ((HB6.out.block _ (lt_of_block H2.out)).trans H2.out)
  clear b4 r1 hb5
  go_wp2_with (refine wpList_store_row rfl 23 _ _ rfl r (cellsOf X).toArray rfl rfl 23 (cellsOf zero32).toArray HT1.out SX.out ZX.out (all_oneCell_toArray (cellsOf_one X)) ?_)
  refine bodyPost_ret (results_cell_row rfl _ _ r 23 (cellsOf X).toArray (0, 0) _ rfl (setRow_heap w5 r _ _ 23 _ HT1.out) Tryz.underlying23 rfl SX.out) rfl ⟨rfl, ?_⟩
  have b7 : Below w.heap.size w w5 := HB1.out.trans (HB6.out.mono HB1.out.size)
  exact b7.trans (((but_setRow _ r _).mono b7.size).below HR.out)
set_option linter.unusedSimpArgs false in
set_option maxRecDepth 100000 in
set_option maxHeartbeats 6400000 in
theorem appmark_any {w : World} {a : Option Addr} {n c : Nat} {l : List UInt8} (h : Row w a n c l) (hk : KsAt w) (hn : n ≤ 1000000) : Calls Tryz.prog 32 #[.slice a n c] w fun e w' => e = .returned (.agg (cellsOf (sumOf (partsOf 73 [l]))).toArray) ∧ Below w.heap.size w w' := by
  have hln := h.1
  have hlen : (partsOf 73 [l]).length ≤ 1125899906842624 := by
    unfold partsOf partOf
    simp only [List.flatMap_cons, List.flatMap_nil, List.length_cons, List.length_append, four_len, List.length_nil]
    omega
  obtain ⟨X, hX, hXl, hjoin⟩ : ∃ X, sumOf (partsOf 73 [l]) = X ∧ X.length = 32 ∧ ∀ (W : World) (gg : Nat) (a : Option Addr) (n c : Nat), KsAt W → W.heap[gg]? = some (.cells #[.slice a n c] 26 (0, 0)) → Row W a n c l → Calls Tryz.prog 43 #[.int .u8 73, .slice (some ⟨gg, 0, none⟩) 1 1] W fun e w' => e = .returned (.agg (cellsOf X).toArray) ∧ Below W.heap.size W w' :=
    ⟨_, rfl, sumOf_len _, fun W gg a n c hW hg hr => join_any 73 73 rfl (rows2_one hg hr) hW hlen⟩
  rw [hX]
  have HJ := Lib.hid hjoin
  have SX := Lib.hid (size_of hXl)
  have ZX : Hid ((cellsOf zero32).toArray.size = (cellsOf X).toArray.size) := Lib.hid (by rw [List.size_toArray, List.size_toArray, cellsOf_len, cellsOf_len, hXl]; rfl)
  clear hX hXl hjoin hlen
  have HK := Lib.hid hk
  have H := Lib.hid h
  clear hk h hln hn
  go_enter Tryz.func32, Tryz.ntmps32
  go_upto_region 1 with (fail)
  rw [← zero32_is]
  have b1 : Below w.heap.size w (w.alloc (.cells (cellsOf zero32).toArray 23)) := (Below.refl _ _).alloc (Nat.le_refl _) _
  have h2 : (w.alloc (.cells (cellsOf zero32).toArray 23)).heap[w.heap.size]? = some (.cells (cellsOf zero32).toArray 23 (0, 0)) := heap_alloc_new _ _
  revert b1 h2
  generalize (w.alloc (.cells (cellsOf zero32).toArray 23)) = w3
  obtain ⟨r, hr⟩ : ∃ r, r = w.heap.size := ⟨_, rfl⟩
  rw [← hr]
  intro b1 h2
  rw [hr] at b1
  have HR : Hid (w.heap.size ≤ r) := Lib.hid (by omega)
  have HB1 := Lib.hid b1
  have H2 := Lib.hid h2
  clear b1 h2 hr
  go_wp2_with fail
  have b4 : Below w3.heap.size w3 (w3.alloc (.cells #[.slice a n c] 26)) := (Below.refl _ _).alloc (Nat.le_refl _) _
  have r1 : Row (w3.alloc (.cells #[.slice a n c] 26)) a n c l := (H.out.below HB1.out).below b4
  refine (HJ.out _ _ _ _ _ ((HK.out.below HB1.out).below b4) (heap_alloc_new _ _) r1).mono ?_
  rintro e w5 ⟨rfl, hb5⟩
  have HB6 := Lib.hid (b4.trans (hb5.mono b4.size))
  have HT1 := Lib.hid ((HB6.out.block _ (lt_of_block H2.out)).trans H2.out)
  clear b4 r1 hb5
  go_wp2_with (refine wpList_store_row rfl 23 _ _ rfl r (cellsOf X).toArray rfl rfl 23 (cellsOf zero32).toArray HT1.out SX.out ZX.out (all_oneCell_toArray (cellsOf_one X)) ?_)
  refine bodyPost_ret (results_cell_row rfl _ _ r 23 (cellsOf X).toArray (0, 0) _ rfl (setRow_heap w5 r _ _ 23 _ HT1.out) Tryz.underlying23 rfl SX.out) rfl ⟨rfl, ?_⟩
  have b7 : Below w.heap.size w w5 := HB1.out.trans (HB6.out.mono HB1.out.size)
  exact b7.trans (((but_setRow _ r _).mono b7.size).below HR.out)
end Go.Proofs.YtcmdpmialehjgaaGreatDoor
