/- What lock.Hash comes to. -/
import Derived.Test.YtnjnomebcggccaaGreatDoorSha
namespace Go.Proofs.YtnjnomebcggccaaGreatDoor
open Go.RowKit

/-- What a text is summed to, where it has to be shown. -/
def shownSum (l : List UInt8) : List UInt8 := sumOf (partsOf 31 [l])
theorem shownSum_len (l : List UInt8) : (shownSum l).length = 32 := by unfold shownSum; exact sumOf_len _
set_option linter.unusedSimpArgs false in
set_option maxRecDepth 100000 in
set_option maxHeartbeats 3200000 in
theorem hash_any {w : World} {a : Option Addr} {n c : Nat} {l : List UInt8} (h : Row w a n c l) (hk : KsAt w) (hn : n ≤ 1000000) : Calls Tryz.prog 8 #[.slice a n c] w fun e w' => e = .returned (.agg (cellsOf (shownSum l)).toArray) ∧ Below w.heap.size w w' := by
  have HK := Lib.hid hk
  have H := Lib.hid h
  clear hk h
  go_enter Tryz.func8, Tryz.ntmps8
  go_wp2_with fail
  rw [← zero32_is]
  have b1 : Below w.heap.size w (w.alloc (.cells (cellsOf zero32).toArray 23)) := (Below.refl _ _).alloc (Nat.le_refl _) _
  have h2 : (w.alloc (.cells (cellsOf zero32).toArray 23)).heap[w.heap.size]? = some (.cells (cellsOf zero32).toArray 23 (0, 0)) := heap_alloc_new _ _
  have h3 : (w.alloc (.cells (cellsOf zero32).toArray 23)).heap.size = w.heap.size + 1 := by simp
  revert b1 h2 h3
  generalize (w.alloc (.cells (cellsOf zero32).toArray 23)) = w3
  obtain ⟨g, hg⟩ : ∃ g, g = w.heap.size := ⟨_, rfl⟩
  rw [← hg]
  intro b1 h2 h3
  rw [hg] at b1
  have HG := Lib.hid hg
  have HB1 := Lib.hid b1
  have H2 := Lib.hid h2
  have H3 := Lib.hid h3
  clear b1 h2 h3 hg
  have b4 : Below w3.heap.size w3 (w3.alloc (.cells #[.slice a n c] 30)) := (Below.refl _ _).alloc (Nat.le_refl _) _
  have r1 : Row (w3.alloc (.cells #[.slice a n c] 30)) a n c l := (H.out.below HB1.out).below b4
  have hlen : (partsOf 31 [l]).length ≤ 1125899906842624 := by
    have := H.out.1
    unfold partsOf partOf
    simp only [List.flatMap_cons, List.flatMap_nil, List.length_cons, List.length_append, four_len, List.length_nil]
    omega
  refine (join_any 31 31 rfl (rows2_one (heap_alloc_at _ _ _ H3.out) r1) ((HK.out.below HB1.out).below b4) hlen).mono ?_
  rintro e w5 ⟨rfl, hb5⟩
  have hb6 := b4.trans (hb5.mono b4.size)
  have HB6 := Lib.hid hb6
  have HT1 := Lib.hid ((hb6.block _ (lt_of_block H2.out)).trans H2.out)
  clear b4 r1 hlen hb5 hb6
  go_wp2_with (refine wpList_store_row rfl 23 _ _ rfl g (cellsOf (sumOf (partsOf 31 [l]))).toArray rfl rfl 23 (cellsOf zero32).toArray HT1.out (sum_size' _) (by rw [sum_size]; rfl) (sum_all _) ?_)
  refine bodyPost_ret (results_cell_row rfl _ _ g 23 (cellsOf (sumOf (partsOf 31 [l]))).toArray (0, 0) _ rfl (setRow_heap w5 g _ _ 23 _ HT1.out) Tryz.underlying23 rfl (sum_size' _)) rfl ⟨rfl, ?_⟩
  have b7 : Below w.heap.size w w5 := HB1.out.trans (HB6.out.mono HB1.out.size)
  exact b7.trans (((but_setRow _ g _).mono b7.size).below (by rw [HG.out]; omega))
end Go.Proofs.YtnjnomebcggccaaGreatDoor
