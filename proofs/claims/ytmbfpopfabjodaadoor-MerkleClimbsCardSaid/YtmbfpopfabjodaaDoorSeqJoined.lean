/- What 'joined' comes to: the pair of what stands at a place and what stands beside it. -/
import Derived.Test.YtmbfpopfabjodaaDoorSeqSmall
namespace Go.Proofs.YtmbfpopfabjodaaDoor
open Go.RowKit

/-- The pair of a place's and its neighbour's, in order. -/
def joinOf (i : Nat) (s t : List UInt8) : List UInt8 := if i % 2 = 0 then pairSum s t else pairSum t s
theorem joinOf_len (i : Nat) (s t : List UInt8) : (joinOf i s t).length = 32 := by
  unfold joinOf
  split <;> exact pairSum_len _ _
set_option maxRecDepth 100000 in
set_option maxHeartbeats 1600000 in
theorem joined_any {w : World} {s t : List UInt8} (i : Nat) (hi : i < 4611686018427387904) (hs : s.length = 32) (ht : t.length = 32) (hk : KsAt w) :
    Calls Tryd.prog 25 #[.agg (cellsOf s).toArray, .agg (cellsOf t).toArray, .int .i64 (i : Int)] w fun e w' => e = .returned (.agg (cellsOf (joinOf i s t)).toArray) ∧ Below w.heap.size w w' := by
  have HK := Lib.hid hk
  have HS := Lib.hid hs
  have HT := Lib.hid ht
  have i0 : (0 : Int) ≤ (i : Int) := by omega
  have i1 : (i : Int) < 4611686018427387904 := by omega
  obtain ⟨r, hr, hrl, hpair⟩ : ∃ r, joinOf i s t = r ∧ r.length = 32 ∧ ∀ W : World, KsAt W → (i % 2 = 0 → Calls Tryd.prog 22 #[.int .u8 (2 : Int), .agg (cellsOf s).toArray, .agg (cellsOf t).toArray] W fun e w' => e = .returned (.agg (cellsOf r).toArray) ∧ Below W.heap.size W w') ∧ (¬ i % 2 = 0 → Calls Tryd.prog 22 #[.int .u8 (2 : Int), .agg (cellsOf t).toArray, .agg (cellsOf s).toArray] W fun e w' => e = .returned (.agg (cellsOf r).toArray) ∧ Below W.heap.size W w') :=
    ⟨_, rfl, joinOf_len _ _ _, fun W hW => ⟨fun h => by unfold joinOf; rw [if_pos h]; exact pair_any 2 2 rfl hs ht hW, fun h => by unfold joinOf; rw [if_neg h]; exact pair_any 2 2 rfl ht hs hW⟩⟩
  rw [hr]
  have HR := Lib.hid hrl
  have HP := Lib.hid hpair
  have szs : (Tryd.prog.info? 24).map (·.size) = some (cellsOf s).toArray.size := by rw [List.size_toArray, cellsOf_len, hs]; exact Tryd.size24
  have szt : (Tryd.prog.info? 24).map (·.size) = some (cellsOf t).toArray.size := by rw [List.size_toArray, cellsOf_len, ht]; exact Tryd.size24
  have szr : (Tryd.prog.info? 24).map (·.size) = some (cellsOf r).toArray.size := by rw [List.size_toArray, cellsOf_len, hrl]; exact Tryd.size24
  have SZS := Lib.hid szs
  have SZT := Lib.hid szt
  have SZR := Lib.hid szr
  have hz : (cellsOf zero32).toArray.size = (cellsOf r).toArray.size := by rw [List.size_toArray, List.size_toArray, cellsOf_len, cellsOf_len, hrl]; rfl
  have HZ := Lib.hid hz
  have hall : (cellsOf r).toArray.all (·.oneCell') = true := all_oneCell_toArray (cellsOf_one r)
  have HALL := Lib.hid hall
  clear hk hs ht hr hrl hpair szs szt szr hz hall hi
  by_cases hev : i % 2 = 0
  · have e2 : (i : Int) % 2 = 0 := by omega
    have HEV := Lib.hid hev
    clear hev
    go_enter Tryd.func25, Tryd.ntmps25
    go_upto_region 1 with (fail)
    rw [← zero32_is]
    have b1 : Below w.heap.size w (((w.alloc (.cells (cellsOf s).toArray 24)).alloc (.cells (cellsOf t).toArray 24)).alloc (.cells (cellsOf zero32).toArray 24)) := (((Below.refl _ _).alloc (Nat.le_refl _) _).alloc (by simp) _).alloc (by simp; omega) _
    have h1 : (((w.alloc (.cells (cellsOf s).toArray 24)).alloc (.cells (cellsOf t).toArray 24)).alloc (.cells (cellsOf zero32).toArray 24)).heap[w.heap.size]? = some (.cells (cellsOf s).toArray 24 (0, 0)) := by
      rw [heap_alloc_old _ _ (by simp; omega), heap_alloc_old _ _ (by simp), heap_alloc_new]
    have h2 : (((w.alloc (.cells (cellsOf s).toArray 24)).alloc (.cells (cellsOf t).toArray 24)).alloc (.cells (cellsOf zero32).toArray 24)).heap[w.heap.size + 1]? = some (.cells (cellsOf t).toArray 24 (0, 0)) := by
      rw [heap_alloc_old _ _ (by simp)]
      exact heap_alloc_at _ _ _ (by simp)
    have h3 : (((w.alloc (.cells (cellsOf s).toArray 24)).alloc (.cells (cellsOf t).toArray 24)).alloc (.cells (cellsOf zero32).toArray 24)).heap[w.heap.size + 1 + 1]? = some (.cells (cellsOf zero32).toArray 24 (0, 0)) := heap_alloc_at _ _ _ (by simp)
    revert b1 h1 h2 h3
    generalize (((w.alloc (.cells (cellsOf s).toArray 24)).alloc (.cells (cellsOf t).toArray 24)).alloc (.cells (cellsOf zero32).toArray 24)) = w3
    obtain ⟨g, hg⟩ : ∃ g, g = w.heap.size := ⟨_, rfl⟩
    rw [← hg]
    intro b1 h1 h2 h3
    rw [hg] at b1
    have HG := Lib.hid hg
    have HB1 := Lib.hid b1
    have H1 := Lib.hid h1
    have H2 := Lib.hid h2
    have H3 := Lib.hid h3
    clear b1 h1 h2 h3 hg
    go_wp2_with (first | (refine wpList_load_row rfl 24 _ rfl g rfl 24 (cellsOf s).toArray (0, 0) _ H1.out Tryd.underlying24 rfl SZS.out ?_) | (refine wpList_load_row rfl 24 _ rfl (g + 1) rfl 24 (cellsOf t).toArray (0, 0) _ H2.out Tryd.underlying24 rfl SZT.out ?_) | fail)
    refine ((HP.out _ (HK.out.below HB1.out)).1 HEV.out).mono ?_
    rintro e w5 ⟨rfl, hb5⟩
    have HB5 := Lib.hid hb5
    have HT3 := Lib.hid ((hb5.block _ (lt_of_block H3.out)).trans H3.out)
    clear hb5
    go_wp2_with (refine wpList_store_row rfl 24 _ _ rfl (g + 1 + 1) (cellsOf r).toArray rfl rfl 24 (cellsOf zero32).toArray HT3.out SZR.out HZ.out HALL.out ?_)
    refine bodyPost_ret (results_cell_row rfl _ _ (g + 1 + 1) 24 (cellsOf r).toArray (0, 0) _ rfl (setRow_heap w5 (g + 1 + 1) _ _ 24 _ HT3.out) Tryd.underlying24 rfl SZR.out) rfl ⟨rfl, ?_⟩
    have b7 : Below w.heap.size w w5 := HB1.out.trans (HB5.out.mono HB1.out.size)
    exact b7.trans (((but_setRow _ (g + 1 + 1) _).mono b7.size).below (by rw [HG.out]; omega))
  · have e2 : (i : Int) % 2 = 1 := by omega
    have HEV := Lib.hid hev
    clear hev
    go_enter Tryd.func25, Tryd.ntmps25
    go_upto_region 1 with (fail)
    rw [← zero32_is]
    have b1 : Below w.heap.size w (((w.alloc (.cells (cellsOf s).toArray 24)).alloc (.cells (cellsOf t).toArray 24)).alloc (.cells (cellsOf zero32).toArray 24)) := (((Below.refl _ _).alloc (Nat.le_refl _) _).alloc (by simp) _).alloc (by simp; omega) _
    have h1 : (((w.alloc (.cells (cellsOf s).toArray 24)).alloc (.cells (cellsOf t).toArray 24)).alloc (.cells (cellsOf zero32).toArray 24)).heap[w.heap.size]? = some (.cells (cellsOf s).toArray 24 (0, 0)) := by
      rw [heap_alloc_old _ _ (by simp; omega), heap_alloc_old _ _ (by simp), heap_alloc_new]
    have h2 : (((w.alloc (.cells (cellsOf s).toArray 24)).alloc (.cells (cellsOf t).toArray 24)).alloc (.cells (cellsOf zero32).toArray 24)).heap[w.heap.size + 1]? = some (.cells (cellsOf t).toArray 24 (0, 0)) := by
      rw [heap_alloc_old _ _ (by simp)]
      exact heap_alloc_at _ _ _ (by simp)
    have h3 : (((w.alloc (.cells (cellsOf s).toArray 24)).alloc (.cells (cellsOf t).toArray 24)).alloc (.cells (cellsOf zero32).toArray 24)).heap[w.heap.size + 1 + 1]? = some (.cells (cellsOf zero32).toArray 24 (0, 0)) := heap_alloc_at _ _ _ (by simp)
    revert b1 h1 h2 h3
    generalize (((w.alloc (.cells (cellsOf s).toArray 24)).alloc (.cells (cellsOf t).toArray 24)).alloc (.cells (cellsOf zero32).toArray 24)) = w3
    obtain ⟨g, hg⟩ : ∃ g, g = w.heap.size := ⟨_, rfl⟩
    rw [← hg]
    intro b1 h1 h2 h3
    rw [hg] at b1
    have HG := Lib.hid hg
    have HB1 := Lib.hid b1
    have H1 := Lib.hid h1
    have H2 := Lib.hid h2
    have H3 := Lib.hid h3
    clear b1 h1 h2 h3 hg
    go_wp2_with (first | (refine wpList_load_row rfl 24 _ rfl g rfl 24 (cellsOf s).toArray (0, 0) _ H1.out Tryd.underlying24 rfl SZS.out ?_) | (refine wpList_load_row rfl 24 _ rfl (g + 1) rfl 24 (cellsOf t).toArray (0, 0) _ H2.out Tryd.underlying24 rfl SZT.out ?_) | fail)
    refine ((HP.out _ (HK.out.below HB1.out)).2 HEV.out).mono ?_
    rintro e w5 ⟨rfl, hb5⟩
    have HB5 := Lib.hid hb5
    have HT3 := Lib.hid ((hb5.block _ (lt_of_block H3.out)).trans H3.out)
    clear hb5
    go_wp2_with (refine wpList_store_row rfl 24 _ _ rfl (g + 1 + 1) (cellsOf r).toArray rfl rfl 24 (cellsOf zero32).toArray HT3.out SZR.out HZ.out HALL.out ?_)
    refine bodyPost_ret (results_cell_row rfl _ _ (g + 1 + 1) 24 (cellsOf r).toArray (0, 0) _ rfl (setRow_heap w5 (g + 1 + 1) _ _ 24 _ HT3.out) Tryd.underlying24 rfl SZR.out) rfl ⟨rfl, ?_⟩
    have b7 : Below w.heap.size w w5 := HB1.out.trans (HB5.out.mono HB1.out.size)
    exact b7.trans (((but_setRow _ (g + 1 + 1) _).mono b7.size).below (by rw [HG.out]; omega))
end Go.Proofs.YtmbfpopfabjodaaDoor
