/- What Hash and shows come to. -/
import Derived.Test.YtdaafeaeinomoaaDoorWays
import Derived.Test.YtdaafeaeinomoaaDoorSha
namespace Go.Proofs.YtdaafeaeinomoaaDoor
open Go.RowKit

/-- What a text is summed to, where it has to be shown. -/
def shownSum (l : List UInt8) : List UInt8 := sumOf (partsOf 31 [l])
theorem shownSum_len (l : List UInt8) : (shownSum l).length = 32 := by unfold shownSum; exact sumOf_len _
set_option linter.unusedSimpArgs false in
set_option maxRecDepth 100000 in
set_option maxHeartbeats 3200000 in
theorem hash_any {w : World} {a : Option Addr} {n c : Nat} {l : List UInt8} (h : Row w a n c l) (hk : KsAt w) (hn : n ≤ 1000000) : Calls Tryd.prog 13 #[.slice a n c] w fun e w' => e = .returned (.agg (cellsOf (shownSum l)).toArray) ∧ Below w.heap.size w w' := by
  have HK := Lib.hid hk
  have H := Lib.hid h
  clear hk h
  go_enter Tryd.func13, Tryd.ntmps13
  go_wp2_with fail
  rw [← zero32_is]
  have b1 : Below w.heap.size w (w.alloc (.cells (cellsOf zero32).toArray 24)) := (Below.refl _ _).alloc (Nat.le_refl _) _
  have h2 : (w.alloc (.cells (cellsOf zero32).toArray 24)).heap[w.heap.size]? = some (.cells (cellsOf zero32).toArray 24 (0, 0)) := heap_alloc_new _ _
  have h3 : (w.alloc (.cells (cellsOf zero32).toArray 24)).heap.size = w.heap.size + 1 := by simp
  revert b1 h2 h3
  generalize (w.alloc (.cells (cellsOf zero32).toArray 24)) = w3
  obtain ⟨g, hg⟩ : ∃ g, g = w.heap.size := ⟨_, rfl⟩
  rw [← hg]
  intro b1 h2 h3
  rw [hg] at b1
  have HG := Lib.hid hg
  have HB1 := Lib.hid b1
  have H2 := Lib.hid h2
  have H3 := Lib.hid h3
  clear b1 h2 h3 hg
  have b4 : Below w3.heap.size w3 (w3.alloc (.cells #[.slice a n c] 27)) := (Below.refl _ _).alloc (Nat.le_refl _) _
  have r1 : Row (w3.alloc (.cells #[.slice a n c] 27)) a n c l := (H.out.below HB1.out).below b4
  have hlen : (partsOf 31 [l]).length ≤ 1125899906842624 := by
    have := H.out.1
    unfold partsOf partOf
    simp only [List.flatMap_cons, List.flatMap_nil, List.length_cons, List.length_append, four_len, List.length_nil]
    omega
  refine (join_any 31 31 rfl (rows2_one (heap_alloc_at _ _ _ H3.out) r1) ((HK.out.below HB1.out).below b4) hlen).mono ?_
  rintro e w5 ⟨rfl, hb5⟩
  have hb6 := b4.trans (hb5.mono b4.size)
  have HB6 := Lib.hid hb6
  have HT1 := Lib.hid ((hb6.block _ (lt_of_block H2.out)).trans H2.out)
  clear b4 r1 hlen hb5 hb6
  go_wp2_with (refine wpList_store_row rfl 24 _ _ rfl g (cellsOf (sumOf (partsOf 31 [l]))).toArray rfl rfl 24 (cellsOf zero32).toArray HT1.out (sum_size' _) (by rw [sum_size]; rfl) (sum_all _) ?_)
  refine bodyPost_ret (results_cell_row rfl _ _ g 24 (cellsOf (sumOf (partsOf 31 [l]))).toArray (0, 0) _ rfl (setRow_heap w5 g _ _ 24 _ HT1.out) Tryd.underlying24 rfl (sum_size' _)) rfl ⟨rfl, ?_⟩
  have b7 : Below w.heap.size w w5 := HB1.out.trans (HB6.out.mono HB1.out.size)
  exact b7.trans (((but_setRow _ g _).mono b7.size).below (by rw [HG.out]; omega))
set_option linter.unusedSimpArgs false in
set_option maxRecDepth 100000 in
set_option maxHeartbeats 3200000 in
theorem shows_any {w : World} {h : List UInt8} {a : Option Addr} {n c : Nat} {l : List UInt8} (hl : h.length = 32) (hr : Row w a n c l) (hk : KsAt w) (hn : n ≤ 1000000) :
    Calls Tryd.prog 37 #[.agg (cellsOf h).toArray, .slice a n c] w fun e w' => e = .returned (.bool (decide (h = zero32) || decide (h = shownSum l))) ∧ Below w.heap.size w w' := by
  obtain ⟨s, hs, hsl, hh⟩ : ∃ s, shownSum l = s ∧ s.length = 32 ∧ ∀ W : World, Below w.heap.size w W → Calls Tryd.prog 13 #[.slice a n c] W fun e w' => e = .returned (.agg (cellsOf s).toArray) ∧ Below W.heap.size W w' := ⟨_, rfl, shownSum_len l, fun W hW => hash_any (hr.below hW) (hk.below hW) hn⟩
  rw [hs]
  obtain ⟨r1, hr1⟩ : ∃ r, decide (h = zero32) = r := ⟨_, rfl⟩
  obtain ⟨r2, hr2⟩ : ∃ r, decide (h = s) = r := ⟨_, rfl⟩
  rw [hr1, hr2]
  have HZ := Lib.hid hr1
  have HE := Lib.hid hr2
  have HL := Lib.hid hl
  have HSL := Lib.hid hsl
  have SZ : Hid ((Tryd.prog.info? 24).map (·.size) = some (cellsOf h).length) := Lib.hid (by rw [cellsOf_len, hl]; exact Tryd.size24)
  have b1 : Below w.heap.size w (w.alloc (.cells (cellsOf h).toArray 24)) := (Below.refl _ _).alloc (Nat.le_refl _) _
  have h1 := heap_alloc_new w (.cells (cellsOf h).toArray 24)
  have HH0 := Lib.hid hh
  clear hs hsl hh hr hk hr1 hr2
  go_enter Tryd.func37, Tryd.ntmps37
  go_upto_region 1 with (fail)
  revert b1 h1
  generalize (w.alloc (.cells (cellsOf h).toArray 24)) = w1
  obtain ⟨g, hg⟩ : ∃ g, g = w.heap.size := ⟨_, rfl⟩
  rw [← hg]
  intro b1 h1
  rw [hg] at b1
  have HB1 := Lib.hid b1
  have hlt := lt_of_block h1
  have HRG := Lib.hid (range_of h1)
  have HH : Hid (∀ W : World, Below w1.heap.size w1 W → Calls Tryd.prog 13 #[.slice a n c] W fun e w' => e = .returned (.agg (cellsOf s).toArray) ∧ Below W.heap.size W w') := Lib.hid (fun W hW => HH0.out W (HB1.out.trans (hW.mono HB1.out.size)))
  clear b1 h1 hg hl
  cases r1
  · refine wp_region_held_drew (S := fun w' => Below w1.heap.size w1 w') (by kernel_rfl) (below_drew (Below.refl _ _)) (fun hHeld => ?_)
    refine take_at (i := 0) rfl rfl (by kernel_rfl) (by kernel_rfl) (by kernel_rfl) (fun _ _ _ h => h) (yieldsIf_load_mid (by rfl) _ _ rfl g 0 rfl (cellsOf h) _ (fun w0 hSw => rangeAt_below HRG.out hlt hSw) Tryd.underlying24 rfl SZ.out) (by assumption) ?_
    simp only [List.setIfInBounds_toArray, List.set_cons_zero, List.set_cons_succ]
    refine take_at (i := 1) (v := ?_) rfl rfl (by kernel_rfl) (by kernel_rfl) (by kernel_rfl) (fun _ _ _ h => h) (Or.inl ⟨by rfl, ?_⟩) (by assumption) ?_
    rotate_left
    · intro w0 hSw; (try dsimp only at hSw); first | (go_simp; done) | (go_simp; with_reducible rfl)
    simp only [List.setIfInBounds_toArray, List.set_cons_zero, List.set_cons_succ]
    rw [← zero32_is]
    refine take_at (i := 2) rfl rfl (by kernel_rfl) (by kernel_rfl) (by kernel_rfl) (fun _ _ _ h => h) (yields_eql (by rfl) rfl rfl rfl HL.out zero32_len false HZ.out) (by assumption) ?_
    simp only [List.setIfInBounds_toArray, List.set_cons_zero, List.set_cons_succ]
    refine take_at (i := 3) (v := ?_) rfl rfl (by kernel_rfl) (by kernel_rfl) (by kernel_rfl) (fun _ _ _ h => h) (Or.inl ⟨by rfl, ?_⟩) (by assumption) ?_
    rotate_left
    · intro w0 hSw; (try dsimp only at hSw); first | (go_simp; done) | (go_simp; with_reducible rfl)
    simp only [List.setIfInBounds_toArray, List.set_cons_zero, List.set_cons_succ]
    refine take_at (i := 4) rfl rfl (by kernel_rfl) (by kernel_rfl) (by kernel_rfl) (fun _ _ _ h => h) (yieldsIf_load_mid (by rfl) _ _ rfl g 0 rfl (cellsOf h) _ (fun w0 hSw => rangeAt_below HRG.out hlt hSw) Tryd.underlying24 rfl SZ.out) (by assumption) ?_
    simp only [List.setIfInBounds_toArray, List.set_cons_zero, List.set_cons_succ]
    refine take_at (i := 5) (v := ?_) rfl rfl (by kernel_rfl) (by kernel_rfl) (by kernel_rfl) (fun _ _ _ h => h) (Or.inl ⟨by rfl, ?_⟩) (by assumption) ?_
    rotate_left
    · intro w0 hSw; (try dsimp only at hSw); first | (go_simp; done) | (go_simp; with_reducible rfl)
    simp only [List.setIfInBounds_toArray, List.set_cons_zero, List.set_cons_succ]
    refine wpAnyH_ready (rs := [6]) (by kernel_rfl) (by simp) ?_
    refine AllReadyH.cons rfl (fun K hK => ?_) ?_
    · have hS5 : Below w1.heap.size w1 w1.drew := hHeld
      have HHX := Lib.hid (HH.out _ hS5)
      clear hS5
      go_simp
      go_wp2_with ((go_at_call 13; (with_reducible refine (HHX.out).mono ?_); rintro e x5 ⟨rfl, hb5⟩; have HC5 := Lib.hid hb5; clear hb5))
      refine hK.out _ _ (by (try dsimp only); exact Below.trans hHeld (HC5.out.mono (Below.size hHeld))) (fun hHeld => ?_)
      clear hK K
      refine take_at (i := 7) rfl rfl (by kernel_rfl) (by kernel_rfl) (by kernel_rfl) (fun _ _ _ h => h) (yields_eql (by rfl) rfl rfl rfl HL.out HSL.out r2 HE.out) (by assumption) ?_
      simp only [List.setIfInBounds_toArray, List.set_cons_zero, List.set_cons_succ]
      refine take_at (i := 8) (v := ?_) rfl rfl (by kernel_rfl) (by kernel_rfl) (by kernel_rfl) (fun _ _ _ h => h) (Or.inl ⟨by rfl, ?_⟩) (by assumption) ?_
      rotate_left
      · intro w0 hSw; (try dsimp only at hSw); first | (go_simp; done) | (go_simp; with_reducible rfl)
      simp only [List.setIfInBounds_toArray, List.set_cons_zero, List.set_cons_succ]
      refine take_at (i := 9) (v := ?_) rfl rfl (by kernel_rfl) (by kernel_rfl) (by kernel_rfl) (fun _ _ _ h => h) (Or.inl ⟨by rfl, ?_⟩) (by assumption) ?_
      rotate_left
      · intro w0 hSw; (try dsimp only at hSw); first | (go_simp; done) | (go_simp; with_reducible rfl)
      simp only [List.setIfInBounds_toArray, List.set_cons_zero, List.set_cons_succ]
      refine wpAnyH_done (by kernel_rfl) ?_ _
      have HS6 := Lib.hid (show Below w1.heap.size w1 x5 from hHeld)
      clear hHeld
      go_wp2_with fail
      go_ret
      exact ⟨rfl, HB1.out.trans (HS6.out.mono HB1.out.size)⟩
    exact AllReadyH.nil
  · refine wp_region_held_drew (S := fun w' => Below w1.heap.size w1 w') (by kernel_rfl) (below_drew (Below.refl _ _)) (fun hHeld => ?_)
    refine take_at (i := 0) rfl rfl (by kernel_rfl) (by kernel_rfl) (by kernel_rfl) (fun _ _ _ h => h) (yieldsIf_load_mid (by rfl) _ _ rfl g 0 rfl (cellsOf h) _ (fun w0 hSw => rangeAt_below HRG.out hlt hSw) Tryd.underlying24 rfl SZ.out) (by assumption) ?_
    simp only [List.setIfInBounds_toArray, List.set_cons_zero, List.set_cons_succ]
    refine take_at (i := 1) (v := ?_) rfl rfl (by kernel_rfl) (by kernel_rfl) (by kernel_rfl) (fun _ _ _ h => h) (Or.inl ⟨by rfl, ?_⟩) (by assumption) ?_
    rotate_left
    · intro w0 hSw; (try dsimp only at hSw); first | (go_simp; done) | (go_simp; with_reducible rfl)
    simp only [List.setIfInBounds_toArray, List.set_cons_zero, List.set_cons_succ]
    rw [← zero32_is]
    refine take_at (i := 2) rfl rfl (by kernel_rfl) (by kernel_rfl) (by kernel_rfl) (fun _ _ _ h => h) (yields_eql (by rfl) rfl rfl rfl HL.out zero32_len true HZ.out) (by assumption) ?_
    simp only [List.setIfInBounds_toArray, List.set_cons_zero, List.set_cons_succ]
    refine take_at (i := 3) (v := ?_) rfl rfl (by kernel_rfl) (by kernel_rfl) (by kernel_rfl) (fun _ _ _ h => h) (Or.inl ⟨by rfl, ?_⟩) (by assumption) ?_
    rotate_left
    · intro w0 hSw; (try dsimp only at hSw); first | (go_simp; done) | (go_simp; with_reducible rfl)
    simp only [List.setIfInBounds_toArray, List.set_cons_zero, List.set_cons_succ]
    refine take_at (i := 4) (v := undef) rfl rfl (by kernel_rfl) (by kernel_rfl) (by kernel_rfl) (fun _ _ _ h => h) (Or.inr ⟨by rfl, rfl⟩) (by assumption) ?_
    simp only [List.setIfInBounds_toArray, List.set_cons_zero, List.set_cons_succ]
    refine take_at (i := 5) (v := undef) rfl rfl (by kernel_rfl) (by kernel_rfl) (by kernel_rfl) (fun _ _ _ h => h) (Or.inr ⟨by rfl, rfl⟩) (by assumption) ?_
    simp only [List.setIfInBounds_toArray, List.set_cons_zero, List.set_cons_succ]
    refine take_at (i := 6) (v := undef) rfl rfl (by kernel_rfl) (by kernel_rfl) (by kernel_rfl) (fun _ _ _ h => h) (Or.inr ⟨by rfl, rfl⟩) (by assumption) ?_
    simp only [List.setIfInBounds_toArray, List.set_cons_zero, List.set_cons_succ]
    refine take_at (i := 7) (v := undef) rfl rfl (by kernel_rfl) (by kernel_rfl) (by kernel_rfl) (fun _ _ _ h => h) (Or.inr ⟨by rfl, rfl⟩) (by assumption) ?_
    simp only [List.setIfInBounds_toArray, List.set_cons_zero, List.set_cons_succ]
    refine take_at (i := 8) (v := ?_) rfl rfl (by kernel_rfl) (by kernel_rfl) (by kernel_rfl) (fun _ _ _ h => h) (Or.inl ⟨by rfl, ?_⟩) (by assumption) ?_
    rotate_left
    · intro w0 hSw; (try dsimp only at hSw); first | (go_simp; done) | (go_simp; with_reducible rfl)
    simp only [List.setIfInBounds_toArray, List.set_cons_zero, List.set_cons_succ]
    refine take_at (i := 9) (v := ?_) rfl rfl (by kernel_rfl) (by kernel_rfl) (by kernel_rfl) (fun _ _ _ h => h) (Or.inl ⟨by rfl, ?_⟩) (by assumption) ?_
    rotate_left
    · intro w0 hSw; (try dsimp only at hSw); first | (go_simp; done) | (go_simp; with_reducible rfl)
    simp only [List.setIfInBounds_toArray, List.set_cons_zero, List.set_cons_succ]
    refine wpAnyH_done (by kernel_rfl) ?_ _
    have HS6 := Lib.hid (show Below w1.heap.size w1 w1.drew from hHeld)
    clear hHeld
    go_wp2_with fail
    go_ret
    exact ⟨rfl, HB1.out.trans (HS6.out.mono HB1.out.size)⟩
end Go.Proofs.YtdaafeaeinomoaaDoor
