/- What Put answers and leaves. -/
import Derived.Test.YthpkafjonelanaaDoorShelfAdd
namespace Go.Proofs.YthpkafjonelanaaDoor
open Go.RowKit

set_option linter.unusedSimpArgs false in
set_option maxRecDepth 100000 in
set_option maxHeartbeats 6400000 in
theorem put_nil13 {w : World} {x h : List UInt8} :
    Calls Tryd.prog 12 #[.pointer none, .agg (cellsOf x).toArray, .agg (cellsOf h).toArray] w fun e w' => e = .returned (.int .i64 1) ∧ Below w.heap.size w w' := by
  go_enter Tryd.func12, Tryd.ntmps12
  go_wp2_with fail
  go_ret
  exact ⟨rfl, ((Below.refl _ _).alloc (Nat.le_refl _) _).alloc (by simp) _⟩
set_option linter.unusedSimpArgs false in
set_option maxRecDepth 100000 in
set_option maxHeartbeats 6400000 in
theorem put_bad13 {w : World} {ps : Nat} {x h : List UInt8} (hx : x.length = 32) (hh : h.length = 32) (hne : shownSum x ≠ h) (hk : KsAt w) :
    Calls Tryd.prog 12 #[.pointer (some ⟨ps, 0, none⟩), .agg (cellsOf x).toArray, .agg (cellsOf h).toArray] w fun e w' => e = .returned (.int .i64 16) ∧ Below w.heap.size w w' := by
  obtain ⟨s, hs, hsl, hcall⟩ : ∃ s, shownSum x = s ∧ s.length = 32 ∧ ∀ W : World, KsAt W → Calls Tryd.prog 9 #[.agg (cellsOf x).toArray] W fun e w' => e = .returned (.agg (cellsOf s).toArray) ∧ Below W.heap.size W w' := ⟨_, rfl, shownSum_len x, fun W hW => shash_any hx hW⟩
  rw [hs] at hne
  have HNE : Hid ((!decide (s = h)) = true) := Lib.hid (by simp [hne])
  have HHS := Lib.hid hcall
  have HSL := Lib.hid hsl
  have HHL := Lib.hid hh
  have HXL := Lib.hid hx
  have SZX := Lib.hid (sumLen13 hx)
  have SZH := Lib.hid (sumLen13 hh)
  have HK := Lib.hid hk
  clear hcall hsl hs hx hh hne hk
  go_enter Tryd.func12, Tryd.ntmps12
  go_upto_region 1 with (fail)
  have b1 : Below w.heap.size w ((w.alloc (.cells (cellsOf x).toArray 23)).alloc (.cells (cellsOf h).toArray 23)) := ((Below.refl _ _).alloc (Nat.le_refl _) _).alloc (by simp) _
  have h1 : ((w.alloc (.cells (cellsOf x).toArray 23)).alloc (.cells (cellsOf h).toArray 23)).heap[w.heap.size]? = some (.cells (cellsOf x).toArray 23 (0, 0)) := by
    rw [heap_alloc_old _ _ (by simp), heap_alloc_new]
  have h2 : ((w.alloc (.cells (cellsOf x).toArray 23)).alloc (.cells (cellsOf h).toArray 23)).heap[w.heap.size + 1]? = some (.cells (cellsOf h).toArray 23 (0, 0)) := heap_alloc_at _ _ _ (by simp)
  revert b1 h1 h2
  generalize ((w.alloc (.cells (cellsOf x).toArray 23)).alloc (.cells (cellsOf h).toArray 23)) = w1
  obtain ⟨g, hg⟩ : ∃ g, g = w.heap.size := ⟨_, rfl⟩
  rw [← hg]
  intro b1 h1 h2
  rw [hg] at b1
  have HB1 := Lib.hid b1
  have H1 := Lib.hid h1
  have H2 := Lib.hid h2
  have HHC := Lib.hid (HHS.out _ (HK.out.below b1))
  clear b1 h1 h2 hg
  go_upto_region 3 with (fail)
  refine wp_region_held_drew (S := fun w' => Below w1.heap.size w1 w') (by kernel_rfl) (below_drew (Below.refl _ _)) (fun hHeld => ?_)
  refine take_at (i := 0) rfl rfl (by kernel_rfl) (by kernel_rfl) (by kernel_rfl) (fun _ _ _ h => h) (yieldsIf_load_mid (by rfl) _ _ rfl g 0 rfl (cellsOf x) _ (fun w0 hSw => range_of (keep hSw H1.out)) Tryd.underlying23 rfl SZX.out) (by assumption) ?_
  simp only [List.setIfInBounds_toArray, List.set_cons_zero, List.set_cons_succ]
  refine take_at (i := 2) rfl rfl (by kernel_rfl) (by kernel_rfl) (by kernel_rfl) (fun _ _ _ h => h) (yieldsIf_load_mid (by rfl) _ _ rfl (g + 1) 0 rfl (cellsOf h) _ (fun w0 hSw => range_of (keep hSw H2.out)) Tryd.underlying23 rfl SZH.out) (by assumption) ?_
  simp only [List.setIfInBounds_toArray, List.set_cons_zero, List.set_cons_succ]
  refine wpAnyH_ready (rs := [1]) (by kernel_rfl) (by simp) ?_
  refine AllReadyH.cons rfl (fun K hK => ?_) ?_
  · have HC := Lib.hid (HHS.out w1.drew ((HK.out.below HB1.out).below (below_drew (Below.refl _ _))))
    go_simp
    go_wp2_with ((go_at_call 9; (with_reducible refine (HC.out).mono ?_); rintro e y1 ⟨rfl, hb⟩; have HY1 := Lib.hid hb; clear hb))
    refine hK.out _ _ (by (try dsimp only); exact bthen hHeld HY1.out) (fun hHeld => ?_)
    clear hK K
    refine take_at (i := 3) rfl rfl (by kernel_rfl) (by kernel_rfl) (by kernel_rfl) (fun _ _ _ h => h) (yields_neq (by rfl) rfl rfl rfl HSL.out HHL.out true HNE.out) (by assumption) ?_
    simp only [List.setIfInBounds_toArray, List.set_cons_zero, List.set_cons_succ]
    refine wpAnyH_done (by kernel_rfl) ?_ _
    have HST := Lib.hid (bthen HB1.out (show Below w1.heap.size w1 y1 from hHeld))
    have HX2 := Lib.hid (keep hHeld H1.out)
    clear hHeld
    go_wp2_with fail
    go_ret
    exact ⟨rfl, HST.out⟩
  exact AllReadyH.nil
set_option linter.unusedSimpArgs false in
set_option maxRecDepth 100000 in
set_option maxHeartbeats 6400000 in
theorem put_full13 {w : World} {ps : Nat} {p : Value} {n : Int} {x : List UInt8} (h0 : w.heap[ps]? = some (.cells #[p, .int .i64 n] 34 (0, 0))) (hn : 1048576 < n) (hx : x.length = 32) (hk : KsAt w) :
    Calls Tryd.prog 12 #[.pointer (some ⟨ps, 0, none⟩), .agg (cellsOf x).toArray, .agg (cellsOf (shownSum x)).toArray] w fun e w' => e = .returned (.int .i64 6) ∧ Below w.heap.size w w' := by
  obtain ⟨s, hs, hsl, hcall⟩ : ∃ s, shownSum x = s ∧ s.length = 32 ∧ ∀ W : World, KsAt W → Calls Tryd.prog 9 #[.agg (cellsOf x).toArray] W fun e w' => e = .returned (.agg (cellsOf s).toArray) ∧ Below W.heap.size W w' := ⟨_, rfl, shownSum_len x, fun W hW => shash_any hx hW⟩
  rw [hs]
  obtain ⟨h, hsh, hh⟩ : ∃ h, s = h ∧ h.length = 32 := ⟨_, rfl, hsl⟩
  have HNE : Hid ((!decide (s = h)) = false) := Lib.hid (by simp [hsh])
  have H0 := Lib.hid h0
  have HHS := Lib.hid hcall
  have HSL := Lib.hid hsl
  have HHL := Lib.hid hh
  have HXL := Lib.hid hx
  have SZX := Lib.hid (sumLen13 hx)
  have SZH := Lib.hid (sumLen13 hh)
  have HK := Lib.hid hk
  rw [hsh]
  clear hcall hsl hs hx hh hk hsh h0
  go_enter Tryd.func12, Tryd.ntmps12
  go_upto_region 1 with (fail)
  have b1 : Below w.heap.size w ((w.alloc (.cells (cellsOf x).toArray 23)).alloc (.cells (cellsOf h).toArray 23)) := ((Below.refl _ _).alloc (Nat.le_refl _) _).alloc (by simp) _
  have h1 : ((w.alloc (.cells (cellsOf x).toArray 23)).alloc (.cells (cellsOf h).toArray 23)).heap[w.heap.size]? = some (.cells (cellsOf x).toArray 23 (0, 0)) := by
    rw [heap_alloc_old _ _ (by simp), heap_alloc_new]
  have h2 : ((w.alloc (.cells (cellsOf x).toArray 23)).alloc (.cells (cellsOf h).toArray 23)).heap[w.heap.size + 1]? = some (.cells (cellsOf h).toArray 23 (0, 0)) := heap_alloc_at _ _ _ (by simp)
  revert b1 h1 h2
  generalize ((w.alloc (.cells (cellsOf x).toArray 23)).alloc (.cells (cellsOf h).toArray 23)) = w1
  obtain ⟨g, hg⟩ : ∃ g, g = w.heap.size := ⟨_, rfl⟩
  rw [← hg]
  intro b1 h1 h2
  rw [hg] at b1
  have HB1 := Lib.hid b1
  have H1 := Lib.hid h1
  have H2 := Lib.hid h2
  have HHC := Lib.hid (HHS.out _ (HK.out.below b1))
  clear b1 h1 h2 hg
  go_upto_region 3 with (fail)
  refine wp_region_held_drew (S := fun w' => Below w1.heap.size w1 w') (by kernel_rfl) (below_drew (Below.refl _ _)) (fun hHeld => ?_)
  refine take_at (i := 0) rfl rfl (by kernel_rfl) (by kernel_rfl) (by kernel_rfl) (fun _ _ _ h => h) (yieldsIf_load_mid (by rfl) _ _ rfl g 0 rfl (cellsOf x) _ (fun w0 hSw => range_of (keep hSw H1.out)) Tryd.underlying23 rfl SZX.out) (by assumption) ?_
  simp only [List.setIfInBounds_toArray, List.set_cons_zero, List.set_cons_succ]
  refine take_at (i := 2) rfl rfl (by kernel_rfl) (by kernel_rfl) (by kernel_rfl) (fun _ _ _ h => h) (yieldsIf_load_mid (by rfl) _ _ rfl (g + 1) 0 rfl (cellsOf h) _ (fun w0 hSw => range_of (keep hSw H2.out)) Tryd.underlying23 rfl SZH.out) (by assumption) ?_
  simp only [List.setIfInBounds_toArray, List.set_cons_zero, List.set_cons_succ]
  refine wpAnyH_ready (rs := [1]) (by kernel_rfl) (by simp) ?_
  refine AllReadyH.cons rfl (fun K hK => ?_) ?_
  · have HC := Lib.hid (HHS.out w1.drew ((HK.out.below HB1.out).below (below_drew (Below.refl _ _))))
    go_simp
    go_wp2_with ((go_at_call 9; (with_reducible refine (HC.out).mono ?_); rintro e y1 ⟨rfl, hb⟩; have HY1 := Lib.hid hb; clear hb))
    refine hK.out _ _ (by (try dsimp only); exact bthen hHeld HY1.out) (fun hHeld => ?_)
    clear hK K
    refine take_at (i := 3) rfl rfl (by kernel_rfl) (by kernel_rfl) (by kernel_rfl) (fun _ _ _ h => h) (yields_neq (by rfl) rfl rfl rfl HSL.out HHL.out false HNE.out) (by assumption) ?_
    simp only [List.setIfInBounds_toArray, List.set_cons_zero, List.set_cons_succ]
    refine wpAnyH_done (by kernel_rfl) ?_ _
    have HST := Lib.hid (bthen HB1.out (show Below w1.heap.size w1 y1 from hHeld))
    have HX2 := Lib.hid (keep hHeld H1.out)
    clear hHeld
    have c1 := (shelf_cell (keep HST.out H0.out)).2
    go_wp2_with fail
    go_ret
    exact ⟨rfl, HST.out⟩
  exact AllReadyH.nil
set_option linter.unusedSimpArgs false in
set_option maxRecDepth 100000 in
set_option maxHeartbeats 6400000 in
theorem put_no13 {w : World} {x : List UInt8} {B ps : Nat} (hsh : ShelfNo w ps) (hB : B ≤ w.heap.size) (hx : x.length = 32) (hk : KsAt w) :
    Calls Tryd.prog 12 #[.pointer (some ⟨ps, 0, none⟩), .agg (cellsOf x).toArray, .agg (cellsOf (shownSum x)).toArray] w fun e w' => e = .returned (.int .i64 0) ∧ ∃ r a c, ShelfIs w' B ps r (.slice a 1 c) [x] ∧ w.heap.size ≤ r ∧ (∀ k, (Value.slice a 1 c).ownBlock = some k → w.heap.size ≤ k) ∧ But w.heap.size ps w w' := by
  obtain ⟨s, hs, hsl, hcall⟩ : ∃ s, shownSum x = s ∧ s.length = 32 ∧ ∀ W : World, KsAt W → Calls Tryd.prog 9 #[.agg (cellsOf x).toArray] W fun e w' => e = .returned (.agg (cellsOf s).toArray) ∧ Below W.heap.size W w' := ⟨_, rfl, shownSum_len x, fun W hW => shash_any hx hW⟩
  rw [hs]
  obtain ⟨h, hsh2, hh⟩ : ∃ h, s = h ∧ h.length = 32 := ⟨_, rfl, hsl⟩
  have HNE : Hid ((!decide (s = h)) = false) := Lib.hid (by simp [hsh2])
  have HHS := Lib.hid hcall
  have HSL := Lib.hid hsl
  have HHL := Lib.hid hh
  have HXL := Lib.hid hx
  have SZX := Lib.hid (sumLen13 hx)
  have SZH := Lib.hid (sumLen13 hh)
  have HK := Lib.hid hk
  have HSH := Lib.hid hsh
  have HBW := Lib.hid hB
  have SZXA := Lib.hid (size_of hx)
  rw [hsh2]
  clear hcall hsl hs hx hh hk hsh hsh2 hB
  go_enter Tryd.func12, Tryd.ntmps12
  go_upto_region 1 with (fail)
  have b1 : Below w.heap.size w ((w.alloc (.cells (cellsOf x).toArray 23)).alloc (.cells (cellsOf h).toArray 23)) := ((Below.refl _ _).alloc (Nat.le_refl _) _).alloc (by simp) _
  have h1 : ((w.alloc (.cells (cellsOf x).toArray 23)).alloc (.cells (cellsOf h).toArray 23)).heap[w.heap.size]? = some (.cells (cellsOf x).toArray 23 (0, 0)) := by
    rw [heap_alloc_old _ _ (by simp), heap_alloc_new]
  have h2 : ((w.alloc (.cells (cellsOf x).toArray 23)).alloc (.cells (cellsOf h).toArray 23)).heap[w.heap.size + 1]? = some (.cells (cellsOf h).toArray 23 (0, 0)) := heap_alloc_at _ _ _ (by simp)
  revert b1 h1 h2
  generalize ((w.alloc (.cells (cellsOf x).toArray 23)).alloc (.cells (cellsOf h).toArray 23)) = w1
  obtain ⟨g, hg⟩ : ∃ g, g = w.heap.size := ⟨_, rfl⟩
  rw [← hg]
  intro b1 h1 h2
  rw [hg] at b1
  have HB1 := Lib.hid b1
  have H1 := Lib.hid h1
  have H2 := Lib.hid h2
  have HHC := Lib.hid (HHS.out _ (HK.out.below b1))
  clear b1 h1 h2 hg
  go_upto_region 3 with (fail)
  refine wp_region_held_drew (S := fun w' => Below w1.heap.size w1 w') (by kernel_rfl) (below_drew (Below.refl _ _)) (fun hHeld => ?_)
  refine take_at (i := 0) rfl rfl (by kernel_rfl) (by kernel_rfl) (by kernel_rfl) (fun _ _ _ h => h) (yieldsIf_load_mid (by rfl) _ _ rfl g 0 rfl (cellsOf x) _ (fun w0 hSw => range_of (keep hSw H1.out)) Tryd.underlying23 rfl SZX.out) (by assumption) ?_
  simp only [List.setIfInBounds_toArray, List.set_cons_zero, List.set_cons_succ]
  refine take_at (i := 2) rfl rfl (by kernel_rfl) (by kernel_rfl) (by kernel_rfl) (fun _ _ _ h => h) (yieldsIf_load_mid (by rfl) _ _ rfl (g + 1) 0 rfl (cellsOf h) _ (fun w0 hSw => range_of (keep hSw H2.out)) Tryd.underlying23 rfl SZH.out) (by assumption) ?_
  simp only [List.setIfInBounds_toArray, List.set_cons_zero, List.set_cons_succ]
  refine wpAnyH_ready (rs := [1]) (by kernel_rfl) (by simp) ?_
  refine AllReadyH.cons rfl (fun K hK => ?_) ?_
  · have HC := Lib.hid (HHS.out w1.drew ((HK.out.below HB1.out).below (below_drew (Below.refl _ _))))
    go_simp
    go_wp2_with ((go_at_call 9; (with_reducible refine (HC.out).mono ?_); rintro e y1 ⟨rfl, hb⟩; have HY1 := Lib.hid hb; clear hb))
    refine hK.out _ _ (by (try dsimp only); exact bthen hHeld HY1.out) (fun hHeld => ?_)
    clear hK K
    refine take_at (i := 3) rfl rfl (by kernel_rfl) (by kernel_rfl) (by kernel_rfl) (fun _ _ _ h => h) (yields_neq (by rfl) rfl rfl rfl HSL.out HHL.out false HNE.out) (by assumption) ?_
    simp only [List.setIfInBounds_toArray, List.set_cons_zero, List.set_cons_succ]
    refine wpAnyH_done (by kernel_rfl) ?_ _
    have HST := Lib.hid (bthen HB1.out (show Below w1.heap.size w1 y1 from hHeld))
    have HX2 := Lib.hid (keep hHeld H1.out)
    clear hHeld
    have hsn := HSH.out.below HST.out
    have c1 := (shelf_cell hsn).2
    have HAD := Lib.hid (add_no13 (B := B) hsn HXL.out (Nat.le_trans HBW.out HST.out.size))
    clear hsn
    go_wp2_with (first | (refine wpList_load_row rfl 23 _ rfl g rfl 23 (cellsOf x).toArray (0, 0) _ HX2.out Tryd.underlying23 rfl SZXA.out ?_) | (go_at_call 22; (with_reducible refine (HAD.out).mono ?_); rintro e w5 ⟨rfl, r, a, c, hsi, hr, ho, hbt⟩; have HSI := Lib.hid hsi; have HR := Lib.hid hr; have HO := Lib.hid ho; have HBT := Lib.hid hbt; clear hsi hr ho hbt) | fail)
    go_ret
    exact ⟨rfl, r, a, c, HSI.out, Nat.le_trans HST.out.size HR.out, fun k e => Nat.le_trans HST.out.size (HO.out k e), (But.of HST.out).trans (HBT.out.mono HST.out.size)⟩
  exact AllReadyH.nil
set_option linter.unusedSimpArgs false in
set_option maxRecDepth 100000 in
set_option maxHeartbeats 6400000 in
theorem put_is13 {w : World} {x : List UInt8} {B ps r n c : Nat} {a : Option Addr} {ls : List (List UInt8)} (hsh : ShelfIs w B ps r (.slice a n c) ls) (hn : ls.length = n) (hm : n ≤ 1048576) (hB : B ≤ w.heap.size) (hx : x.length = 32) (hk : KsAt w) :
    Calls Tryd.prog 12 #[.pointer (some ⟨ps, 0, none⟩), .agg (cellsOf x).toArray, .agg (cellsOf (shownSum x)).toArray] w fun e w' => e = .returned (.int .i64 0) ∧ ∃ a' c', ShelfIs w' B ps r (.slice a' (n + 1) c') (ls ++ [x]) ∧ (∀ k, (Value.slice a' (n + 1) c').ownBlock = some k → (Value.slice a n c).ownBlock = some k ∨ w.heap.size ≤ k) ∧ Bar (fun k _ => k = ps ∨ k = r ∨ (Value.slice a n c).ownBlock = some k) w w' := by
  obtain ⟨s, hs, hsl, hcall⟩ : ∃ s, shownSum x = s ∧ s.length = 32 ∧ ∀ W : World, KsAt W → Calls Tryd.prog 9 #[.agg (cellsOf x).toArray] W fun e w' => e = .returned (.agg (cellsOf s).toArray) ∧ Below W.heap.size W w' := ⟨_, rfl, shownSum_len x, fun W hW => shash_any hx hW⟩
  rw [hs]
  obtain ⟨h, hsh2, hh⟩ : ∃ h, s = h ∧ h.length = 32 := ⟨_, rfl, hsl⟩
  have HNE : Hid ((!decide (s = h)) = false) := Lib.hid (by simp [hsh2])
  have HHS := Lib.hid hcall
  have HSL := Lib.hid hsl
  have HHL := Lib.hid hh
  have HXL := Lib.hid hx
  have SZX := Lib.hid (sumLen13 hx)
  have SZH := Lib.hid (sumLen13 hh)
  have HK := Lib.hid hk
  have HSH := Lib.hid hsh
  have HBW := Lib.hid hB
  have HN := Lib.hid hn
  have SZXA := Lib.hid (size_of hx)
  have f1 : ¬ (1048576 : Int) < (n : Int) := by omega
  rw [hsh2]
  clear hcall hsl hs hx hh hk hsh hsh2 hB hn
  go_enter Tryd.func12, Tryd.ntmps12
  go_upto_region 1 with (fail)
  have b1 : Below w.heap.size w ((w.alloc (.cells (cellsOf x).toArray 23)).alloc (.cells (cellsOf h).toArray 23)) := ((Below.refl _ _).alloc (Nat.le_refl _) _).alloc (by simp) _
  have h1 : ((w.alloc (.cells (cellsOf x).toArray 23)).alloc (.cells (cellsOf h).toArray 23)).heap[w.heap.size]? = some (.cells (cellsOf x).toArray 23 (0, 0)) := by
    rw [heap_alloc_old _ _ (by simp), heap_alloc_new]
  have h2 : ((w.alloc (.cells (cellsOf x).toArray 23)).alloc (.cells (cellsOf h).toArray 23)).heap[w.heap.size + 1]? = some (.cells (cellsOf h).toArray 23 (0, 0)) := heap_alloc_at _ _ _ (by simp)
  revert b1 h1 h2
  generalize ((w.alloc (.cells (cellsOf x).toArray 23)).alloc (.cells (cellsOf h).toArray 23)) = w1
  obtain ⟨g, hg⟩ : ∃ g, g = w.heap.size := ⟨_, rfl⟩
  rw [← hg]
  intro b1 h1 h2
  rw [hg] at b1
  have HB1 := Lib.hid b1
  have H1 := Lib.hid h1
  have H2 := Lib.hid h2
  have HHC := Lib.hid (HHS.out _ (HK.out.below b1))
  clear b1 h1 h2 hg
  go_upto_region 3 with (fail)
  refine wp_region_held_drew (S := fun w' => Below w1.heap.size w1 w') (by kernel_rfl) (below_drew (Below.refl _ _)) (fun hHeld => ?_)
  refine take_at (i := 0) rfl rfl (by kernel_rfl) (by kernel_rfl) (by kernel_rfl) (fun _ _ _ h => h) (yieldsIf_load_mid (by rfl) _ _ rfl g 0 rfl (cellsOf x) _ (fun w0 hSw => range_of (keep hSw H1.out)) Tryd.underlying23 rfl SZX.out) (by assumption) ?_
  simp only [List.setIfInBounds_toArray, List.set_cons_zero, List.set_cons_succ]
  refine take_at (i := 2) rfl rfl (by kernel_rfl) (by kernel_rfl) (by kernel_rfl) (fun _ _ _ h => h) (yieldsIf_load_mid (by rfl) _ _ rfl (g + 1) 0 rfl (cellsOf h) _ (fun w0 hSw => range_of (keep hSw H2.out)) Tryd.underlying23 rfl SZH.out) (by assumption) ?_
  simp only [List.setIfInBounds_toArray, List.set_cons_zero, List.set_cons_succ]
  refine wpAnyH_ready (rs := [1]) (by kernel_rfl) (by simp) ?_
  refine AllReadyH.cons rfl (fun K hK => ?_) ?_
  · have HC := Lib.hid (HHS.out w1.drew ((HK.out.below HB1.out).below (below_drew (Below.refl _ _))))
    go_simp
    go_wp2_with ((go_at_call 9; (with_reducible refine (HC.out).mono ?_); rintro e y1 ⟨rfl, hb⟩; have HY1 := Lib.hid hb; clear hb))
    refine hK.out _ _ (by (try dsimp only); exact bthen hHeld HY1.out) (fun hHeld => ?_)
    clear hK K
    refine take_at (i := 3) rfl rfl (by kernel_rfl) (by kernel_rfl) (by kernel_rfl) (fun _ _ _ h => h) (yields_neq (by rfl) rfl rfl rfl HSL.out HHL.out false HNE.out) (by assumption) ?_
    simp only [List.setIfInBounds_toArray, List.set_cons_zero, List.set_cons_succ]
    refine wpAnyH_done (by kernel_rfl) ?_ _
    have HST := Lib.hid (bthen HB1.out (show Below w1.heap.size w1 y1 from hHeld))
    have HX2 := Lib.hid (keep hHeld H1.out)
    clear hHeld
    have hsn := HSH.out.below HST.out
    have c1 := (shelf_cell hsn.cell).2
    rw [HN.out] at c1
    have HAD := Lib.hid (add_is13 hsn HN.out HXL.out (by omega) (Nat.le_trans HBW.out HST.out.size))
    clear hsn
    go_wp2_with (first | (refine wpList_load_row rfl 23 _ rfl g rfl 23 (cellsOf x).toArray (0, 0) _ HX2.out Tryd.underlying23 rfl SZXA.out ?_) | (go_at_call 22; (with_reducible refine (HAD.out).mono ?_); rintro e w5 ⟨rfl, a', c', hsi, ho, hbt⟩; have HSI := Lib.hid hsi; have HO := Lib.hid ho; have HBT := Lib.hid hbt; clear hsi ho hbt) | fail)
    go_ret
    exact ⟨rfl, a', c', HSI.out, fun k e => (HO.out k e).imp id (Nat.le_trans HST.out.size), (Bar.of HST.out).trans HBT.out⟩
  exact AllReadyH.nil
end Go.Proofs.YthpkafjonelanaaDoor
