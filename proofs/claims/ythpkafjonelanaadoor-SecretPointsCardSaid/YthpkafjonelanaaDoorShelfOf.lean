/- What All and Clone tell of a shelf. -/
import Derived.Test.YthpkafjonelanaaDoorShelfAt
namespace Go.Proofs.YthpkafjonelanaaDoor
open Go.RowKit

set_option linter.unusedSimpArgs false in
set_option maxRecDepth 100000 in
set_option maxHeartbeats 6400000 in
theorem all_no13 {w : World} {ps : Nat} (h : ShelfNo w ps) :
    Calls Tryd.prog 13 #[.pointer (some ⟨ps, 0, none⟩)] w fun e w' => e = .returned (.slice none 0 0) ∧ w = w' := by
  have HL := Lib.hid (len_at13 h)
  clear h
  go_enter Tryd.func13, Tryd.ntmps13
  go_wp2_with (first | (go_at_call 14; (with_reducible refine (HL.out).mono ?_); rintro e w2 ⟨rfl, rfl⟩) | fail)
  go_ret
  exact ⟨rfl, rfl⟩
set_option linter.unusedSimpArgs false in
set_option maxRecDepth 100000 in
set_option maxHeartbeats 6400000 in
theorem all_nil13 {w : World}  :
    Calls Tryd.prog 13 #[.pointer none] w fun e w' => e = .returned (.slice none 0 0) ∧ w = w' := by
  have HL := Lib.hid (len_nil13 (w := w))
  go_enter Tryd.func13, Tryd.ntmps13
  go_wp2_with (first | (go_at_call 14; (with_reducible refine (HL.out).mono ?_); rintro e w2 ⟨rfl, rfl⟩) | fail)
  go_ret
  exact ⟨rfl, rfl⟩
set_option linter.unusedSimpArgs false in
set_option maxRecDepth 100000 in
set_option maxHeartbeats 6400000 in
theorem all_is13 {w : World} {B ps r : Nat} {v : Value} {ls : List (List UInt8)} (h : ShelfIs w B ps r v ls) (hs : ls.length ≤ 2000000) :
    Calls Tryd.prog 13 #[.pointer (some ⟨ps, 0, none⟩)] w fun e w' => ∃ a' c', e = .returned (.slice a' ls.length c') ∧ OwnS w' w.heap.size (.slice a' ls.length c') ls ∧ Below w.heap.size w w' := by
  obtain ⟨a, c, rfl, _⟩ := h.own.shape
  obtain ⟨g, rfl, hBg, hlg⟩ := h.own.full h.full
  have hsum := h.own.sums
  have hnc := hsum.2.1
  have h0 := h.cell
  have h2 := h.rack
  have hne : ls.length ≠ 0 := fun e => h.full (List.eq_nil_of_length_eq_zero e)
  obtain ⟨n, hn⟩ : ∃ n, ls.length = n := ⟨_, rfl⟩
  rw [hn] at h0 h2 hsum hnc hne hs
  rw [hn]
  have f1 : (n : Int) ≠ 0 := by omega
  have HL := Lib.hid (len_at13 h0)
  have H0 := Lib.hid h0
  have H2 := Lib.hid h2
  have HS := Lib.hid hsum
  have HNC := Lib.hid hnc
  clear h h0 h2 hsum hnc hn hBg hlg hne
  go_enter Tryd.func13, Tryd.ntmps13
  go_upto_region 3 with (first | (go_at_call 14; (with_reducible refine (HL.out).mono ?_); rintro e w2 ⟨rfl, rfl⟩) | fail)
  refine wp_region_held_drew (S := fun w' => Below w.heap.size w w') (by kernel_rfl) (below_drew (Below.refl _ _)) (fun hHeld => ?_)
  refine take_at (i := 0) (v := ?_) rfl rfl (by kernel_rfl) (by kernel_rfl) (by kernel_rfl) (fun _ _ _ h => h) (Or.inl ⟨by rfl, ?_⟩) (by assumption) ?_
  rotate_left
  · intro w0 hSw; (try dsimp only at hSw); first | (go_simp; done) | (go_simp; with_reducible rfl)
  simp only [List.setIfInBounds_toArray, List.set_cons_zero, List.set_cons_succ]
  refine take_at (i := 1) (v := ?_) rfl rfl (by kernel_rfl) (by kernel_rfl) (by kernel_rfl) (fun _ _ _ h => h) (Or.inl ⟨by rfl, ?_⟩) (by assumption) ?_
  rotate_left
  · intro w0 hSw; (try dsimp only at hSw); first | (go_simp; done) | (go_simp; with_reducible rfl)
  simp only [List.setIfInBounds_toArray, List.set_cons_zero, List.set_cons_succ]
  refine take_at (i := 2) (v := ?_) rfl rfl (by kernel_rfl) (by kernel_rfl) (by kernel_rfl) (fun _ _ _ h => h) (Or.inl ⟨by rfl, ?_⟩) (by assumption) ?_
  rotate_left
  · intro w0 hSw; (try dsimp only at hSw); first | (go_simp; done) | (go_simp; with_reducible rfl)
  simp only [List.setIfInBounds_toArray, List.set_cons_zero, List.set_cons_succ]
  refine take_at (i := 3) rfl rfl (by kernel_rfl) (by kernel_rfl) (by kernel_rfl) (fun _ _ _ h => h) (yields_cell (by rfl) rfl rfl (b := ps) (o := 0) (fun w0 hSw => (shelf_cell (keep hSw H0.out)).1) agShelfP) (by assumption) ?_
  simp only [List.setIfInBounds_toArray, List.set_cons_zero, List.set_cons_succ]
  refine take_at (i := 4) (v := ?_) rfl rfl (by kernel_rfl) (by kernel_rfl) (by kernel_rfl) (fun _ _ _ h => h) (Or.inl ⟨by rfl, ?_⟩) (by assumption) ?_
  rotate_left
  · intro w0 hSw; (try dsimp only at hSw); first | (go_simp; done) | (go_simp; with_reducible rfl)
  simp only [List.setIfInBounds_toArray, List.set_cons_zero, List.set_cons_succ]
  refine take_at (i := 5) (v := ?_) rfl rfl (by kernel_rfl) (by kernel_rfl) (by kernel_rfl) (fun _ _ _ h => h) (Or.inl ⟨by rfl, ?_⟩) (by assumption) ?_
  rotate_left
  · intro w0 hSw; (try dsimp only at hSw); first | (go_simp; done) | (go_simp; with_reducible rfl)
  simp only [List.setIfInBounds_toArray, List.set_cons_zero, List.set_cons_succ]
  refine take_at (i := 6) rfl rfl (by kernel_rfl) (by kernel_rfl) (by kernel_rfl) (fun _ _ _ h => h) (yields_cell (by rfl) rfl rfl (b := r) (o := 0) (fun w0 hSw => rack_cell (keep hSw H2.out)) agRow13) (by assumption) ?_
  simp only [List.setIfInBounds_toArray, List.set_cons_zero, List.set_cons_succ]
  refine take_at (i := 7) (v := ?_) rfl rfl (by kernel_rfl) (by kernel_rfl) (by kernel_rfl) (fun _ _ _ h => h) (Or.inl ⟨by rfl, ?_⟩) (by assumption) ?_
  rotate_left
  · intro w0 hSw; (try dsimp only at hSw); first | (go_simp; done) | (go_simp; with_reducible rfl)
  simp only [List.setIfInBounds_toArray, List.set_cons_zero, List.set_cons_succ]
  refine take_at (i := 8) (v := ?_) rfl rfl (by kernel_rfl) (by kernel_rfl) (by kernel_rfl) (fun _ _ _ h => h) (Or.inl ⟨by rfl, ?_⟩) (by assumption) ?_
  rotate_left
  · intro w0 hSw; (try dsimp only at hSw); first | (go_simp; done) | (go_simp; with_reducible rfl)
  simp only [List.setIfInBounds_toArray, List.set_cons_zero, List.set_cons_succ]
  refine take_at (i := 9) (v := ?_) rfl rfl (by kernel_rfl) (by kernel_rfl) (by kernel_rfl) (fun _ _ _ h => h) (Or.inl ⟨by rfl, ?_⟩) (by assumption) ?_
  rotate_left
  · intro w0 hSw; (try dsimp only at hSw); first | (go_simp; done) | (go_simp; with_reducible rfl)
  simp only [List.setIfInBounds_toArray, List.set_cons_zero, List.set_cons_succ]
  refine take_at (i := 10) rfl rfl (by kernel_rfl) (by kernel_rfl) (by kernel_rfl) (fun _ _ _ h => h) (yields_cell (by rfl) rfl rfl (b := ps) (o := 1) (fun w0 hSw => (shelf_cell (keep hSw H0.out)).2) agInt13) (by assumption) ?_
  simp only [List.setIfInBounds_toArray, List.set_cons_zero, List.set_cons_succ]
  refine take_at (i := 11) rfl rfl (by kernel_rfl) (by kernel_rfl) (by kernel_rfl) (fun _ _ _ h => h) (yields_upto13 (by rfl) rfl rfl rfl HNC.out) (by assumption) ?_
  simp only [List.setIfInBounds_toArray, List.set_cons_zero, List.set_cons_succ]
  refine wpAnyH_ready (rs := [12]) (by kernel_rfl) (by simp) ?_
  refine AllReadyH.cons rfl (fun K hK => ?_) ?_
  · have HC := Lib.hid (cloneS_any (HS.out.below hHeld) hs)
    go_simp
    go_wp2_with ((go_at_call 23; (with_reducible refine (HC.out).mono ?_); rintro e y ⟨a9, c9, rfl, ho, hb⟩; have HO := Lib.hid ho; have HY := Lib.hid hb; clear ho hb))
    refine hK.out _ _ (by (try dsimp only); exact bthen hHeld HY.out) (fun hHeld => ?_)
    clear hK K
    refine take_at (i := 13) (v := ?_) rfl rfl (by kernel_rfl) (by kernel_rfl) (by kernel_rfl) (fun _ _ _ h => h) (Or.inl ⟨by rfl, ?_⟩) (by assumption) ?_
    rotate_left
    · intro w0 hSw; (try dsimp only at hSw); first | (go_simp; done) | (go_simp; with_reducible rfl)
    simp only [List.setIfInBounds_toArray, List.set_cons_zero, List.set_cons_succ]
    refine wpAnyH_done (by kernel_rfl) ?_ _
    have HFIN := Lib.hid (show Below w.heap.size w y from hHeld)
    have HW := Lib.hid (show w.heap.size ≤ w.drew.heap.size from Nat.le_refl _)
    clear hHeld
    go_wp2_with fail
    go_ret
    exact ⟨a9, c9, rfl, HO.out.base HW.out, HFIN.out⟩
  exact AllReadyH.nil
set_option linter.unusedSimpArgs false in
set_option maxRecDepth 100000 in
set_option maxHeartbeats 6400000 in
theorem clone_no13 {w : World} {ps : Nat} (h : ShelfNo w ps) :
    Calls Tryd.prog 11 #[.pointer (some ⟨ps, 0, none⟩)] w fun e w' => e = .returned (.agg #[.pointer none, .int .i64 0]) ∧ Below w.heap.size w w' := by
  go_enter Tryd.func11, Tryd.ntmps11
  go_upto_region 1 with (fail)
  have b1 : Below w.heap.size w (w.alloc (.cells #[.pointer none, .int .i64 0] 34)) := (Below.refl _ _).alloc (Nat.le_refl _) _
  have h1 := heap_alloc_new w (.cells #[.pointer none, .int .i64 0] 34)
  have h := keep b1 h
  revert b1 h1 h
  generalize (w.alloc (.cells #[.pointer none, .int .i64 0] 34)) = w1
  obtain ⟨q, hq⟩ : ∃ q, q = w.heap.size := ⟨_, rfl⟩
  rw [← hq]
  intro b1 h1 h
  rw [hq] at b1
  have HL := Lib.hid (len_at13 h)
  have HB1 := Lib.hid b1
  have HQ1 := Lib.hid h1
  have HN : Hid (w.heap.size ≤ q) := Lib.hid (by omega)
  clear b1 h1 hq
  go_upto_region 2 with (first | (go_at_call 14; (with_reducible refine (HL.out).mono ?_); rintro e w2 ⟨rfl, rfl⟩) | fail)
  go_wp2_with (first | (refine wpList_row10 rfl 34 _ _ rfl q [.pointer none, .int .i64 0] rfl rfl 34 [.pointer none, .int .i64 0] HQ1.out (by kernel_rfl) rfl (by simp [Value.oneCell']) ?_; intro w5 hh5 hb5; have HFIN := Lib.hid (But.in HB1.out hb5 HN.out); have HX5 := Lib.hid hh5; clear hb5 hh5) | fail)
  exact bodyPost_ret (results_cell_row rfl _ _ q 34 #[.pointer none, .int .i64 0] (0, 0) _ rfl HX5.out Tryd.underlying34 rfl (by kernel_rfl)) rfl ⟨rfl, HFIN.out⟩
set_option linter.unusedSimpArgs false in
set_option maxRecDepth 100000 in
set_option maxHeartbeats 6400000 in
theorem clone_nil13 {w : World}  :
    Calls Tryd.prog 11 #[.pointer none] w fun e w' => e = .returned (.agg #[.pointer none, .int .i64 0]) ∧ Below w.heap.size w w' := by
  go_enter Tryd.func11, Tryd.ntmps11
  go_upto_region 1 with (fail)
  have b1 : Below w.heap.size w (w.alloc (.cells #[.pointer none, .int .i64 0] 34)) := (Below.refl _ _).alloc (Nat.le_refl _) _
  have h1 := heap_alloc_new w (.cells #[.pointer none, .int .i64 0] 34)
  revert b1 h1
  generalize (w.alloc (.cells #[.pointer none, .int .i64 0] 34)) = w1
  obtain ⟨q, hq⟩ : ∃ q, q = w.heap.size := ⟨_, rfl⟩
  rw [← hq]
  intro b1 h1
  rw [hq] at b1
  have HL := Lib.hid (len_nil13 (w := w1))
  have HB1 := Lib.hid b1
  have HQ1 := Lib.hid h1
  have HN : Hid (w.heap.size ≤ q) := Lib.hid (by omega)
  clear b1 h1 hq
  go_upto_region 2 with (first | (go_at_call 14; (with_reducible refine (HL.out).mono ?_); rintro e w2 ⟨rfl, rfl⟩) | fail)
  go_wp2_with (first | (refine wpList_row10 rfl 34 _ _ rfl q [.pointer none, .int .i64 0] rfl rfl 34 [.pointer none, .int .i64 0] HQ1.out (by kernel_rfl) rfl (by simp [Value.oneCell']) ?_; intro w5 hh5 hb5; have HFIN := Lib.hid (But.in HB1.out hb5 HN.out); have HX5 := Lib.hid hh5; clear hb5 hh5) | fail)
  exact bodyPost_ret (results_cell_row rfl _ _ q 34 #[.pointer none, .int .i64 0] (0, 0) _ rfl HX5.out Tryd.underlying34 rfl (by kernel_rfl)) rfl ⟨rfl, HFIN.out⟩
set_option linter.unusedSimpArgs false in
set_option maxRecDepth 100000 in
set_option maxHeartbeats 6400000 in
theorem clone_is13 {w : World} {B ps r : Nat} {v : Value} {ls : List (List UInt8)} (h : ShelfIs w B ps r v ls) (hs : ls.length ≤ 2000000) :
    Calls Tryd.prog 11 #[.pointer (some ⟨ps, 0, none⟩)] w fun e w' => ∃ r' a' c', e = .returned (.agg #[.pointer (some ⟨r', 0, none⟩), .int .i64 ((ls.length : Nat) : Int)]) ∧ w.heap.size ≤ r' ∧ w'.heap[r']? = some (.cells #[.slice a' ls.length c'] 60 (0, 0)) ∧ OwnS w' w.heap.size (.slice a' ls.length c') ls ∧ Below w.heap.size w w' := by
  have hall : ∀ W : World, ShelfIs W B ps r v ls → Calls Tryd.prog 13 #[.pointer (some ⟨ps, 0, none⟩)] W fun e w' => ∃ a' c', e = .returned (.slice a' ls.length c') ∧ OwnS w' W.heap.size (.slice a' ls.length c') ls ∧ Below W.heap.size W w' := fun W hW => all_is13 hW hs
  have h0 := h.cell
  have hne : ls.length ≠ 0 := fun e => h.full (List.eq_nil_of_length_eq_zero e)
  obtain ⟨n, hn⟩ : ∃ n, ls.length = n := ⟨_, rfl⟩
  rw [hn] at h0 hne hall
  rw [hn]
  have f1 : (n : Int) ≠ 0 := by omega
  have HALL := Lib.hid hall
  have H00 := Lib.hid h0
  have HI0 := Lib.hid h
  clear h h0 hall hne hs hn
  go_enter Tryd.func11, Tryd.ntmps11
  go_upto_region 1 with (fail)
  have b1 : Below w.heap.size w (w.alloc (.cells #[.pointer none, .int .i64 0] 34)) := (Below.refl _ _).alloc (Nat.le_refl _) _
  have h1 := heap_alloc_new w (.cells #[.pointer none, .int .i64 0] 34)
  revert b1 h1
  generalize (w.alloc (.cells #[.pointer none, .int .i64 0] 34)) = w1
  obtain ⟨q, hq⟩ : ∃ q, q = w.heap.size := ⟨_, rfl⟩
  rw [← hq]
  intro b1 h1
  rw [hq] at b1
  have HB1 := Lib.hid b1
  have HQ1 := Lib.hid h1
  have HN : Hid (w.heap.size ≤ q) := Lib.hid (by omega)
  have HPQ : Hid (ps ≠ q) := Lib.hid (by have := lt_of_block H00.out; omega)
  have HPL : Hid (ps < w1.heap.size) := Lib.hid (by have := lt_of_block H00.out; have := b1.size; omega)
  have HL := Lib.hid (len_at13 (keep b1 H00.out))
  have H0 := Lib.hid (keep b1 H00.out)
  have HIS := Lib.hid (HI0.out.below b1)
  clear b1 h1 hq
  go_upto_region 3 with (first | (go_at_call 14; (with_reducible refine (HL.out).mono ?_); rintro e w2 ⟨rfl, rfl⟩) | fail)
  refine wp_region_held_drew (S := fun w' => But w1.heap.size q w1 w') (by kernel_rfl) (But.of (below_drew (Below.refl _ _))) (fun hHeld => ?_)
  refine take_at (i := 0) (v := ?_) rfl rfl (by kernel_rfl) (by kernel_rfl) (by kernel_rfl) (fun _ _ _ h => h) (Or.inl ⟨by rfl, ?_⟩) (by assumption) ?_
  rotate_left
  · intro w0 hSw; (try dsimp only at hSw); first | (go_simp; done) | (go_simp; with_reducible rfl)
  simp only [List.setIfInBounds_toArray, List.set_cons_zero, List.set_cons_succ]
  refine take_at (i := 4) (v := ?_) rfl rfl (by kernel_rfl) (by kernel_rfl) (by kernel_rfl) (fun _ _ _ h => h) (Or.inl ⟨by rfl, ?_⟩) (by assumption) ?_
  rotate_left
  · intro w0 hSw; (try dsimp only at hSw); first | (go_simp; done) | (go_simp; with_reducible rfl)
  simp only [List.setIfInBounds_toArray, List.set_cons_zero, List.set_cons_succ]
  refine take_at (i := 5) (v := ?_) rfl rfl (by kernel_rfl) (by kernel_rfl) (by kernel_rfl) (fun _ _ _ h => h) (Or.inl ⟨by rfl, ?_⟩) (by assumption) ?_
  rotate_left
  · intro w0 hSw; (try dsimp only at hSw); first | (go_simp; done) | (go_simp; with_reducible rfl)
  simp only [List.setIfInBounds_toArray, List.set_cons_zero, List.set_cons_succ]
  refine take_at (i := 6) (v := ?_) rfl rfl (by kernel_rfl) (by kernel_rfl) (by kernel_rfl) (fun _ _ _ h => h) (Or.inl ⟨by rfl, ?_⟩) (by assumption) ?_
  rotate_left
  · intro w0 hSw; (try dsimp only at hSw); first | (go_simp; done) | (go_simp; with_reducible rfl)
  simp only [List.setIfInBounds_toArray, List.set_cons_zero, List.set_cons_succ]
  refine take_at (i := 7) rfl rfl (by kernel_rfl) (by kernel_rfl) (by kernel_rfl) (fun _ _ _ h => h) (yields_cell (by rfl) rfl rfl (b := ps) (o := 1) (fun w0 hSw => (shelf_cell ((hSw.block ps HPL.out HPQ.out).trans H0.out)).2) agInt13) (by assumption) ?_
  simp only [List.setIfInBounds_toArray, List.set_cons_zero, List.set_cons_succ]
  refine wpAnyH_ready (rs := [1]) (by kernel_rfl) (by simp) ?_
  refine AllReadyH.cons rfl (fun K hK => ?_) ?_
  · have HA := Lib.hid (HALL.out _ (HIS.out.below (below_drew (Below.refl _ _))))
    go_simp
    go_wp2_with ((go_at_call 13; (with_reducible refine (HA.out).mono ?_); rintro e y1 ⟨a9, c9, rfl, ho, hb⟩; have HO := Lib.hid ho; have HY1 := Lib.hid hb; have HZ1 := Lib.hid (keep hb HQ1.out); clear ho hb))
    refine hK.out _ _ (by (try dsimp only); exact hHeld.trans (But.of (HY1.out.mono hHeld.size))) (fun hHeld => ?_)
    clear hK K
    refine take_at (i := 2) (v := ?_) rfl rfl (by kernel_rfl) (by kernel_rfl) (by kernel_rfl) (fun _ _ _ h => h) (Or.inl ⟨by rfl, ?_⟩) (by assumption) ?_
    rotate_left
    · intro w0 hSw; (try dsimp only at hSw); first | (go_simp; done) | (go_simp; with_reducible rfl)
    simp only [List.setIfInBounds_toArray, List.set_cons_zero, List.set_cons_succ]
    refine wpAnyH_ready (rs := [3]) (by kernel_rfl) (by simp) ?_
    refine AllReadyH.cons rfl (fun K hK => ?_) ?_
    · refine step_box10 (d := 10) rfl (by rfl) 60 _ rfl #[.slice a9 n c9] rfl (fun p3 y3 hp3 hh3 hb => ?_)
      have HR3 := Lib.hid hh3
      have HO3 := Lib.hid (HO.out.below hb)
      have HP3 := Lib.hid (Nat.le_trans HY1.out.size hp3)
      have HZ3 := Lib.hid (keep hb HZ1.out)
      have HY3 := Lib.hid hb
      clear hh3 hb hp3
      refine hK.out _ _ (by (try dsimp only); exact hHeld.trans (But.of (HY3.out.mono hHeld.size))) (fun hHeld => ?_)
      clear hK K
      refine take_at (i := 8) (v := ?_) rfl rfl (by kernel_rfl) (by kernel_rfl) (by kernel_rfl) (fun _ _ _ h => h) (Or.inl ⟨by rfl, ?_⟩) (by assumption) ?_
      rotate_left
      · intro w0 hSw; (try dsimp only at hSw); first | (go_simp; done) | (go_simp; with_reducible rfl)
      simp only [List.setIfInBounds_toArray, List.set_cons_zero, List.set_cons_succ]
      refine wpAnyH_ready (rs := [9]) (by kernel_rfl) (by simp) ?_
      refine AllReadyH.cons rfl (fun K hK => ?_) ?_
      · refine step_row10 (by rfl) 34 _ _ rfl q [.pointer (some ⟨p3, 0, none⟩), .int .i64 (n : Int)] (by rfl) (by rfl) 34 [.pointer none, .int .i64 0] HZ3.out (by kernel_rfl) rfl (by simp [Value.oneCell']) (fun y9 hh9 hb => ?_)
        have HZ9 := Lib.hid hh9
        have HQ9 := Lib.hid (lt_of_block HQ1.out)
        have HR9 := Lib.hid ((hb.block p3 (lt_of_block HR3.out) (Nat.ne_of_gt (Nat.lt_of_lt_of_le HQ9.out HP3.out))).trans HR3.out)
        have HO9 := Lib.hid (HO3.out.stay (fun k e => hb.block k (HO3.out.lt k e).2 (Nat.ne_of_gt (Nat.lt_of_lt_of_le HQ9.out (HO3.out.lt k e).1))))
        have HY9 := Lib.hid hb
        clear hh9 hb
        refine hK.out _ _ (by (try dsimp only); exact hHeld.trans (HY9.out.mono hHeld.size)) (fun hHeld => ?_)
        clear hK K
        refine wpAnyH_done (by kernel_rfl) ?_ _
        have HFIN := Lib.hid (But.in HB1.out (show But w1.heap.size q w1 y9 from hHeld) HN.out)
        have HBS := Lib.hid (show w.heap.size ≤ w1.drew.heap.size from HB1.out.size)
        clear hHeld
        go_wp2_with fail
        exact bodyPost_ret (results_cell_row rfl _ _ q 34 #[.pointer (some ⟨p3, 0, none⟩), .int .i64 (n : Int)] (0, 0) _ rfl HZ9.out Tryd.underlying34 rfl (by kernel_rfl)) rfl ⟨p3, a9, c9, rfl, Nat.le_trans HBS.out HP3.out, HR9.out, HO9.out.base HBS.out, HFIN.out⟩
      exact AllReadyH.nil
    exact AllReadyH.nil
  exact AllReadyH.nil
end Go.Proofs.YthpkafjonelanaaDoor
