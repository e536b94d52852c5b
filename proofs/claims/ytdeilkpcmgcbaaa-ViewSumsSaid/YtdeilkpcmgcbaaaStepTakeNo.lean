/- Law 9's step: Take, where there is no coin. -/
import Derived.Test.YtdeilkpcmgcbaaaRowStep
namespace Go.Proofs.Ytdeilkpcmgcbaaa
open Go.RowKit Go.Maps

set_option linter.unusedSimpArgs false in
set_option maxRecDepth 100000 in
set_option maxHeartbeats 25600000 in
theorem step_takeNo {w0 w : World} {pv lv : Value} {b N : Nat} {rs : List PRow} {o : PCall} (hL : LSt w0 w pv b N lv rs) (ho : CallIn w o) (hk : o.kind = 2) (hfi : findIx o.row.tx o.row.place rs 0 = -1) (hno : NoRow rs o.row.tx o.row.place) :
    Calls Try.prog 8 #[pv, lv, .agg o.cells.toArray] w fun e w' => StepOut w0 w pv b N e w' := by
  obtain ⟨a, c, rfl, hs, _⟩ := hL.list.it
  obtain ⟨kind, ⟨s, p, ⟨m, ao, no, co, xs⟩, ht⟩⟩ := o
  dsimp only at *
  obtain ⟨n, hn⟩ : ∃ n, n = rs.length := ⟨_, rfl⟩
  rw [← hn] at hs ⊢
  have hn63 := hs.len63
  have hnc : n ≤ c := hs.2.1
  have hc63 : (c : Int) ≤ 9223372036854775807 := by have h2 := hs.2.2.1; unfold maxLen at h2; omega
  have htx : s.length = 32 := ho.row.tx
  have HN := Lib.hid hn
  have HS := Lib.hid hs
  have HO := Lib.hid ho
  have HTX := Lib.hid htx
  have SR := Lib.hid (refSize (z := p) htx)
  subst hk
  have HFIND : Hid (∀ W : World, Below w.heap.size w W → Calls Try.prog 22 #[.slice a n c, .agg (refCells s p).toArray] W fun e w' => e = .returned (.int .i64 (-1)) ∧ Below W.heap.size W w') := Lib.hid (fun W hW => by
    have h9 := find_law (p := p) (HS.out.below hW) HTX.out
    rw [hfi] at h9
    exact h9)
  obtain ⟨F, hmo, hF⟩ := hL.view.mapOr
  have HTAKE : Hid (∀ W : World, Below w.heap.size w W → Calls Try.prog 14 #[pv, .agg (refCells s p).toArray] W fun e w' => e = .returned (.tuple #[coinV 0 none 0 0 0, .int .i64 13]) ∧ Below W.heap.size W w') := Lib.hid (fun W hW => by
    obtain ⟨F2, hmo2, hF2⟩ := (hL.view.below hW).mapOr
    exact take_no (hL.view.below hW).hasIt hmo2 htx ho.row.place (hF2.1 s p hno))
  have HOUT : Hid (∀ W : World, Below w.heap.size w W → StepOut w0 w pv b N (.returned (.tuple #[.slice a n c, .bool true])) W) := Lib.hid (fun W hW => by
    have h9 := StepOut.same hL hW
    rw [← HN.out] at h9
    exact h9)
  clear hL hs ho htx hn hno hfi hmo hF
  go_enter Try.func8, Try.ntmps8
  go_upto_region 1 with (fail)
  have b1 : Below w.heap.size w (w.alloc (.cells (PCall.cells ⟨2, ⟨s, p, ⟨m, ao, no, co, xs⟩, ht⟩⟩).toArray 34)) := (Below.refl _ _).alloc (Nat.le_refl _) _
  have h1 := callAt_row HTX.out (heap_alloc_new w (.cells (PCall.cells ⟨2, ⟨s, p, ⟨m, ao, no, co, xs⟩, ht⟩⟩).toArray 34))
  revert b1 h1
  generalize (w.alloc (.cells (PCall.cells ⟨2, ⟨s, p, ⟨m, ao, no, co, xs⟩, ht⟩⟩).toArray 34)) = w1
  obtain ⟨g5, hg5⟩ : ∃ g, g = w.heap.size := ⟨_, rfl⟩
  rw [← hg5]
  intro b1 h1
  have HG5 : Hid (w.heap.size ≤ g5) := Lib.hid (by omega)
  rw [hg5] at b1
  have HB1 := Lib.hid b1
  have HC1 := Lib.hid h1
  have hk1 := h1.kind
  clear b1 h1 hg5
  go_upto_region 5 with (go_big_may; first
    | (refine wpList_load_mid rfl 32 _ rfl g5 1 rfl (refCells s p) _ HC1.out.ref Try.underlying32 rfl SR.out ?_)
    | (go_at_call 22; refine (HFIND.out w1 HB1.out).mono ?_; rintro e w2 ⟨rfl, hb2⟩; have HB2 := Lib.hid (HB1.out.trans (hb2.mono HB1.out.size)); have HC2 := Lib.hid (HC1.out.below hb2); have hk2 := HC2.out.kind; have ho2 := HC2.out.height; clear hb2 HFIND)
    | (refine wpList_load_mid rfl 32 _ rfl g5 1 rfl (refCells s p) _ HC2.out.ref Try.underlying32 rfl SR.out ?_)
    | (go_at_call 14; refine (HTAKE.out w2 HB2.out).mono ?_; rintro e w3 ⟨rfl, hb3⟩; have HB3 := Lib.hid (HB2.out.trans (hb3.mono HB2.out.size)); clear hb3 HTAKE; unfold coinV)
    | (refine wpList_store_row rfl 41 _ _ rfl w3.heap.size #[.int .i64 0, .slice none 0 0, .int .i64 0] rfl rfl 41 #[.int .i64 0, .slice none 0 0, .int .i64 0] (heap_alloc_new _ _) (coin_size9 0 0 none 0 0) rfl (coin_one9 0 0 none 0 0) ?_)
    | fail)
  rw [layCoin_is]
  have h9 := layCoin_heap w3 0 none 0 0 0
  have b9 := layCoin_below (Below.refl w3.heap.size w3) (Nat.le_refl _) 0 none 0 0 0
  revert h9 b9
  generalize layCoin w3 0 none 0 0 0 = w5
  obtain ⟨g9, hg9⟩ : ∃ g, g = w3.heap.size := ⟨_, rfl⟩
  rw [← hg9]
  intro h9 b9
  rw [hg9] at b9
  have HB5 := Lib.hid (HB3.out.trans (b9.mono HB3.out.size))
  have K0 : Hid (∀ W : World, Below w5.heap.size w5 W → W.cell? ⟨g9, 0, none⟩ = some (.int .i64 0)) := Lib.hid (fun W hW => cell_of_row W g9 0 _ _ _ ((hW.block _ (lt_of_block h9)).trans h9))
  have K1 : Hid (∀ W : World, Below w5.heap.size w5 W → W.cell? ⟨g9, 1, none⟩ = some (.slice none 0 0)) := Lib.hid (fun W hW => cell_of_row W g9 1 _ _ _ ((hW.block _ (lt_of_block h9)).trans h9))
  have K2 : Hid (∀ W : World, Below w5.heap.size w5 W → W.cell? ⟨g9, 2, none⟩ = some (.int .i64 0)) := Lib.hid (fun W hW => cell_of_row W g9 2 _ _ _ ((hW.block _ (lt_of_block h9)).trans h9))
  clear h9 b9 hg9 HB1 HB2 HB3 HC1 HC2 hk1 hk2 ho2
  try simp only [Act.put]
  refine wp_region_held_drew (S := fun w' => Below w5.heap.size w5 w') (by kernel_rfl) (below_drew (Below.refl _ _)) (fun hHeld => ?_)
  refine take_at (i := 0) (v := ?_) rfl rfl (by kernel_rfl) (by kernel_rfl) (by kernel_rfl) (fun _ _ _ h => h) (Or.inl ⟨by rfl, ?_⟩) (by assumption) ?_
  rotate_left
  · intro w0 hSw; (try dsimp only at hSw); first | (go_simp; done) | (go_simp; with_reducible rfl)
  simp only [List.setIfInBounds_toArray, List.set_cons_zero, List.set_cons_succ]
  refine take_at (i := 1) (v := ?_) rfl rfl (by kernel_rfl) (by kernel_rfl) (by kernel_rfl) (fun _ _ _ h => h) (Or.inl ⟨by rfl, ?_⟩) (by assumption) ?_
  rotate_left
  · intro w0 hSw; (try dsimp only at hSw); first | (go_simp; done) | (go_simp; with_reducible rfl)
  simp only [List.setIfInBounds_toArray, List.set_cons_zero, List.set_cons_succ]
  refine take_at (i := 2) (v := ?_) rfl rfl (by kernel_rfl) (by kernel_rfl) (by kernel_rfl) (fun _ _ _ h => h) (Or.inl ⟨by rfl, ?_⟩) (by assumption) ?_
  rotate_left
  · intro w0 hSw; (try dsimp only at hSw); first | (go_simp; done) | (go_simp; with_reducible rfl)
  simp only [List.setIfInBounds_toArray, List.set_cons_zero, List.set_cons_succ]
  refine take_at (i := 3) (v := ?_) rfl rfl (by kernel_rfl) (by kernel_rfl) (by kernel_rfl) (fun _ _ _ h => h) (Or.inl ⟨by rfl, ?_⟩) (by assumption) ?_
  rotate_left
  · intro w0 hSw; (try dsimp only at hSw); first | (go_simp; done) | (go_simp; with_reducible rfl)
  simp only [List.setIfInBounds_toArray, List.set_cons_zero, List.set_cons_succ]
  refine take_at (i := 4) (v := ?_) rfl rfl (by kernel_rfl) (by kernel_rfl) (by kernel_rfl) (fun _ _ _ h => h) (Or.inl ⟨by rfl, ?_⟩) (by assumption) ?_
  rotate_left
  · intro w0 hSw; (try dsimp only at hSw); first | (go_simp; done) | (go_simp; with_reducible rfl)
  simp only [List.setIfInBounds_toArray, List.set_cons_zero, List.set_cons_succ]
  refine take_at (i := 5) (v := ?_) rfl rfl (by kernel_rfl) (by kernel_rfl) (by kernel_rfl) (fun _ _ _ h => h) (Or.inl ⟨by rfl, ?_⟩) (by assumption) ?_
  rotate_left
  · intro w0 hSw; (try dsimp only at hSw); first | (go_simp; done) | (go_simp; with_reducible rfl)
  simp only [List.setIfInBounds_toArray, List.set_cons_zero, List.set_cons_succ]
  refine take_at (i := 6) rfl rfl (by kernel_rfl) (by kernel_rfl) (by kernel_rfl) (fun _ _ _ h => h) (yields_cell (b := g9) (o := 0) (by rfl) rfl rfl (fun w0 hSw => K0.out w0 hSw) Try.isAgg2) (by assumption) ?_
  simp only [List.setIfInBounds_toArray, List.set_cons_zero, List.set_cons_succ]
  refine take_at (i := 7) (v := ?_) rfl rfl (by kernel_rfl) (by kernel_rfl) (by kernel_rfl) (fun _ _ _ h => h) (Or.inl ⟨by rfl, ?_⟩) (by assumption) ?_
  rotate_left
  · intro w0 hSw; (try dsimp only at hSw); first | (go_simp; done) | (go_simp; with_reducible rfl)
  simp only [List.setIfInBounds_toArray, List.set_cons_zero, List.set_cons_succ]
  refine take_at (i := 8) (v := ?_) rfl rfl (by kernel_rfl) (by kernel_rfl) (by kernel_rfl) (fun _ _ _ h => h) (Or.inl ⟨by rfl, ?_⟩) (by assumption) ?_
  rotate_left
  · intro w0 hSw; (try dsimp only at hSw); first | (go_simp; done) | (go_simp; with_reducible rfl)
  simp only [List.setIfInBounds_toArray, List.set_cons_zero, List.set_cons_succ]
  refine take_at (i := 9) (v := ?_) rfl rfl (by kernel_rfl) (by kernel_rfl) (by kernel_rfl) (fun _ _ _ h => h) (Or.inl ⟨by rfl, ?_⟩) (by assumption) ?_
  rotate_left
  · intro w0 hSw; (try dsimp only at hSw); first | (go_simp; done) | (go_simp; with_reducible rfl)
  simp only [List.setIfInBounds_toArray, List.set_cons_zero, List.set_cons_succ]
  refine take_at (i := 10) (v := ?_) rfl rfl (by kernel_rfl) (by kernel_rfl) (by kernel_rfl) (fun _ _ _ h => h) (Or.inl ⟨by rfl, ?_⟩) (by assumption) ?_
  rotate_left
  · intro w0 hSw; (try dsimp only at hSw); first | (go_simp; done) | (go_simp; with_reducible rfl)
  simp only [List.setIfInBounds_toArray, List.set_cons_zero, List.set_cons_succ]
  refine take_at (i := 11) (v := ?_) rfl rfl (by kernel_rfl) (by kernel_rfl) (by kernel_rfl) (fun _ _ _ h => h) (Or.inl ⟨by rfl, ?_⟩) (by assumption) ?_
  rotate_left
  · intro w0 hSw; (try dsimp only at hSw); first | (go_simp; done) | (go_simp; with_reducible rfl)
  simp only [List.setIfInBounds_toArray, List.set_cons_zero, List.set_cons_succ]
  refine take_at (i := 12) rfl rfl (by kernel_rfl) (by kernel_rfl) (by kernel_rfl) (fun _ _ _ h => h) (yields_cell (b := g9) (o := 1) (by rfl) rfl rfl (fun w0 hSw => K1.out w0 hSw) Try.isAgg26) (by assumption) ?_
  simp only [List.setIfInBounds_toArray, List.set_cons_zero, List.set_cons_succ]
  refine take_at (i := 13) (v := ?_) rfl rfl (by kernel_rfl) (by kernel_rfl) (by kernel_rfl) (fun _ _ _ h => h) (Or.inl ⟨by rfl, ?_⟩) (by assumption) ?_
  rotate_left
  · intro w0 hSw; (try dsimp only at hSw); first | (go_simp; done) | (go_simp; with_reducible rfl)
  simp only [List.setIfInBounds_toArray, List.set_cons_zero, List.set_cons_succ]
  refine take_at (i := 14) (v := ?_) rfl rfl (by kernel_rfl) (by kernel_rfl) (by kernel_rfl) (fun _ _ _ h => h) (Or.inl ⟨by rfl, ?_⟩) (by assumption) ?_
  rotate_left
  · intro w0 hSw; (try dsimp only at hSw); first | (go_simp; done) | (go_simp; with_reducible rfl)
  simp only [List.setIfInBounds_toArray, List.set_cons_zero, List.set_cons_succ]
  refine take_at (i := 15) (v := ?_) rfl rfl (by kernel_rfl) (by kernel_rfl) (by kernel_rfl) (fun _ _ _ h => h) (Or.inl ⟨by rfl, ?_⟩) (by assumption) ?_
  rotate_left
  · intro w0 hSw; (try dsimp only at hSw); first | (go_simp; done) | (go_simp; with_reducible rfl)
  simp only [List.setIfInBounds_toArray, List.set_cons_zero, List.set_cons_succ]
  refine take_at (i := 16) (v := ?_) rfl rfl (by kernel_rfl) (by kernel_rfl) (by kernel_rfl) (fun _ _ _ h => h) (Or.inl ⟨by rfl, ?_⟩) (by assumption) ?_
  rotate_left
  · intro w0 hSw; (try dsimp only at hSw); first | (go_simp; done) | (go_simp; with_reducible rfl)
  simp only [List.setIfInBounds_toArray, List.set_cons_zero, List.set_cons_succ]
  refine take_at (i := 17) (v := ?_) rfl rfl (by kernel_rfl) (by kernel_rfl) (by kernel_rfl) (fun _ _ _ h => h) (Or.inl ⟨by rfl, ?_⟩) (by assumption) ?_
  rotate_left
  · intro w0 hSw; (try dsimp only at hSw); first | (go_simp; done) | (go_simp; with_reducible rfl)
  simp only [List.setIfInBounds_toArray, List.set_cons_zero, List.set_cons_succ]
  refine take_at (i := 18) rfl rfl (by kernel_rfl) (by kernel_rfl) (by kernel_rfl) (fun _ _ _ h => h) (yields_cell (b := g9) (o := 2) (by rfl) rfl rfl (fun w0 hSw => K2.out w0 hSw) Try.isAgg3) (by assumption) ?_
  simp only [List.setIfInBounds_toArray, List.set_cons_zero, List.set_cons_succ]
  refine take_at (i := 19) (v := ?_) rfl rfl (by kernel_rfl) (by kernel_rfl) (by kernel_rfl) (fun _ _ _ h => h) (Or.inl ⟨by rfl, ?_⟩) (by assumption) ?_
  rotate_left
  · intro w0 hSw; (try dsimp only at hSw); first | (go_simp; done) | (go_simp; with_reducible rfl)
  simp only [List.setIfInBounds_toArray, List.set_cons_zero, List.set_cons_succ]
  refine take_at (i := 20) (v := ?_) rfl rfl (by kernel_rfl) (by kernel_rfl) (by kernel_rfl) (fun _ _ _ h => h) (Or.inl ⟨by rfl, ?_⟩) (by assumption) ?_
  rotate_left
  · intro w0 hSw; (try dsimp only at hSw); first | (go_simp; done) | (go_simp; with_reducible rfl)
  simp only [List.setIfInBounds_toArray, List.set_cons_zero, List.set_cons_succ]
  refine take_at (i := 21) (v := ?_) rfl rfl (by kernel_rfl) (by kernel_rfl) (by kernel_rfl) (fun _ _ _ h => h) (Or.inl ⟨by rfl, ?_⟩) (by assumption) ?_
  rotate_left
  · intro w0 hSw; (try dsimp only at hSw); first | (go_simp; done) | (go_simp; with_reducible rfl)
  simp only [List.setIfInBounds_toArray, List.set_cons_zero, List.set_cons_succ]
  refine take_at (i := 22) (v := ?_) rfl rfl (by kernel_rfl) (by kernel_rfl) (by kernel_rfl) (fun _ _ _ h => h) (Or.inl ⟨by rfl, ?_⟩) (by assumption) ?_
  rotate_left
  · intro w0 hSw; (try dsimp only at hSw); first | (go_simp; done) | (go_simp; with_reducible rfl)
  simp only [List.setIfInBounds_toArray, List.set_cons_zero, List.set_cons_succ]
  refine wpAnyH_done (by kernel_rfl) ?_ _
  have HB9 := Lib.hid (show Below w5.heap.size w5 _ from hHeld)
  clear hHeld
  go_wp2_with fail
  go_ret2
  exact HOUT.out _ (HB5.out.trans (HB9.out.mono HB5.out.size))
end Go.Proofs.Ytdeilkpcmgcbaaa
