/- What chapter 13's example comes to: true. -/
import Derived.Test.YthpkafjonelanaaDoorShelfOne
namespace Go.Proofs.YthpkafjonelanaaDoor
open Go.RowKit

theorem awake_ne13 : shownSum (secOf zero32 0) ≠ secOf zero32 0 := by decide +kernel
set_option linter.unusedSimpArgs false in
set_option maxRecDepth 100000 in
set_option maxHeartbeats 6400000 in
theorem awake13_any {w : World} (hk : KsAt w) : Calls Tryd.prog 6 #[] w fun e w' => e = .returned (.bool true) ∧ Below w.heap.size w w' := by
  obtain ⟨z, hz, hzl⟩ : ∃ z, zero32 = z ∧ z.length = 32 := ⟨_, rfl, rfl⟩
  obtain ⟨x, hxl, hof, hpo, hne⟩ : ∃ x : List UInt8, x.length = 32 ∧ (∀ W : World, KsAt W → Calls Tryd.prog 8 #[.agg (cellsOf zero32).toArray, .int .i64 0] W fun e w' => e = .returned (.agg (cellsOf x).toArray) ∧ Below W.heap.size W w') ∧ (∀ W : World, KsAt W → Calls Tryd.prog 10 #[.agg (cellsOf zero32).toArray, .int .i64 0] W fun e w' => e = .returned (.agg (cellsOf (shownSum x)).toArray) ∧ Below W.heap.size W w') ∧ shownSum x ≠ x :=
    ⟨secOf zero32 0, secOf_len _ _, fun W hW => of_any (z := 0) (m := 0) rfl rfl (by decide) hW, fun W hW => point_any (z := 0) (m := 0) rfl rfl (by decide) hW, awake_ne13⟩
  obtain ⟨h, hh, hhl⟩ : ∃ h, shownSum x = h ∧ h.length = 32 := ⟨_, rfl, shownSum_len x⟩
  rw [hh] at hpo hne
  have HOF := Lib.hid hof
  have HPO := Lib.hid hpo
  have HPB0 : Hid (∀ (W : World) (ps : Nat), KsAt W → Calls Tryd.prog 12 #[.pointer (some ⟨ps, 0, none⟩), .agg (cellsOf x).toArray, .agg (cellsOf x).toArray] W fun e w' => e = .returned (.int .i64 16) ∧ Below W.heap.size W w') := Lib.hid fun W ps hW => put_bad13 hxl hxl (by rw [hh]; exact hne) hW
  have HPG0 : Hid (∀ (W : World) (ps : Nat), ShelfNo W ps → KsAt W → Calls Tryd.prog 12 #[.pointer (some ⟨ps, 0, none⟩), .agg (cellsOf x).toArray, .agg (cellsOf h).toArray] W fun e w' => e = .returned (.int .i64 0) ∧ ∃ r a c, ShelfIs w' 0 ps r (.slice a 1 c) [x] ∧ W.heap.size ≤ r ∧ (∀ k, (Value.slice a 1 c).ownBlock = some k → W.heap.size ≤ k) ∧ But W.heap.size ps W w') := Lib.hid fun W ps h1 hW => by rw [← hh]; exact put_no13 h1 (Nat.zero_le _) hxl hW
  have SZL := Lib.hid (sumLen13 hxl)
  have CL : Hid ((cellsOf x).length = 32) := Lib.hid (by rw [cellsOf_len, hxl])
  have HK := Lib.hid hk
  clear hof hpo hne hh hhl hxl hk hz hzl
  go_enter Tryd.func6, Tryd.ntmps6
  go_upto_region 2 with (fail)
  have b1 : Below w.heap.size w (w.alloc (.cells #[.pointer none, .int .i64 0] 34)) := (Below.refl _ _).alloc (Nat.le_refl _) _
  have h1 := heap_alloc_new w (.cells #[.pointer none, .int .i64 0] 34)
  revert b1 h1
  generalize (w.alloc (.cells #[.pointer none, .int .i64 0] 34)) = w1
  obtain ⟨ps, hps⟩ : ∃ ps, ps = w.heap.size := ⟨_, rfl⟩
  rw [← hps]
  intro b1 h1
  rw [hps] at b1
  have HB1 := Lib.hid b1
  have HN1 : Hid (ShelfNo w1 ps) := Lib.hid h1
  have HPN : Hid (w.heap.size ≤ ps) := Lib.hid (by omega)
  clear h1 hps b1
  go_upto_region 3 with (first | (refine wpList_build10 rfl rfl (vs := []) rfl build_zero13 ?_; go_frame) | (go_at_call 8; (with_reducible refine (HOF.out _ (HK.out.below HB1.out)).mono ?_); rintro e w2 ⟨rfl, hb⟩; have HB2 := Lib.hid hb; clear hb) | (refine wpList_var rfl rfl 23 rfl _ _ rfl (cellsOf zero32).toArray sum_zero rfl (cellsOf x) (fun _ => rfl) (fun _ => rfl) CL.out (cellsOf_one x) ?_; intro q w4 hq hh hb; go_frame; have HX4 := Lib.hid hh; have HQ2 := Lib.hid hq; have HB42 := Lib.hid hb; clear hq hh hb) | fail)
  have HB4 := Lib.hid (bthen HB1.out (bthen HB2.out HB42.out))
  have HNO : Hid (ShelfNo w4 ps) := Lib.hid (keep HB42.out (keep HB2.out HN1.out))
  have HQL := Lib.hid (lt_of_block HX4.out)
  have HQP : Hid (q ≠ ps) := Lib.hid (by have := lt_of_block HN1.out; have := HB2.out.size; have := HQ2.out; omega)
  have HPB := Lib.hid (fun W hW => HPB0.out W ps hW)
  have HPG := Lib.hid (fun W h1 hW => HPG0.out W ps h1 hW)
  clear HN1 HB1 HB2 HB42 HPB0 HPG0 HOF
  refine wp_region_held_drew (S := fun w' => But w4.heap.size ps w4 w') (by kernel_rfl) (But.of (below_drew (Below.refl _ _))) (fun hHeld => ?_)
  refine take_at (i := 0) (v := ?_) rfl rfl (by kernel_rfl) (by kernel_rfl) (by kernel_rfl) (fun _ _ _ h => h) (Or.inl ⟨by rfl, ?_⟩) (by assumption) ?_
  rotate_left
  · intro w0 hSw; (try dsimp only at hSw); first | (go_simp; done) | (go_simp; with_reducible rfl)
  simp only [List.setIfInBounds_toArray, List.set_cons_zero, List.set_cons_succ]
  refine take_at (i := 1) rfl rfl (by kernel_rfl) (by kernel_rfl) (by kernel_rfl) (fun _ _ _ h => h) (yieldsIf_load_mid (by rfl) _ _ rfl q 0 rfl (cellsOf x) _ (fun w0 hSw => range_of ((hSw.block q HQL.out HQP.out).trans HX4.out)) Tryd.underlying23 rfl SZL.out) (by assumption) ?_
  simp only [List.setIfInBounds_toArray, List.set_cons_zero, List.set_cons_succ]
  refine take_at (i := 2) rfl rfl (by kernel_rfl) (by kernel_rfl) (by kernel_rfl) (fun _ _ _ h => h) (yieldsIf_load_mid (by rfl) _ _ rfl q 0 rfl (cellsOf x) _ (fun w0 hSw => range_of ((hSw.block q HQL.out HQP.out).trans HX4.out)) Tryd.underlying23 rfl SZL.out) (by assumption) ?_
  simp only [List.setIfInBounds_toArray, List.set_cons_zero, List.set_cons_succ]
  refine wpAnyH_ready (rs := [3]) (by kernel_rfl) (by simp) ?_
  refine AllReadyH.cons rfl (fun K hK => ?_) ?_
  · have HC3 := Lib.hid (HPB.out _ (HK.out.below (But.in HB4.out hHeld HPN.out)))
    go_simp
    go_wp2_with ((go_at_call 12; (with_reducible refine (HC3.out).mono ?_); rintro e y3 ⟨rfl, hb⟩; have HXy3 := Lib.hid hb; clear hb))
    refine hK.out _ _ (by (try dsimp only); exact hHeld.trans (But.of (HXy3.out.mono hHeld.size))) (fun hHeld => ?_)
    clear hK K
    refine take_at (i := 4) (v := ?_) rfl rfl (by kernel_rfl) (by kernel_rfl) (by kernel_rfl) (fun _ _ _ h => h) (Or.inl ⟨by rfl, ?_⟩) (by assumption) ?_
    rotate_left
    · intro w0 hSw; (try dsimp only at hSw); first | (go_simp; done) | (go_simp; with_reducible rfl)
    simp only [List.setIfInBounds_toArray, List.set_cons_zero, List.set_cons_succ]
    refine take_at (i := 5) (v := ?_) rfl rfl (by kernel_rfl) (by kernel_rfl) (by kernel_rfl) (fun _ _ _ h => h) (Or.inl ⟨by rfl, ?_⟩) (by assumption) ?_
    rotate_left
    · intro w0 hSw; (try dsimp only at hSw); first | (go_simp; done) | (go_simp; with_reducible rfl)
    simp only [List.setIfInBounds_toArray, List.set_cons_zero, List.set_cons_succ]
    refine take_at (i := 6) (v := ?_) rfl rfl (by kernel_rfl) (by kernel_rfl) (by kernel_rfl) (fun _ _ _ h => h) (Or.inl ⟨by rfl, ?_⟩) (by assumption) ?_
    rotate_left
    · intro w0 hSw; (try dsimp only at hSw); first | (go_simp; done) | (go_simp; with_reducible rfl)
    simp only [List.setIfInBounds_toArray, List.set_cons_zero, List.set_cons_succ]
    refine take_at (i := 7) rfl rfl (by kernel_rfl) (by kernel_rfl) (by kernel_rfl) (fun _ _ _ h => h) (yieldsIf_load_mid (by rfl) _ _ rfl q 0 rfl (cellsOf x) _ (fun w0 hSw => range_of ((hSw.block q HQL.out HQP.out).trans HX4.out)) Tryd.underlying23 rfl SZL.out) (by assumption) ?_
    simp only [List.setIfInBounds_toArray, List.set_cons_zero, List.set_cons_succ]
    refine take_at (i := 8) rfl rfl (by kernel_rfl) (by kernel_rfl) (by kernel_rfl) (fun _ _ _ h => h) (yields_build10 (by rfl) rfl (vs := []) rfl build_zero13) (by assumption) ?_
    simp only [List.setIfInBounds_toArray, List.set_cons_zero, List.set_cons_succ]
    refine wpAnyH_ready (rs := [9]) (by kernel_rfl) (by simp) ?_
    refine AllReadyH.cons rfl (fun K hK => ?_) ?_
    · have HC9 := Lib.hid (HPO.out _ (HK.out.below (But.in HB4.out hHeld HPN.out)))
      go_simp
      go_wp2_with ((go_at_call 10; (with_reducible refine (HC9.out).mono ?_); rintro e y9 ⟨rfl, hb⟩; have HXy9 := Lib.hid hb; clear hb))
      refine hK.out _ _ (by (try dsimp only); exact hHeld.trans (But.of (HXy9.out.mono hHeld.size))) (fun hHeld => ?_)
      clear hK K
      refine wpAnyH_ready (rs := [10]) (by kernel_rfl) (by simp) ?_
      refine AllReadyH.cons rfl (fun K hK => ?_) ?_
      · have HNO9 := Lib.hid (show ShelfNo y9 ps from keep HXy9.out (keep HXy3.out HNO.out))
        have HC10 := Lib.hid (HPG.out _ HNO9.out (HK.out.below (But.in HB4.out hHeld HPN.out)))
        go_simp
        go_wp2_with ((go_at_call 12; (with_reducible refine (HC10.out).mono ?_); rintro e y10 ⟨rfl, r, a, c, hsi, hr, ho, hbt⟩; have HSI := Lib.hid hsi; have HXy10 := Lib.hid hbt; clear hsi hr ho hbt))
        refine hK.out _ _ (by (try dsimp only); exact hHeld.trans (HXy10.out.mono hHeld.size)) (fun hHeld => ?_)
        clear hK K
        refine take_at (i := 11) (v := ?_) rfl rfl (by kernel_rfl) (by kernel_rfl) (by kernel_rfl) (fun _ _ _ h => h) (Or.inl ⟨by rfl, ?_⟩) (by assumption) ?_
        rotate_left
        · intro w0 hSw; (try dsimp only at hSw); first | (go_simp; done) | (go_simp; with_reducible rfl)
        simp only [List.setIfInBounds_toArray, List.set_cons_zero, List.set_cons_succ]
        refine take_at (i := 12) (v := ?_) rfl rfl (by kernel_rfl) (by kernel_rfl) (by kernel_rfl) (fun _ _ _ h => h) (Or.inl ⟨by rfl, ?_⟩) (by assumption) ?_
        rotate_left
        · intro w0 hSw; (try dsimp only at hSw); first | (go_simp; done) | (go_simp; with_reducible rfl)
        simp only [List.setIfInBounds_toArray, List.set_cons_zero, List.set_cons_succ]
        refine take_at (i := 13) (v := ?_) rfl rfl (by kernel_rfl) (by kernel_rfl) (by kernel_rfl) (fun _ _ _ h => h) (Or.inl ⟨by rfl, ?_⟩) (by assumption) ?_
        rotate_left
        · intro w0 hSw; (try dsimp only at hSw); first | (go_simp; done) | (go_simp; with_reducible rfl)
        simp only [List.setIfInBounds_toArray, List.set_cons_zero, List.set_cons_succ]
        refine take_at (i := 14) (v := ?_) rfl rfl (by kernel_rfl) (by kernel_rfl) (by kernel_rfl) (fun _ _ _ h => h) (Or.inl ⟨by rfl, ?_⟩) (by assumption) ?_
        rotate_left
        · intro w0 hSw; (try dsimp only at hSw); first | (go_simp; done) | (go_simp; with_reducible rfl)
        simp only [List.setIfInBounds_toArray, List.set_cons_zero, List.set_cons_succ]
        refine wpAnyH_ready (rs := [15]) (by kernel_rfl) (by simp) ?_
        refine AllReadyH.cons rfl (fun K hK => ?_) ?_
        · have HC15 := Lib.hid (len_at13 (n := 1) HSI.out.cell)
          go_simp
          go_wp2_with ((go_at_call 14; (with_reducible refine (HC15.out).mono ?_); rintro e y15 ⟨rfl, rfl⟩))
          refine hK.out _ _ (by (try dsimp only); exact hHeld) (fun hHeld => ?_)
          clear hK K
          refine take_at (i := 16) (v := ?_) rfl rfl (by kernel_rfl) (by kernel_rfl) (by kernel_rfl) (fun _ _ _ h => h) (Or.inl ⟨by rfl, ?_⟩) (by assumption) ?_
          rotate_left
          · intro w0 hSw; (try dsimp only at hSw); first | (go_simp; done) | (go_simp; with_reducible rfl)
          simp only [List.setIfInBounds_toArray, List.set_cons_zero, List.set_cons_succ]
          refine take_at (i := 17) (v := ?_) rfl rfl (by kernel_rfl) (by kernel_rfl) (by kernel_rfl) (fun _ _ _ h => h) (Or.inl ⟨by rfl, ?_⟩) (by assumption) ?_
          rotate_left
          · intro w0 hSw; (try dsimp only at hSw); first | (go_simp; done) | (go_simp; with_reducible rfl)
          simp only [List.setIfInBounds_toArray, List.set_cons_zero, List.set_cons_succ]
          refine take_at (i := 18) (v := ?_) rfl rfl (by kernel_rfl) (by kernel_rfl) (by kernel_rfl) (fun _ _ _ h => h) (Or.inl ⟨by rfl, ?_⟩) (by assumption) ?_
          rotate_left
          · intro w0 hSw; (try dsimp only at hSw); first | (go_simp; done) | (go_simp; with_reducible rfl)
          simp only [List.setIfInBounds_toArray, List.set_cons_zero, List.set_cons_succ]
          refine wpAnyH_done (by kernel_rfl) ?_ _
          have HFIN := Lib.hid (But.in HB4.out (show But w4.heap.size ps w4 y10 from hHeld) HPN.out)
          clear hHeld
          go_wp2_with fail
          go_ret
          exact ⟨rfl, HFIN.out⟩
        exact AllReadyH.nil
      exact AllReadyH.nil
    exact AllReadyH.nil
  exact AllReadyH.nil
end Go.Proofs.YthpkafjonelanaaDoor
