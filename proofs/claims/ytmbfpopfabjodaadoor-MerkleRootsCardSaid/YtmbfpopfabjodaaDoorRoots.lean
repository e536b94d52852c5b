/- The walk of MerkleRoots. -/
import Derived.Test.YtmbfpopfabjodaaDoorAwake3
import Derived.Test.YtmbfpopfabjodaaDoorPathLaw
import Derived.Test.YtmbfpopfabjodaaDoorSame
namespace Go.Proofs.YtmbfpopfabjodaaDoor
open Go.RowKit

set_option linter.unusedSimpArgs false in
set_option maxRecDepth 100000 in
set_option maxHeartbeats 6400000 in
theorem roots_walk {w : World} {a : Option Addr} {n0 c : Nat} {l0 : List (List UInt8)} {s : List UInt8} (i : Int) (hs : s.length = 32) (h : Sums w a n0 c l0) (hk : KsAt w) :
    Calls Tryd.prog 3 #[.slice a n0 c, .int .i64 i, .agg (cellsOf s).toArray] w fun e w' => e = .returned (.bool true) ∧ Below w.heap.size w w' := by
  have b1 : Below w.heap.size w (w.alloc (.cells (cellsOf s).toArray 24)) := (Below.refl _ _).alloc (Nat.le_refl _) _
  have h1 : (w.alloc (.cells (cellsOf s).toArray 24)).heap[w.heap.size]? = some (.cells (cellsOf s).toArray 24 (0, 0)) := heap_alloc_new _ _
  have hf := few_any (h.below b1)
  have haw : ∀ (W : World), KsAt W → Calls Tryd.prog 12 #[] W fun e w' => e = .returned (.bool true) ∧ Below W.heap.size W w' := fun W hW => awake3_any hW
  obtain ⟨n, hn⟩ : ∃ n, n = min n0 40 := ⟨_, rfl⟩
  obtain ⟨ls, hls⟩ : ∃ ls, ls = l0.take 40 := ⟨_, rfl⟩
  rw [← hn, ← hls] at hf
  have h40 : n ≤ 40 := by omega
  obtain ⟨L, hL, hLl⟩ : ∃ L, leafSum s = L ∧ L.length = 32 := ⟨_, rfl, leafSum_len s⟩
  obtain ⟨r, hr, hrl⟩ : ∃ r, rootSum ls = r ∧ r.length = 32 := ⟨_, rfl, rootSum_len ls⟩
  have hlf : ∀ W : World, KsAt W → Calls Tryd.prog 10 #[.agg (cellsOf s).toArray] W fun e w' => e = .returned (.agg (cellsOf L).toArray) ∧ Below W.heap.size W w' := fun W hW => by rw [← hL]; exact leaf_of hs hW
  have hll : ∀ W : World, KsAt W → Calls Tryd.prog 11 #[.agg (cellsOf s).toArray] W fun e w' => e = .returned (.agg (cellsOf L).toArray) ∧ Below W.heap.size W w' := fun W hW => by rw [← hL]; exact leaf_law hs hW
  have hrt : ∀ W : World, Sums W a n c ls → KsAt W → Calls Tryd.prog 8 #[.slice a n c] W fun e w' => e = .returned (.agg (cellsOf r).toArray) ∧ Below W.heap.size W w' := fun W hS hW => by rw [← hr]; exact root_any hS hW (by omega)
  have hrl2 : ∀ W : World, Sums W a n c ls → KsAt W → Calls Tryd.prog 9 #[.slice a n c] W fun e w' => e = .returned (.agg (cellsOf r).toArray) ∧ Below W.heap.size W w' := fun W hS hW => by rw [← hr]; exact rootLaw_any n h40 W a c ls hS hW
  have szs : (Tryd.prog.info? 24).map (·.size) = some (cellsOf s).length := by rw [cellsOf_len, hs]; exact Tryd.size24
  have HF := Lib.hid hf
  have HAW := Lib.hid haw
  have HK := Lib.hid (hk.below b1)
  have HLF := Lib.hid hlf
  have HLL := Lib.hid hll
  have HRT := Lib.hid hrt
  have HRL := Lib.hid hrl2
  have H32L := Lib.hid hLl
  have H32R := Lib.hid hrl
  have SZS := Lib.hid szs
  have HB1 := Lib.hid b1
  have H1 := Lib.hid h1
  clear h hk hf haw hn hls hL hLl hr hrl hlf hll hrt hrl2 szs hs
  have cases : i < 0 ∨ (¬ i < 0 ∧ (n : Int) ≤ i) ∨ ∃ I : Nat, i = (I : Int) ∧ I < n := by
    by_cases c1 : i < 0
    · exact .inl c1
    · by_cases c2 : (n : Int) ≤ i
      · exact .inr (.inl ⟨c1, c2⟩)
      · exact .inr (.inr ⟨i.toNat, by omega, by omega⟩)
  revert b1 h1
  generalize hw1 : (w.alloc (.cells (cellsOf s).toArray 24)) = w1 at *
  intro b1 h1
  clear b1 h1
  have HW1 := Lib.hid hw1
  clear hw1
  rcases cases with c1 | ⟨c1, c2⟩ | ⟨I, rfl, hI⟩
  · go_enter Tryd.func3, Tryd.ntmps3
    go_upto_region 1 with (fail)
    rw [HW1.out]
    obtain ⟨g, hg⟩ : ∃ g, g = w.heap.size := ⟨_, rfl⟩
    rw [← hg]
    rw [← hg] at H1
    clear hg
    go_wp2_with (first | (go_at_call 6; (with_reducible refine (HF.out).mono ?_); rintro e w' ⟨rfl, hs1, rfl⟩; have HS := Lib.hid hs1; clear hs1) | fail)
    refine (path_out (w := w1) (a := a) (n := n) (c := c) i (by omega)).mono ?_
    rintro e w4 ⟨rfl, hb4⟩
    have HB4 := Lib.hid hb4
    have HK4 := Lib.hid (HK.out.below hb4)
    have HSL := Lib.hid (HS.out.below hb4)
    have hg4 := (hb4.block _ (lt_of_block H1.out)).trans H1.out
    have glt := lt_of_block hg4
    have HRG := Lib.hid (range_of hg4)
    clear hb4 hg4
    go_wp2_with fail
    refine wp_region_held_drew (S := fun w' => Below w4.heap.size w4 w') (by kernel_rfl) (below_drew (Below.refl _ _)) (fun hHeld => ?_)
    refine take_at (i := 0) (v := ?_) rfl rfl (by kernel_rfl) (by kernel_rfl) (by kernel_rfl) (fun _ _ _ h => h) (Or.inl ⟨by rfl, ?_⟩) (by assumption) ?_
    rotate_left
    · intro w0 hSw; (try dsimp only at hSw); first | (go_simp; done) | (go_simp; with_reducible rfl)
    simp only [List.setIfInBounds_toArray, List.set_cons_zero, List.set_cons_succ]
    refine take_at (i := 2) (v := ?_) rfl rfl (by kernel_rfl) (by kernel_rfl) (by kernel_rfl) (fun _ _ _ h => h) (Or.inl ⟨by rfl, ?_⟩) (by assumption) ?_
    rotate_left
    · intro w0 hSw; (try dsimp only at hSw); first | (go_simp; done) | (go_simp; with_reducible rfl)
    simp only [List.setIfInBounds_toArray, List.set_cons_zero, List.set_cons_succ]
    refine wpAnyH_ready (rs := [1]) (by kernel_rfl) (by simp) ?_
    refine AllReadyH.cons rfl (fun K hK => ?_) ?_
    · go_simp
      go_wp2_with ((go_at_call 8; (with_reducible refine (HRT.out _ (HSL.out.below hHeld) (HK4.out.below hHeld)).mono ?_); rintro e x1 ⟨rfl, hb1⟩; have HX1 := Lib.hid hb1; clear hb1))
      refine hK.out _ _ (by (try dsimp only); exact Below.trans hHeld (HX1.out.mono (Below.size hHeld))) (fun hHeld => ?_)
      clear hK K
      refine wpAnyH_ready (rs := [3]) (by kernel_rfl) (by simp) ?_
      refine AllReadyH.cons rfl (fun K hK => ?_) ?_
      · go_simp
        go_wp2_with ((go_at_call 9; (with_reducible refine (HRL.out _ (HSL.out.below hHeld) (HK4.out.below hHeld)).mono ?_); rintro e x3 ⟨rfl, hb3⟩; have HX3 := Lib.hid hb3; clear hb3))
        refine hK.out _ _ (by (try dsimp only); exact Below.trans hHeld (HX3.out.mono (Below.size hHeld))) (fun hHeld => ?_)
        clear hK K
        refine take_at (i := 4) rfl rfl (by kernel_rfl) (by kernel_rfl) (by kernel_rfl) (fun _ _ _ h => h) (yields_neq (by rfl) rfl rfl rfl H32R.out H32R.out false (by simp)) (by assumption) ?_
        simp only [List.setIfInBounds_toArray, List.set_cons_zero, List.set_cons_succ]
        refine take_at (i := 5) (v := ?_) rfl rfl (by kernel_rfl) (by kernel_rfl) (by kernel_rfl) (fun _ _ _ h => h) (Or.inl ⟨by rfl, ?_⟩) (by assumption) ?_
        rotate_left
        · intro w0 hSw; (try dsimp only at hSw); first | (go_simp; done) | (go_simp; with_reducible rfl)
        simp only [List.setIfInBounds_toArray, List.set_cons_zero, List.set_cons_succ]
        refine take_at (i := 6) rfl rfl (by kernel_rfl) (by kernel_rfl) (by kernel_rfl) (fun _ _ _ h => h) (yieldsIf_load_mid (by rfl) _ _ rfl g 0 rfl (cellsOf s) _ (fun w0 hSw => rangeAt_below HRG.out glt hSw) Tryd.underlying24 rfl SZS.out) (by assumption) ?_
        simp only [List.setIfInBounds_toArray, List.set_cons_zero, List.set_cons_succ]
        refine take_at (i := 8) rfl rfl (by kernel_rfl) (by kernel_rfl) (by kernel_rfl) (fun _ _ _ h => h) (yieldsIf_load_mid (by rfl) _ _ rfl g 0 rfl (cellsOf s) _ (fun w0 hSw => rangeAt_below HRG.out glt hSw) Tryd.underlying24 rfl SZS.out) (by assumption) ?_
        simp only [List.setIfInBounds_toArray, List.set_cons_zero, List.set_cons_succ]
        refine wpAnyH_ready (rs := [7]) (by kernel_rfl) (by simp) ?_
        refine AllReadyH.cons rfl (fun K hK => ?_) ?_
        · go_simp
          go_wp2_with ((go_at_call 10; (with_reducible refine (HLF.out _ (HK4.out.below hHeld)).mono ?_); rintro e x7 ⟨rfl, hb7⟩; have HX7 := Lib.hid hb7; clear hb7))
          refine hK.out _ _ (by (try dsimp only); exact Below.trans hHeld (HX7.out.mono (Below.size hHeld))) (fun hHeld => ?_)
          clear hK K
          refine wpAnyH_ready (rs := [9]) (by kernel_rfl) (by simp) ?_
          refine AllReadyH.cons rfl (fun K hK => ?_) ?_
          · go_simp
            go_wp2_with ((go_at_call 11; (with_reducible refine (HLL.out _ (HK4.out.below hHeld)).mono ?_); rintro e x9 ⟨rfl, hb9⟩; have HX9 := Lib.hid hb9; clear hb9))
            refine hK.out _ _ (by (try dsimp only); exact Below.trans hHeld (HX9.out.mono (Below.size hHeld))) (fun hHeld => ?_)
            clear hK K
            refine take_at (i := 10) rfl rfl (by kernel_rfl) (by kernel_rfl) (by kernel_rfl) (fun _ _ _ h => h) (yields_neq (by rfl) rfl rfl rfl H32L.out H32L.out false (by simp)) (by assumption) ?_
            simp only [List.setIfInBounds_toArray, List.set_cons_zero, List.set_cons_succ]
            refine take_at (i := 11) (v := ?_) rfl rfl (by kernel_rfl) (by kernel_rfl) (by kernel_rfl) (fun _ _ _ h => h) (Or.inl ⟨by rfl, ?_⟩) (by assumption) ?_
            rotate_left
            · intro w0 hSw; (try dsimp only at hSw); first | (go_simp; done) | (go_simp; with_reducible rfl)
            simp only [List.setIfInBounds_toArray, List.set_cons_zero, List.set_cons_succ]
            refine wpAnyH_done (by kernel_rfl) ?_ _
            have HE := Lib.hid (show Below w4.heap.size w4 x9 from hHeld)
            clear hHeld
            go_wp2_with fail
            refine (HAW.out _ (HK4.out.below HE.out)).mono ?_
            rintro e w6 ⟨rfl, hb7⟩
            have HB7 := Lib.hid hb7
            clear hb7
            go_wp2_with fail
            go_ret
            have b2 := HB1.out.trans (HB4.out.mono HB1.out.size)
            have b3 := b2.trans (HE.out.mono b2.size)
            exact ⟨rfl, b3.trans (HB7.out.mono b3.size)⟩
          exact AllReadyH.nil
        exact AllReadyH.nil
      exact AllReadyH.nil
    exact AllReadyH.nil
  · go_enter Tryd.func3, Tryd.ntmps3
    go_upto_region 1 with (fail)
    rw [HW1.out]
    obtain ⟨g, hg⟩ : ∃ g, g = w.heap.size := ⟨_, rfl⟩
    rw [← hg]
    rw [← hg] at H1
    clear hg
    go_wp2_with (first | (go_at_call 6; (with_reducible refine (HF.out).mono ?_); rintro e w' ⟨rfl, hs1, rfl⟩; have HS := Lib.hid hs1; clear hs1) | fail)
    refine (path_out (w := w1) (a := a) (n := n) (c := c) i (by omega)).mono ?_
    rintro e w4 ⟨rfl, hb4⟩
    have HB4 := Lib.hid hb4
    have HK4 := Lib.hid (HK.out.below hb4)
    have HSL := Lib.hid (HS.out.below hb4)
    have hg4 := (hb4.block _ (lt_of_block H1.out)).trans H1.out
    have glt := lt_of_block hg4
    have HRG := Lib.hid (range_of hg4)
    clear hb4 hg4
    go_wp2_with fail
    refine wp_region_held_drew (S := fun w' => Below w4.heap.size w4 w') (by kernel_rfl) (below_drew (Below.refl _ _)) (fun hHeld => ?_)
    refine take_at (i := 0) (v := ?_) rfl rfl (by kernel_rfl) (by kernel_rfl) (by kernel_rfl) (fun _ _ _ h => h) (Or.inl ⟨by rfl, ?_⟩) (by assumption) ?_
    rotate_left
    · intro w0 hSw; (try dsimp only at hSw); first | (go_simp; done) | (go_simp; with_reducible rfl)
    simp only [List.setIfInBounds_toArray, List.set_cons_zero, List.set_cons_succ]
    refine take_at (i := 2) (v := ?_) rfl rfl (by kernel_rfl) (by kernel_rfl) (by kernel_rfl) (fun _ _ _ h => h) (Or.inl ⟨by rfl, ?_⟩) (by assumption) ?_
    rotate_left
    · intro w0 hSw; (try dsimp only at hSw); first | (go_simp; done) | (go_simp; with_reducible rfl)
    simp only [List.setIfInBounds_toArray, List.set_cons_zero, List.set_cons_succ]
    refine wpAnyH_ready (rs := [1]) (by kernel_rfl) (by simp) ?_
    refine AllReadyH.cons rfl (fun K hK => ?_) ?_
    · go_simp
      go_wp2_with ((go_at_call 8; (with_reducible refine (HRT.out _ (HSL.out.below hHeld) (HK4.out.below hHeld)).mono ?_); rintro e x1 ⟨rfl, hb1⟩; have HX1 := Lib.hid hb1; clear hb1))
      refine hK.out _ _ (by (try dsimp only); exact Below.trans hHeld (HX1.out.mono (Below.size hHeld))) (fun hHeld => ?_)
      clear hK K
      refine wpAnyH_ready (rs := [3]) (by kernel_rfl) (by simp) ?_
      refine AllReadyH.cons rfl (fun K hK => ?_) ?_
      · go_simp
        go_wp2_with ((go_at_call 9; (with_reducible refine (HRL.out _ (HSL.out.below hHeld) (HK4.out.below hHeld)).mono ?_); rintro e x3 ⟨rfl, hb3⟩; have HX3 := Lib.hid hb3; clear hb3))
        refine hK.out _ _ (by (try dsimp only); exact Below.trans hHeld (HX3.out.mono (Below.size hHeld))) (fun hHeld => ?_)
        clear hK K
        refine take_at (i := 4) rfl rfl (by kernel_rfl) (by kernel_rfl) (by kernel_rfl) (fun _ _ _ h => h) (yields_neq (by rfl) rfl rfl rfl H32R.out H32R.out false (by simp)) (by assumption) ?_
        simp only [List.setIfInBounds_toArray, List.set_cons_zero, List.set_cons_succ]
        refine take_at (i := 5) (v := ?_) rfl rfl (by kernel_rfl) (by kernel_rfl) (by kernel_rfl) (fun _ _ _ h => h) (Or.inl ⟨by rfl, ?_⟩) (by assumption) ?_
        rotate_left
        · intro w0 hSw; (try dsimp only at hSw); first | (go_simp; done) | (go_simp; with_reducible rfl)
        simp only [List.setIfInBounds_toArray, List.set_cons_zero, List.set_cons_succ]
        refine take_at (i := 6) rfl rfl (by kernel_rfl) (by kernel_rfl) (by kernel_rfl) (fun _ _ _ h => h) (yieldsIf_load_mid (by rfl) _ _ rfl g 0 rfl (cellsOf s) _ (fun w0 hSw => rangeAt_below HRG.out glt hSw) Tryd.underlying24 rfl SZS.out) (by assumption) ?_
        simp only [List.setIfInBounds_toArray, List.set_cons_zero, List.set_cons_succ]
        refine take_at (i := 8) rfl rfl (by kernel_rfl) (by kernel_rfl) (by kernel_rfl) (fun _ _ _ h => h) (yieldsIf_load_mid (by rfl) _ _ rfl g 0 rfl (cellsOf s) _ (fun w0 hSw => rangeAt_below HRG.out glt hSw) Tryd.underlying24 rfl SZS.out) (by assumption) ?_
        simp only [List.setIfInBounds_toArray, List.set_cons_zero, List.set_cons_succ]
        refine wpAnyH_ready (rs := [7]) (by kernel_rfl) (by simp) ?_
        refine AllReadyH.cons rfl (fun K hK => ?_) ?_
        · go_simp
          go_wp2_with ((go_at_call 10; (with_reducible refine (HLF.out _ (HK4.out.below hHeld)).mono ?_); rintro e x7 ⟨rfl, hb7⟩; have HX7 := Lib.hid hb7; clear hb7))
          refine hK.out _ _ (by (try dsimp only); exact Below.trans hHeld (HX7.out.mono (Below.size hHeld))) (fun hHeld => ?_)
          clear hK K
          refine wpAnyH_ready (rs := [9]) (by kernel_rfl) (by simp) ?_
          refine AllReadyH.cons rfl (fun K hK => ?_) ?_
          · go_simp
            go_wp2_with ((go_at_call 11; (with_reducible refine (HLL.out _ (HK4.out.below hHeld)).mono ?_); rintro e x9 ⟨rfl, hb9⟩; have HX9 := Lib.hid hb9; clear hb9))
            refine hK.out _ _ (by (try dsimp only); exact Below.trans hHeld (HX9.out.mono (Below.size hHeld))) (fun hHeld => ?_)
            clear hK K
            refine take_at (i := 10) rfl rfl (by kernel_rfl) (by kernel_rfl) (by kernel_rfl) (fun _ _ _ h => h) (yields_neq (by rfl) rfl rfl rfl H32L.out H32L.out false (by simp)) (by assumption) ?_
            simp only [List.setIfInBounds_toArray, List.set_cons_zero, List.set_cons_succ]
            refine take_at (i := 11) (v := ?_) rfl rfl (by kernel_rfl) (by kernel_rfl) (by kernel_rfl) (fun _ _ _ h => h) (Or.inl ⟨by rfl, ?_⟩) (by assumption) ?_
            rotate_left
            · intro w0 hSw; (try dsimp only at hSw); first | (go_simp; done) | (go_simp; with_reducible rfl)
            simp only [List.setIfInBounds_toArray, List.set_cons_zero, List.set_cons_succ]
            refine wpAnyH_done (by kernel_rfl) ?_ _
            have HE := Lib.hid (show Below w4.heap.size w4 x9 from hHeld)
            clear hHeld
            go_wp2_with fail
            refine (HAW.out _ (HK4.out.below HE.out)).mono ?_
            rintro e w6 ⟨rfl, hb7⟩
            have HB7 := Lib.hid hb7
            clear hb7
            go_wp2_with fail
            go_ret
            have b2 := HB1.out.trans (HB4.out.mono HB1.out.size)
            have b3 := b2.trans (HE.out.mono b2.size)
            exact ⟨rfl, b3.trans (HB7.out.mono b3.size)⟩
          exact AllReadyH.nil
        exact AllReadyH.nil
      exact AllReadyH.nil
    exact AllReadyH.nil
  · go_enter Tryd.func3, Tryd.ntmps3
    go_upto_region 1 with (fail)
    rw [HW1.out]
    obtain ⟨g, hg⟩ : ∃ g, g = w.heap.size := ⟨_, rfl⟩
    rw [← hg]
    rw [← hg] at H1
    clear hg
    go_wp2_with (first | (go_at_call 6; (with_reducible refine (HF.out).mono ?_); rintro e w' ⟨rfl, hs1, rfl⟩; have HS := Lib.hid hs1; clear hs1) | fail)
    refine (path_in I hI (by omega) HS.out HK.out).mono ?_
    rintro e w4 ⟨a4, c4, rfl, hs4, hb4⟩
    obtain ⟨P, hP⟩ : ∃ P, pathOf pairSum I (ls.map leafSum) = P := ⟨_, rfl⟩
    have hp6 := path_short HS.out.len hI h40
    have hpl := pathLaw_any n (by omega) h40
    rw [hP] at hs4 hp6 ⊢
    obtain ⟨np, hnp⟩ : ∃ np, P.length = np := ⟨_, rfl⟩
    rw [hnp] at hs4 hp6 ⊢
    have HS4 := Lib.hid hs4
    have HNP := Lib.hid hnp
    have HPL := Lib.hid (fun (W : World) (hS : Sums W a n c ls) (hW : KsAt W) => show Calls Tryd.prog 14 #[.slice a n c, .int .i64 (I : Int)] W fun e w' => PathOwn W P e w' from by rw [← hP]; exact hpl W a c I ls hI hS hW)
    have c1 : ¬ ((I : Int) < 0) := by omega
    have c2 : ¬ ((n : Int) ≤ (I : Int)) := by omega
    clear hs4 hP hpl hnp
    have HB4 := Lib.hid hb4
    have HK4 := Lib.hid (HK.out.below hb4)
    have HSL := Lib.hid (HS.out.below hb4)
    have hg4 := (hb4.block _ (lt_of_block H1.out)).trans H1.out
    have glt := lt_of_block hg4
    have HRG := Lib.hid (range_of hg4)
    clear hb4 hg4
    go_wp2_with fail
    refine wp_region_held_drew (S := fun w' => Below w4.heap.size w4 w') (by kernel_rfl) (below_drew (Below.refl _ _)) (fun hHeld => ?_)
    refine take_at (i := 0) (v := ?_) rfl rfl (by kernel_rfl) (by kernel_rfl) (by kernel_rfl) (fun _ _ _ h => h) (Or.inl ⟨by rfl, ?_⟩) (by assumption) ?_
    rotate_left
    · intro w0 hSw; (try dsimp only at hSw); first | (go_simp; done) | (go_simp; with_reducible rfl)
    simp only [List.setIfInBounds_toArray, List.set_cons_zero, List.set_cons_succ]
    refine take_at (i := 2) (v := ?_) rfl rfl (by kernel_rfl) (by kernel_rfl) (by kernel_rfl) (fun _ _ _ h => h) (Or.inl ⟨by rfl, ?_⟩) (by assumption) ?_
    rotate_left
    · intro w0 hSw; (try dsimp only at hSw); first | (go_simp; done) | (go_simp; with_reducible rfl)
    simp only [List.setIfInBounds_toArray, List.set_cons_zero, List.set_cons_succ]
    refine wpAnyH_ready (rs := [1]) (by kernel_rfl) (by simp) ?_
    refine AllReadyH.cons rfl (fun K hK => ?_) ?_
    · go_simp
      go_wp2_with ((go_at_call 8; (with_reducible refine (HRT.out _ (HSL.out.below hHeld) (HK4.out.below hHeld)).mono ?_); rintro e x1 ⟨rfl, hb1⟩; have HX1 := Lib.hid hb1; clear hb1))
      refine hK.out _ _ (by (try dsimp only); exact Below.trans hHeld (HX1.out.mono (Below.size hHeld))) (fun hHeld => ?_)
      clear hK K
      refine wpAnyH_ready (rs := [3]) (by kernel_rfl) (by simp) ?_
      refine AllReadyH.cons rfl (fun K hK => ?_) ?_
      · go_simp
        go_wp2_with ((go_at_call 9; (with_reducible refine (HRL.out _ (HSL.out.below hHeld) (HK4.out.below hHeld)).mono ?_); rintro e x3 ⟨rfl, hb3⟩; have HX3 := Lib.hid hb3; clear hb3))
        refine hK.out _ _ (by (try dsimp only); exact Below.trans hHeld (HX3.out.mono (Below.size hHeld))) (fun hHeld => ?_)
        clear hK K
        refine take_at (i := 4) rfl rfl (by kernel_rfl) (by kernel_rfl) (by kernel_rfl) (fun _ _ _ h => h) (yields_neq (by rfl) rfl rfl rfl H32R.out H32R.out false (by simp)) (by assumption) ?_
        simp only [List.setIfInBounds_toArray, List.set_cons_zero, List.set_cons_succ]
        refine take_at (i := 5) (v := ?_) rfl rfl (by kernel_rfl) (by kernel_rfl) (by kernel_rfl) (fun _ _ _ h => h) (Or.inl ⟨by rfl, ?_⟩) (by assumption) ?_
        rotate_left
        · intro w0 hSw; (try dsimp only at hSw); first | (go_simp; done) | (go_simp; with_reducible rfl)
        simp only [List.setIfInBounds_toArray, List.set_cons_zero, List.set_cons_succ]
        refine take_at (i := 6) rfl rfl (by kernel_rfl) (by kernel_rfl) (by kernel_rfl) (fun _ _ _ h => h) (yieldsIf_load_mid (by rfl) _ _ rfl g 0 rfl (cellsOf s) _ (fun w0 hSw => rangeAt_below HRG.out glt hSw) Tryd.underlying24 rfl SZS.out) (by assumption) ?_
        simp only [List.setIfInBounds_toArray, List.set_cons_zero, List.set_cons_succ]
        refine take_at (i := 8) rfl rfl (by kernel_rfl) (by kernel_rfl) (by kernel_rfl) (fun _ _ _ h => h) (yieldsIf_load_mid (by rfl) _ _ rfl g 0 rfl (cellsOf s) _ (fun w0 hSw => rangeAt_below HRG.out glt hSw) Tryd.underlying24 rfl SZS.out) (by assumption) ?_
        simp only [List.setIfInBounds_toArray, List.set_cons_zero, List.set_cons_succ]
        refine wpAnyH_ready (rs := [7]) (by kernel_rfl) (by simp) ?_
        refine AllReadyH.cons rfl (fun K hK => ?_) ?_
        · go_simp
          go_wp2_with ((go_at_call 10; (with_reducible refine (HLF.out _ (HK4.out.below hHeld)).mono ?_); rintro e x7 ⟨rfl, hb7⟩; have HX7 := Lib.hid hb7; clear hb7))
          refine hK.out _ _ (by (try dsimp only); exact Below.trans hHeld (HX7.out.mono (Below.size hHeld))) (fun hHeld => ?_)
          clear hK K
          refine wpAnyH_ready (rs := [9]) (by kernel_rfl) (by simp) ?_
          refine AllReadyH.cons rfl (fun K hK => ?_) ?_
          · go_simp
            go_wp2_with ((go_at_call 11; (with_reducible refine (HLL.out _ (HK4.out.below hHeld)).mono ?_); rintro e x9 ⟨rfl, hb9⟩; have HX9 := Lib.hid hb9; clear hb9))
            refine hK.out _ _ (by (try dsimp only); exact Below.trans hHeld (HX9.out.mono (Below.size hHeld))) (fun hHeld => ?_)
            clear hK K
            refine take_at (i := 10) rfl rfl (by kernel_rfl) (by kernel_rfl) (by kernel_rfl) (fun _ _ _ h => h) (yields_neq (by rfl) rfl rfl rfl H32L.out H32L.out false (by simp)) (by assumption) ?_
            simp only [List.setIfInBounds_toArray, List.set_cons_zero, List.set_cons_succ]
            refine take_at (i := 11) (v := ?_) rfl rfl (by kernel_rfl) (by kernel_rfl) (by kernel_rfl) (fun _ _ _ h => h) (Or.inl ⟨by rfl, ?_⟩) (by assumption) ?_
            rotate_left
            · intro w0 hSw; (try dsimp only at hSw); first | (go_simp; done) | (go_simp; with_reducible rfl)
            simp only [List.setIfInBounds_toArray, List.set_cons_zero, List.set_cons_succ]
            refine wpAnyH_done (by kernel_rfl) ?_ _
            have HE := Lib.hid (show Below w4.heap.size w4 x9 from hHeld)
            clear hHeld
            go_wp2_with fail
            refine (HPL.out _ (HSL.out.below HE.out) (HK4.out.below HE.out)).mono ?_
            rintro e w6 ⟨a6, c6, rfl, ho6, hb6⟩
            rw [HNP.out] at ho6 ⊢
            have HS6 := Lib.hid ho6.sums
            have HB6 := Lib.hid (HE.out.trans (hb6.mono HE.out.size))
            clear ho6 hb6
            go_wp2_with fail
            refine (same_any (HS4.out.below HB6.out) HS6.out (by omega)).mono ?_
            rintro e w7 ⟨rfl, hb7⟩
            have HB7 := Lib.hid (HB6.out.trans (hb7.mono HB6.out.size))
            clear hb7
            go_wp2_with fail
            refine (HAW.out _ (HK4.out.below HB7.out)).mono ?_
            rintro e w8 ⟨rfl, hb8⟩
            have HB8 := Lib.hid hb8
            clear hb8
            go_wp2_with fail
            go_ret
            have b2 := HB1.out.trans (HB4.out.mono HB1.out.size)
            have b3 := b2.trans (HB7.out.mono b2.size)
            exact ⟨rfl, b3.trans (HB8.out.mono b3.size)⟩
          exact AllReadyH.nil
        exact AllReadyH.nil
      exact AllReadyH.nil
    exact AllReadyH.nil
end Go.Proofs.YtmbfpopfabjodaaDoor
