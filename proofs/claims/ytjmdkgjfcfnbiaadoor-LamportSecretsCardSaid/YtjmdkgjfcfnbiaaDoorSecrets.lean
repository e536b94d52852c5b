/- The walk of LamportSecrets. -/
import Derived.Test.YtjmdkgjfcfnbiaaDoorAwake4
import Derived.Test.YtjmdkgjfcfnbiaaDoorSecret
namespace Go.Proofs.YtjmdkgjfcfnbiaaDoor
open Go.RowKit

set_option linter.unusedSimpArgs false in
set_option maxRecDepth 100000 in
set_option maxHeartbeats 3200000 in
theorem secrets_out {w : World} {s : List UInt8} (p b : Int) (hs : s.length = 32) (hk : KsAt w) (hout : p < 0 ∨ 255 < p ∨ b < 0 ∨ 1 < b) :
    Calls Tryd.prog 5 #[.agg (cellsOf s).toArray, .int .i64 p, .int .i64 b] w fun e w' => e = .returned (.bool true) ∧ Below w.heap.size w w' := by
  obtain ⟨r, v, hrl, hvl, hsec, hsh, hsl⟩ : ∃ r v : List UInt8, r.length = 32 ∧ v.length = 32 ∧
      (∀ W : World, KsAt W → Calls Tryd.prog 17 #[.agg (cellsOf s).toArray, .int .i64 p, .int .i64 b] W fun e w' => e = .returned (.agg (cellsOf r).toArray) ∧ Below W.heap.size W w') ∧
      (∀ W : World, KsAt W → Calls Tryd.prog 18 #[.agg (cellsOf r).toArray] W fun e w' => e = .returned (.agg (cellsOf v).toArray) ∧ Below W.heap.size W w') ∧
      (∀ W : World, KsAt W → Calls Tryd.prog 9 #[.agg (cellsOf r).toArray] W fun e w' => e = .returned (.agg (cellsOf v).toArray) ∧ Below W.heap.size W w') :=
    ⟨sumOf (partsOf 11 [s, [UInt8.ofNat (p % 256).toNat, UInt8.ofNat (b % 2).toNat]]), shownOf _, sumOf_len _, shownOf_len _,
      fun W hW => secret_any p b _ _ (by rw [UInt8.toNat_ofNat']; omega) (by rw [UInt8.toNat_ofNat']; omega) hs hW, fun W hW => shown_any (sumOf_len _) hW, fun W hW => shown_law (sumOf_len _) hW⟩
  have haw : ∀ (W : World), KsAt W → Calls Tryd.prog 16 #[] W fun e w' => e = .returned (.bool true) ∧ Below W.heap.size W w' := fun W hW => awake4_any hW
  have SZ := Lib.hid (size_of hs)
  have SZR := Lib.hid (size_of hrl)
  have HZR := Lib.hid (zero_of hrl)
  have HVL := Lib.hid hvl
  have HK := Lib.hid hk
  have HSEC := Lib.hid hsec
  have HSH := Lib.hid hsh
  have HSL := Lib.hid hsl
  have HAW := Lib.hid haw
  clear hs hrl hvl hk hsec hsh hsl haw
  have cases : p < 0 ∨ (¬ p < 0 ∧ 255 < p) ∨ (¬ p < 0 ∧ ¬ 255 < p ∧ b < 0) ∨ (¬ p < 0 ∧ ¬ 255 < p ∧ ¬ b < 0 ∧ 1 < b) := by omega
  clear hout
  rcases cases with c1 | ⟨c1, c2⟩ | ⟨c1, c2, c3⟩ | ⟨c1, c2, c3, c4⟩
  all_goals
    go_enter Tryd.func5, Tryd.ntmps5
    go_upto_region 1 with (fail)
    have b1 : Below w.heap.size w (w.alloc (.cells (cellsOf s).toArray 23)) := (Below.refl _ _).alloc (Nat.le_refl _) _
    have h1 : (w.alloc (.cells (cellsOf s).toArray 23)).heap[w.heap.size]? = some (.cells (cellsOf s).toArray 23 (0, 0)) := heap_alloc_new _ _
    revert b1 h1
    generalize (w.alloc (.cells (cellsOf s).toArray 23)) = w1
    obtain ⟨g, hg⟩ : ∃ g, g = w.heap.size := ⟨_, rfl⟩
    rw [← hg]
    intro b1 h1
    rw [hg] at b1
    have HB1 := Lib.hid b1
    have H1 := Lib.hid h1
    clear b1 h1 hg
    go_wp2_with (refine wpList_load_row rfl 23 _ rfl g rfl 23 (cellsOf s).toArray (0, 0) _ H1.out Tryd.underlying23 rfl SZ.out ?_)
    refine (HSEC.out _ (HK.out.below HB1.out)).mono ?_
    rintro e w2 ⟨rfl, hb2⟩
    have HB2 := Lib.hid (HB1.out.trans (hb2.mono HB1.out.size))
    have H2 := Lib.hid ((hb2.block _ (lt_of_block H1.out)).trans H1.out)
    clear hb2
    go_upto_region 2 with (refine wpList_store_row rfl 23 _ _ rfl w2.heap.size (cellsOf r).toArray rfl rfl 23 (cellsOf zero32).toArray (heap_alloc_new _ _) SZR.out HZR.out (all_oneCell_toArray (cellsOf_one r)) ?_)
    rw [← zero32_is, laySum_is]
    have h3 := laySum_heap w2 r
    have b3 := laySum_below r HB2.out
    have h4 := ((laySum_self w2 r).block _ (lt_of_block H2.out)).trans H2.out
    revert h3 b3 h4
    generalize laySum w2 r = w3
    generalize w2.heap.size = q
    intro h3 b3 h4
    have HB3 := Lib.hid b3
    have HK3 := Lib.hid (HK.out.below b3)
    have HQ := Lib.hid (range_of h3)
    have HG := Lib.hid (range_of h4)
    have hltq := lt_of_block h3
    have hltg := lt_of_block h4
    clear h3 b3 h4
    try simp only [Act.put]
    go_upto_region 3 with (fail)
    refine wp_region_held_drew (S := fun w' => Below w3.heap.size w3 w') (by kernel_rfl) (below_drew (Below.refl _ _)) (fun hHeld => ?_)
    refine take_at (i := 0) rfl rfl (by kernel_rfl) (by kernel_rfl) (by kernel_rfl) (fun _ _ _ h => h) (yieldsIf_load_mid (by rfl) _ _ rfl q 0 rfl (cellsOf r) _ (fun w0 hSw => rangeAt_below HQ.out hltq hSw) Tryd.underlying23 rfl SZR.out) (by assumption) ?_
    simp only [List.setIfInBounds_toArray, List.set_cons_zero, List.set_cons_succ]
    refine take_at (i := 2) rfl rfl (by kernel_rfl) (by kernel_rfl) (by kernel_rfl) (fun _ _ _ h => h) (yieldsIf_load_mid (by rfl) _ _ rfl q 0 rfl (cellsOf r) _ (fun w0 hSw => rangeAt_below HQ.out hltq hSw) Tryd.underlying23 rfl SZR.out) (by assumption) ?_
    simp only [List.setIfInBounds_toArray, List.set_cons_zero, List.set_cons_succ]
    refine wpAnyH_ready (rs := [1]) (by kernel_rfl) (by simp) ?_
    refine AllReadyH.cons rfl (fun K hK => ?_) ?_
    · go_simp
      go_wp2_with ((go_at_call 18; (with_reducible refine (HSH.out _ (HK3.out.below hHeld)).mono ?_); rintro e x1 ⟨rfl, hb1⟩; have HC1 := Lib.hid hb1; clear hb1))
      refine hK.out _ _ (by (try dsimp only); exact Below.trans hHeld (HC1.out.mono (Below.size hHeld))) (fun hHeld => ?_)
      clear hK K
      refine wpAnyH_ready (rs := [3]) (by kernel_rfl) (by simp) ?_
      refine AllReadyH.cons rfl (fun K hK => ?_) ?_
      · go_simp
        go_wp2_with ((go_at_call 9; (with_reducible refine (HSL.out _ (HK3.out.below hHeld)).mono ?_); rintro e x3 ⟨rfl, hb3⟩; have HC3 := Lib.hid hb3; clear hb3))
        refine hK.out _ _ (by (try dsimp only); exact Below.trans hHeld (HC3.out.mono (Below.size hHeld))) (fun hHeld => ?_)
        clear hK K
        refine take_at (i := 4) rfl rfl (by kernel_rfl) (by kernel_rfl) (by kernel_rfl) (fun _ _ _ h => h) (yields_eql (by rfl) rfl rfl rfl HVL.out HVL.out true (by simp)) (by assumption) ?_
        simp only [List.setIfInBounds_toArray, List.set_cons_zero, List.set_cons_succ]
        refine take_at (i := 5) (v := ?_) rfl rfl (by kernel_rfl) (by kernel_rfl) (by kernel_rfl) (fun _ _ _ h => h) (Or.inl ⟨by rfl, ?_⟩) (by assumption) ?_
        rotate_left
        · intro w0 hSw; (try dsimp only at hSw); first | (go_simp; done) | (go_simp; with_reducible rfl)
        simp only [List.setIfInBounds_toArray, List.set_cons_zero, List.set_cons_succ]
        refine wpAnyH_ready (rs := [6]) (by kernel_rfl) (by simp) ?_
        refine AllReadyH.cons rfl (fun K hK => ?_) ?_
        · go_simp
          go_wp2_with ((go_at_call 16; (with_reducible refine (HAW.out _ (HK3.out.below hHeld)).mono ?_); rintro e x6 ⟨rfl, hb6⟩; have HC6 := Lib.hid hb6; clear hb6))
          refine hK.out _ _ (by (try dsimp only); exact Below.trans hHeld (HC6.out.mono (Below.size hHeld))) (fun hHeld => ?_)
          clear hK K
          refine take_at (i := 7) (v := ?_) rfl rfl (by kernel_rfl) (by kernel_rfl) (by kernel_rfl) (fun _ _ _ h => h) (Or.inl ⟨by rfl, ?_⟩) (by assumption) ?_
          rotate_left
          · intro w0 hSw; (try dsimp only at hSw); first | (go_simp; done) | (go_simp; with_reducible rfl)
          simp only [List.setIfInBounds_toArray, List.set_cons_zero, List.set_cons_succ]
          refine take_at (i := 8) (v := ?_) rfl rfl (by kernel_rfl) (by kernel_rfl) (by kernel_rfl) (fun _ _ _ h => h) (Or.inl ⟨by rfl, ?_⟩) (by assumption) ?_
          rotate_left
          · intro w0 hSw; (try dsimp only at hSw); first | (go_simp; done) | (go_simp; with_reducible rfl)
          simp only [List.setIfInBounds_toArray, List.set_cons_zero, List.set_cons_succ]
          refine wpAnyH_done (by kernel_rfl) ?_ _
          have HE := Lib.hid (show Below w3.heap.size w3 x6 from hHeld)
          go_wp2_with fail
          go_ret
          exact ⟨rfl, HB3.out.trans (HE.out.mono HB3.out.size)⟩
        exact AllReadyH.nil
      exact AllReadyH.nil
    exact AllReadyH.nil

set_option linter.unusedSimpArgs false in
set_option maxRecDepth 100000 in
set_option maxHeartbeats 3200000 in
theorem secrets_in {w : World} {s : List UInt8} (p b : Nat) (hs : s.length = 32) (hk : KsAt w) (hp : p < 256) (hb : b < 2) :
    Calls Tryd.prog 5 #[.agg (cellsOf s).toArray, .int .i64 (p : Int), .int .i64 (b : Int)] w fun e w' => e = .returned (.bool true) ∧ Below w.heap.size w w' := by
  obtain ⟨r, v, hrl, hvl, hsec, hlaw, hsh, hsl⟩ : ∃ r v : List UInt8, r.length = 32 ∧ v.length = 32 ∧
      (∀ W : World, KsAt W → Calls Tryd.prog 17 #[.agg (cellsOf s).toArray, .int .i64 (p : Int), .int .i64 (b : Int)] W fun e w' => e = .returned (.agg (cellsOf r).toArray) ∧ Below W.heap.size W w') ∧
      (∀ W : World, KsAt W → Calls Tryd.prog 8 #[.agg (cellsOf s).toArray, .int .i64 (p : Int), .int .i64 (b : Int)] W fun e w' => e = .returned (.agg (cellsOf r).toArray) ∧ Below W.heap.size W w') ∧
      (∀ W : World, KsAt W → Calls Tryd.prog 18 #[.agg (cellsOf s).toArray] W fun e w' => e = .returned (.agg (cellsOf v).toArray) ∧ Below W.heap.size W w') ∧
      (∀ W : World, KsAt W → Calls Tryd.prog 9 #[.agg (cellsOf s).toArray] W fun e w' => e = .returned (.agg (cellsOf v).toArray) ∧ Below W.heap.size W w') :=
    ⟨secretOf s p b, shownOf s, secretOf_len _ _ _, shownOf_len _, fun W hW => secret_at p b hb hs hW, fun W hW => secret_law p b hp (by omega) hs hW, fun W hW => shown_any hs hW, fun W hW => shown_law hs hW⟩
  have haw : ∀ (W : World), KsAt W → Calls Tryd.prog 16 #[] W fun e w' => e = .returned (.bool true) ∧ Below W.heap.size W w' := fun W hW => awake4_any hW
  have c1 : ¬ ((p : Int) < 0) := by omega
  have c2 : ¬ (255 < (p : Int)) := by omega
  have c3 : ¬ ((b : Int) < 0) := by omega
  have c4 : ¬ (1 < (b : Int)) := by omega
  have SZ := Lib.hid (size_of hs)
  have SZR := Lib.hid (size_of hrl)
  have HZR := Lib.hid (zero_of hrl)
  have HRL := Lib.hid hrl
  have HVL := Lib.hid hvl
  have HK := Lib.hid hk
  have HSEC := Lib.hid hsec
  have HLAW := Lib.hid hlaw
  have HSH := Lib.hid hsh
  have HSL := Lib.hid hsl
  have HAW := Lib.hid haw
  clear hs hrl hvl hk hsec hlaw hsh hsl haw hp hb
  go_enter Tryd.func5, Tryd.ntmps5
  go_upto_region 1 with (fail)
  have b1 : Below w.heap.size w (w.alloc (.cells (cellsOf s).toArray 23)) := (Below.refl _ _).alloc (Nat.le_refl _) _
  have h1 : (w.alloc (.cells (cellsOf s).toArray 23)).heap[w.heap.size]? = some (.cells (cellsOf s).toArray 23 (0, 0)) := heap_alloc_new _ _
  revert b1 h1
  generalize (w.alloc (.cells (cellsOf s).toArray 23)) = w1
  obtain ⟨g, hg⟩ : ∃ g, g = w.heap.size := ⟨_, rfl⟩
  rw [← hg]
  intro b1 h1
  rw [hg] at b1
  have HB1 := Lib.hid b1
  have H1 := Lib.hid h1
  clear b1 h1 hg
  go_wp2_with (refine wpList_load_row rfl 23 _ rfl g rfl 23 (cellsOf s).toArray (0, 0) _ H1.out Tryd.underlying23 rfl SZ.out ?_)
  refine (HSEC.out _ (HK.out.below HB1.out)).mono ?_
  rintro e w2 ⟨rfl, hb2⟩
  have HB2 := Lib.hid (HB1.out.trans (hb2.mono HB1.out.size))
  have H2 := Lib.hid ((hb2.block _ (lt_of_block H1.out)).trans H1.out)
  clear hb2
  go_upto_region 2 with (refine wpList_store_row rfl 23 _ _ rfl w2.heap.size (cellsOf r).toArray rfl rfl 23 (cellsOf zero32).toArray (heap_alloc_new _ _) SZR.out HZR.out (all_oneCell_toArray (cellsOf_one r)) ?_)
  rw [← zero32_is, laySum_is]
  have h3 := laySum_heap w2 r
  have b3 := laySum_below r HB2.out
  have h4 := ((laySum_self w2 r).block _ (lt_of_block H2.out)).trans H2.out
  revert h3 b3 h4
  generalize laySum w2 r = w3
  generalize w2.heap.size = q
  intro h3 b3 h4
  have HB3 := Lib.hid b3
  have HK3 := Lib.hid (HK.out.below b3)
  have HQ := Lib.hid (range_of h3)
  have HG := Lib.hid (range_of h4)
  have hltq := lt_of_block h3
  have hltg := lt_of_block h4
  clear h3 b3 h4
  try simp only [Act.put]
  go_upto_region 4 with (fail)
  refine wp_region_held_drew (S := fun w' => Below w3.heap.size w3 w') (by kernel_rfl) (below_drew (Below.refl _ _)) (fun hHeld => ?_)
  refine take_at (i := 0) rfl rfl (by kernel_rfl) (by kernel_rfl) (by kernel_rfl) (fun _ _ _ h => h) (yieldsIf_load_mid (by rfl) _ _ rfl q 0 rfl (cellsOf r) _ (fun w0 hSw => rangeAt_below HQ.out hltq hSw) Tryd.underlying23 rfl SZR.out) (by assumption) ?_
  simp only [List.setIfInBounds_toArray, List.set_cons_zero, List.set_cons_succ]
  refine take_at (i := 1) rfl rfl (by kernel_rfl) (by kernel_rfl) (by kernel_rfl) (fun _ _ _ h => h) (yieldsIf_load_mid (by rfl) _ _ rfl g 0 rfl (cellsOf s) _ (fun w0 hSw => rangeAt_below HG.out hltg hSw) Tryd.underlying23 rfl SZ.out) (by assumption) ?_
  simp only [List.setIfInBounds_toArray, List.set_cons_zero, List.set_cons_succ]
  refine take_at (i := 2) (v := ?_) rfl rfl (by kernel_rfl) (by kernel_rfl) (by kernel_rfl) (fun _ _ _ h => h) (Or.inl ⟨by rfl, ?_⟩) (by assumption) ?_
  rotate_left
  · intro w0 hSw; (try dsimp only at hSw); first | (go_simp; done) | (go_simp; with_reducible rfl)
  simp only [List.setIfInBounds_toArray, List.set_cons_zero, List.set_cons_succ]
  refine take_at (i := 3) (v := ?_) rfl rfl (by kernel_rfl) (by kernel_rfl) (by kernel_rfl) (fun _ _ _ h => h) (Or.inl ⟨by rfl, ?_⟩) (by assumption) ?_
  rotate_left
  · intro w0 hSw; (try dsimp only at hSw); first | (go_simp; done) | (go_simp; with_reducible rfl)
  simp only [List.setIfInBounds_toArray, List.set_cons_zero, List.set_cons_succ]
  refine wpAnyH_ready (rs := [4]) (by kernel_rfl) (by simp) ?_
  refine AllReadyH.cons rfl (fun K hK => ?_) ?_
  · go_simp
    go_wp2_with ((go_at_call 8; (with_reducible refine (HLAW.out _ (HK3.out.below hHeld)).mono ?_); rintro e x4 ⟨rfl, hb4⟩; have HC4 := Lib.hid hb4; clear hb4))
    refine hK.out _ _ (by (try dsimp only); exact Below.trans hHeld (HC4.out.mono (Below.size hHeld))) (fun hHeld => ?_)
    clear hK K
    refine take_at (i := 5) rfl rfl (by kernel_rfl) (by kernel_rfl) (by kernel_rfl) (fun _ _ _ h => h) (yields_eql (by rfl) rfl rfl rfl HRL.out HRL.out true (by simp)) (by assumption) ?_
    simp only [List.setIfInBounds_toArray, List.set_cons_zero, List.set_cons_succ]
    refine take_at (i := 6) (v := ?_) rfl rfl (by kernel_rfl) (by kernel_rfl) (by kernel_rfl) (fun _ _ _ h => h) (Or.inl ⟨by rfl, ?_⟩) (by assumption) ?_
    rotate_left
    · intro w0 hSw; (try dsimp only at hSw); first | (go_simp; done) | (go_simp; with_reducible rfl)
    simp only [List.setIfInBounds_toArray, List.set_cons_zero, List.set_cons_succ]
    refine take_at (i := 7) rfl rfl (by kernel_rfl) (by kernel_rfl) (by kernel_rfl) (fun _ _ _ h => h) (yieldsIf_load_mid (by rfl) _ _ rfl g 0 rfl (cellsOf s) _ (fun w0 hSw => rangeAt_below HG.out hltg hSw) Tryd.underlying23 rfl SZ.out) (by assumption) ?_
    simp only [List.setIfInBounds_toArray, List.set_cons_zero, List.set_cons_succ]
    refine take_at (i := 9) rfl rfl (by kernel_rfl) (by kernel_rfl) (by kernel_rfl) (fun _ _ _ h => h) (yieldsIf_load_mid (by rfl) _ _ rfl g 0 rfl (cellsOf s) _ (fun w0 hSw => rangeAt_below HG.out hltg hSw) Tryd.underlying23 rfl SZ.out) (by assumption) ?_
    simp only [List.setIfInBounds_toArray, List.set_cons_zero, List.set_cons_succ]
    refine wpAnyH_ready (rs := [8]) (by kernel_rfl) (by simp) ?_
    refine AllReadyH.cons rfl (fun K hK => ?_) ?_
    · go_simp
      go_wp2_with ((go_at_call 18; (with_reducible refine (HSH.out _ (HK3.out.below hHeld)).mono ?_); rintro e x8 ⟨rfl, hb8⟩; have HC8 := Lib.hid hb8; clear hb8))
      refine hK.out _ _ (by (try dsimp only); exact Below.trans hHeld (HC8.out.mono (Below.size hHeld))) (fun hHeld => ?_)
      clear hK K
      refine wpAnyH_ready (rs := [10]) (by kernel_rfl) (by simp) ?_
      refine AllReadyH.cons rfl (fun K hK => ?_) ?_
      · go_simp
        go_wp2_with ((go_at_call 9; (with_reducible refine (HSL.out _ (HK3.out.below hHeld)).mono ?_); rintro e x10 ⟨rfl, hb10⟩; have HC10 := Lib.hid hb10; clear hb10))
        refine hK.out _ _ (by (try dsimp only); exact Below.trans hHeld (HC10.out.mono (Below.size hHeld))) (fun hHeld => ?_)
        clear hK K
        refine take_at (i := 11) rfl rfl (by kernel_rfl) (by kernel_rfl) (by kernel_rfl) (fun _ _ _ h => h) (yields_eql (by rfl) rfl rfl rfl HVL.out HVL.out true (by simp)) (by assumption) ?_
        simp only [List.setIfInBounds_toArray, List.set_cons_zero, List.set_cons_succ]
        refine take_at (i := 12) (v := ?_) rfl rfl (by kernel_rfl) (by kernel_rfl) (by kernel_rfl) (fun _ _ _ h => h) (Or.inl ⟨by rfl, ?_⟩) (by assumption) ?_
        rotate_left
        · intro w0 hSw; (try dsimp only at hSw); first | (go_simp; done) | (go_simp; with_reducible rfl)
        simp only [List.setIfInBounds_toArray, List.set_cons_zero, List.set_cons_succ]
        refine take_at (i := 13) (v := ?_) rfl rfl (by kernel_rfl) (by kernel_rfl) (by kernel_rfl) (fun _ _ _ h => h) (Or.inl ⟨by rfl, ?_⟩) (by assumption) ?_
        rotate_left
        · intro w0 hSw; (try dsimp only at hSw); first | (go_simp; done) | (go_simp; with_reducible rfl)
        simp only [List.setIfInBounds_toArray, List.set_cons_zero, List.set_cons_succ]
        refine wpAnyH_ready (rs := [14]) (by kernel_rfl) (by simp) ?_
        refine AllReadyH.cons rfl (fun K hK => ?_) ?_
        · go_simp
          go_wp2_with ((go_at_call 16; (with_reducible refine (HAW.out _ (HK3.out.below hHeld)).mono ?_); rintro e x14 ⟨rfl, hb14⟩; have HC14 := Lib.hid hb14; clear hb14))
          refine hK.out _ _ (by (try dsimp only); exact Below.trans hHeld (HC14.out.mono (Below.size hHeld))) (fun hHeld => ?_)
          clear hK K
          refine take_at (i := 15) (v := ?_) rfl rfl (by kernel_rfl) (by kernel_rfl) (by kernel_rfl) (fun _ _ _ h => h) (Or.inl ⟨by rfl, ?_⟩) (by assumption) ?_
          rotate_left
          · intro w0 hSw; (try dsimp only at hSw); first | (go_simp; done) | (go_simp; with_reducible rfl)
          simp only [List.setIfInBounds_toArray, List.set_cons_zero, List.set_cons_succ]
          refine take_at (i := 16) (v := ?_) rfl rfl (by kernel_rfl) (by kernel_rfl) (by kernel_rfl) (fun _ _ _ h => h) (Or.inl ⟨by rfl, ?_⟩) (by assumption) ?_
          rotate_left
          · intro w0 hSw; (try dsimp only at hSw); first | (go_simp; done) | (go_simp; with_reducible rfl)
          simp only [List.setIfInBounds_toArray, List.set_cons_zero, List.set_cons_succ]
          refine wpAnyH_done (by kernel_rfl) ?_ _
          have HE := Lib.hid (show Below w3.heap.size w3 x14 from hHeld)
          go_wp2_with fail
          go_ret
          exact ⟨rfl, HB3.out.trans (HE.out.mono HB3.out.size)⟩
        exact AllReadyH.nil
      exact AllReadyH.nil
    exact AllReadyH.nil
  exact AllReadyH.nil
theorem secrets_walk {w : World} {s : List UInt8} (p b : Int) (hs : s.length = 32) (hk : KsAt w) :
    Calls Tryd.prog 5 #[.agg (cellsOf s).toArray, .int .i64 p, .int .i64 b] w fun e w' => e = .returned (.bool true) ∧ Below w.heap.size w w' := by
  by_cases hout : p < 0 ∨ 255 < p ∨ b < 0 ∨ 1 < b
  · exact secrets_out p b hs hk hout
  · obtain ⟨P, rfl⟩ : ∃ P : Nat, p = P := ⟨p.toNat, by omega⟩
    obtain ⟨B, rfl⟩ : ∃ B : Nat, b = B := ⟨b.toNat, by omega⟩
    exact secrets_in P B hs hk (by omega) (by omega)
end Go.Proofs.YtjmdkgjfcfnbiaaDoor
