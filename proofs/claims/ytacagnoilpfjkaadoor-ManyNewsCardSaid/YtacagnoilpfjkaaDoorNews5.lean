/- The walk of ManyNews. -/
import Derived.Test.YtacagnoilpfjkaaDoorAwake5
import Derived.Test.YtacagnoilpfjkaaDoorLeaves5
namespace Go.Proofs.YtacagnoilpfjkaaDoor
open Go.RowKit

set_option linter.unusedSimpArgs false in
set_option maxRecDepth 100000 in
set_option maxHeartbeats 6400000 in
theorem news5_mid {w : World} {s : List UInt8} (n u : Int) (hk : KsAt w) (h1 : 8 < n) (h2 : n ≤ 64) :
    Calls Tryd.prog 3 #[.agg (cellsOf s).toArray, .int .i64 n, .int .i64 u] w fun e w' => e = .returned (.bool true) ∧ Below w.heap.size w w' := by
  have haw : ∀ (W : World), KsAt W → Calls Tryd.prog 6 #[] W fun e w' => e = .returned (.bool true) ∧ Below W.heap.size W w' := fun W hW => awake5_any hW
  have HK := Lib.hid hk
  have HAW := Lib.hid haw
  clear hk haw
  go_enter Tryd.func3, Tryd.ntmps3
  go_upto_region 1 with (fail)
  have b1 : Below w.heap.size w (w.alloc (.cells (cellsOf s).toArray 23)) := (Below.refl _ _).alloc (Nat.le_refl _) _
  have h1' : (w.alloc (.cells (cellsOf s).toArray 23)).heap[w.heap.size]? = some (.cells (cellsOf s).toArray 23 (0, 0)) := heap_alloc_new _ _
  revert b1 h1'
  generalize (w.alloc (.cells (cellsOf s).toArray 23)) = w1
  obtain ⟨q, hq⟩ : ∃ q, q = w.heap.size := ⟨_, rfl⟩
  rw [← hq]
  intro b1 h1'
  rw [hq] at b1
  have HB1 := Lib.hid b1
  have HQ1 := Lib.hid h1'
  have HK1 := Lib.hid (HK.out.below b1)
  clear b1 h1' hq
  go_wp2_with fail
  refine (HAW.out _ HK1.out).mono ?_
  rintro e w2 ⟨rfl, hb2⟩
  have HB2 := Lib.hid (HB1.out.trans (hb2.mono HB1.out.size))
  clear hb2
  go_wp2_with fail
  go_ret
  exact ⟨rfl, HB2.out⟩
set_option linter.unusedSimpArgs false in
set_option maxRecDepth 100000 in
set_option maxHeartbeats 6400000 in
theorem news5_bad {w : World} {s : List UInt8} (n u : Int) (hs : s.length = 32) (hk : KsAt w) (h : n < 1 ∨ 64 < n) :
    Calls Tryd.prog 3 #[.agg (cellsOf s).toArray, .int .i64 n, .int .i64 u] w fun e w' => e = .returned (.bool true) ∧ Below w.heap.size w w' := by
  have haw : ∀ (W : World), KsAt W → Calls Tryd.prog 6 #[] W fun e w' => e = .returned (.bool true) ∧ Below W.heap.size W w' := fun W hW => awake5_any hW
  have hnew : ∀ W : World, Calls Tryd.prog 7 #[.agg (cellsOf s).toArray, .int .i64 n] W fun e w' => e = .returned (.tuple #[.pointer none, .int .i64 1]) ∧ Below W.heap.size W w' := fun W => new_no n h
  have SZ := Lib.hid (size_of hs)
  have HK := Lib.hid hk
  have HAW := Lib.hid haw
  have HNEW := Lib.hid hnew
  have hh : (n < 1 ∧ ¬ 8 < n) ∨ (¬ n < 1 ∧ 64 < n ∧ 8 < n ∧ ¬ n ≤ 64) := by omega
  clear hk haw hnew h
  rcases hh with ⟨d1, d2⟩ | ⟨d1, d2, d3, d4⟩
  all_goals
    go_enter Tryd.func3, Tryd.ntmps3
    go_upto_region 1 with (fail)
    have b1 : Below w.heap.size w (w.alloc (.cells (cellsOf s).toArray 23)) := (Below.refl _ _).alloc (Nat.le_refl _) _
    have h1' : (w.alloc (.cells (cellsOf s).toArray 23)).heap[w.heap.size]? = some (.cells (cellsOf s).toArray 23 (0, 0)) := heap_alloc_new _ _
    revert b1 h1'
    generalize (w.alloc (.cells (cellsOf s).toArray 23)) = w1
    obtain ⟨q, hq⟩ : ∃ q, q = w.heap.size := ⟨_, rfl⟩
    rw [← hq]
    intro b1 h1'
    rw [hq] at b1
    have HB1 := Lib.hid b1
    have HQ1 := Lib.hid h1'
    have HK1 := Lib.hid (HK.out.below b1)
    clear b1 h1' hq
    go_wp2_with (first | (refine wpList_load_row rfl 23 _ rfl q rfl 23 (cellsOf s).toArray (0, 0) _ HQ1.out Tryd.underlying23 rfl SZ.out ?_) | fail)
    refine (HNEW.out _).mono ?_
    rintro e w2 ⟨rfl, hb2⟩
    have HB2 := Lib.hid (HB1.out.trans (hb2.mono HB1.out.size))
    clear hb2
    go_wp2_with fail
    refine (HAW.out _ (HK.out.below HB2.out)).mono ?_
    rintro e w3 ⟨rfl, hb3⟩
    have HB3 := Lib.hid (HB2.out.trans (hb3.mono HB2.out.size))
    clear hb3
    go_wp2_with fail
    go_ret
    exact ⟨rfl, HB3.out⟩
set_option linter.unusedSimpArgs false in
set_option maxRecDepth 100000 in
set_option maxHeartbeats 6400000 in
theorem news5_low {w : World} {s : List UInt8} (n : Nat) (u : Int) (hs : s.length = 32) (hk : KsAt w) (h1 : 1 ≤ n) (h8 : n ≤ 8) (hto : u < 0) :
    Calls Tryd.prog 3 #[.agg (cellsOf s).toArray, .int .i64 (n : Int), .int .i64 u] w fun e w' => e = .returned (.bool true) ∧ Below w.heap.size w w' := by
  have haw : ∀ (W : World), KsAt W → Calls Tryd.prog 6 #[] W fun e w' => e = .returned (.bool true) ∧ Below W.heap.size W w' := fun W hW => awake5_any hW
  have hnew : ∀ W : World, KsAt W → Calls Tryd.prog 7 #[.agg (cellsOf s).toArray, .int .i64 (n : Int)] W fun e w' => ∃ k, e = .returned (.tuple #[.pointer (some ⟨k, 0, none⟩), .int .i64 0]) ∧ W.heap.size ≤ k ∧ KeyAt w' k s (leafKeys s n) 0 ∧ Below W.heap.size W w' := fun W hW => new_yes n h1 (by omega) hs hW
  have hlv : ∀ W : World, KsAt W → Calls Tryd.prog 10 #[.agg (cellsOf s).toArray, .int .i64 (n : Int)] W fun e w' => ∃ a c, e = .returned (.slice a n c) ∧ Sums w' a n c (leafKeys s n) ∧ Below W.heap.size W w' := fun W hW => leaves5_any n (by omega) hs hW
  have hlen := leafKeys_len s n
  obtain ⟨R, hrl, hroot, hmr⟩ : ∃ R : List UInt8, R.length = 32 ∧ (∀ (W : World) (k : Nat), KeyAt W k s (leafKeys s n) 0 → KsAt W → Calls Tryd.prog 8 #[.pointer (some ⟨k, 0, none⟩)] W fun e w' => e = .returned (.agg (cellsOf R).toArray) ∧ Below W.heap.size W w') ∧
      (∀ (W : World) (a : Option Addr) (c : Nat), Sums W a n c (leafKeys s n) → KsAt W → Calls Tryd.prog 9 #[.slice a n c] W fun e w' => e = .returned (.agg (cellsOf R).toArray) ∧ Below W.heap.size W w') :=
    ⟨_, rootSum_len _, fun W k h hW => keyroot_at h hW, fun W a c h hW => root_any h hW (by omega)⟩
  have hleft : ∀ (W : World) (k : Nat), KeyAt W k s (leafKeys s n) 0 → Calls Tryd.prog 11 #[.pointer (some ⟨k, 0, none⟩)] W fun e w' => e = .returned (.int .i64 (n : Int)) ∧ Below W.heap.size W w' := fun W k h => left_at h (Nat.zero_le _) n (by omega)
  obtain ⟨ls, hls⟩ : ∃ ls, ls = leafKeys s n := ⟨_, rfl⟩
  rw [← hls] at hnew hlv hlen hroot hmr hleft
  have SZ := Lib.hid (size_of hs)
  have SZL : Hid ((Tryd.prog.info? 23).map (·.size) = some (cellsOf s).length) := Lib.hid (by rw [cellsOf_len, hs]; exact Tryd.size23)
  have HRL := Lib.hid hrl
  have HK := Lib.hid hk
  have HAW := Lib.hid haw
  have HNEW := Lib.hid hnew
  have HLV := Lib.hid hlv
  have HROOT := Lib.hid (fun W => hroot W)
  have HMR := Lib.hid hmr
  have HLEFT := Lib.hid (fun W => hleft W)
  have HLEN := Lib.hid hlen
  have c1 : ¬ (8 < (n : Int)) := by omega
  have c2 : ¬ ((n : Int) < 1) := by omega
  have c3 : ¬ (64 < (n : Int)) := by omega
  have hout : u < ((0 : Nat) : Int) ∨ ((ls.length : Nat) : Int) < u := by rw [hlen]; omega
  have HOUT := Lib.hid hout
  clear hout
  clear hs hrl hk haw hnew hlv hroot hmr hleft hlen hls
  go_enter Tryd.func3, Tryd.ntmps3
  go_upto_region 1 with (fail)
  have b1 : Below w.heap.size w (w.alloc (.cells (cellsOf s).toArray 23)) := (Below.refl _ _).alloc (Nat.le_refl _) _
  have h1' : (w.alloc (.cells (cellsOf s).toArray 23)).heap[w.heap.size]? = some (.cells (cellsOf s).toArray 23 (0, 0)) := heap_alloc_new _ _
  revert b1 h1'
  generalize (w.alloc (.cells (cellsOf s).toArray 23)) = w1
  obtain ⟨q, hq⟩ : ∃ q, q = w.heap.size := ⟨_, rfl⟩
  rw [← hq]
  intro b1 h1'
  rw [hq] at b1
  have HB1 := Lib.hid b1
  have HQ1 := Lib.hid h1'
  have HK1 := Lib.hid (HK.out.below b1)
  clear b1 h1' hq
  go_wp2_with (first | (refine wpList_load_row rfl 23 _ rfl q rfl 23 (cellsOf s).toArray (0, 0) _ HQ1.out Tryd.underlying23 rfl SZ.out ?_) | fail)
  refine (HNEW.out _ HK1.out).mono ?_
  rintro e w3 ⟨k, rfl, hnk, hkey, hb3⟩
  have HKEY := Lib.hid hkey
  have HNK := Lib.hid (Nat.le_trans HB1.out.size hnk)
  have HB3 := Lib.hid (HB1.out.trans (hb3.mono HB1.out.size))
  have HK3 := Lib.hid (HK1.out.below hb3)
  have hq3 := (hb3.block _ (lt_of_block HQ1.out)).trans HQ1.out
  have HQR := Lib.hid (range_of hq3)
  have hltq := lt_of_block hq3
  clear hkey hnk hb3 hq3
  go_upto_region 6 with (fail)
  try simp only [Act.put]
  refine wp_region_held_drew (S := fun w' => Below w3.heap.size w3 w') (by kernel_rfl) (below_drew (Below.refl _ _)) (fun hHeld => ?_)
  refine take_at (i := 0) (v := ?_) rfl rfl (by kernel_rfl) (by kernel_rfl) (by kernel_rfl) (fun _ _ _ h => h) (Or.inl ⟨by rfl, ?_⟩) (by assumption) ?_
  rotate_left
  · intro w0 hSw; (try dsimp only at hSw); first | (go_simp; done) | (go_simp; with_reducible rfl)
  simp only [List.setIfInBounds_toArray, List.set_cons_zero, List.set_cons_succ]
  refine take_at (i := 1) (v := ?_) rfl rfl (by kernel_rfl) (by kernel_rfl) (by kernel_rfl) (fun _ _ _ h => h) (Or.inl ⟨by rfl, ?_⟩) (by assumption) ?_
  rotate_left
  · intro w0 hSw; (try dsimp only at hSw); first | (go_simp; done) | (go_simp; with_reducible rfl)
  simp only [List.setIfInBounds_toArray, List.set_cons_zero, List.set_cons_succ]
  refine take_at (i := 2) (v := ?_) rfl rfl (by kernel_rfl) (by kernel_rfl) (by kernel_rfl) (fun _ _ _ h => h) (Or.inl ⟨by rfl, ?_⟩) (by assumption) ?_
  rotate_left
  · intro w0 hSw; (try dsimp only at hSw); first | (go_simp; done) | (go_simp; with_reducible rfl)
  simp only [List.setIfInBounds_toArray, List.set_cons_zero, List.set_cons_succ]
  refine take_at (i := 3) (v := ?_) rfl rfl (by kernel_rfl) (by kernel_rfl) (by kernel_rfl) (fun _ _ _ h => h) (Or.inl ⟨by rfl, ?_⟩) (by assumption) ?_
  rotate_left
  · intro w0 hSw; (try dsimp only at hSw); first | (go_simp; done) | (go_simp; with_reducible rfl)
  simp only [List.setIfInBounds_toArray, List.set_cons_zero, List.set_cons_succ]
  refine take_at (i := 4) (v := ?_) rfl rfl (by kernel_rfl) (by kernel_rfl) (by kernel_rfl) (fun _ _ _ h => h) (Or.inl ⟨by rfl, ?_⟩) (by assumption) ?_
  rotate_left
  · intro w0 hSw; (try dsimp only at hSw); first | (go_simp; done) | (go_simp; with_reducible rfl)
  simp only [List.setIfInBounds_toArray, List.set_cons_zero, List.set_cons_succ]
  refine take_at (i := 5) (v := ?_) rfl rfl (by kernel_rfl) (by kernel_rfl) (by kernel_rfl) (fun _ _ _ h => h) (Or.inl ⟨by rfl, ?_⟩) (by assumption) ?_
  rotate_left
  · intro w0 hSw; (try dsimp only at hSw); first | (go_simp; done) | (go_simp; with_reducible rfl)
  simp only [List.setIfInBounds_toArray, List.set_cons_zero, List.set_cons_succ]
  refine take_at (i := 6) (v := ?_) rfl rfl (by kernel_rfl) (by kernel_rfl) (by kernel_rfl) (fun _ _ _ h => h) (Or.inl ⟨by rfl, ?_⟩) (by assumption) ?_
  rotate_left
  · intro w0 hSw; (try dsimp only at hSw); first | (go_simp; done) | (go_simp; with_reducible rfl)
  simp only [List.setIfInBounds_toArray, List.set_cons_zero, List.set_cons_succ]
  refine take_at (i := 7) (v := ?_) rfl rfl (by kernel_rfl) (by kernel_rfl) (by kernel_rfl) (fun _ _ _ h => h) (Or.inl ⟨by rfl, ?_⟩) (by assumption) ?_
  rotate_left
  · intro w0 hSw; (try dsimp only at hSw); first | (go_simp; done) | (go_simp; with_reducible rfl)
  simp only [List.setIfInBounds_toArray, List.set_cons_zero, List.set_cons_succ]
  refine take_at (i := 9) rfl rfl (by kernel_rfl) (by kernel_rfl) (by kernel_rfl) (fun _ _ _ h => h) (yieldsIf_load_mid (by rfl) _ _ rfl q 0 rfl (cellsOf s) _ (fun w0 hSw => rangeAt_below HQR.out hltq hSw) Tryd.underlying23 rfl SZL.out) (by assumption) ?_
  simp only [List.setIfInBounds_toArray, List.set_cons_zero, List.set_cons_succ]
  refine take_at (i := 10) (v := ?_) rfl rfl (by kernel_rfl) (by kernel_rfl) (by kernel_rfl) (fun _ _ _ h => h) (Or.inl ⟨by rfl, ?_⟩) (by assumption) ?_
  rotate_left
  · intro w0 hSw; (try dsimp only at hSw); first | (go_simp; done) | (go_simp; with_reducible rfl)
  simp only [List.setIfInBounds_toArray, List.set_cons_zero, List.set_cons_succ]
  refine wpAnyH_ready (rs := [8]) (by kernel_rfl) (by simp) ?_
  refine AllReadyH.cons rfl (fun K hK => ?_) ?_
  · have HH8 := Lib.hid hHeld
    go_simp
    go_wp2_with ((go_at_call 8; (with_reducible refine (HROOT.out _ k (HKEY.out.below HH8.out) (HK3.out.below HH8.out)).mono ?_); rintro e x8 ⟨rfl, hb8⟩; have HC8 := Lib.hid hb8; clear hb8))
    refine hK.out _ _ (by (try dsimp only); exact HH8.out.trans (HC8.out.mono HH8.out.size)) (fun hHeld => ?_)
    clear hK K
    refine wpAnyH_ready (rs := [11]) (by kernel_rfl) (by simp) ?_
    refine AllReadyH.cons rfl (fun K hK => ?_) ?_
    · have HH11 := Lib.hid hHeld
      go_simp
      go_wp2_with ((go_at_call 10; (with_reducible refine (HLV.out _ (HK3.out.below HH11.out)).mono ?_); rintro e x11 ⟨la, lc, rfl, hls, hb11⟩; have HC11 := Lib.hid hb11; have HLS := Lib.hid hls; clear hb11 hls))
      refine hK.out _ _ (by (try dsimp only); exact HH11.out.trans (HC11.out.mono HH11.out.size)) (fun hHeld => ?_)
      clear hK K
      refine wpAnyH_ready (rs := [12]) (by kernel_rfl) (by simp) ?_
      refine AllReadyH.cons rfl (fun K hK => ?_) ?_
      · have HH12 := Lib.hid hHeld
        go_simp
        go_wp2_with ((go_at_call 9; (with_reducible refine (HMR.out _ la lc HLS.out (HK3.out.below HH12.out)).mono ?_); rintro e x12 ⟨rfl, hb12⟩; have HC12 := Lib.hid hb12; clear hb12))
        refine hK.out _ _ (by (try dsimp only); exact HH12.out.trans (HC12.out.mono HH12.out.size)) (fun hHeld => ?_)
        clear hK K
        refine take_at (i := 13) rfl rfl (by kernel_rfl) (by kernel_rfl) (by kernel_rfl) (fun _ _ _ h => h) (yields_neq (by rfl) rfl rfl rfl HRL.out HRL.out false (by simp)) (by assumption) ?_
        simp only [List.setIfInBounds_toArray, List.set_cons_zero, List.set_cons_succ]
        refine take_at (i := 14) (v := ?_) rfl rfl (by kernel_rfl) (by kernel_rfl) (by kernel_rfl) (fun _ _ _ h => h) (Or.inl ⟨by rfl, ?_⟩) (by assumption) ?_
        rotate_left
        · intro w0 hSw; (try dsimp only at hSw); first | (go_simp; done) | (go_simp; with_reducible rfl)
        simp only [List.setIfInBounds_toArray, List.set_cons_zero, List.set_cons_succ]
        refine take_at (i := 15) (v := ?_) rfl rfl (by kernel_rfl) (by kernel_rfl) (by kernel_rfl) (fun _ _ _ h => h) (Or.inl ⟨by rfl, ?_⟩) (by assumption) ?_
        rotate_left
        · intro w0 hSw; (try dsimp only at hSw); first | (go_simp; done) | (go_simp; with_reducible rfl)
        simp only [List.setIfInBounds_toArray, List.set_cons_zero, List.set_cons_succ]
        refine take_at (i := 16) (v := ?_) rfl rfl (by kernel_rfl) (by kernel_rfl) (by kernel_rfl) (fun _ _ _ h => h) (Or.inl ⟨by rfl, ?_⟩) (by assumption) ?_
        rotate_left
        · intro w0 hSw; (try dsimp only at hSw); first | (go_simp; done) | (go_simp; with_reducible rfl)
        simp only [List.setIfInBounds_toArray, List.set_cons_zero, List.set_cons_succ]
        refine take_at (i := 18) (v := ?_) rfl rfl (by kernel_rfl) (by kernel_rfl) (by kernel_rfl) (fun _ _ _ h => h) (Or.inl ⟨by rfl, ?_⟩) (by assumption) ?_
        rotate_left
        · intro w0 hSw; (try dsimp only at hSw); first | (go_simp; done) | (go_simp; with_reducible rfl)
        simp only [List.setIfInBounds_toArray, List.set_cons_zero, List.set_cons_succ]
        refine wpAnyH_ready (rs := [17]) (by kernel_rfl) (by simp) ?_
        refine AllReadyH.cons rfl (fun K hK => ?_) ?_
        · have HH17 := Lib.hid hHeld
          go_simp
          go_wp2_with ((go_at_call 11; (with_reducible refine (HLEFT.out _ k (HKEY.out.below HH17.out)).mono ?_); rintro e x17 ⟨rfl, hb17⟩; have HC17 := Lib.hid hb17; clear hb17))
          refine hK.out _ _ (by (try dsimp only); exact HH17.out.trans (HC17.out.mono HH17.out.size)) (fun hHeld => ?_)
          clear hK K
          refine take_at (i := 19) (v := ?_) rfl rfl (by kernel_rfl) (by kernel_rfl) (by kernel_rfl) (fun _ _ _ h => h) (Or.inl ⟨by rfl, ?_⟩) (by assumption) ?_
          rotate_left
          · intro w0 hSw; (try dsimp only at hSw); first | (go_simp; done) | (go_simp; with_reducible rfl)
          simp only [List.setIfInBounds_toArray, List.set_cons_zero, List.set_cons_succ]
          refine take_at (i := 20) (v := ?_) rfl rfl (by kernel_rfl) (by kernel_rfl) (by kernel_rfl) (fun _ _ _ h => h) (Or.inl ⟨by rfl, ?_⟩) (by assumption) ?_
          rotate_left
          · intro w0 hSw; (try dsimp only at hSw); first | (go_simp; done) | (go_simp; with_reducible rfl)
          simp only [List.setIfInBounds_toArray, List.set_cons_zero, List.set_cons_succ]
          refine take_at (i := 21) (v := ?_) rfl rfl (by kernel_rfl) (by kernel_rfl) (by kernel_rfl) (fun _ _ _ h => h) (Or.inl ⟨by rfl, ?_⟩) (by assumption) ?_
          rotate_left
          · intro w0 hSw; (try dsimp only at hSw); first | (go_simp; done) | (go_simp; with_reducible rfl)
          simp only [List.setIfInBounds_toArray, List.set_cons_zero, List.set_cons_succ]
          refine take_at (i := 22) (v := ?_) rfl rfl (by kernel_rfl) (by kernel_rfl) (by kernel_rfl) (fun _ _ _ h => h) (Or.inl ⟨by rfl, ?_⟩) (by assumption) ?_
          rotate_left
          · intro w0 hSw; (try dsimp only at hSw); first | (go_simp; done) | (go_simp; with_reducible rfl)
          simp only [List.setIfInBounds_toArray, List.set_cons_zero, List.set_cons_succ]
          refine wpAnyH_ready (rs := [23]) (by kernel_rfl) (by simp) ?_
          refine AllReadyH.cons rfl (fun K hK => ?_) ?_
          · have HH23 := Lib.hid hHeld
            go_simp
            go_wp2_with ((go_at_call 12; (with_reducible refine (next_at (HKEY.out.below HH23.out)).mono ?_); rintro e x23 ⟨rfl, rfl⟩))
            refine hK.out _ _ (by (try dsimp only); exact HH23.out) (fun hHeld => ?_)
            clear hK K
            refine take_at (i := 24) (v := ?_) rfl rfl (by kernel_rfl) (by kernel_rfl) (by kernel_rfl) (fun _ _ _ h => h) (Or.inl ⟨by rfl, ?_⟩) (by assumption) ?_
            rotate_left
            · intro w0 hSw; (try dsimp only at hSw); first | (go_simp; done) | (go_simp; with_reducible rfl)
            simp only [List.setIfInBounds_toArray, List.set_cons_zero, List.set_cons_succ]
            refine take_at (i := 25) (v := ?_) rfl rfl (by kernel_rfl) (by kernel_rfl) (by kernel_rfl) (fun _ _ _ h => h) (Or.inl ⟨by rfl, ?_⟩) (by assumption) ?_
            rotate_left
            · intro w0 hSw; (try dsimp only at hSw); first | (go_simp; done) | (go_simp; with_reducible rfl)
            simp only [List.setIfInBounds_toArray, List.set_cons_zero, List.set_cons_succ]
            refine wpAnyH_done (by kernel_rfl) ?_ _
            have hb4 : Below w3.heap.size w3 _ := hHeld
            have HB4 := Lib.hid hb4
            have HKEY4 := Lib.hid (HKEY.out.below HB4.out)
            have HB4' := Lib.hid (HB3.out.trans (HB4.out.mono HB3.out.size))
            have HK4 := Lib.hid (HK3.out.below HB4.out)
            clear hHeld hb4
            go_wp2_with (first | (go_at_call 13; (with_reducible refine (skip_no _ HKEY4.out (HOUT.out)).mono ?_); rintro e w' ⟨rfl, rfl⟩) | (go_at_call 12; (with_reducible refine (next_at HKEY4.out).mono ?_); rintro e w' ⟨rfl, rfl⟩) | fail)
            refine (HAW.out _ HK4.out).mono ?_
            rintro e w5 ⟨rfl, hb5⟩
            have HB5 := Lib.hid (HB4'.out.trans (hb5.mono HB4'.out.size))
            clear hb5
            go_wp2_with fail
            go_ret
            exact ⟨rfl, HB5.out⟩
          exact AllReadyH.nil
        exact AllReadyH.nil
      exact AllReadyH.nil
    exact AllReadyH.nil
  exact AllReadyH.nil
set_option linter.unusedSimpArgs false in
set_option maxRecDepth 100000 in
set_option maxHeartbeats 6400000 in
theorem news5_high {w : World} {s : List UInt8} (n : Nat) (u : Int) (hs : s.length = 32) (hk : KsAt w) (h1 : 1 ≤ n) (h8 : n ≤ 8) (hto : (n : Int) < u) :
    Calls Tryd.prog 3 #[.agg (cellsOf s).toArray, .int .i64 (n : Int), .int .i64 u] w fun e w' => e = .returned (.bool true) ∧ Below w.heap.size w w' := by
  have haw : ∀ (W : World), KsAt W → Calls Tryd.prog 6 #[] W fun e w' => e = .returned (.bool true) ∧ Below W.heap.size W w' := fun W hW => awake5_any hW
  have hnew : ∀ W : World, KsAt W → Calls Tryd.prog 7 #[.agg (cellsOf s).toArray, .int .i64 (n : Int)] W fun e w' => ∃ k, e = .returned (.tuple #[.pointer (some ⟨k, 0, none⟩), .int .i64 0]) ∧ W.heap.size ≤ k ∧ KeyAt w' k s (leafKeys s n) 0 ∧ Below W.heap.size W w' := fun W hW => new_yes n h1 (by omega) hs hW
  have hlv : ∀ W : World, KsAt W → Calls Tryd.prog 10 #[.agg (cellsOf s).toArray, .int .i64 (n : Int)] W fun e w' => ∃ a c, e = .returned (.slice a n c) ∧ Sums w' a n c (leafKeys s n) ∧ Below W.heap.size W w' := fun W hW => leaves5_any n (by omega) hs hW
  have hlen := leafKeys_len s n
  obtain ⟨R, hrl, hroot, hmr⟩ : ∃ R : List UInt8, R.length = 32 ∧ (∀ (W : World) (k : Nat), KeyAt W k s (leafKeys s n) 0 → KsAt W → Calls Tryd.prog 8 #[.pointer (some ⟨k, 0, none⟩)] W fun e w' => e = .returned (.agg (cellsOf R).toArray) ∧ Below W.heap.size W w') ∧
      (∀ (W : World) (a : Option Addr) (c : Nat), Sums W a n c (leafKeys s n) → KsAt W → Calls Tryd.prog 9 #[.slice a n c] W fun e w' => e = .returned (.agg (cellsOf R).toArray) ∧ Below W.heap.size W w') :=
    ⟨_, rootSum_len _, fun W k h hW => keyroot_at h hW, fun W a c h hW => root_any h hW (by omega)⟩
  have hleft : ∀ (W : World) (k : Nat), KeyAt W k s (leafKeys s n) 0 → Calls Tryd.prog 11 #[.pointer (some ⟨k, 0, none⟩)] W fun e w' => e = .returned (.int .i64 (n : Int)) ∧ Below W.heap.size W w' := fun W k h => left_at h (Nat.zero_le _) n (by omega)
  obtain ⟨ls, hls⟩ : ∃ ls, ls = leafKeys s n := ⟨_, rfl⟩
  rw [← hls] at hnew hlv hlen hroot hmr hleft
  have SZ := Lib.hid (size_of hs)
  have SZL : Hid ((Tryd.prog.info? 23).map (·.size) = some (cellsOf s).length) := Lib.hid (by rw [cellsOf_len, hs]; exact Tryd.size23)
  have HRL := Lib.hid hrl
  have HK := Lib.hid hk
  have HAW := Lib.hid haw
  have HNEW := Lib.hid hnew
  have HLV := Lib.hid hlv
  have HROOT := Lib.hid (fun W => hroot W)
  have HMR := Lib.hid hmr
  have HLEFT := Lib.hid (fun W => hleft W)
  have HLEN := Lib.hid hlen
  have c1 : ¬ (8 < (n : Int)) := by omega
  have c2 : ¬ ((n : Int) < 1) := by omega
  have c3 : ¬ (64 < (n : Int)) := by omega
  have hout : u < ((0 : Nat) : Int) ∨ ((ls.length : Nat) : Int) < u := by rw [hlen]; omega
  have HOUT := Lib.hid hout
  have dd : ¬ u < 0 := by omega
  clear hout
  clear hs hrl hk haw hnew hlv hroot hmr hleft hlen hls
  go_enter Tryd.func3, Tryd.ntmps3
  go_upto_region 1 with (fail)
  have b1 : Below w.heap.size w (w.alloc (.cells (cellsOf s).toArray 23)) := (Below.refl _ _).alloc (Nat.le_refl _) _
  have h1' : (w.alloc (.cells (cellsOf s).toArray 23)).heap[w.heap.size]? = some (.cells (cellsOf s).toArray 23 (0, 0)) := heap_alloc_new _ _
  revert b1 h1'
  generalize (w.alloc (.cells (cellsOf s).toArray 23)) = w1
  obtain ⟨q, hq⟩ : ∃ q, q = w.heap.size := ⟨_, rfl⟩
  rw [← hq]
  intro b1 h1'
  rw [hq] at b1
  have HB1 := Lib.hid b1
  have HQ1 := Lib.hid h1'
  have HK1 := Lib.hid (HK.out.below b1)
  clear b1 h1' hq
  go_wp2_with (first | (refine wpList_load_row rfl 23 _ rfl q rfl 23 (cellsOf s).toArray (0, 0) _ HQ1.out Tryd.underlying23 rfl SZ.out ?_) | fail)
  refine (HNEW.out _ HK1.out).mono ?_
  rintro e w3 ⟨k, rfl, hnk, hkey, hb3⟩
  have HKEY := Lib.hid hkey
  have HNK := Lib.hid (Nat.le_trans HB1.out.size hnk)
  have HB3 := Lib.hid (HB1.out.trans (hb3.mono HB1.out.size))
  have HK3 := Lib.hid (HK1.out.below hb3)
  have hq3 := (hb3.block _ (lt_of_block HQ1.out)).trans HQ1.out
  have HQR := Lib.hid (range_of hq3)
  have hltq := lt_of_block hq3
  clear hkey hnk hb3 hq3
  go_upto_region 6 with (fail)
  try simp only [Act.put]
  refine wp_region_held_drew (S := fun w' => Below w3.heap.size w3 w') (by kernel_rfl) (below_drew (Below.refl _ _)) (fun hHeld => ?_)
  refine take_at (i := 0) (v := ?_) rfl rfl (by kernel_rfl) (by kernel_rfl) (by kernel_rfl) (fun _ _ _ h => h) (Or.inl ⟨by rfl, ?_⟩) (by assumption) ?_
  rotate_left
  · intro w0 hSw; (try dsimp only at hSw); first | (go_simp; done) | (go_simp; with_reducible rfl)
  simp only [List.setIfInBounds_toArray, List.set_cons_zero, List.set_cons_succ]
  refine take_at (i := 1) (v := ?_) rfl rfl (by kernel_rfl) (by kernel_rfl) (by kernel_rfl) (fun _ _ _ h => h) (Or.inl ⟨by rfl, ?_⟩) (by assumption) ?_
  rotate_left
  · intro w0 hSw; (try dsimp only at hSw); first | (go_simp; done) | (go_simp; with_reducible rfl)
  simp only [List.setIfInBounds_toArray, List.set_cons_zero, List.set_cons_succ]
  refine take_at (i := 2) (v := ?_) rfl rfl (by kernel_rfl) (by kernel_rfl) (by kernel_rfl) (fun _ _ _ h => h) (Or.inl ⟨by rfl, ?_⟩) (by assumption) ?_
  rotate_left
  · intro w0 hSw; (try dsimp only at hSw); first | (go_simp; done) | (go_simp; with_reducible rfl)
  simp only [List.setIfInBounds_toArray, List.set_cons_zero, List.set_cons_succ]
  refine take_at (i := 3) (v := ?_) rfl rfl (by kernel_rfl) (by kernel_rfl) (by kernel_rfl) (fun _ _ _ h => h) (Or.inl ⟨by rfl, ?_⟩) (by assumption) ?_
  rotate_left
  · intro w0 hSw; (try dsimp only at hSw); first | (go_simp; done) | (go_simp; with_reducible rfl)
  simp only [List.setIfInBounds_toArray, List.set_cons_zero, List.set_cons_succ]
  refine take_at (i := 4) (v := ?_) rfl rfl (by kernel_rfl) (by kernel_rfl) (by kernel_rfl) (fun _ _ _ h => h) (Or.inl ⟨by rfl, ?_⟩) (by assumption) ?_
  rotate_left
  · intro w0 hSw; (try dsimp only at hSw); first | (go_simp; done) | (go_simp; with_reducible rfl)
  simp only [List.setIfInBounds_toArray, List.set_cons_zero, List.set_cons_succ]
  refine take_at (i := 5) (v := ?_) rfl rfl (by kernel_rfl) (by kernel_rfl) (by kernel_rfl) (fun _ _ _ h => h) (Or.inl ⟨by rfl, ?_⟩) (by assumption) ?_
  rotate_left
  · intro w0 hSw; (try dsimp only at hSw); first | (go_simp; done) | (go_simp; with_reducible rfl)
  simp only [List.setIfInBounds_toArray, List.set_cons_zero, List.set_cons_succ]
  refine take_at (i := 6) (v := ?_) rfl rfl (by kernel_rfl) (by kernel_rfl) (by kernel_rfl) (fun _ _ _ h => h) (Or.inl ⟨by rfl, ?_⟩) (by assumption) ?_
  rotate_left
  · intro w0 hSw; (try dsimp only at hSw); first | (go_simp; done) | (go_simp; with_reducible rfl)
  simp only [List.setIfInBounds_toArray, List.set_cons_zero, List.set_cons_succ]
  refine take_at (i := 7) (v := ?_) rfl rfl (by kernel_rfl) (by kernel_rfl) (by kernel_rfl) (fun _ _ _ h => h) (Or.inl ⟨by rfl, ?_⟩) (by assumption) ?_
  rotate_left
  · intro w0 hSw; (try dsimp only at hSw); first | (go_simp; done) | (go_simp; with_reducible rfl)
  simp only [List.setIfInBounds_toArray, List.set_cons_zero, List.set_cons_succ]
  refine take_at (i := 9) rfl rfl (by kernel_rfl) (by kernel_rfl) (by kernel_rfl) (fun _ _ _ h => h) (yieldsIf_load_mid (by rfl) _ _ rfl q 0 rfl (cellsOf s) _ (fun w0 hSw => rangeAt_below HQR.out hltq hSw) Tryd.underlying23 rfl SZL.out) (by assumption) ?_
  simp only [List.setIfInBounds_toArray, List.set_cons_zero, List.set_cons_succ]
  refine take_at (i := 10) (v := ?_) rfl rfl (by kernel_rfl) (by kernel_rfl) (by kernel_rfl) (fun _ _ _ h => h) (Or.inl ⟨by rfl, ?_⟩) (by assumption) ?_
  rotate_left
  · intro w0 hSw; (try dsimp only at hSw); first | (go_simp; done) | (go_simp; with_reducible rfl)
  simp only [List.setIfInBounds_toArray, List.set_cons_zero, List.set_cons_succ]
  refine wpAnyH_ready (rs := [8]) (by kernel_rfl) (by simp) ?_
  refine AllReadyH.cons rfl (fun K hK => ?_) ?_
  · have HH8 := Lib.hid hHeld
    go_simp
    go_wp2_with ((go_at_call 8; (with_reducible refine (HROOT.out _ k (HKEY.out.below HH8.out) (HK3.out.below HH8.out)).mono ?_); rintro e x8 ⟨rfl, hb8⟩; have HC8 := Lib.hid hb8; clear hb8))
    refine hK.out _ _ (by (try dsimp only); exact HH8.out.trans (HC8.out.mono HH8.out.size)) (fun hHeld => ?_)
    clear hK K
    refine wpAnyH_ready (rs := [11]) (by kernel_rfl) (by simp) ?_
    refine AllReadyH.cons rfl (fun K hK => ?_) ?_
    · have HH11 := Lib.hid hHeld
      go_simp
      go_wp2_with ((go_at_call 10; (with_reducible refine (HLV.out _ (HK3.out.below HH11.out)).mono ?_); rintro e x11 ⟨la, lc, rfl, hls, hb11⟩; have HC11 := Lib.hid hb11; have HLS := Lib.hid hls; clear hb11 hls))
      refine hK.out _ _ (by (try dsimp only); exact HH11.out.trans (HC11.out.mono HH11.out.size)) (fun hHeld => ?_)
      clear hK K
      refine wpAnyH_ready (rs := [12]) (by kernel_rfl) (by simp) ?_
      refine AllReadyH.cons rfl (fun K hK => ?_) ?_
      · have HH12 := Lib.hid hHeld
        go_simp
        go_wp2_with ((go_at_call 9; (with_reducible refine (HMR.out _ la lc HLS.out (HK3.out.below HH12.out)).mono ?_); rintro e x12 ⟨rfl, hb12⟩; have HC12 := Lib.hid hb12; clear hb12))
        refine hK.out _ _ (by (try dsimp only); exact HH12.out.trans (HC12.out.mono HH12.out.size)) (fun hHeld => ?_)
        clear hK K
        refine take_at (i := 13) rfl rfl (by kernel_rfl) (by kernel_rfl) (by kernel_rfl) (fun _ _ _ h => h) (yields_neq (by rfl) rfl rfl rfl HRL.out HRL.out false (by simp)) (by assumption) ?_
        simp only [List.setIfInBounds_toArray, List.set_cons_zero, List.set_cons_succ]
        refine take_at (i := 14) (v := ?_) rfl rfl (by kernel_rfl) (by kernel_rfl) (by kernel_rfl) (fun _ _ _ h => h) (Or.inl ⟨by rfl, ?_⟩) (by assumption) ?_
        rotate_left
        · intro w0 hSw; (try dsimp only at hSw); first | (go_simp; done) | (go_simp; with_reducible rfl)
        simp only [List.setIfInBounds_toArray, List.set_cons_zero, List.set_cons_succ]
        refine take_at (i := 15) (v := ?_) rfl rfl (by kernel_rfl) (by kernel_rfl) (by kernel_rfl) (fun _ _ _ h => h) (Or.inl ⟨by rfl, ?_⟩) (by assumption) ?_
        rotate_left
        · intro w0 hSw; (try dsimp only at hSw); first | (go_simp; done) | (go_simp; with_reducible rfl)
        simp only [List.setIfInBounds_toArray, List.set_cons_zero, List.set_cons_succ]
        refine take_at (i := 16) (v := ?_) rfl rfl (by kernel_rfl) (by kernel_rfl) (by kernel_rfl) (fun _ _ _ h => h) (Or.inl ⟨by rfl, ?_⟩) (by assumption) ?_
        rotate_left
        · intro w0 hSw; (try dsimp only at hSw); first | (go_simp; done) | (go_simp; with_reducible rfl)
        simp only [List.setIfInBounds_toArray, List.set_cons_zero, List.set_cons_succ]
        refine take_at (i := 18) (v := ?_) rfl rfl (by kernel_rfl) (by kernel_rfl) (by kernel_rfl) (fun _ _ _ h => h) (Or.inl ⟨by rfl, ?_⟩) (by assumption) ?_
        rotate_left
        · intro w0 hSw; (try dsimp only at hSw); first | (go_simp; done) | (go_simp; with_reducible rfl)
        simp only [List.setIfInBounds_toArray, List.set_cons_zero, List.set_cons_succ]
        refine wpAnyH_ready (rs := [17]) (by kernel_rfl) (by simp) ?_
        refine AllReadyH.cons rfl (fun K hK => ?_) ?_
        · have HH17 := Lib.hid hHeld
          go_simp
          go_wp2_with ((go_at_call 11; (with_reducible refine (HLEFT.out _ k (HKEY.out.below HH17.out)).mono ?_); rintro e x17 ⟨rfl, hb17⟩; have HC17 := Lib.hid hb17; clear hb17))
          refine hK.out _ _ (by (try dsimp only); exact HH17.out.trans (HC17.out.mono HH17.out.size)) (fun hHeld => ?_)
          clear hK K
          refine take_at (i := 19) (v := ?_) rfl rfl (by kernel_rfl) (by kernel_rfl) (by kernel_rfl) (fun _ _ _ h => h) (Or.inl ⟨by rfl, ?_⟩) (by assumption) ?_
          rotate_left
          · intro w0 hSw; (try dsimp only at hSw); first | (go_simp; done) | (go_simp; with_reducible rfl)
          simp only [List.setIfInBounds_toArray, List.set_cons_zero, List.set_cons_succ]
          refine take_at (i := 20) (v := ?_) rfl rfl (by kernel_rfl) (by kernel_rfl) (by kernel_rfl) (fun _ _ _ h => h) (Or.inl ⟨by rfl, ?_⟩) (by assumption) ?_
          rotate_left
          · intro w0 hSw; (try dsimp only at hSw); first | (go_simp; done) | (go_simp; with_reducible rfl)
          simp only [List.setIfInBounds_toArray, List.set_cons_zero, List.set_cons_succ]
          refine take_at (i := 21) (v := ?_) rfl rfl (by kernel_rfl) (by kernel_rfl) (by kernel_rfl) (fun _ _ _ h => h) (Or.inl ⟨by rfl, ?_⟩) (by assumption) ?_
          rotate_left
          · intro w0 hSw; (try dsimp only at hSw); first | (go_simp; done) | (go_simp; with_reducible rfl)
          simp only [List.setIfInBounds_toArray, List.set_cons_zero, List.set_cons_succ]
          refine take_at (i := 22) (v := ?_) rfl rfl (by kernel_rfl) (by kernel_rfl) (by kernel_rfl) (fun _ _ _ h => h) (Or.inl ⟨by rfl, ?_⟩) (by assumption) ?_
          rotate_left
          · intro w0 hSw; (try dsimp only at hSw); first | (go_simp; done) | (go_simp; with_reducible rfl)
          simp only [List.setIfInBounds_toArray, List.set_cons_zero, List.set_cons_succ]
          refine wpAnyH_ready (rs := [23]) (by kernel_rfl) (by simp) ?_
          refine AllReadyH.cons rfl (fun K hK => ?_) ?_
          · have HH23 := Lib.hid hHeld
            go_simp
            go_wp2_with ((go_at_call 12; (with_reducible refine (next_at (HKEY.out.below HH23.out)).mono ?_); rintro e x23 ⟨rfl, rfl⟩))
            refine hK.out _ _ (by (try dsimp only); exact HH23.out) (fun hHeld => ?_)
            clear hK K
            refine take_at (i := 24) (v := ?_) rfl rfl (by kernel_rfl) (by kernel_rfl) (by kernel_rfl) (fun _ _ _ h => h) (Or.inl ⟨by rfl, ?_⟩) (by assumption) ?_
            rotate_left
            · intro w0 hSw; (try dsimp only at hSw); first | (go_simp; done) | (go_simp; with_reducible rfl)
            simp only [List.setIfInBounds_toArray, List.set_cons_zero, List.set_cons_succ]
            refine take_at (i := 25) (v := ?_) rfl rfl (by kernel_rfl) (by kernel_rfl) (by kernel_rfl) (fun _ _ _ h => h) (Or.inl ⟨by rfl, ?_⟩) (by assumption) ?_
            rotate_left
            · intro w0 hSw; (try dsimp only at hSw); first | (go_simp; done) | (go_simp; with_reducible rfl)
            simp only [List.setIfInBounds_toArray, List.set_cons_zero, List.set_cons_succ]
            refine wpAnyH_done (by kernel_rfl) ?_ _
            have hb4 : Below w3.heap.size w3 _ := hHeld
            have HB4 := Lib.hid hb4
            have HKEY4 := Lib.hid (HKEY.out.below HB4.out)
            have HB4' := Lib.hid (HB3.out.trans (HB4.out.mono HB3.out.size))
            have HK4 := Lib.hid (HK3.out.below HB4.out)
            clear hHeld hb4
            go_wp2_with (first | (go_at_call 13; (with_reducible refine (skip_no _ HKEY4.out (HOUT.out)).mono ?_); rintro e w' ⟨rfl, rfl⟩) | (go_at_call 12; (with_reducible refine (next_at HKEY4.out).mono ?_); rintro e w' ⟨rfl, rfl⟩) | fail)
            refine (HAW.out _ HK4.out).mono ?_
            rintro e w5 ⟨rfl, hb5⟩
            have HB5 := Lib.hid (HB4'.out.trans (hb5.mono HB4'.out.size))
            clear hb5
            go_wp2_with fail
            go_ret
            exact ⟨rfl, HB5.out⟩
          exact AllReadyH.nil
        exact AllReadyH.nil
      exact AllReadyH.nil
    exact AllReadyH.nil
  exact AllReadyH.nil
set_option linter.unusedSimpArgs false in
set_option maxRecDepth 100000 in
set_option maxHeartbeats 6400000 in
theorem news5_good {w : World} {s : List UInt8} (n : Nat) (j : Nat) (hs : s.length = 32) (hk : KsAt w) (h1 : 1 ≤ n) (h8 : n ≤ 8) (hto : j ≤ n) :
    Calls Tryd.prog 3 #[.agg (cellsOf s).toArray, .int .i64 (n : Int), .int .i64 (j : Int)] w fun e w' => e = .returned (.bool true) ∧ Below w.heap.size w w' := by
  have haw : ∀ (W : World), KsAt W → Calls Tryd.prog 6 #[] W fun e w' => e = .returned (.bool true) ∧ Below W.heap.size W w' := fun W hW => awake5_any hW
  have hnew : ∀ W : World, KsAt W → Calls Tryd.prog 7 #[.agg (cellsOf s).toArray, .int .i64 (n : Int)] W fun e w' => ∃ k, e = .returned (.tuple #[.pointer (some ⟨k, 0, none⟩), .int .i64 0]) ∧ W.heap.size ≤ k ∧ KeyAt w' k s (leafKeys s n) 0 ∧ Below W.heap.size W w' := fun W hW => new_yes n h1 (by omega) hs hW
  have hlv : ∀ W : World, KsAt W → Calls Tryd.prog 10 #[.agg (cellsOf s).toArray, .int .i64 (n : Int)] W fun e w' => ∃ a c, e = .returned (.slice a n c) ∧ Sums w' a n c (leafKeys s n) ∧ Below W.heap.size W w' := fun W hW => leaves5_any n (by omega) hs hW
  have hlen := leafKeys_len s n
  obtain ⟨R, hrl, hroot, hmr⟩ : ∃ R : List UInt8, R.length = 32 ∧ (∀ (W : World) (k : Nat), KeyAt W k s (leafKeys s n) 0 → KsAt W → Calls Tryd.prog 8 #[.pointer (some ⟨k, 0, none⟩)] W fun e w' => e = .returned (.agg (cellsOf R).toArray) ∧ Below W.heap.size W w') ∧
      (∀ (W : World) (a : Option Addr) (c : Nat), Sums W a n c (leafKeys s n) → KsAt W → Calls Tryd.prog 9 #[.slice a n c] W fun e w' => e = .returned (.agg (cellsOf R).toArray) ∧ Below W.heap.size W w') :=
    ⟨_, rootSum_len _, fun W k h hW => keyroot_at h hW, fun W a c h hW => root_any h hW (by omega)⟩
  have hleft : ∀ (W : World) (k : Nat), KeyAt W k s (leafKeys s n) 0 → Calls Tryd.prog 11 #[.pointer (some ⟨k, 0, none⟩)] W fun e w' => e = .returned (.int .i64 (n : Int)) ∧ Below W.heap.size W w' := fun W k h => left_at h (Nat.zero_le _) n (by omega)
  obtain ⟨ls, hls⟩ : ∃ ls, ls = leafKeys s n := ⟨_, rfl⟩
  rw [← hls] at hnew hlv hlen hroot hmr hleft
  have SZ := Lib.hid (size_of hs)
  have SZL : Hid ((Tryd.prog.info? 23).map (·.size) = some (cellsOf s).length) := Lib.hid (by rw [cellsOf_len, hs]; exact Tryd.size23)
  have HRL := Lib.hid hrl
  have HK := Lib.hid hk
  have HAW := Lib.hid haw
  have HNEW := Lib.hid hnew
  have HLV := Lib.hid hlv
  have HROOT := Lib.hid (fun W => hroot W)
  have HMR := Lib.hid hmr
  have HLEFT := Lib.hid (fun W => hleft W)
  have HLEN := Lib.hid hlen
  have c1 : ¬ (8 < (n : Int)) := by omega
  have c2 : ¬ ((n : Int) < 1) := by omega
  have c3 : ¬ (64 < (n : Int)) := by omega
  obtain ⟨d, hd⟩ : ∃ d, n - j = d := ⟨_, rfl⟩
  have HD := Lib.hid hd
  have e1 : (n : Int) - (j : Int) = (d : Int) := by omega
  have c4 : ¬ ((j : Int) < 0) := by omega
  have c5 : ¬ ((n : Int) < (j : Int)) := by omega
  clear hd
  clear hs hrl hk haw hnew hlv hroot hmr hleft hlen hls
  go_enter Tryd.func3, Tryd.ntmps3
  go_upto_region 1 with (fail)
  have b1 : Below w.heap.size w (w.alloc (.cells (cellsOf s).toArray 23)) := (Below.refl _ _).alloc (Nat.le_refl _) _
  have h1' : (w.alloc (.cells (cellsOf s).toArray 23)).heap[w.heap.size]? = some (.cells (cellsOf s).toArray 23 (0, 0)) := heap_alloc_new _ _
  revert b1 h1'
  generalize (w.alloc (.cells (cellsOf s).toArray 23)) = w1
  obtain ⟨q, hq⟩ : ∃ q, q = w.heap.size := ⟨_, rfl⟩
  rw [← hq]
  intro b1 h1'
  rw [hq] at b1
  have HB1 := Lib.hid b1
  have HQ1 := Lib.hid h1'
  have HK1 := Lib.hid (HK.out.below b1)
  clear b1 h1' hq
  go_wp2_with (first | (refine wpList_load_row rfl 23 _ rfl q rfl 23 (cellsOf s).toArray (0, 0) _ HQ1.out Tryd.underlying23 rfl SZ.out ?_) | fail)
  refine (HNEW.out _ HK1.out).mono ?_
  rintro e w3 ⟨k, rfl, hnk, hkey, hb3⟩
  have HKEY := Lib.hid hkey
  have HNK := Lib.hid (Nat.le_trans HB1.out.size hnk)
  have HB3 := Lib.hid (HB1.out.trans (hb3.mono HB1.out.size))
  have HK3 := Lib.hid (HK1.out.below hb3)
  have hq3 := (hb3.block _ (lt_of_block HQ1.out)).trans HQ1.out
  have HQR := Lib.hid (range_of hq3)
  have hltq := lt_of_block hq3
  clear hkey hnk hb3 hq3
  go_upto_region 6 with (fail)
  try simp only [Act.put]
  refine wp_region_held_drew (S := fun w' => Below w3.heap.size w3 w') (by kernel_rfl) (below_drew (Below.refl _ _)) (fun hHeld => ?_)
  refine take_at (i := 0) (v := ?_) rfl rfl (by kernel_rfl) (by kernel_rfl) (by kernel_rfl) (fun _ _ _ h => h) (Or.inl ⟨by rfl, ?_⟩) (by assumption) ?_
  rotate_left
  · intro w0 hSw; (try dsimp only at hSw); first | (go_simp; done) | (go_simp; with_reducible rfl)
  simp only [List.setIfInBounds_toArray, List.set_cons_zero, List.set_cons_succ]
  refine take_at (i := 1) (v := ?_) rfl rfl (by kernel_rfl) (by kernel_rfl) (by kernel_rfl) (fun _ _ _ h => h) (Or.inl ⟨by rfl, ?_⟩) (by assumption) ?_
  rotate_left
  · intro w0 hSw; (try dsimp only at hSw); first | (go_simp; done) | (go_simp; with_reducible rfl)
  simp only [List.setIfInBounds_toArray, List.set_cons_zero, List.set_cons_succ]
  refine take_at (i := 2) (v := ?_) rfl rfl (by kernel_rfl) (by kernel_rfl) (by kernel_rfl) (fun _ _ _ h => h) (Or.inl ⟨by rfl, ?_⟩) (by assumption) ?_
  rotate_left
  · intro w0 hSw; (try dsimp only at hSw); first | (go_simp; done) | (go_simp; with_reducible rfl)
  simp only [List.setIfInBounds_toArray, List.set_cons_zero, List.set_cons_succ]
  refine take_at (i := 3) (v := ?_) rfl rfl (by kernel_rfl) (by kernel_rfl) (by kernel_rfl) (fun _ _ _ h => h) (Or.inl ⟨by rfl, ?_⟩) (by assumption) ?_
  rotate_left
  · intro w0 hSw; (try dsimp only at hSw); first | (go_simp; done) | (go_simp; with_reducible rfl)
  simp only [List.setIfInBounds_toArray, List.set_cons_zero, List.set_cons_succ]
  refine take_at (i := 4) (v := ?_) rfl rfl (by kernel_rfl) (by kernel_rfl) (by kernel_rfl) (fun _ _ _ h => h) (Or.inl ⟨by rfl, ?_⟩) (by assumption) ?_
  rotate_left
  · intro w0 hSw; (try dsimp only at hSw); first | (go_simp; done) | (go_simp; with_reducible rfl)
  simp only [List.setIfInBounds_toArray, List.set_cons_zero, List.set_cons_succ]
  refine take_at (i := 5) (v := ?_) rfl rfl (by kernel_rfl) (by kernel_rfl) (by kernel_rfl) (fun _ _ _ h => h) (Or.inl ⟨by rfl, ?_⟩) (by assumption) ?_
  rotate_left
  · intro w0 hSw; (try dsimp only at hSw); first | (go_simp; done) | (go_simp; with_reducible rfl)
  simp only [List.setIfInBounds_toArray, List.set_cons_zero, List.set_cons_succ]
  refine take_at (i := 6) (v := ?_) rfl rfl (by kernel_rfl) (by kernel_rfl) (by kernel_rfl) (fun _ _ _ h => h) (Or.inl ⟨by rfl, ?_⟩) (by assumption) ?_
  rotate_left
  · intro w0 hSw; (try dsimp only at hSw); first | (go_simp; done) | (go_simp; with_reducible rfl)
  simp only [List.setIfInBounds_toArray, List.set_cons_zero, List.set_cons_succ]
  refine take_at (i := 7) (v := ?_) rfl rfl (by kernel_rfl) (by kernel_rfl) (by kernel_rfl) (fun _ _ _ h => h) (Or.inl ⟨by rfl, ?_⟩) (by assumption) ?_
  rotate_left
  · intro w0 hSw; (try dsimp only at hSw); first | (go_simp; done) | (go_simp; with_reducible rfl)
  simp only [List.setIfInBounds_toArray, List.set_cons_zero, List.set_cons_succ]
  refine take_at (i := 9) rfl rfl (by kernel_rfl) (by kernel_rfl) (by kernel_rfl) (fun _ _ _ h => h) (yieldsIf_load_mid (by rfl) _ _ rfl q 0 rfl (cellsOf s) _ (fun w0 hSw => rangeAt_below HQR.out hltq hSw) Tryd.underlying23 rfl SZL.out) (by assumption) ?_
  simp only [List.setIfInBounds_toArray, List.set_cons_zero, List.set_cons_succ]
  refine take_at (i := 10) (v := ?_) rfl rfl (by kernel_rfl) (by kernel_rfl) (by kernel_rfl) (fun _ _ _ h => h) (Or.inl ⟨by rfl, ?_⟩) (by assumption) ?_
  rotate_left
  · intro w0 hSw; (try dsimp only at hSw); first | (go_simp; done) | (go_simp; with_reducible rfl)
  simp only [List.setIfInBounds_toArray, List.set_cons_zero, List.set_cons_succ]
  refine wpAnyH_ready (rs := [8]) (by kernel_rfl) (by simp) ?_
  refine AllReadyH.cons rfl (fun K hK => ?_) ?_
  · have HH8 := Lib.hid hHeld
    go_simp
    go_wp2_with ((go_at_call 8; (with_reducible refine (HROOT.out _ k (HKEY.out.below HH8.out) (HK3.out.below HH8.out)).mono ?_); rintro e x8 ⟨rfl, hb8⟩; have HC8 := Lib.hid hb8; clear hb8))
    refine hK.out _ _ (by (try dsimp only); exact HH8.out.trans (HC8.out.mono HH8.out.size)) (fun hHeld => ?_)
    clear hK K
    refine wpAnyH_ready (rs := [11]) (by kernel_rfl) (by simp) ?_
    refine AllReadyH.cons rfl (fun K hK => ?_) ?_
    · have HH11 := Lib.hid hHeld
      go_simp
      go_wp2_with ((go_at_call 10; (with_reducible refine (HLV.out _ (HK3.out.below HH11.out)).mono ?_); rintro e x11 ⟨la, lc, rfl, hls, hb11⟩; have HC11 := Lib.hid hb11; have HLS := Lib.hid hls; clear hb11 hls))
      refine hK.out _ _ (by (try dsimp only); exact HH11.out.trans (HC11.out.mono HH11.out.size)) (fun hHeld => ?_)
      clear hK K
      refine wpAnyH_ready (rs := [12]) (by kernel_rfl) (by simp) ?_
      refine AllReadyH.cons rfl (fun K hK => ?_) ?_
      · have HH12 := Lib.hid hHeld
        go_simp
        go_wp2_with ((go_at_call 9; (with_reducible refine (HMR.out _ la lc HLS.out (HK3.out.below HH12.out)).mono ?_); rintro e x12 ⟨rfl, hb12⟩; have HC12 := Lib.hid hb12; clear hb12))
        refine hK.out _ _ (by (try dsimp only); exact HH12.out.trans (HC12.out.mono HH12.out.size)) (fun hHeld => ?_)
        clear hK K
        refine take_at (i := 13) rfl rfl (by kernel_rfl) (by kernel_rfl) (by kernel_rfl) (fun _ _ _ h => h) (yields_neq (by rfl) rfl rfl rfl HRL.out HRL.out false (by simp)) (by assumption) ?_
        simp only [List.setIfInBounds_toArray, List.set_cons_zero, List.set_cons_succ]
        refine take_at (i := 14) (v := ?_) rfl rfl (by kernel_rfl) (by kernel_rfl) (by kernel_rfl) (fun _ _ _ h => h) (Or.inl ⟨by rfl, ?_⟩) (by assumption) ?_
        rotate_left
        · intro w0 hSw; (try dsimp only at hSw); first | (go_simp; done) | (go_simp; with_reducible rfl)
        simp only [List.setIfInBounds_toArray, List.set_cons_zero, List.set_cons_succ]
        refine take_at (i := 15) (v := ?_) rfl rfl (by kernel_rfl) (by kernel_rfl) (by kernel_rfl) (fun _ _ _ h => h) (Or.inl ⟨by rfl, ?_⟩) (by assumption) ?_
        rotate_left
        · intro w0 hSw; (try dsimp only at hSw); first | (go_simp; done) | (go_simp; with_reducible rfl)
        simp only [List.setIfInBounds_toArray, List.set_cons_zero, List.set_cons_succ]
        refine take_at (i := 16) (v := ?_) rfl rfl (by kernel_rfl) (by kernel_rfl) (by kernel_rfl) (fun _ _ _ h => h) (Or.inl ⟨by rfl, ?_⟩) (by assumption) ?_
        rotate_left
        · intro w0 hSw; (try dsimp only at hSw); first | (go_simp; done) | (go_simp; with_reducible rfl)
        simp only [List.setIfInBounds_toArray, List.set_cons_zero, List.set_cons_succ]
        refine take_at (i := 18) (v := ?_) rfl rfl (by kernel_rfl) (by kernel_rfl) (by kernel_rfl) (fun _ _ _ h => h) (Or.inl ⟨by rfl, ?_⟩) (by assumption) ?_
        rotate_left
        · intro w0 hSw; (try dsimp only at hSw); first | (go_simp; done) | (go_simp; with_reducible rfl)
        simp only [List.setIfInBounds_toArray, List.set_cons_zero, List.set_cons_succ]
        refine wpAnyH_ready (rs := [17]) (by kernel_rfl) (by simp) ?_
        refine AllReadyH.cons rfl (fun K hK => ?_) ?_
        · have HH17 := Lib.hid hHeld
          go_simp
          go_wp2_with ((go_at_call 11; (with_reducible refine (HLEFT.out _ k (HKEY.out.below HH17.out)).mono ?_); rintro e x17 ⟨rfl, hb17⟩; have HC17 := Lib.hid hb17; clear hb17))
          refine hK.out _ _ (by (try dsimp only); exact HH17.out.trans (HC17.out.mono HH17.out.size)) (fun hHeld => ?_)
          clear hK K
          refine take_at (i := 19) (v := ?_) rfl rfl (by kernel_rfl) (by kernel_rfl) (by kernel_rfl) (fun _ _ _ h => h) (Or.inl ⟨by rfl, ?_⟩) (by assumption) ?_
          rotate_left
          · intro w0 hSw; (try dsimp only at hSw); first | (go_simp; done) | (go_simp; with_reducible rfl)
          simp only [List.setIfInBounds_toArray, List.set_cons_zero, List.set_cons_succ]
          refine take_at (i := 20) (v := ?_) rfl rfl (by kernel_rfl) (by kernel_rfl) (by kernel_rfl) (fun _ _ _ h => h) (Or.inl ⟨by rfl, ?_⟩) (by assumption) ?_
          rotate_left
          · intro w0 hSw; (try dsimp only at hSw); first | (go_simp; done) | (go_simp; with_reducible rfl)
          simp only [List.setIfInBounds_toArray, List.set_cons_zero, List.set_cons_succ]
          refine take_at (i := 21) (v := ?_) rfl rfl (by kernel_rfl) (by kernel_rfl) (by kernel_rfl) (fun _ _ _ h => h) (Or.inl ⟨by rfl, ?_⟩) (by assumption) ?_
          rotate_left
          · intro w0 hSw; (try dsimp only at hSw); first | (go_simp; done) | (go_simp; with_reducible rfl)
          simp only [List.setIfInBounds_toArray, List.set_cons_zero, List.set_cons_succ]
          refine take_at (i := 22) (v := ?_) rfl rfl (by kernel_rfl) (by kernel_rfl) (by kernel_rfl) (fun _ _ _ h => h) (Or.inl ⟨by rfl, ?_⟩) (by assumption) ?_
          rotate_left
          · intro w0 hSw; (try dsimp only at hSw); first | (go_simp; done) | (go_simp; with_reducible rfl)
          simp only [List.setIfInBounds_toArray, List.set_cons_zero, List.set_cons_succ]
          refine wpAnyH_ready (rs := [23]) (by kernel_rfl) (by simp) ?_
          refine AllReadyH.cons rfl (fun K hK => ?_) ?_
          · have HH23 := Lib.hid hHeld
            go_simp
            go_wp2_with ((go_at_call 12; (with_reducible refine (next_at (HKEY.out.below HH23.out)).mono ?_); rintro e x23 ⟨rfl, rfl⟩))
            refine hK.out _ _ (by (try dsimp only); exact HH23.out) (fun hHeld => ?_)
            clear hK K
            refine take_at (i := 24) (v := ?_) rfl rfl (by kernel_rfl) (by kernel_rfl) (by kernel_rfl) (fun _ _ _ h => h) (Or.inl ⟨by rfl, ?_⟩) (by assumption) ?_
            rotate_left
            · intro w0 hSw; (try dsimp only at hSw); first | (go_simp; done) | (go_simp; with_reducible rfl)
            simp only [List.setIfInBounds_toArray, List.set_cons_zero, List.set_cons_succ]
            refine take_at (i := 25) (v := ?_) rfl rfl (by kernel_rfl) (by kernel_rfl) (by kernel_rfl) (fun _ _ _ h => h) (Or.inl ⟨by rfl, ?_⟩) (by assumption) ?_
            rotate_left
            · intro w0 hSw; (try dsimp only at hSw); first | (go_simp; done) | (go_simp; with_reducible rfl)
            simp only [List.setIfInBounds_toArray, List.set_cons_zero, List.set_cons_succ]
            refine wpAnyH_done (by kernel_rfl) ?_ _
            have hb4 : Below w3.heap.size w3 _ := hHeld
            have HB4 := Lib.hid hb4
            have HKEY4 := Lib.hid (HKEY.out.below HB4.out)
            have HB4' := Lib.hid (HB3.out.trans (HB4.out.mono HB3.out.size))
            clear hHeld hb4
            go_wp2_with fail
            refine (skip_yes j HKEY4.out (Nat.zero_le _) (by rw [HLEN.out]; exact hto)).mono ?_
            rintro e w5 ⟨rfl, hkey5, hbut5⟩
            have HKEY5 := Lib.hid hkey5
            have HB5 := Lib.hid (HB4'.out.trans ((hbut5.mono HB4'.out.size).below HNK.out))
            clear hkey5 hbut5
            go_wp2_with (first | (go_at_call 12; (with_reducible refine (next_at HKEY5.out).mono ?_); rintro e w' ⟨rfl, rfl⟩) | fail)
            refine (left_at HKEY5.out (by rw [HLEN.out]; exact hto) d (by rw [HLEN.out]; exact HD.out)).mono ?_
            rintro e w6 ⟨rfl, hb6⟩
            have HKEY6 := Lib.hid (HKEY5.out.below hb6)
            have HB6 := Lib.hid (HB5.out.trans (hb6.mono HB5.out.size))
            clear hb6
            go_wp2_with (first | (go_at_call 13; (with_reducible refine (skip_no _ HKEY6.out (.inl (by omega))).mono ?_); rintro e w' ⟨rfl, rfl⟩) | fail)
            refine (HAW.out _ (HK.out.below HB6.out)).mono ?_
            rintro e w7 ⟨rfl, hb7⟩
            have HB7 := Lib.hid (HB6.out.trans (hb7.mono HB6.out.size))
            clear hb7
            go_wp2_with fail
            go_ret
            exact ⟨rfl, HB7.out⟩
          exact AllReadyH.nil
        exact AllReadyH.nil
      exact AllReadyH.nil
    exact AllReadyH.nil
  exact AllReadyH.nil
theorem news5_walk {w : World} {s : List UInt8} (n u : Int) (hs : s.length = 32) (hk : KsAt w) :
    Calls Tryd.prog 3 #[.agg (cellsOf s).toArray, .int .i64 n, .int .i64 u] w fun e w' => e = .returned (.bool true) ∧ Below w.heap.size w w' := by
  by_cases h1 : n < 1 ∨ 64 < n
  · exact news5_bad n u hs hk h1
  · by_cases h2 : 8 < n
    · exact news5_mid n u hk h2 (by omega)
    · obtain ⟨N, rfl⟩ : ∃ N : Nat, n = N := ⟨n.toNat, by omega⟩
      by_cases h3 : u < 0
      · exact news5_low N u hs hk (by omega) (by omega) h3
      · by_cases h4 : (N : Int) < u
        · exact news5_high N u hs hk (by omega) (by omega) h4
        · obtain ⟨j, rfl⟩ : ∃ j : Nat, u = j := ⟨u.toNat, by omega⟩
          exact news5_good N j hs hk (by omega) (by omega) (by omega)
end Go.Proofs.YtacagnoilpfjkaaDoor
