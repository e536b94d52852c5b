/- SecretNobody, walked. -/
import Derived.Test.YthpkafjonelanaaDoorAwake13
namespace Go.Proofs.YthpkafjonelanaaDoor
open Go.RowKit

theorem Tryd.zeroShelf : (Tryd.prog.info? 34).map (fun i => (i.zero, i.size, i.bytes)) = some (some (.agg #[.pointer none, .int .i64 0]), 2, 16) := by kernel_rfl
set_option linter.unusedSimpArgs false in
set_option maxRecDepth 100000 in
set_option maxHeartbeats 6400000 in
theorem nobody13_low {w : World} {s : List UInt8} {z : Int} (hs : s.length = 32) (hz : z < 0) (hk : KsAt w) :
    Calls Tryd.prog 5 #[.agg (cellsOf s).toArray, .int .i64 z] w fun e w' => e = .returned (.bool true) ∧ Below w.heap.size w w' := by
  have HAW : Hid (∀ W : World, KsAt W → Calls Tryd.prog 6 #[] W fun e w' => e = .returned (.bool true) ∧ Below W.heap.size W w') := Lib.hid fun W hW => awake13_any hW
  have HHA : Hid (∃ h : List UInt8, ∀ W : World, KsAt W → Calls Tryd.prog 9 #[.agg (cellsOf s).toArray] W fun e w' => e = .returned (.agg (cellsOf h).toArray) ∧ Below W.heap.size W w') := Lib.hid ⟨_, fun W hW => shash_any hs hW⟩
  obtain ⟨h, hha⟩ := HHA.out
  clear HHA
  have HHA := Lib.hid hha
  have SZS := Lib.hid (sumLen13 hs)
  have ZL : Hid ((cellsOf zero32).length = 32) := Lib.hid rfl
  have HK := Lib.hid hk
  have iw : IntKind.i64.wrap 0 = 0 := rfl
  have HGC : Hid (∀ W : World, Calls Tryd.prog 15 #[.pointer none, .int .i64 z] W fun e w' => e = .returned (.tuple #[.agg (cellsOf zero32).toArray, .bool false]) ∧ Below W.heap.size W w') := Lib.hid fun W => get_low13 hz
  clear hha hs hk hz
  go_enter Tryd.func5, Tryd.ntmps5
  go_upto_region 1 with (fail)
  have b1 : Below w.heap.size w (w.alloc (.cells (cellsOf s).toArray 23)) := (Below.refl _ _).alloc (Nat.le_refl _) _
  have h1 := heap_alloc_new w (.cells (cellsOf s).toArray 23)
  revert b1 h1
  generalize (w.alloc (.cells (cellsOf s).toArray 23)) = w1
  obtain ⟨g, hg⟩ : ∃ g, g = w.heap.size := ⟨_, rfl⟩
  rw [← hg]
  intro b1 h1
  rw [hg] at b1
  have HB1 := Lib.hid b1
  have H1 := Lib.hid h1
  clear b1 h1 hg
  have HGT := Lib.hid (HGC.out w1)
  go_upto_region 3 with (first | (go_at_call 15; (with_reducible refine (HGT.out).mono ?_); rintro e w2 ⟨rfl, hb⟩; have HB2 := Lib.hid (bthen HB1.out hb); have HC2 := Lib.hid hb; clear hb) | (refine wpList_var rfl rfl 23 rfl _ _ rfl (cellsOf zero32).toArray sum_zero rfl (cellsOf zero32) (fun _ => rfl) (fun _ => rfl) ZL.out (cellsOf_one zero32) ?_; intro q w3 hq hh hb; go_frame; have HB3 := Lib.hid (bthen HB2.out hb); have HC3 := Lib.hid (bthen HC2.out hb); clear hq hh hb) | fail)
  have HCN := Lib.hid (clone_nil13 (w := w3))
  go_upto_region 4 with (first | (go_at_call 11; (with_reducible refine (HCN.out).mono ?_); rintro e w4 ⟨rfl, hb⟩; have HB4 := Lib.hid (bthen HB3.out hb); have HC4 := Lib.hid (bthen HC3.out hb); clear hb) | (refine wpList_var rfl rfl 34 rfl _ _ rfl #[.pointer none, .int .i64 0] Tryd.zeroShelf rfl [.pointer none, .int .i64 0] (fun _ => rfl) (fun _ => rfl) rfl (by simp [Value.oneCell']) ?_; intro c w5 hq hh hb; go_frame; have HCL := Lib.hid hh; have HB5 := Lib.hid (bthen HB4.out hb); have H5 := Lib.hid (keep (bthen HC4.out hb) H1.out); clear hq hh hb) | fail)
  refine wp_region_held_drew (S := fun w' => Below w5.heap.size w5 w') (by kernel_rfl) (below_drew (Below.refl _ _)) (fun hHeld => ?_)
  refine take_at (i := 0) (v := ?_) rfl rfl (by kernel_rfl) (by kernel_rfl) (by kernel_rfl) (fun _ _ _ h => h) (Or.inl ⟨by rfl, ?_⟩) (by assumption) ?_
  rotate_left
  · intro w0 hSw; (try dsimp only at hSw); first | (go_simp; done) | (go_simp; with_reducible rfl)
  simp only [List.setIfInBounds_toArray, List.set_cons_zero, List.set_cons_succ]
  refine take_at (i := 1) rfl rfl (by kernel_rfl) (by kernel_rfl) (by kernel_rfl) (fun _ _ _ h => h) (yieldsIf_load_mid (by rfl) _ _ rfl g 0 rfl (cellsOf s) _ (fun w0 hSw => range_of (keep hSw H5.out)) Tryd.underlying23 rfl SZS.out) (by assumption) ?_
  simp only [List.setIfInBounds_toArray, List.set_cons_zero, List.set_cons_succ]
  refine take_at (i := 2) rfl rfl (by kernel_rfl) (by kernel_rfl) (by kernel_rfl) (fun _ _ _ h => h) (yieldsIf_load_mid (by rfl) _ _ rfl g 0 rfl (cellsOf s) _ (fun w0 hSw => range_of (keep hSw H5.out)) Tryd.underlying23 rfl SZS.out) (by assumption) ?_
  simp only [List.setIfInBounds_toArray, List.set_cons_zero, List.set_cons_succ]
  refine wpAnyH_ready (rs := [3]) (by kernel_rfl) (by simp) ?_
  refine AllReadyH.cons rfl (fun K hK => ?_) ?_
  · have HC3 := Lib.hid (HHA.out _ (HK.out.below (bthen HB5.out hHeld)))
    go_simp
    go_wp2_with ((go_at_call 9; (with_reducible refine (HC3.out).mono ?_); rintro e y3 ⟨rfl, hb⟩; have HXy3 := Lib.hid hb; clear hb))
    refine hK.out _ _ (by (try dsimp only); exact bthen hHeld HXy3.out) (fun hHeld => ?_)
    clear hK K
    refine wpAnyH_ready (rs := [4]) (by kernel_rfl) (by simp) ?_
    refine AllReadyH.cons rfl (fun K hK => ?_) ?_
    · have HC4 := Lib.hid (put_nil13 (w := y3) (x := s) (h := h))
      go_simp
      go_wp2_with ((go_at_call 12; (with_reducible refine (HC4.out).mono ?_); rintro e y4 ⟨rfl, hb⟩; have HXy4 := Lib.hid hb; clear hb))
      refine hK.out _ _ (by (try dsimp only); exact bthen hHeld HXy4.out) (fun hHeld => ?_)
      clear hK K
      refine take_at (i := 5) (v := ?_) rfl rfl (by kernel_rfl) (by kernel_rfl) (by kernel_rfl) (fun _ _ _ h => h) (Or.inl ⟨by rfl, ?_⟩) (by assumption) ?_
      rotate_left
      · intro w0 hSw; (try dsimp only at hSw); first | (go_simp; done) | (go_simp; with_reducible rfl)
      simp only [List.setIfInBounds_toArray, List.set_cons_zero, List.set_cons_succ]
      refine take_at (i := 6) (v := ?_) rfl rfl (by kernel_rfl) (by kernel_rfl) (by kernel_rfl) (fun _ _ _ h => h) (Or.inl ⟨by rfl, ?_⟩) (by assumption) ?_
      rotate_left
      · intro w0 hSw; (try dsimp only at hSw); first | (go_simp; done) | (go_simp; with_reducible rfl)
      simp only [List.setIfInBounds_toArray, List.set_cons_zero, List.set_cons_succ]
      refine take_at (i := 7) (v := ?_) rfl rfl (by kernel_rfl) (by kernel_rfl) (by kernel_rfl) (fun _ _ _ h => h) (Or.inl ⟨by rfl, ?_⟩) (by assumption) ?_
      rotate_left
      · intro w0 hSw; (try dsimp only at hSw); first | (go_simp; done) | (go_simp; with_reducible rfl)
      simp only [List.setIfInBounds_toArray, List.set_cons_zero, List.set_cons_succ]
      refine take_at (i := 8) (v := ?_) rfl rfl (by kernel_rfl) (by kernel_rfl) (by kernel_rfl) (fun _ _ _ h => h) (Or.inl ⟨by rfl, ?_⟩) (by assumption) ?_
      rotate_left
      · intro w0 hSw; (try dsimp only at hSw); first | (go_simp; done) | (go_simp; with_reducible rfl)
      simp only [List.setIfInBounds_toArray, List.set_cons_zero, List.set_cons_succ]
      refine take_at (i := 9) (v := ?_) rfl rfl (by kernel_rfl) (by kernel_rfl) (by kernel_rfl) (fun _ _ _ h => h) (Or.inl ⟨by rfl, ?_⟩) (by assumption) ?_
      rotate_left
      · intro w0 hSw; (try dsimp only at hSw); first | (go_simp; done) | (go_simp; with_reducible rfl)
      simp only [List.setIfInBounds_toArray, List.set_cons_zero, List.set_cons_succ]
      refine take_at (i := 10) (v := ?_) rfl rfl (by kernel_rfl) (by kernel_rfl) (by kernel_rfl) (fun _ _ _ h => h) (Or.inl ⟨by rfl, ?_⟩) (by assumption) ?_
      rotate_left
      · intro w0 hSw; (try dsimp only at hSw); first | (go_simp; done) | (go_simp; with_reducible rfl)
      simp only [List.setIfInBounds_toArray, List.set_cons_zero, List.set_cons_succ]
      refine take_at (i := 11) (v := ?_) rfl rfl (by kernel_rfl) (by kernel_rfl) (by kernel_rfl) (fun _ _ _ h => h) (Or.inl ⟨by rfl, ?_⟩) (by assumption) ?_
      rotate_left
      · intro w0 hSw; (try dsimp only at hSw); first | (go_simp; done) | (go_simp; with_reducible rfl)
      simp only [List.setIfInBounds_toArray, List.set_cons_zero, List.set_cons_succ]
      refine take_at (i := 13) (v := ?_) rfl rfl (by kernel_rfl) (by kernel_rfl) (by kernel_rfl) (fun _ _ _ h => h) (Or.inl ⟨by rfl, ?_⟩) (by assumption) ?_
      rotate_left
      · intro w0 hSw; (try dsimp only at hSw); first | (go_simp; done) | (go_simp; with_reducible rfl)
      simp only [List.setIfInBounds_toArray, List.set_cons_zero, List.set_cons_succ]
      refine wpAnyH_ready (rs := [12]) (by kernel_rfl) (by simp) ?_
      refine AllReadyH.cons rfl (fun K hK => ?_) ?_
      · have HC12 := Lib.hid (len_nil13 (w := y4))
        go_simp
        go_wp2_with ((go_at_call 14; (with_reducible refine (HC12.out).mono ?_); rintro e y12 ⟨rfl, rfl⟩))
        refine hK.out _ _ (by (try dsimp only); exact hHeld) (fun hHeld => ?_)
        clear hK K
        refine wpAnyH_ready (rs := [14]) (by kernel_rfl) (by simp) ?_
        refine AllReadyH.cons rfl (fun K hK => ?_) ?_
        · have HC14 := Lib.hid (all_nil13 (w := y4))
          go_simp
          go_wp2_with ((go_at_call 13; (with_reducible refine (HC14.out).mono ?_); rintro e y14 ⟨rfl, rfl⟩))
          refine hK.out _ _ (by (try dsimp only); exact hHeld) (fun hHeld => ?_)
          clear hK K
          refine take_at (i := 15) (v := ?_) rfl rfl (by kernel_rfl) (by kernel_rfl) (by kernel_rfl) (fun _ _ _ h => h) (Or.inl ⟨by rfl, ?_⟩) (by assumption) ?_
          rotate_left
          · intro w0 hSw; (try dsimp only at hSw); first | (go_simp; done) | (go_simp; with_reducible rfl)
          simp only [List.setIfInBounds_toArray, List.set_cons_zero, List.set_cons_succ]
          refine take_at (i := 16) (v := ?_) rfl rfl (by kernel_rfl) (by kernel_rfl) (by kernel_rfl) (fun _ _ _ h => h) (Or.inl ⟨by rfl, ?_⟩) (by assumption) ?_
          rotate_left
          · intro w0 hSw; (try dsimp only at hSw); first | (go_simp; done) | (go_simp; with_reducible rfl)
          simp only [List.setIfInBounds_toArray, List.set_cons_zero, List.set_cons_succ]
          refine wpAnyH_ready (rs := [17]) (by kernel_rfl) (by simp) ?_
          refine AllReadyH.cons rfl (fun K hK => ?_) ?_
          · have HC17 := Lib.hid (len_at13 (keep HXy4.out (keep HXy3.out (show w5.drew.heap[c]? = _ from HCL.out))))
            go_simp
            go_wp2_with ((go_at_call 14; (with_reducible refine (HC17.out).mono ?_); rintro e y17 ⟨rfl, rfl⟩))
            refine hK.out _ _ (by (try dsimp only); exact hHeld) (fun hHeld => ?_)
            clear hK K
            refine take_at (i := 18) (v := ?_) rfl rfl (by kernel_rfl) (by kernel_rfl) (by kernel_rfl) (fun _ _ _ h => h) (Or.inl ⟨by rfl, ?_⟩) (by assumption) ?_
            rotate_left
            · intro w0 hSw; (try dsimp only at hSw); first | (go_simp; done) | (go_simp; with_reducible rfl)
            simp only [List.setIfInBounds_toArray, List.set_cons_zero, List.set_cons_succ]
            refine take_at (i := 19) (v := ?_) rfl rfl (by kernel_rfl) (by kernel_rfl) (by kernel_rfl) (fun _ _ _ h => h) (Or.inl ⟨by rfl, ?_⟩) (by assumption) ?_
            rotate_left
            · intro w0 hSw; (try dsimp only at hSw); first | (go_simp; done) | (go_simp; with_reducible rfl)
            simp only [List.setIfInBounds_toArray, List.set_cons_zero, List.set_cons_succ]
            refine take_at (i := 20) (v := ?_) rfl rfl (by kernel_rfl) (by kernel_rfl) (by kernel_rfl) (fun _ _ _ h => h) (Or.inl ⟨by rfl, ?_⟩) (by assumption) ?_
            rotate_left
            · intro w0 hSw; (try dsimp only at hSw); first | (go_simp; done) | (go_simp; with_reducible rfl)
            simp only [List.setIfInBounds_toArray, List.set_cons_zero, List.set_cons_succ]
            refine take_at (i := 21) (v := ?_) rfl rfl (by kernel_rfl) (by kernel_rfl) (by kernel_rfl) (fun _ _ _ h => h) (Or.inl ⟨by rfl, ?_⟩) (by assumption) ?_
            rotate_left
            · intro w0 hSw; (try dsimp only at hSw); first | (go_simp; done) | (go_simp; with_reducible rfl)
            simp only [List.setIfInBounds_toArray, List.set_cons_zero, List.set_cons_succ]
            refine wpAnyH_ready (rs := [22]) (by kernel_rfl) (by simp) ?_
            refine AllReadyH.cons rfl (fun K hK => ?_) ?_
            · have HC22 := Lib.hid (HAW.out _ (HK.out.below (bthen HB5.out hHeld)))
              go_simp
              go_wp2_with ((go_at_call 6; (with_reducible refine (HC22.out).mono ?_); rintro e y22 ⟨rfl, hb⟩; have HXy22 := Lib.hid hb; clear hb))
              refine hK.out _ _ (by (try dsimp only); exact bthen hHeld HXy22.out) (fun hHeld => ?_)
              clear hK K
              refine take_at (i := 23) (v := ?_) rfl rfl (by kernel_rfl) (by kernel_rfl) (by kernel_rfl) (fun _ _ _ h => h) (Or.inl ⟨by rfl, ?_⟩) (by assumption) ?_
              rotate_left
              · intro w0 hSw; (try dsimp only at hSw); first | (go_simp; done) | (go_simp; with_reducible rfl)
              simp only [List.setIfInBounds_toArray, List.set_cons_zero, List.set_cons_succ]
              refine take_at (i := 24) (v := ?_) rfl rfl (by kernel_rfl) (by kernel_rfl) (by kernel_rfl) (fun _ _ _ h => h) (Or.inl ⟨by rfl, ?_⟩) (by assumption) ?_
              rotate_left
              · intro w0 hSw; (try dsimp only at hSw); first | (go_simp; done) | (go_simp; with_reducible rfl)
              simp only [List.setIfInBounds_toArray, List.set_cons_zero, List.set_cons_succ]
              refine wpAnyH_done (by kernel_rfl) ?_ _
              have HFIN := Lib.hid (bthen HB5.out (show Below w5.heap.size w5 y22 from hHeld))
              clear hHeld
              go_wp2_with fail
              go_ret
              exact ⟨rfl, HFIN.out⟩
            exact AllReadyH.nil
          exact AllReadyH.nil
        exact AllReadyH.nil
      exact AllReadyH.nil
    exact AllReadyH.nil
  exact AllReadyH.nil
set_option linter.unusedSimpArgs false in
set_option maxRecDepth 100000 in
set_option maxHeartbeats 6400000 in
theorem nobody13_high {w : World} {s : List UInt8} {z : Int} (hs : s.length = 32) (hz : 0 ≤ z) (hk : KsAt w) :
    Calls Tryd.prog 5 #[.agg (cellsOf s).toArray, .int .i64 z] w fun e w' => e = .returned (.bool true) ∧ Below w.heap.size w w' := by
  have HAW : Hid (∀ W : World, KsAt W → Calls Tryd.prog 6 #[] W fun e w' => e = .returned (.bool true) ∧ Below W.heap.size W w') := Lib.hid fun W hW => awake13_any hW
  have HHA : Hid (∃ h : List UInt8, ∀ W : World, KsAt W → Calls Tryd.prog 9 #[.agg (cellsOf s).toArray] W fun e w' => e = .returned (.agg (cellsOf h).toArray) ∧ Below W.heap.size W w') := Lib.hid ⟨_, fun W hW => shash_any hs hW⟩
  obtain ⟨h, hha⟩ := HHA.out
  clear HHA
  have HHA := Lib.hid hha
  have SZS := Lib.hid (sumLen13 hs)
  have ZL : Hid ((cellsOf zero32).length = 32) := Lib.hid rfl
  have HK := Lib.hid hk
  have iw : IntKind.i64.wrap 0 = 0 := rfl
  have HGC : Hid (∀ W : World, Calls Tryd.prog 15 #[.pointer none, .int .i64 z] W fun e w' => e = .returned (.tuple #[.agg (cellsOf zero32).toArray, .bool false]) ∧ Below W.heap.size W w') := Lib.hid fun W => get_nil13 hz
  clear hha hs hk hz
  go_enter Tryd.func5, Tryd.ntmps5
  go_upto_region 1 with (fail)
  have b1 : Below w.heap.size w (w.alloc (.cells (cellsOf s).toArray 23)) := (Below.refl _ _).alloc (Nat.le_refl _) _
  have h1 := heap_alloc_new w (.cells (cellsOf s).toArray 23)
  revert b1 h1
  generalize (w.alloc (.cells (cellsOf s).toArray 23)) = w1
  obtain ⟨g, hg⟩ : ∃ g, g = w.heap.size := ⟨_, rfl⟩
  rw [← hg]
  intro b1 h1
  rw [hg] at b1
  have HB1 := Lib.hid b1
  have H1 := Lib.hid h1
  clear b1 h1 hg
  have HGT := Lib.hid (HGC.out w1)
  go_upto_region 3 with (first | (go_at_call 15; (with_reducible refine (HGT.out).mono ?_); rintro e w2 ⟨rfl, hb⟩; have HB2 := Lib.hid (bthen HB1.out hb); have HC2 := Lib.hid hb; clear hb) | (refine wpList_var rfl rfl 23 rfl _ _ rfl (cellsOf zero32).toArray sum_zero rfl (cellsOf zero32) (fun _ => rfl) (fun _ => rfl) ZL.out (cellsOf_one zero32) ?_; intro q w3 hq hh hb; go_frame; have HB3 := Lib.hid (bthen HB2.out hb); have HC3 := Lib.hid (bthen HC2.out hb); clear hq hh hb) | fail)
  have HCN := Lib.hid (clone_nil13 (w := w3))
  go_upto_region 4 with (first | (go_at_call 11; (with_reducible refine (HCN.out).mono ?_); rintro e w4 ⟨rfl, hb⟩; have HB4 := Lib.hid (bthen HB3.out hb); have HC4 := Lib.hid (bthen HC3.out hb); clear hb) | (refine wpList_var rfl rfl 34 rfl _ _ rfl #[.pointer none, .int .i64 0] Tryd.zeroShelf rfl [.pointer none, .int .i64 0] (fun _ => rfl) (fun _ => rfl) rfl (by simp [Value.oneCell']) ?_; intro c w5 hq hh hb; go_frame; have HCL := Lib.hid hh; have HB5 := Lib.hid (bthen HB4.out hb); have H5 := Lib.hid (keep (bthen HC4.out hb) H1.out); clear hq hh hb) | fail)
  refine wp_region_held_drew (S := fun w' => Below w5.heap.size w5 w') (by kernel_rfl) (below_drew (Below.refl _ _)) (fun hHeld => ?_)
  refine take_at (i := 0) (v := ?_) rfl rfl (by kernel_rfl) (by kernel_rfl) (by kernel_rfl) (fun _ _ _ h => h) (Or.inl ⟨by rfl, ?_⟩) (by assumption) ?_
  rotate_left
  · intro w0 hSw; (try dsimp only at hSw); first | (go_simp; done) | (go_simp; with_reducible rfl)
  simp only [List.setIfInBounds_toArray, List.set_cons_zero, List.set_cons_succ]
  refine take_at (i := 1) rfl rfl (by kernel_rfl) (by kernel_rfl) (by kernel_rfl) (fun _ _ _ h => h) (yieldsIf_load_mid (by rfl) _ _ rfl g 0 rfl (cellsOf s) _ (fun w0 hSw => range_of (keep hSw H5.out)) Tryd.underlying23 rfl SZS.out) (by assumption) ?_
  simp only [List.setIfInBounds_toArray, List.set_cons_zero, List.set_cons_succ]
  refine take_at (i := 2) rfl rfl (by kernel_rfl) (by kernel_rfl) (by kernel_rfl) (fun _ _ _ h => h) (yieldsIf_load_mid (by rfl) _ _ rfl g 0 rfl (cellsOf s) _ (fun w0 hSw => range_of (keep hSw H5.out)) Tryd.underlying23 rfl SZS.out) (by assumption) ?_
  simp only [List.setIfInBounds_toArray, List.set_cons_zero, List.set_cons_succ]
  refine wpAnyH_ready (rs := [3]) (by kernel_rfl) (by simp) ?_
  refine AllReadyH.cons rfl (fun K hK => ?_) ?_
  · have HC3 := Lib.hid (HHA.out _ (HK.out.below (bthen HB5.out hHeld)))
    go_simp
    go_wp2_with ((go_at_call 9; (with_reducible refine (HC3.out).mono ?_); rintro e y3 ⟨rfl, hb⟩; have HXy3 := Lib.hid hb; clear hb))
    refine hK.out _ _ (by (try dsimp only); exact bthen hHeld HXy3.out) (fun hHeld => ?_)
    clear hK K
    refine wpAnyH_ready (rs := [4]) (by kernel_rfl) (by simp) ?_
    refine AllReadyH.cons rfl (fun K hK => ?_) ?_
    · have HC4 := Lib.hid (put_nil13 (w := y3) (x := s) (h := h))
      go_simp
      go_wp2_with ((go_at_call 12; (with_reducible refine (HC4.out).mono ?_); rintro e y4 ⟨rfl, hb⟩; have HXy4 := Lib.hid hb; clear hb))
      refine hK.out _ _ (by (try dsimp only); exact bthen hHeld HXy4.out) (fun hHeld => ?_)
      clear hK K
      refine take_at (i := 5) (v := ?_) rfl rfl (by kernel_rfl) (by kernel_rfl) (by kernel_rfl) (fun _ _ _ h => h) (Or.inl ⟨by rfl, ?_⟩) (by assumption) ?_
      rotate_left
      · intro w0 hSw; (try dsimp only at hSw); first | (go_simp; done) | (go_simp; with_reducible rfl)
      simp only [List.setIfInBounds_toArray, List.set_cons_zero, List.set_cons_succ]
      refine take_at (i := 6) (v := ?_) rfl rfl (by kernel_rfl) (by kernel_rfl) (by kernel_rfl) (fun _ _ _ h => h) (Or.inl ⟨by rfl, ?_⟩) (by assumption) ?_
      rotate_left
      · intro w0 hSw; (try dsimp only at hSw); first | (go_simp; done) | (go_simp; with_reducible rfl)
      simp only [List.setIfInBounds_toArray, List.set_cons_zero, List.set_cons_succ]
      refine take_at (i := 7) (v := ?_) rfl rfl (by kernel_rfl) (by kernel_rfl) (by kernel_rfl) (fun _ _ _ h => h) (Or.inl ⟨by rfl, ?_⟩) (by assumption) ?_
      rotate_left
      · intro w0 hSw; (try dsimp only at hSw); first | (go_simp; done) | (go_simp; with_reducible rfl)
      simp only [List.setIfInBounds_toArray, List.set_cons_zero, List.set_cons_succ]
      refine take_at (i := 8) (v := ?_) rfl rfl (by kernel_rfl) (by kernel_rfl) (by kernel_rfl) (fun _ _ _ h => h) (Or.inl ⟨by rfl, ?_⟩) (by assumption) ?_
      rotate_left
      · intro w0 hSw; (try dsimp only at hSw); first | (go_simp; done) | (go_simp; with_reducible rfl)
      simp only [List.setIfInBounds_toArray, List.set_cons_zero, List.set_cons_succ]
      refine take_at (i := 9) (v := ?_) rfl rfl (by kernel_rfl) (by kernel_rfl) (by kernel_rfl) (fun _ _ _ h => h) (Or.inl ⟨by rfl, ?_⟩) (by assumption) ?_
      rotate_left
      · intro w0 hSw; (try dsimp only at hSw); first | (go_simp; done) | (go_simp; with_reducible rfl)
      simp only [List.setIfInBounds_toArray, List.set_cons_zero, List.set_cons_succ]
      refine take_at (i := 10) (v := ?_) rfl rfl (by kernel_rfl) (by kernel_rfl) (by kernel_rfl) (fun _ _ _ h => h) (Or.inl ⟨by rfl, ?_⟩) (by assumption) ?_
      rotate_left
      · intro w0 hSw; (try dsimp only at hSw); first | (go_simp; done) | (go_simp; with_reducible rfl)
      simp only [List.setIfInBounds_toArray, List.set_cons_zero, List.set_cons_succ]
      refine take_at (i := 11) (v := ?_) rfl rfl (by kernel_rfl) (by kernel_rfl) (by kernel_rfl) (fun _ _ _ h => h) (Or.inl ⟨by rfl, ?_⟩) (by assumption) ?_
      rotate_left
      · intro w0 hSw; (try dsimp only at hSw); first | (go_simp; done) | (go_simp; with_reducible rfl)
      simp only [List.setIfInBounds_toArray, List.set_cons_zero, List.set_cons_succ]
      refine take_at (i := 13) (v := ?_) rfl rfl (by kernel_rfl) (by kernel_rfl) (by kernel_rfl) (fun _ _ _ h => h) (Or.inl ⟨by rfl, ?_⟩) (by assumption) ?_
      rotate_left
      · intro w0 hSw; (try dsimp only at hSw); first | (go_simp; done) | (go_simp; with_reducible rfl)
      simp only [List.setIfInBounds_toArray, List.set_cons_zero, List.set_cons_succ]
      refine wpAnyH_ready (rs := [12]) (by kernel_rfl) (by simp) ?_
      refine AllReadyH.cons rfl (fun K hK => ?_) ?_
      · have HC12 := Lib.hid (len_nil13 (w := y4))
        go_simp
        go_wp2_with ((go_at_call 14; (with_reducible refine (HC12.out).mono ?_); rintro e y12 ⟨rfl, rfl⟩))
        refine hK.out _ _ (by (try dsimp only); exact hHeld) (fun hHeld => ?_)
        clear hK K
        refine wpAnyH_ready (rs := [14]) (by kernel_rfl) (by simp) ?_
        refine AllReadyH.cons rfl (fun K hK => ?_) ?_
        · have HC14 := Lib.hid (all_nil13 (w := y4))
          go_simp
          go_wp2_with ((go_at_call 13; (with_reducible refine (HC14.out).mono ?_); rintro e y14 ⟨rfl, rfl⟩))
          refine hK.out _ _ (by (try dsimp only); exact hHeld) (fun hHeld => ?_)
          clear hK K
          refine take_at (i := 15) (v := ?_) rfl rfl (by kernel_rfl) (by kernel_rfl) (by kernel_rfl) (fun _ _ _ h => h) (Or.inl ⟨by rfl, ?_⟩) (by assumption) ?_
          rotate_left
          · intro w0 hSw; (try dsimp only at hSw); first | (go_simp; done) | (go_simp; with_reducible rfl)
          simp only [List.setIfInBounds_toArray, List.set_cons_zero, List.set_cons_succ]
          refine take_at (i := 16) (v := ?_) rfl rfl (by kernel_rfl) (by kernel_rfl) (by kernel_rfl) (fun _ _ _ h => h) (Or.inl ⟨by rfl, ?_⟩) (by assumption) ?_
          rotate_left
          · intro w0 hSw; (try dsimp only at hSw); first | (go_simp; done) | (go_simp; with_reducible rfl)
          simp only [List.setIfInBounds_toArray, List.set_cons_zero, List.set_cons_succ]
          refine wpAnyH_ready (rs := [17]) (by kernel_rfl) (by simp) ?_
          refine AllReadyH.cons rfl (fun K hK => ?_) ?_
          · have HC17 := Lib.hid (len_at13 (keep HXy4.out (keep HXy3.out (show w5.drew.heap[c]? = _ from HCL.out))))
            go_simp
            go_wp2_with ((go_at_call 14; (with_reducible refine (HC17.out).mono ?_); rintro e y17 ⟨rfl, rfl⟩))
            refine hK.out _ _ (by (try dsimp only); exact hHeld) (fun hHeld => ?_)
            clear hK K
            refine take_at (i := 18) (v := ?_) rfl rfl (by kernel_rfl) (by kernel_rfl) (by kernel_rfl) (fun _ _ _ h => h) (Or.inl ⟨by rfl, ?_⟩) (by assumption) ?_
            rotate_left
            · intro w0 hSw; (try dsimp only at hSw); first | (go_simp; done) | (go_simp; with_reducible rfl)
            simp only [List.setIfInBounds_toArray, List.set_cons_zero, List.set_cons_succ]
            refine take_at (i := 19) (v := ?_) rfl rfl (by kernel_rfl) (by kernel_rfl) (by kernel_rfl) (fun _ _ _ h => h) (Or.inl ⟨by rfl, ?_⟩) (by assumption) ?_
            rotate_left
            · intro w0 hSw; (try dsimp only at hSw); first | (go_simp; done) | (go_simp; with_reducible rfl)
            simp only [List.setIfInBounds_toArray, List.set_cons_zero, List.set_cons_succ]
            refine take_at (i := 20) (v := ?_) rfl rfl (by kernel_rfl) (by kernel_rfl) (by kernel_rfl) (fun _ _ _ h => h) (Or.inl ⟨by rfl, ?_⟩) (by assumption) ?_
            rotate_left
            · intro w0 hSw; (try dsimp only at hSw); first | (go_simp; done) | (go_simp; with_reducible rfl)
            simp only [List.setIfInBounds_toArray, List.set_cons_zero, List.set_cons_succ]
            refine take_at (i := 21) (v := ?_) rfl rfl (by kernel_rfl) (by kernel_rfl) (by kernel_rfl) (fun _ _ _ h => h) (Or.inl ⟨by rfl, ?_⟩) (by assumption) ?_
            rotate_left
            · intro w0 hSw; (try dsimp only at hSw); first | (go_simp; done) | (go_simp; with_reducible rfl)
            simp only [List.setIfInBounds_toArray, List.set_cons_zero, List.set_cons_succ]
            refine wpAnyH_ready (rs := [22]) (by kernel_rfl) (by simp) ?_
            refine AllReadyH.cons rfl (fun K hK => ?_) ?_
            · have HC22 := Lib.hid (HAW.out _ (HK.out.below (bthen HB5.out hHeld)))
              go_simp
              go_wp2_with ((go_at_call 6; (with_reducible refine (HC22.out).mono ?_); rintro e y22 ⟨rfl, hb⟩; have HXy22 := Lib.hid hb; clear hb))
              refine hK.out _ _ (by (try dsimp only); exact bthen hHeld HXy22.out) (fun hHeld => ?_)
              clear hK K
              refine take_at (i := 23) (v := ?_) rfl rfl (by kernel_rfl) (by kernel_rfl) (by kernel_rfl) (fun _ _ _ h => h) (Or.inl ⟨by rfl, ?_⟩) (by assumption) ?_
              rotate_left
              · intro w0 hSw; (try dsimp only at hSw); first | (go_simp; done) | (go_simp; with_reducible rfl)
              simp only [List.setIfInBounds_toArray, List.set_cons_zero, List.set_cons_succ]
              refine take_at (i := 24) (v := ?_) rfl rfl (by kernel_rfl) (by kernel_rfl) (by kernel_rfl) (fun _ _ _ h => h) (Or.inl ⟨by rfl, ?_⟩) (by assumption) ?_
              rotate_left
              · intro w0 hSw; (try dsimp only at hSw); first | (go_simp; done) | (go_simp; with_reducible rfl)
              simp only [List.setIfInBounds_toArray, List.set_cons_zero, List.set_cons_succ]
              refine wpAnyH_done (by kernel_rfl) ?_ _
              have HFIN := Lib.hid (bthen HB5.out (show Below w5.heap.size w5 y22 from hHeld))
              clear hHeld
              go_wp2_with fail
              go_ret
              exact ⟨rfl, HFIN.out⟩
            exact AllReadyH.nil
          exact AllReadyH.nil
        exact AllReadyH.nil
      exact AllReadyH.nil
    exact AllReadyH.nil
  exact AllReadyH.nil
theorem nobody13_walk {w : World} {s : List UInt8} {z : Int} (hs : s.length = 32) (hk : KsAt w) :
    Calls Tryd.prog 5 #[.agg (cellsOf s).toArray, .int .i64 z] w fun e w' => e = .returned (.bool true) ∧ Below w.heap.size w w' := by
  by_cases h : z < 0
  · exact nobody13_low hs h hk
  · exact nobody13_high hs (by omega) hk
end Go.Proofs.YthpkafjonelanaaDoor
