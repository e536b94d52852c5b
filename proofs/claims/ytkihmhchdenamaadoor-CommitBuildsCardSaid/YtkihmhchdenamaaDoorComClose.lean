/- What the code's Close comes to. -/
import Derived.Test.YtkihmhchdenamaaDoorComBuild
namespace Go.Proofs.YtkihmhchdenamaaDoor
open Go.RowKit

set_option linter.unusedSimpArgs false in
set_option maxRecDepth 100000 in
set_option maxHeartbeats 6400000 in
theorem close14_bad {w : World} {c : PChan} {s : PState} (hc : ChanIn c) (hs : StateIn s) (hu : stateOk c s = false) :
    Calls Tryd.prog 5 #[.agg c.cells.toArray, .agg s.cells.toArray] w fun e w' => e = .returned (.tuple #[.agg noTx.cells.toArray, .int .i64 1]) ∧ Below w.heap.size w w' := by
  have HC := Lib.hid hc
  have HS := Lib.hid hs
  have HRT : Hid (∀ W : World, Calls Tryd.prog 8 #[.agg c.cells.toArray, .agg s.cells.toArray] W fun e w' => e = .returned (.bool false) ∧ Below W.heap.size W w') := Lib.hid fun W => by rw [← hu]; exact rightState_any W hc.ftx hs
  have SZC := Lib.hid (chan_sizeA hc.ftx)
  have SZS := Lib.hid (state_sizeA hs)
  have SZ0 : Hid ((Tryd.prog.info? 38).map (·.size) = some noTx.cells.length) := Lib.hid (tx_size zero32_len)
  clear hc hs hu
  go_enter Tryd.func5, Tryd.ntmps5
  go_upto_region 1 with (first | (refine wpList_new rfl 38 rfl noTx.cells.toArray Tryd.zeroTx14 ?_; intro r w1 hr hh hb; go_frame) | fail)
  have b0 : Below w.heap.size w ((w.alloc (.cells c.cells.toArray 27)).alloc (.cells s.cells.toArray 30)) := ((Below.refl _ _).alloc (Nat.le_refl _) _).alloc (by simp) _
  have k1 : ((w.alloc (.cells c.cells.toArray 27)).alloc (.cells s.cells.toArray 30)).heap[w.heap.size]? = some (.cells c.cells.toArray 27 (0, 0)) := by
    rw [heap_alloc_old _ _ (by simp), heap_alloc_new]
  have k2 : ((w.alloc (.cells c.cells.toArray 27)).alloc (.cells s.cells.toArray 30)).heap[w.heap.size + 1]? = some (.cells s.cells.toArray 30 (0, 0)) := heap_alloc_at _ _ _ (by simp)
  have b1 := bthen b0 hb
  have h1 := keep hb k1
  have h2 := keep hb k2
  have hr' : w.heap.size ≤ r := Nat.le_trans b0.size hr
  obtain ⟨g, hg⟩ : ∃ g, g = w.heap.size := ⟨_, rfl⟩
  rw [← hg] at h1 h2 ⊢
  have HB1 := Lib.hid b1
  have H1 := Lib.hid h1
  have H2 := Lib.hid h2
  have HR := Lib.hid hh
  have HN : Hid (w.heap.size ≤ r) := Lib.hid hr'
  clear b0 k1 k2 b1 h1 h2 hr' hg hr hh hb
  go_wp2_with (first | (refine wpList_load_row rfl 27 _ rfl g rfl 27 c.cells.toArray (0, 0) _ H1.out Tryd.underlying27 rfl SZC.out ?_) | (refine wpList_load_row rfl 30 _ rfl (g + 1) rfl 30 s.cells.toArray (0, 0) _ H2.out Tryd.underlying30 rfl SZS.out ?_) | (go_at_call 8; (with_reducible refine (HRT.out _).mono ?_); rintro e w2 ⟨rfl, hb⟩; have HB2 := Lib.hid (bthen HB1.out hb); have H12 := Lib.hid (keep hb H1.out); have H22 := Lib.hid (keep hb H2.out); have HR2 := Lib.hid (keep hb HR.out); clear hb) | (refine wpList_build10 rfl rfl (vs := []) rfl build_noTx14 ?_; go_frame) | (refine wpList_row10 rfl 38 _ _ rfl r noTx.cells rfl rfl 38 noTx.cells HR2.out SZ0.out rfl (PTx.one _) ?_; intro w9 hh9 hb9) | fail)
  refine bodyPost_ret (results_cell_then rfl _ _ r 38 noTx.cells.toArray (0, 0) _ (.int .i64 1) rfl rfl hh9 Tryd.underlying38 rfl (by rw [List.size_toArray]; exact SZ0.out)) rfl ?_
  exact ⟨rfl, But.in HB2.out hb9 HN.out⟩
set_option linter.unusedSimpArgs false in
set_option maxRecDepth 100000 in
set_option maxHeartbeats 6400000 in
theorem close14_any {w : World} {c : PChan} {s : PState} (hc : ChanIn c) (hs : StateIn s) (hu : stateOk c s = true) :
    Calls Tryd.prog 5 #[.agg c.cells.toArray, .agg s.cells.toArray] w fun e w' => ∃ a0 a1 a2 a3 a4 a5, e = .returned (.tuple #[.agg (peaceP c a0 a1 a2 a3 a4 a5 s.client s.peer).cells.toArray, .int .i64 0]) ∧ TxIn w' (peaceP c a0 a1 a2 a3 a4 a5 s.client s.peer) ∧ Below w.heap.size w w' := by
  have HC := Lib.hid hc
  have HS := Lib.hid hs
  have HRT : Hid (∀ W : World, Calls Tryd.prog 8 #[.agg c.cells.toArray, .agg s.cells.toArray] W fun e w' => e = .returned (.bool true) ∧ Below W.heap.size W w') := Lib.hid fun W => by rw [← hu]; exact rightState_any W hc.ftx hs
  have SZC := Lib.hid (chan_sizeA hc.ftx)
  have SZS := Lib.hid (state_sizeA hs)
  have SZ0 : Hid ((Tryd.prog.info? 38).map (·.size) = some noTx.cells.length) := Lib.hid (tx_size zero32_len)
  clear hc hs hu
  go_enter Tryd.func5, Tryd.ntmps5
  go_upto_region 1 with (first | (refine wpList_new rfl 38 rfl noTx.cells.toArray Tryd.zeroTx14 ?_; intro r w1 hr hh hb; go_frame) | fail)
  have b0 : Below w.heap.size w ((w.alloc (.cells c.cells.toArray 27)).alloc (.cells s.cells.toArray 30)) := ((Below.refl _ _).alloc (Nat.le_refl _) _).alloc (by simp) _
  have k1 : ((w.alloc (.cells c.cells.toArray 27)).alloc (.cells s.cells.toArray 30)).heap[w.heap.size]? = some (.cells c.cells.toArray 27 (0, 0)) := by
    rw [heap_alloc_old _ _ (by simp), heap_alloc_new]
  have k2 : ((w.alloc (.cells c.cells.toArray 27)).alloc (.cells s.cells.toArray 30)).heap[w.heap.size + 1]? = some (.cells s.cells.toArray 30 (0, 0)) := heap_alloc_at _ _ _ (by simp)
  have b1 := bthen b0 hb
  have h1 := keep hb k1
  have h2 := keep hb k2
  have hr' : w.heap.size ≤ r := Nat.le_trans b0.size hr
  obtain ⟨g, hg⟩ : ∃ g, g = w.heap.size := ⟨_, rfl⟩
  rw [← hg] at h1 h2 ⊢
  have HB1 := Lib.hid b1
  have H1 := Lib.hid h1
  have H2 := Lib.hid h2
  have HR := Lib.hid hh
  have HN : Hid (w.heap.size ≤ r) := Lib.hid hr'
  clear b0 k1 k2 b1 h1 h2 hr' hg hr hh hb
  go_upto_region 3 with (first | (refine wpList_load_row rfl 27 _ rfl g rfl 27 c.cells.toArray (0, 0) _ H1.out Tryd.underlying27 rfl SZC.out ?_) | (refine wpList_load_row rfl 30 _ rfl (g + 1) rfl 30 s.cells.toArray (0, 0) _ H2.out Tryd.underlying30 rfl SZS.out ?_) | (go_at_call 8; (with_reducible refine (HRT.out _).mono ?_); rintro e w2 ⟨rfl, hb⟩; have HB2 := Lib.hid (bthen HB1.out hb); have H12 := Lib.hid (keep hb H1.out); have H22 := Lib.hid (keep hb H2.out); have HR2 := Lib.hid (keep hb HR.out); clear hb) | fail)
  refine wp_region_held_drew (S := fun w' => Below w2.heap.size w2 w') (by kernel_rfl) (below_drew (Below.refl _ _)) (fun hHeld => ?_)
  refine take_at (i := 0) (v := ?_) rfl rfl (by kernel_rfl) (by kernel_rfl) (by kernel_rfl) (fun _ _ _ h => h) (Or.inl ⟨by rfl, ?_⟩) (by assumption) ?_
  rotate_left
  · intro w0 hSw; (try dsimp only at hSw); first | (go_simp; done) | (go_simp; with_reducible rfl)
  simp only [List.setIfInBounds_toArray, List.set_cons_zero, List.set_cons_succ]
  refine take_at (i := 1) rfl rfl (by kernel_rfl) (by kernel_rfl) (by kernel_rfl) (fun _ _ _ h => h) (yields_cell (b := g) (o := 1) (by rfl) rfl rfl (fun w0 hSw => by have h9 := (chan_at HC.out.ftx (range_of (keep hSw H12.out))).client; rw [Nat.zero_add] at h9; exact h9) (fun w0 => Tryd.isAgg3 w0)) (by assumption) ?_
  simp only [List.setIfInBounds_toArray, List.set_cons_zero, List.set_cons_succ]
  refine take_at (i := 2) (v := ?_) rfl rfl (by kernel_rfl) (by kernel_rfl) (by kernel_rfl) (fun _ _ _ h => h) (Or.inl ⟨by rfl, ?_⟩) (by assumption) ?_
  rotate_left
  · intro w0 hSw; (try dsimp only at hSw); first | (go_simp; done) | (go_simp; with_reducible rfl)
  simp only [List.setIfInBounds_toArray, List.set_cons_zero, List.set_cons_succ]
  refine take_at (i := 3) rfl rfl (by kernel_rfl) (by kernel_rfl) (by kernel_rfl) (fun _ _ _ h => h) (yields_cell (b := (g + 1)) (o := 1) (by rfl) rfl rfl (fun w0 hSw => by have h9 := (state_at HS.out (range_of (keep hSw H22.out))).client; rw [Nat.zero_add] at h9; exact h9) (fun w0 => Tryd.isAgg2 w0)) (by assumption) ?_
  simp only [List.setIfInBounds_toArray, List.set_cons_zero, List.set_cons_succ]
  refine take_at (i := 5) (v := ?_) rfl rfl (by kernel_rfl) (by kernel_rfl) (by kernel_rfl) (fun _ _ _ h => h) (Or.inl ⟨by rfl, ?_⟩) (by assumption) ?_
  rotate_left
  · intro w0 hSw; (try dsimp only at hSw); first | (go_simp; done) | (go_simp; with_reducible rfl)
  simp only [List.setIfInBounds_toArray, List.set_cons_zero, List.set_cons_succ]
  refine take_at (i := 6) rfl rfl (by kernel_rfl) (by kernel_rfl) (by kernel_rfl) (fun _ _ _ h => h) (yields_cell (b := g) (o := 2) (by rfl) rfl rfl (fun w0 hSw => by have h9 := (chan_at HC.out.ftx (range_of (keep hSw H12.out))).peer; rw [Nat.zero_add] at h9; exact h9) (fun w0 => Tryd.isAgg3 w0)) (by assumption) ?_
  simp only [List.setIfInBounds_toArray, List.set_cons_zero, List.set_cons_succ]
  refine take_at (i := 7) (v := ?_) rfl rfl (by kernel_rfl) (by kernel_rfl) (by kernel_rfl) (fun _ _ _ h => h) (Or.inl ⟨by rfl, ?_⟩) (by assumption) ?_
  rotate_left
  · intro w0 hSw; (try dsimp only at hSw); first | (go_simp; done) | (go_simp; with_reducible rfl)
  simp only [List.setIfInBounds_toArray, List.set_cons_zero, List.set_cons_succ]
  refine take_at (i := 8) rfl rfl (by kernel_rfl) (by kernel_rfl) (by kernel_rfl) (fun _ _ _ h => h) (yields_cell (b := (g + 1)) (o := 2) (by rfl) rfl rfl (fun w0 hSw => by have h9 := (state_at HS.out (range_of (keep hSw H22.out))).peer; rw [Nat.zero_add] at h9; exact h9) (fun w0 => Tryd.isAgg2 w0)) (by assumption) ?_
  simp only [List.setIfInBounds_toArray, List.set_cons_zero, List.set_cons_succ]
  refine wpAnyH_ready (rs := [4]) (by kernel_rfl) (by simp) ?_
  refine AllReadyH.cons rfl (fun K hK => ?_) ?_
  · have HC4 := Lib.hid (fun (W : World) => to_at14 c.client s.client W)
    go_simp
    go_wp2_with ((go_at_call 11; (with_reducible refine (HC4.out _).mono ?_); rintro e y4 ⟨p1, p2, rfl, ha, hb⟩; have HA4 := Lib.hid (ha.old (Below.size hHeld)); have HX4 := Lib.hid (bthen hHeld hb); clear ha hb HC4))
    refine hK.out _ _ (by (try dsimp only); exact HX4.out) (fun hHeld => ?_)
    clear hK K
    refine wpAnyH_ready (rs := [9]) (by kernel_rfl) (by simp) ?_
    refine AllReadyH.cons rfl (fun K hK => ?_) ?_
    · have HC9 := Lib.hid (fun (W : World) => to_at14 c.peer s.peer W)
      go_simp
      go_wp2_with ((go_at_call 11; (with_reducible refine (HC9.out _).mono ?_); rintro e y9 ⟨p3, p4, rfl, ha, hb⟩; have HA9 := Lib.hid (HA4.out.keep hb); have HE9 := Lib.hid (ha.old (Below.size hHeld)); have HX9 := Lib.hid (bthen hHeld hb); clear ha hb HC9))
      refine hK.out _ _ (by (try dsimp only); exact HX9.out) (fun hHeld => ?_)
      clear hK K
      refine wpAnyH_ready (rs := [10]) (by kernel_rfl) (by simp) ?_
      refine AllReadyH.cons rfl (fun K hK => ?_) ?_
      · refine step_lits Tryd.outAt14 (d := 22) rfl (by rfl) rfl [herP (some ⟨p2, 0, none⟩) (some ⟨p1, 0, none⟩) c.client s.client, herP (some ⟨p4, 0, none⟩) (some ⟨p3, 0, none⟩) c.peer s.peer] rfl (by decide) (by decide) (by intro x hx; simp at hx; rcases hx with rfl | rfl; rfl; rfl) (by rfl) ?_
        intro p5 w4 hp hh hb
        have HO : Hid (PeaceAt w2.heap.size w4 c s.client s.peer p1 p2 p3 p4 p5) := Lib.hid ⟨HA9.out.keep hb, HE9.out.keep hb, ⟨Nat.le_trans HX9.out.size hp, hh⟩⟩
        have HB24 := Lib.hid (bthen HX9.out hb)
        clear hp hh hb
        refine hK.out _ _ (by (try dsimp only); exact HB24.out) (fun hHeld => ?_)
        clear hK K
        refine take_at (i := 11) (v := ?_) rfl rfl (by kernel_rfl) (by kernel_rfl) (by kernel_rfl) (fun _ _ _ h => h) (Or.inl ⟨by rfl, ?_⟩) (by assumption) ?_
        rotate_left
        · intro w0 hSw; (try dsimp only at hSw); first | (go_simp; done) | (go_simp; with_reducible rfl)
        simp only [List.setIfInBounds_toArray, List.set_cons_zero, List.set_cons_succ]
        refine wpAnyH_done (by kernel_rfl) ?_ _
        clear hHeld
        have HB4 := Lib.hid (bthen HB2.out HB24.out)
        have H14 := Lib.hid (keep HB24.out H12.out)
        have HR4 := Lib.hid (keep HB24.out HR2.out)
        have HSF := Lib.hid (fun (W : World) => spendFund_any (w := W) HC.out)
        go_wp2_with (first | (refine wpList_load_row rfl 27 _ rfl g rfl 27 c.cells.toArray (0, 0) _ H14.out Tryd.underlying27 rfl SZC.out ?_) | (go_at_call 19; (with_reducible refine (HSF.out _).mono ?_); rintro e w5 ⟨p0, rfl, hf, hb⟩; have HB5 := Lib.hid (bthen HB4.out hb); have HO5 := Lib.hid (HO.out.keep hb); have HF5 := Lib.hid (show Laid14 w2.heap.size w5 p0 _ from hf.old HB24.out.size); have HR5 := Lib.hid (keep hb HR4.out); clear hf hb) | (refine wpList_build10 rfl rfl (vs := [(0, .slice (some ⟨p0, 0, none⟩) 1 1), (1, .slice (some ⟨p5, 0, none⟩) 2 2)]) rfl (build_peace14 c p0 p1 p2 p3 p4 p5 s.client s.peer) ?_; go_frame) | (refine wpList_row10 rfl 38 _ _ rfl r (peaceP c (some ⟨p0, 0, none⟩) (some ⟨p2, 0, none⟩) (some ⟨p1, 0, none⟩) (some ⟨p4, 0, none⟩) (some ⟨p3, 0, none⟩) (some ⟨p5, 0, none⟩) s.client s.peer).cells rfl rfl 38 noTx.cells HR5.out (tx_size zero32_len) rfl (PTx.one _) ?_; intro w9 hh9 hb9) | fail)
        refine bodyPost_ret (results_cell_then rfl _ _ r 38 (PTx.cells (peaceP c (some ⟨p0, 0, none⟩) (some ⟨p2, 0, none⟩) (some ⟨p1, 0, none⟩) (some ⟨p4, 0, none⟩) (some ⟨p3, 0, none⟩) (some ⟨p5, 0, none⟩) s.client s.peer)).toArray (0, 0) _ (.int .i64 0) rfl rfl hh9 Tryd.underlying38 rfl (by rw [List.size_toArray]; exact tx_size zero32_len)) rfl ?_
        have hrl := lt_of_block HR2.out
        exact ⟨_, _, _, _, _, _, rfl, peace_in14 (HF5.out.but hrl hb9) (HO5.out.but hrl hb9) HC.out HS.out.client HS.out.peer, But.in HB5.out hb9 HN.out⟩
      exact AllReadyH.nil
    exact AllReadyH.nil
  exact AllReadyH.nil
end Go.Proofs.YtkihmhchdenamaaDoor
