/- The law's step: the two calls, over what stands before, between and behind them. -/
import Derived.Test.YtijanllppbambaaLawCall
import Derived.Test.YtijanllppbambaaBondOps
import Derived.Deep.Cut
namespace Go.Proofs.Ytijanllppbambaa
open Go.RowKit Go.Maps

/-- A call's block stays. -/
def KeepOp (w w' : World) : Prop := ∀ (g : Nat) (cs : Array Value) (fr : Nat × Nat), w.heap[g]? = some (Obj.cells cs 37 fr) → w'.heap[g]? = some (Obj.cells cs 37 fr)
set_option linter.unusedSimpArgs false in
set_option maxRecDepth 100000 in
set_option maxHeartbeats 12800000 in
theorem step_lock {P0 P1 P2 : World → Prop} {w : World} {pv p : Value} {n m z : Int} {s : List UInt8} {c : PChan} {a1 a2 : Int} (ho : CallIn ⟨0, n, m, s, c, z⟩) (h0 : P0 w) (hbel : ∀ W W', P0 W → Below W.heap.size W W' → P0 W') (hc : ∀ W, P0 W → Calls Try.prog 12 #[pv, .int .i64 n, .int .i64 m, .agg (cellsOf s).toArray] W fun e w' => e = .returned (.int .i64 a1) ∧ P1 w' ∧ KeepOp W w') (hl : ∀ W, P1 W → Calls Try.prog 23 #[p, .agg (PCall.cells ⟨0, n, m, s, c, z⟩).toArray] W fun e w' => e = .returned (.int .i64 a2) ∧ P2 w' ∧ KeepOp W w') :
    Calls Try.prog 7 #[pv, p, .agg (PCall.cells ⟨0, n, m, s, c, z⟩).toArray] w fun e w' => e = .returned (.bool (decide (a1 = a2))) ∧ P2 w' := by
  have HO := Lib.hid ho
  have HC := Lib.hid hc
  have HL := Lib.hid hl
  have HS : Hid (s.length = 32) := Lib.hid ho.root
  have HF : Hid (c.ftx.length = 32) := Lib.hid ho.ch.ftx
  clear ho hc hl
  go_enter Try.func7, Try.ntmps7
  go_upto_region 3 with (go_big_may; (first | (refine wpList_box10 rfl 37 _ rfl (PCall.cells ⟨0, n, m, s, c, z⟩).toArray rfl ?_; intro g3 w3 n3 h3 k3; have H3 := Lib.hid h3; have Q3 := Lib.hid (hbel _ _ h0 k3); have C3 : Hid (CallAt w3 g3 0 ⟨0, n, m, s, c, z⟩) := Lib.hid (call_at HO.out (range_of h3)); have ck := C3.out.kind; clear h3 k3 n3 h0; go_frame) | fail))
  have CAT : Hid (∀ W : World, W.heap[g3]? = some (.cells (PCall.cells ⟨0, n, m, s, c, z⟩).toArray 37 (0, 0)) → CallAt W g3 0 ⟨0, n, m, s, c, z⟩) := Lib.hid (fun W hW => call_at HO.out (range_of hW))
  have ROW : Hid (∀ W : World, W.heap[g3]? = some (.cells (PCall.cells ⟨0, n, m, s, c, z⟩).toArray 37 (0, 0)) → W.rangeAt g3 0 (PCall.cells ⟨0, n, m, s, c, z⟩)) := Lib.hid (fun W hW => range_of hW)
  have Q3D := Lib.hid (hbel _ _ Q3.out (below_drew (Below.refl _ _)))
  clear C3 ck
  refine wp_region_held_drew (S := fun w' => w'.heap[g3]? = some (.cells (PCall.cells ⟨0, n, m, s, c, z⟩).toArray 37 (0, 0))) (by kernel_rfl) (H3.out) (fun hHeld => ?_)
  refine take_at (i := 0) (v := ?_) rfl rfl (by kernel_rfl) (by kernel_rfl) (by kernel_rfl) (fun _ _ _ h => h) (Or.inl ⟨by rfl, ?_⟩) (by assumption) ?_
  rotate_left
  · intro w0 hSw; (try dsimp only at hSw); first | (go_simp; done) | (go_simp; with_reducible rfl)
  simp only [List.setIfInBounds_toArray, List.set_cons_zero, List.set_cons_succ]
  refine take_at (i := 1) (v := ?_) rfl rfl (by kernel_rfl) (by kernel_rfl) (by kernel_rfl) (fun _ _ _ h => h) (Or.inl ⟨by rfl, ?_⟩) (by assumption) ?_
  rotate_left
  · intro w0 hSw; (try dsimp only at hSw); first | (go_simp; done) | (go_simp; with_reducible rfl)
  simp only [List.setIfInBounds_toArray, List.set_cons_zero, List.set_cons_succ]
  refine take_at (i := 2) rfl rfl (by kernel_rfl) (by kernel_rfl) (by kernel_rfl) (fun _ _ _ h => h) (yields_cell (b := g3) (o := 1) (by rfl) rfl rfl (fun w0 hSw => (CAT.out w0 hSw).tower) (fun w0 => Try.isAgg3 w0)) (by assumption) ?_
  simp only [List.setIfInBounds_toArray, List.set_cons_zero, List.set_cons_succ]
  refine take_at (i := 3) (v := ?_) rfl rfl (by kernel_rfl) (by kernel_rfl) (by kernel_rfl) (fun _ _ _ h => h) (Or.inl ⟨by rfl, ?_⟩) (by assumption) ?_
  rotate_left
  · intro w0 hSw; (try dsimp only at hSw); first | (go_simp; done) | (go_simp; with_reducible rfl)
  simp only [List.setIfInBounds_toArray, List.set_cons_zero, List.set_cons_succ]
  refine take_at (i := 4) rfl rfl (by kernel_rfl) (by kernel_rfl) (by kernel_rfl) (fun _ _ _ h => h) (yields_cell (b := g3) (o := 2) (by rfl) rfl rfl (fun w0 hSw => (CAT.out w0 hSw).n) (fun w0 => Try.isAgg2 w0)) (by assumption) ?_
  simp only [List.setIfInBounds_toArray, List.set_cons_zero, List.set_cons_succ]
  refine take_at (i := 5) (v := ?_) rfl rfl (by kernel_rfl) (by kernel_rfl) (by kernel_rfl) (fun _ _ _ h => h) (Or.inl ⟨by rfl, ?_⟩) (by assumption) ?_
  rotate_left
  · intro w0 hSw; (try dsimp only at hSw); first | (go_simp; done) | (go_simp; with_reducible rfl)
  simp only [List.setIfInBounds_toArray, List.set_cons_zero, List.set_cons_succ]
  refine take_at (i := 6) rfl rfl (by kernel_rfl) (by kernel_rfl) (by kernel_rfl) (fun _ _ _ h => h) (yieldsIf_load_mid (by rfl) _ _ rfl g3 3 rfl (cellsOf s) _ (fun w0 hSw => (CAT.out w0 hSw).root) Try.underlying31 rfl (sum_size HS.out)) (by assumption) ?_
  simp only [List.setIfInBounds_toArray, List.set_cons_zero, List.set_cons_succ]
  refine take_at (i := 8) (v := ?_) rfl rfl (by kernel_rfl) (by kernel_rfl) (by kernel_rfl) (fun _ _ _ h => h) (Or.inl ⟨by rfl, ?_⟩) (by assumption) ?_
  rotate_left
  · intro w0 hSw; (try dsimp only at hSw); first | (go_simp; done) | (go_simp; with_reducible rfl)
  simp only [List.setIfInBounds_toArray, List.set_cons_zero, List.set_cons_succ]
  refine take_at (i := 9) rfl rfl (by kernel_rfl) (by kernel_rfl) (by kernel_rfl) (fun _ _ _ h => h) (yieldsIf_load_mid (by rfl) _ _ rfl g3 0 rfl (PCall.cells ⟨0, n, m, s, c, z⟩) _ (fun w0 hSw => ROW.out w0 hSw) Try.underlying37 rfl (call_size HO.out)) (by assumption) ?_
  simp only [List.setIfInBounds_toArray, List.set_cons_zero, List.set_cons_succ]
  refine wpAnyH_ready (rs := [7]) (by kernel_rfl) (by simp) ?_
  refine AllReadyH.cons rfl (fun K hK => ?_) ?_
  · go_simp
    refine (HC.out _ Q3D.out).mono ?_
    rintro e w4 ⟨rfl, q4, k4⟩
    dsimp only
    have Q4 := Lib.hid q4
    have H34 := Lib.hid (k4 _ _ _ H3.out)
    clear q4 k4
    refine hK.out _ _ (by (try dsimp only); exact H34.out) (fun hHeld => ?_)
    clear hK K
    refine wpAnyH_ready (rs := [10]) (by kernel_rfl) (by simp) ?_
    refine AllReadyH.cons rfl (fun K hK => ?_) ?_
    · go_simp
      refine (HL.out _ Q4.out).mono ?_
      rintro e w5 ⟨rfl, q5, k5⟩
      dsimp only
      have Q5 := Lib.hid q5
      have H35 := Lib.hid (k5 _ _ _ H34.out)
      clear q5 k5
      refine hK.out _ _ (by (try dsimp only); exact H35.out) (fun hHeld => ?_)
      clear hK K
      refine take_at (i := 11) (v := ?_) rfl rfl (by kernel_rfl) (by kernel_rfl) (by kernel_rfl) (fun _ _ _ h => h) (Or.inl ⟨by rfl, ?_⟩) (by assumption) ?_
      rotate_left
      · intro w0 hSw; (try dsimp only at hSw); first | (go_simp; done) | (go_simp; with_reducible rfl)
      simp only [List.setIfInBounds_toArray, List.set_cons_zero, List.set_cons_succ]
      refine take_at (i := 12) (v := ?_) rfl rfl (by kernel_rfl) (by kernel_rfl) (by kernel_rfl) (fun _ _ _ h => h) (Or.inl ⟨by rfl, ?_⟩) (by assumption) ?_
      rotate_left
      · intro w0 hSw; (try dsimp only at hSw); first | (go_simp; done) | (go_simp; with_reducible rfl)
      simp only [List.setIfInBounds_toArray, List.set_cons_zero, List.set_cons_succ]
      refine wpAnyH_done (by kernel_rfl) ?_ _
      go_wp2_with fail
      go_ret
      exact ⟨rfl, Q5.out⟩
    exact AllReadyH.nil
  exact AllReadyH.nil
set_option linter.unusedSimpArgs false in
set_option maxRecDepth 100000 in
set_option maxHeartbeats 12800000 in
theorem step_hold1 {P0 P1 P2 : World → Prop} {w : World} {pv p : Value} {n m z : Int} {s : List UInt8} {c : PChan} {a1 a2 : Int} (ho : CallIn ⟨1, n, m, s, c, z⟩) (h0 : P0 w) (hbel : ∀ W W', P0 W → Below W.heap.size W W' → P0 W') (hc : ∀ W, P0 W → Calls Try.prog 16 #[pv, .int .i64 n, .agg c.cells.toArray] W fun e w' => e = .returned (.int .i64 a1) ∧ P1 w' ∧ KeepOp W w') (hl : ∀ W, P1 W → Calls Try.prog 24 #[p, .agg (PCall.cells ⟨1, n, m, s, c, z⟩).toArray] W fun e w' => e = .returned (.int .i64 a2) ∧ P2 w' ∧ KeepOp W w') :
    Calls Try.prog 7 #[pv, p, .agg (PCall.cells ⟨1, n, m, s, c, z⟩).toArray] w fun e w' => e = .returned (.bool (decide (a1 = a2))) ∧ P2 w' := by
  have HO := Lib.hid ho
  have HC := Lib.hid hc
  have HL := Lib.hid hl
  have HS : Hid (s.length = 32) := Lib.hid ho.root
  have HF : Hid (c.ftx.length = 32) := Lib.hid ho.ch.ftx
  clear ho hc hl
  go_enter Try.func7, Try.ntmps7
  go_upto_region 6 with (go_big_may; (first | (refine wpList_box10 rfl 37 _ rfl (PCall.cells ⟨1, n, m, s, c, z⟩).toArray rfl ?_; intro g3 w3 n3 h3 k3; have H3 := Lib.hid h3; have Q3 := Lib.hid (hbel _ _ h0 k3); have C3 : Hid (CallAt w3 g3 0 ⟨1, n, m, s, c, z⟩) := Lib.hid (call_at HO.out (range_of h3)); have ck := C3.out.kind; clear h3 k3 n3 h0; go_frame) | fail))
  have CAT : Hid (∀ W : World, W.heap[g3]? = some (.cells (PCall.cells ⟨1, n, m, s, c, z⟩).toArray 37 (0, 0)) → CallAt W g3 0 ⟨1, n, m, s, c, z⟩) := Lib.hid (fun W hW => call_at HO.out (range_of hW))
  have ROW : Hid (∀ W : World, W.heap[g3]? = some (.cells (PCall.cells ⟨1, n, m, s, c, z⟩).toArray 37 (0, 0)) → W.rangeAt g3 0 (PCall.cells ⟨1, n, m, s, c, z⟩)) := Lib.hid (fun W hW => range_of hW)
  have Q3D := Lib.hid (hbel _ _ Q3.out (below_drew (Below.refl _ _)))
  clear C3 ck
  refine wp_region_held_drew (S := fun w' => w'.heap[g3]? = some (.cells (PCall.cells ⟨1, n, m, s, c, z⟩).toArray 37 (0, 0))) (by kernel_rfl) (H3.out) (fun hHeld => ?_)
  refine take_at (i := 0) (v := ?_) rfl rfl (by kernel_rfl) (by kernel_rfl) (by kernel_rfl) (fun _ _ _ h => h) (Or.inl ⟨by rfl, ?_⟩) (by assumption) ?_
  rotate_left
  · intro w0 hSw; (try dsimp only at hSw); first | (go_simp; done) | (go_simp; with_reducible rfl)
  simp only [List.setIfInBounds_toArray, List.set_cons_zero, List.set_cons_succ]
  refine take_at (i := 1) (v := ?_) rfl rfl (by kernel_rfl) (by kernel_rfl) (by kernel_rfl) (fun _ _ _ h => h) (Or.inl ⟨by rfl, ?_⟩) (by assumption) ?_
  rotate_left
  · intro w0 hSw; (try dsimp only at hSw); first | (go_simp; done) | (go_simp; with_reducible rfl)
  simp only [List.setIfInBounds_toArray, List.set_cons_zero, List.set_cons_succ]
  refine take_at (i := 2) rfl rfl (by kernel_rfl) (by kernel_rfl) (by kernel_rfl) (fun _ _ _ h => h) (yields_cell (b := g3) (o := 1) (by rfl) rfl rfl (fun w0 hSw => (CAT.out w0 hSw).tower) (fun w0 => Try.isAgg3 w0)) (by assumption) ?_
  simp only [List.setIfInBounds_toArray, List.set_cons_zero, List.set_cons_succ]
  refine take_at (i := 3) (v := ?_) rfl rfl (by kernel_rfl) (by kernel_rfl) (by kernel_rfl) (fun _ _ _ h => h) (Or.inl ⟨by rfl, ?_⟩) (by assumption) ?_
  rotate_left
  · intro w0 hSw; (try dsimp only at hSw); first | (go_simp; done) | (go_simp; with_reducible rfl)
  simp only [List.setIfInBounds_toArray, List.set_cons_zero, List.set_cons_succ]
  refine take_at (i := 4) rfl rfl (by kernel_rfl) (by kernel_rfl) (by kernel_rfl) (fun _ _ _ h => h) (yieldsIf_load_mid (by rfl) _ _ rfl g3 35 rfl c.cells _ (fun w0 hSw => (CAT.out w0 hSw).ch) Try.underlying35 rfl (chan_size HF.out)) (by assumption) ?_
  simp only [List.setIfInBounds_toArray, List.set_cons_zero, List.set_cons_succ]
  refine take_at (i := 6) (v := ?_) rfl rfl (by kernel_rfl) (by kernel_rfl) (by kernel_rfl) (fun _ _ _ h => h) (Or.inl ⟨by rfl, ?_⟩) (by assumption) ?_
  rotate_left
  · intro w0 hSw; (try dsimp only at hSw); first | (go_simp; done) | (go_simp; with_reducible rfl)
  simp only [List.setIfInBounds_toArray, List.set_cons_zero, List.set_cons_succ]
  refine take_at (i := 7) rfl rfl (by kernel_rfl) (by kernel_rfl) (by kernel_rfl) (fun _ _ _ h => h) (yieldsIf_load_mid (by rfl) _ _ rfl g3 0 rfl (PCall.cells ⟨1, n, m, s, c, z⟩) _ (fun w0 hSw => ROW.out w0 hSw) Try.underlying37 rfl (call_size HO.out)) (by assumption) ?_
  simp only [List.setIfInBounds_toArray, List.set_cons_zero, List.set_cons_succ]
  refine wpAnyH_ready (rs := [5]) (by kernel_rfl) (by simp) ?_
  refine AllReadyH.cons rfl (fun K hK => ?_) ?_
  · go_simp
    refine (HC.out _ Q3D.out).mono ?_
    rintro e w4 ⟨rfl, q4, k4⟩
    dsimp only
    have Q4 := Lib.hid q4
    have H34 := Lib.hid (k4 _ _ _ H3.out)
    clear q4 k4
    refine hK.out _ _ (by (try dsimp only); exact H34.out) (fun hHeld => ?_)
    clear hK K
    refine wpAnyH_ready (rs := [8]) (by kernel_rfl) (by simp) ?_
    refine AllReadyH.cons rfl (fun K hK => ?_) ?_
    · go_simp
      refine (HL.out _ Q4.out).mono ?_
      rintro e w5 ⟨rfl, q5, k5⟩
      dsimp only
      have Q5 := Lib.hid q5
      have H35 := Lib.hid (k5 _ _ _ H34.out)
      clear q5 k5
      refine hK.out _ _ (by (try dsimp only); exact H35.out) (fun hHeld => ?_)
      clear hK K
      refine take_at (i := 9) (v := ?_) rfl rfl (by kernel_rfl) (by kernel_rfl) (by kernel_rfl) (fun _ _ _ h => h) (Or.inl ⟨by rfl, ?_⟩) (by assumption) ?_
      rotate_left
      · intro w0 hSw; (try dsimp only at hSw); first | (go_simp; done) | (go_simp; with_reducible rfl)
      simp only [List.setIfInBounds_toArray, List.set_cons_zero, List.set_cons_succ]
      refine take_at (i := 10) (v := ?_) rfl rfl (by kernel_rfl) (by kernel_rfl) (by kernel_rfl) (fun _ _ _ h => h) (Or.inl ⟨by rfl, ?_⟩) (by assumption) ?_
      rotate_left
      · intro w0 hSw; (try dsimp only at hSw); first | (go_simp; done) | (go_simp; with_reducible rfl)
      simp only [List.setIfInBounds_toArray, List.set_cons_zero, List.set_cons_succ]
      refine wpAnyH_done (by kernel_rfl) ?_ _
      go_wp2_with fail
      go_ret
      exact ⟨rfl, Q5.out⟩
    exact AllReadyH.nil
  exact AllReadyH.nil
set_option linter.unusedSimpArgs false in
set_option maxRecDepth 100000 in
set_option maxHeartbeats 12800000 in
theorem step_hold2 {P0 P1 P2 : World → Prop} {w : World} {pv p : Value} {n m z : Int} {s : List UInt8} {c : PChan} {a1 a2 : Int} (ho : CallIn ⟨2, n, m, s, c, z⟩) (h0 : P0 w) (hbel : ∀ W W', P0 W → Below W.heap.size W W' → P0 W') (hc : ∀ W, P0 W → Calls Try.prog 16 #[pv, .int .i64 n, .agg c.cells.toArray] W fun e w' => e = .returned (.int .i64 a1) ∧ P1 w' ∧ KeepOp W w') (hl : ∀ W, P1 W → Calls Try.prog 24 #[p, .agg (PCall.cells ⟨2, n, m, s, c, z⟩).toArray] W fun e w' => e = .returned (.int .i64 a2) ∧ P2 w' ∧ KeepOp W w') :
    Calls Try.prog 7 #[pv, p, .agg (PCall.cells ⟨2, n, m, s, c, z⟩).toArray] w fun e w' => e = .returned (.bool (decide (a1 = a2))) ∧ P2 w' := by
  have HO := Lib.hid ho
  have HC := Lib.hid hc
  have HL := Lib.hid hl
  have HS : Hid (s.length = 32) := Lib.hid ho.root
  have HF : Hid (c.ftx.length = 32) := Lib.hid ho.ch.ftx
  clear ho hc hl
  go_enter Try.func7, Try.ntmps7
  go_upto_region 6 with (go_big_may; (first | (refine wpList_box10 rfl 37 _ rfl (PCall.cells ⟨2, n, m, s, c, z⟩).toArray rfl ?_; intro g3 w3 n3 h3 k3; have H3 := Lib.hid h3; have Q3 := Lib.hid (hbel _ _ h0 k3); have C3 : Hid (CallAt w3 g3 0 ⟨2, n, m, s, c, z⟩) := Lib.hid (call_at HO.out (range_of h3)); have ck := C3.out.kind; clear h3 k3 n3 h0; go_frame) | fail))
  have CAT : Hid (∀ W : World, W.heap[g3]? = some (.cells (PCall.cells ⟨2, n, m, s, c, z⟩).toArray 37 (0, 0)) → CallAt W g3 0 ⟨2, n, m, s, c, z⟩) := Lib.hid (fun W hW => call_at HO.out (range_of hW))
  have ROW : Hid (∀ W : World, W.heap[g3]? = some (.cells (PCall.cells ⟨2, n, m, s, c, z⟩).toArray 37 (0, 0)) → W.rangeAt g3 0 (PCall.cells ⟨2, n, m, s, c, z⟩)) := Lib.hid (fun W hW => range_of hW)
  have Q3D := Lib.hid (hbel _ _ Q3.out (below_drew (Below.refl _ _)))
  clear C3 ck
  refine wp_region_held_drew (S := fun w' => w'.heap[g3]? = some (.cells (PCall.cells ⟨2, n, m, s, c, z⟩).toArray 37 (0, 0))) (by kernel_rfl) (H3.out) (fun hHeld => ?_)
  refine take_at (i := 0) (v := ?_) rfl rfl (by kernel_rfl) (by kernel_rfl) (by kernel_rfl) (fun _ _ _ h => h) (Or.inl ⟨by rfl, ?_⟩) (by assumption) ?_
  rotate_left
  · intro w0 hSw; (try dsimp only at hSw); first | (go_simp; done) | (go_simp; with_reducible rfl)
  simp only [List.setIfInBounds_toArray, List.set_cons_zero, List.set_cons_succ]
  refine take_at (i := 1) (v := ?_) rfl rfl (by kernel_rfl) (by kernel_rfl) (by kernel_rfl) (fun _ _ _ h => h) (Or.inl ⟨by rfl, ?_⟩) (by assumption) ?_
  rotate_left
  · intro w0 hSw; (try dsimp only at hSw); first | (go_simp; done) | (go_simp; with_reducible rfl)
  simp only [List.setIfInBounds_toArray, List.set_cons_zero, List.set_cons_succ]
  refine take_at (i := 2) rfl rfl (by kernel_rfl) (by kernel_rfl) (by kernel_rfl) (fun _ _ _ h => h) (yields_cell (b := g3) (o := 1) (by rfl) rfl rfl (fun w0 hSw => (CAT.out w0 hSw).tower) (fun w0 => Try.isAgg3 w0)) (by assumption) ?_
  simp only [List.setIfInBounds_toArray, List.set_cons_zero, List.set_cons_succ]
  refine take_at (i := 3) (v := ?_) rfl rfl (by kernel_rfl) (by kernel_rfl) (by kernel_rfl) (fun _ _ _ h => h) (Or.inl ⟨by rfl, ?_⟩) (by assumption) ?_
  rotate_left
  · intro w0 hSw; (try dsimp only at hSw); first | (go_simp; done) | (go_simp; with_reducible rfl)
  simp only [List.setIfInBounds_toArray, List.set_cons_zero, List.set_cons_succ]
  refine take_at (i := 4) rfl rfl (by kernel_rfl) (by kernel_rfl) (by kernel_rfl) (fun _ _ _ h => h) (yieldsIf_load_mid (by rfl) _ _ rfl g3 35 rfl c.cells _ (fun w0 hSw => (CAT.out w0 hSw).ch) Try.underlying35 rfl (chan_size HF.out)) (by assumption) ?_
  simp only [List.setIfInBounds_toArray, List.set_cons_zero, List.set_cons_succ]
  refine take_at (i := 6) (v := ?_) rfl rfl (by kernel_rfl) (by kernel_rfl) (by kernel_rfl) (fun _ _ _ h => h) (Or.inl ⟨by rfl, ?_⟩) (by assumption) ?_
  rotate_left
  · intro w0 hSw; (try dsimp only at hSw); first | (go_simp; done) | (go_simp; with_reducible rfl)
  simp only [List.setIfInBounds_toArray, List.set_cons_zero, List.set_cons_succ]
  refine take_at (i := 7) rfl rfl (by kernel_rfl) (by kernel_rfl) (by kernel_rfl) (fun _ _ _ h => h) (yieldsIf_load_mid (by rfl) _ _ rfl g3 0 rfl (PCall.cells ⟨2, n, m, s, c, z⟩) _ (fun w0 hSw => ROW.out w0 hSw) Try.underlying37 rfl (call_size HO.out)) (by assumption) ?_
  simp only [List.setIfInBounds_toArray, List.set_cons_zero, List.set_cons_succ]
  refine wpAnyH_ready (rs := [5]) (by kernel_rfl) (by simp) ?_
  refine AllReadyH.cons rfl (fun K hK => ?_) ?_
  · go_simp
    refine (HC.out _ Q3D.out).mono ?_
    rintro e w4 ⟨rfl, q4, k4⟩
    dsimp only
    have Q4 := Lib.hid q4
    have H34 := Lib.hid (k4 _ _ _ H3.out)
    clear q4 k4
    refine hK.out _ _ (by (try dsimp only); exact H34.out) (fun hHeld => ?_)
    clear hK K
    refine wpAnyH_ready (rs := [8]) (by kernel_rfl) (by simp) ?_
    refine AllReadyH.cons rfl (fun K hK => ?_) ?_
    · go_simp
      refine (HL.out _ Q4.out).mono ?_
      rintro e w5 ⟨rfl, q5, k5⟩
      dsimp only
      have Q5 := Lib.hid q5
      have H35 := Lib.hid (k5 _ _ _ H34.out)
      clear q5 k5
      refine hK.out _ _ (by (try dsimp only); exact H35.out) (fun hHeld => ?_)
      clear hK K
      refine take_at (i := 9) (v := ?_) rfl rfl (by kernel_rfl) (by kernel_rfl) (by kernel_rfl) (fun _ _ _ h => h) (Or.inl ⟨by rfl, ?_⟩) (by assumption) ?_
      rotate_left
      · intro w0 hSw; (try dsimp only at hSw); first | (go_simp; done) | (go_simp; with_reducible rfl)
      simp only [List.setIfInBounds_toArray, List.set_cons_zero, List.set_cons_succ]
      refine take_at (i := 10) (v := ?_) rfl rfl (by kernel_rfl) (by kernel_rfl) (by kernel_rfl) (fun _ _ _ h => h) (Or.inl ⟨by rfl, ?_⟩) (by assumption) ?_
      rotate_left
      · intro w0 hSw; (try dsimp only at hSw); first | (go_simp; done) | (go_simp; with_reducible rfl)
      simp only [List.setIfInBounds_toArray, List.set_cons_zero, List.set_cons_succ]
      refine wpAnyH_done (by kernel_rfl) ?_ _
      go_wp2_with fail
      go_ret
      exact ⟨rfl, Q5.out⟩
    exact AllReadyH.nil
  exact AllReadyH.nil
set_option linter.unusedSimpArgs false in
set_option maxRecDepth 100000 in
set_option maxHeartbeats 12800000 in
theorem step_let {P0 P1 P2 : World → Prop} {w : World} {pv p : Value} {n m z : Int} {s : List UInt8} {c : PChan} {a1 a2 : Int} (ho : CallIn ⟨3, n, m, s, c, z⟩) (h0 : P0 w) (hbel : ∀ W W', P0 W → Below W.heap.size W W' → P0 W') (hc : ∀ W, P0 W → Calls Try.prog 17 #[pv, .int .i64 n, .int .i64 c.id] W fun e w' => e = .returned (.int .i64 a1) ∧ P1 w' ∧ KeepOp W w') (hl : ∀ W, P1 W → Calls Try.prog 24 #[p, .agg (PCall.cells ⟨3, n, m, s, c, z⟩).toArray] W fun e w' => e = .returned (.int .i64 a2) ∧ P2 w' ∧ KeepOp W w') :
    Calls Try.prog 7 #[pv, p, .agg (PCall.cells ⟨3, n, m, s, c, z⟩).toArray] w fun e w' => e = .returned (.bool (decide (a1 = a2))) ∧ P2 w' := by
  have HO := Lib.hid ho
  have HC := Lib.hid hc
  have HL := Lib.hid hl
  have HS : Hid (s.length = 32) := Lib.hid ho.root
  have HF : Hid (c.ftx.length = 32) := Lib.hid ho.ch.ftx
  clear ho hc hl
  go_enter Try.func7, Try.ntmps7
  go_upto_region 8 with (go_big_may; (first | (refine wpList_box10 rfl 37 _ rfl (PCall.cells ⟨3, n, m, s, c, z⟩).toArray rfl ?_; intro g3 w3 n3 h3 k3; have H3 := Lib.hid h3; have Q3 := Lib.hid (hbel _ _ h0 k3); have C3 : Hid (CallAt w3 g3 0 ⟨3, n, m, s, c, z⟩) := Lib.hid (call_at HO.out (range_of h3)); have ck := C3.out.kind; clear h3 k3 n3 h0; go_frame) | fail))
  have CAT : Hid (∀ W : World, W.heap[g3]? = some (.cells (PCall.cells ⟨3, n, m, s, c, z⟩).toArray 37 (0, 0)) → CallAt W g3 0 ⟨3, n, m, s, c, z⟩) := Lib.hid (fun W hW => call_at HO.out (range_of hW))
  have ROW : Hid (∀ W : World, W.heap[g3]? = some (.cells (PCall.cells ⟨3, n, m, s, c, z⟩).toArray 37 (0, 0)) → W.rangeAt g3 0 (PCall.cells ⟨3, n, m, s, c, z⟩)) := Lib.hid (fun W hW => range_of hW)
  have Q3D := Lib.hid (hbel _ _ Q3.out (below_drew (Below.refl _ _)))
  clear C3 ck
  refine wp_region_held_drew (S := fun w' => w'.heap[g3]? = some (.cells (PCall.cells ⟨3, n, m, s, c, z⟩).toArray 37 (0, 0))) (by kernel_rfl) (H3.out) (fun hHeld => ?_)
  refine take_at (i := 0) (v := ?_) rfl rfl (by kernel_rfl) (by kernel_rfl) (by kernel_rfl) (fun _ _ _ h => h) (Or.inl ⟨by rfl, ?_⟩) (by assumption) ?_
  rotate_left
  · intro w0 hSw; (try dsimp only at hSw); first | (go_simp; done) | (go_simp; with_reducible rfl)
  simp only [List.setIfInBounds_toArray, List.set_cons_zero, List.set_cons_succ]
  refine take_at (i := 1) (v := ?_) rfl rfl (by kernel_rfl) (by kernel_rfl) (by kernel_rfl) (fun _ _ _ h => h) (Or.inl ⟨by rfl, ?_⟩) (by assumption) ?_
  rotate_left
  · intro w0 hSw; (try dsimp only at hSw); first | (go_simp; done) | (go_simp; with_reducible rfl)
  simp only [List.setIfInBounds_toArray, List.set_cons_zero, List.set_cons_succ]
  refine take_at (i := 2) rfl rfl (by kernel_rfl) (by kernel_rfl) (by kernel_rfl) (fun _ _ _ h => h) (yields_cell (b := g3) (o := 1) (by rfl) rfl rfl (fun w0 hSw => (CAT.out w0 hSw).tower) (fun w0 => Try.isAgg3 w0)) (by assumption) ?_
  simp only [List.setIfInBounds_toArray, List.set_cons_zero, List.set_cons_succ]
  refine take_at (i := 3) (v := ?_) rfl rfl (by kernel_rfl) (by kernel_rfl) (by kernel_rfl) (fun _ _ _ h => h) (Or.inl ⟨by rfl, ?_⟩) (by assumption) ?_
  rotate_left
  · intro w0 hSw; (try dsimp only at hSw); first | (go_simp; done) | (go_simp; with_reducible rfl)
  simp only [List.setIfInBounds_toArray, List.set_cons_zero, List.set_cons_succ]
  refine take_at (i := 4) (v := ?_) rfl rfl (by kernel_rfl) (by kernel_rfl) (by kernel_rfl) (fun _ _ _ h => h) (Or.inl ⟨by rfl, ?_⟩) (by assumption) ?_
  rotate_left
  · intro w0 hSw; (try dsimp only at hSw); first | (go_simp; done) | (go_simp; with_reducible rfl)
  simp only [List.setIfInBounds_toArray, List.set_cons_zero, List.set_cons_succ]
  refine take_at (i := 5) rfl rfl (by kernel_rfl) (by kernel_rfl) (by kernel_rfl) (fun _ _ _ h => h) (yields_cell (b := g3) (o := 35) (by rfl) rfl rfl (fun w0 hSw => (CAT.out w0 hSw).id) (fun w0 => Try.isAgg3 w0)) (by assumption) ?_
  simp only [List.setIfInBounds_toArray, List.set_cons_zero, List.set_cons_succ]
  refine take_at (i := 7) (v := ?_) rfl rfl (by kernel_rfl) (by kernel_rfl) (by kernel_rfl) (fun _ _ _ h => h) (Or.inl ⟨by rfl, ?_⟩) (by assumption) ?_
  rotate_left
  · intro w0 hSw; (try dsimp only at hSw); first | (go_simp; done) | (go_simp; with_reducible rfl)
  simp only [List.setIfInBounds_toArray, List.set_cons_zero, List.set_cons_succ]
  refine take_at (i := 8) rfl rfl (by kernel_rfl) (by kernel_rfl) (by kernel_rfl) (fun _ _ _ h => h) (yieldsIf_load_mid (by rfl) _ _ rfl g3 0 rfl (PCall.cells ⟨3, n, m, s, c, z⟩) _ (fun w0 hSw => ROW.out w0 hSw) Try.underlying37 rfl (call_size HO.out)) (by assumption) ?_
  simp only [List.setIfInBounds_toArray, List.set_cons_zero, List.set_cons_succ]
  refine wpAnyH_ready (rs := [6]) (by kernel_rfl) (by simp) ?_
  refine AllReadyH.cons rfl (fun K hK => ?_) ?_
  · go_simp
    refine (HC.out _ Q3D.out).mono ?_
    rintro e w4 ⟨rfl, q4, k4⟩
    dsimp only
    have Q4 := Lib.hid q4
    have H34 := Lib.hid (k4 _ _ _ H3.out)
    clear q4 k4
    refine hK.out _ _ (by (try dsimp only); exact H34.out) (fun hHeld => ?_)
    clear hK K
    refine wpAnyH_ready (rs := [9]) (by kernel_rfl) (by simp) ?_
    refine AllReadyH.cons rfl (fun K hK => ?_) ?_
    · go_simp
      refine (HL.out _ Q4.out).mono ?_
      rintro e w5 ⟨rfl, q5, k5⟩
      dsimp only
      have Q5 := Lib.hid q5
      have H35 := Lib.hid (k5 _ _ _ H34.out)
      clear q5 k5
      refine hK.out _ _ (by (try dsimp only); exact H35.out) (fun hHeld => ?_)
      clear hK K
      refine take_at (i := 10) (v := ?_) rfl rfl (by kernel_rfl) (by kernel_rfl) (by kernel_rfl) (fun _ _ _ h => h) (Or.inl ⟨by rfl, ?_⟩) (by assumption) ?_
      rotate_left
      · intro w0 hSw; (try dsimp only at hSw); first | (go_simp; done) | (go_simp; with_reducible rfl)
      simp only [List.setIfInBounds_toArray, List.set_cons_zero, List.set_cons_succ]
      refine take_at (i := 11) (v := ?_) rfl rfl (by kernel_rfl) (by kernel_rfl) (by kernel_rfl) (fun _ _ _ h => h) (Or.inl ⟨by rfl, ?_⟩) (by assumption) ?_
      rotate_left
      · intro w0 hSw; (try dsimp only at hSw); first | (go_simp; done) | (go_simp; with_reducible rfl)
      simp only [List.setIfInBounds_toArray, List.set_cons_zero, List.set_cons_succ]
      refine wpAnyH_done (by kernel_rfl) ?_ _
      go_wp2_with fail
      go_ret
      exact ⟨rfl, Q5.out⟩
    exact AllReadyH.nil
  exact AllReadyH.nil
end Go.Proofs.Ytijanllppbambaa
