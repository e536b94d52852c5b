/- The out that funds a channel: the code's Fund; CommitFunds, walked. -/
import Derived.Test.YtkihmhchdenamaaAwake14
namespace Go.Proofs.Ytkihmhchdenamaa
open Go.RowKit

theorem run_two14 (y z : Int) (w : World) : (Instr.buildSlice 33 2 #[(0, .int .i64 y), (1, .int .i64 z)]).run Try.prog w = .ok (.slice (some ⟨w.heap.size, 0, none⟩) 2 2) (w.alloc (.cells #[.int .i64 y, .int .i64 z] 3)) := by
  obtain ⟨ie, h1, h2, h3, _⟩ := info_parts (show (Try.prog.info? 3).map (fun i => (i.zero, i.size, i.bytes)) = some (some (.int .i64 0), 1, 8) by kernel_rfl)
  exact run_buildSlice w 33 3 2 _ _ ie _ Try.underlying33 h1 h2 (by rw [h3]; omega) (by rw [h3]; omega) (by rw [h3]; simp [Instr.fill, Value.cells]; rw [show Array.range 2 = #[0, 1] by rfl]; simp)
/-- A literal of two numbers, in a plain region. -/
theorem wpList_two14 {ops : Array Oper} {rest : List Oper} {o : Oper} {A : Act} {w : World} {Q : Exit → Act → World → Prop} (hgd : o.guard = none) (u v : Operand) (ho : o.op = .buildSlice 33 2 #[(0, u), (1, v)]) (y z : Int) (hu : A.eval u = .int .i64 y) (hv : A.eval v = .int .i64 z)
    (h : ∀ (p : Nat) (w' : World), w.heap.size ≤ p → w'.heap[p]? = some (.cells #[.int .i64 y, .int .i64 z] 3 (0, 0)) → Below w.heap.size w w' → wpList Try.prog ops Q rest (A.put o.dst (.slice (some ⟨p, 0, none⟩) 2 2)) w') : wpList Try.prog ops Q (o :: rest) A w := by
  refine wpList_plain hgd fun K' hK => ?_
  unfold Oper.wp execOp
  simp only [ho, Sem.run_bind, Sem.run_pure, Result.andThen_ok, List.map_toArray, List.map_cons, List.map_nil, hu, hv, run_two14 y z w]
  exact hK _ _ (h _ _ (Nat.le_refl _) (heap_alloc_new _ _) ((Below.refl _ _).alloc (Nat.le_refl _) _))
theorem step_two14 {ops : Array Oper} {o : Oper} {tmps : Array Value} {ds : List Deferred} {w : World} {K : Act → World → Prop} {Q : Exit → Act → World → Prop} {E : Prop} {d : Nat} {u v : Operand} {y z : Int} (hd : o.dst = some d) (hw : Region.wanted o (yielded ops tmps) = true) (ho : o.op = .buildSlice 33 2 #[(0, u), (1, v)])
    (hu : Act.eval { tmps := tmps, defers := ds } u = .int .i64 y) (hv : Act.eval { tmps := tmps, defers := ds } v = .int .i64 z)
    (h : ∀ (p : Nat) (w' : World), w.heap.size ≤ p → w'.heap[p]? = some (.cells #[.int .i64 y, .int .i64 z] 3 (0, 0)) → Below w.heap.size w w' → K { tmps := tmps.setIfInBounds d (.slice (some ⟨p, 0, none⟩) 2 2), defers := ds } w') :
    if Region.wanted o (yielded ops tmps) = true then Oper.wp Try.prog o { tmps := tmps, defers := ds } w K Q else E := by
  rw [if_pos hw]
  unfold Oper.wp execOp
  simp only [ho, Sem.run_bind, Sem.run_pure, Result.andThen_ok, List.map_toArray, List.map_cons, List.map_nil, hu, hv, run_two14 y z w]
  show K (Act.put _ o.dst _) _
  rw [hd]
  exact h _ _ (Nat.le_refl _) (heap_alloc_new _ _) ((Below.refl _ _).alloc (Nat.le_refl _) _)
def bothW (a : Option Addr) (lo hi : Int) : PWay := ⟨a, 2, 2, [lo, hi], zero32, 0, 0⟩
def fundO (a b : Option Addr) (cap lo hi : Int) : POut := ⟨cap, b, 1, 1, [bothW a lo hi]⟩
theorem build_fund14 (cap lo hi : Int) (p q : Nat) (w : World) : (Instr.build 31 ([(0, (.int .i64 cap : Value)), (1, .slice (some ⟨q, 0, none⟩) 1 1)] : List (Nat × Value)).toArray).run Try.prog w = .ok (.agg (fundO (some ⟨p, 0, none⟩) (some ⟨q, 0, none⟩) cap lo hi).cells.toArray) w := build_out14 cap _ _ _ [bothW (some ⟨p, 0, none⟩) lo hi] w
theorem ways_both {w : World} {p q : Nat} {lo hi : Int} (h1 : w.heap[p]? = some (.cells #[.int .i64 lo, .int .i64 hi] 3 (0, 0))) (h2 : w.heap[q]? = some (.cells ([bothW (some ⟨p, 0, none⟩) lo hi].flatMap wayK14.cells).toArray 35 (0, 0))) (f1 : Fits lo) (f2 : Fits hi) :
    Ways w (some ⟨q, 0, none⟩) 1 1 [bothW (some ⟨p, 0, none⟩) lo hi] := ways_of14 (slice_lits (K := wayK14) h2 rfl (by omega) (by
  intro x hx
  simp at hx
  subst hx
  exact ⟨numbers_two h1 f1 f2, zero32_len, fits0_14, fits0_14⟩))
set_option linter.unusedSimpArgs false in
set_option maxRecDepth 100000 in
set_option maxHeartbeats 6400000 in
theorem fund14_low {w : World} {c : PChan} (hc : ChanIn c) (hle : c.client ≤ c.peer) :
    Calls Try.prog 5 #[.agg c.cells.toArray] w fun e w' => ∃ a b, e = .returned (.agg (fundO a b c.cap c.client c.peer).cells.toArray) ∧ Ways w' b 1 1 [bothW a c.client c.peer] ∧ Below w.heap.size w w' := by
  have HC := Lib.hid hc
  clear hc
  go_enter Try.func5, Try.ntmps5
  go_upto_region 1 with (first | (refine wpList_new rfl 31 rfl noOut.cells.toArray Try.zeroOut14 ?_; intro r w1 hr hh hb; go_frame) | fail)
  have b0 : Below w.heap.size w (w.alloc (.cells c.cells.toArray 27)) := (Below.refl _ _).alloc (Nat.le_refl _) _
  have h1 := keep hb (heap_alloc_new w (.cells c.cells.toArray 27))
  have b1 := bthen b0 hb
  have hr' : w.heap.size ≤ r := Nat.le_trans b0.size hr
  obtain ⟨g, hg⟩ : ∃ g, g = w.heap.size := ⟨_, rfl⟩
  rw [← hg] at h1 ⊢
  have HB1 := Lib.hid b1
  have H1 := Lib.hid h1
  have HR := Lib.hid hh
  have HN : Hid (w.heap.size ≤ r) := Lib.hid hr'
  have hat := chan_at HC.out.ftx (range_of h1)
  have c1 := hat.client
  have c2 := hat.peer
  rw [Nat.zero_add] at c1 c2
  clear b0 b1 h1 hr' hg hr hh hb hat
  have m1 : min c.client c.peer = c.client := by omega
  have m2 : max c.client c.peer = c.peer := by omega
  go_upto_region 2 with (first | (refine wpList_two14 rfl _ _ rfl (c.client) (c.peer) rfl rfl ?_; intro p w2 hp hh hb; go_frame; have HB2 := Lib.hid (bthen HB1.out hb); have H2 := Lib.hid (keep hb H1.out); have HP2 := Lib.hid hh; have HR2 := Lib.hid (keep hb HR.out); have HN1 := Lib.hid hp; clear hp hh hb) | fail)
  have c36 := (chan_at HC.out.ftx (range_of H2.out)).cap
  rw [Nat.zero_add] at c36
  clear c1 c2
  go_wp2_with (first | (refine wpList_build10 rfl rfl (vs := [(0, .slice (some ⟨p, 0, none⟩) 2 2)]) rfl (build_way_keys _ _ _ [c.client, c.peer]) ?_; go_frame) | (refine wpList_lits Try.wayAt14 rfl rfl [bothW (some ⟨p, 0, none⟩) c.client c.peer] rfl (by decide) (by decide) (by intro x hx; simp at hx; subst hx; exact PWay.cells_len zero32_len) rfl ?_; intro q w3 hp hh hb; go_frame; have HB3 := Lib.hid (bthen HB2.out hb); have HQ3 := Lib.hid hh; have HP3 := Lib.hid (keep hb HP2.out); have HR3 := Lib.hid (keep hb HR2.out); have HN2 := Lib.hid hp; clear hp hh hb) | (refine wpList_build10 rfl rfl (vs := [(0, .int .i64 c.cap), (1, .slice (some ⟨q, 0, none⟩) 1 1)]) rfl (build_out14 c.cap _ _ _ [bothW (some ⟨p, 0, none⟩) c.client c.peer]) ?_; go_frame) | (refine wpList_row10 rfl 31 _ _ rfl r (fundO (some ⟨p, 0, none⟩) (some ⟨q, 0, none⟩) c.cap c.client c.peer).cells rfl rfl 31 noOut.cells HR3.out (by kernel_rfl) rfl (POut.one _) ?_; intro w9 hh9 hb9) | fail)
  refine bodyPost_ret (results_cell_row rfl _ _ r 31 (POut.cells (fundO (some ⟨p, 0, none⟩) (some ⟨q, 0, none⟩) c.cap c.client c.peer)).toArray (0, 0) _ rfl hh9 Try.underlying31 rfl (by kernel_rfl)) rfl ?_
  have hrl := lt_of_block HR.out
  have np := HN1.out
  have nq := HN2.out
  have sz := HB2.out.size
  have lp := lt_of_block HP2.out
  have np3 : p ≠ r := by omega
  have lr2 := lt_of_block HR2.out
  have nq3 : q ≠ r := by omega
  exact ⟨_, _, rfl, ways_both ((hb9.block p (lt_of_block HP3.out) np3).trans HP3.out) ((hb9.block q (lt_of_block HQ3.out) nq3).trans HQ3.out) HC.out.client HC.out.peer, But.in HB3.out hb9 HN.out⟩
set_option linter.unusedSimpArgs false in
set_option maxRecDepth 100000 in
set_option maxHeartbeats 6400000 in
theorem fund14_high {w : World} {c : PChan} (hc : ChanIn c) (hle : c.peer < c.client) :
    Calls Try.prog 5 #[.agg c.cells.toArray] w fun e w' => ∃ a b, e = .returned (.agg (fundO a b c.cap c.peer c.client).cells.toArray) ∧ Ways w' b 1 1 [bothW a c.peer c.client] ∧ Below w.heap.size w w' := by
  have HC := Lib.hid hc
  clear hc
  go_enter Try.func5, Try.ntmps5
  go_upto_region 1 with (first | (refine wpList_new rfl 31 rfl noOut.cells.toArray Try.zeroOut14 ?_; intro r w1 hr hh hb; go_frame) | fail)
  have b0 : Below w.heap.size w (w.alloc (.cells c.cells.toArray 27)) := (Below.refl _ _).alloc (Nat.le_refl _) _
  have h1 := keep hb (heap_alloc_new w (.cells c.cells.toArray 27))
  have b1 := bthen b0 hb
  have hr' : w.heap.size ≤ r := Nat.le_trans b0.size hr
  obtain ⟨g, hg⟩ : ∃ g, g = w.heap.size := ⟨_, rfl⟩
  rw [← hg] at h1 ⊢
  have HB1 := Lib.hid b1
  have H1 := Lib.hid h1
  have HR := Lib.hid hh
  have HN : Hid (w.heap.size ≤ r) := Lib.hid hr'
  have hat := chan_at HC.out.ftx (range_of h1)
  have c1 := hat.client
  have c2 := hat.peer
  rw [Nat.zero_add] at c1 c2
  clear b0 b1 h1 hr' hg hr hh hb hat
  have m1 : min c.client c.peer = c.peer := by omega
  have m2 : max c.client c.peer = c.client := by omega
  go_upto_region 2 with (first | (refine wpList_two14 rfl _ _ rfl (c.peer) (c.client) rfl rfl ?_; intro p w2 hp hh hb; go_frame; have HB2 := Lib.hid (bthen HB1.out hb); have H2 := Lib.hid (keep hb H1.out); have HP2 := Lib.hid hh; have HR2 := Lib.hid (keep hb HR.out); have HN1 := Lib.hid hp; clear hp hh hb) | fail)
  have c36 := (chan_at HC.out.ftx (range_of H2.out)).cap
  rw [Nat.zero_add] at c36
  clear c1 c2
  go_wp2_with (first | (refine wpList_build10 rfl rfl (vs := [(0, .slice (some ⟨p, 0, none⟩) 2 2)]) rfl (build_way_keys _ _ _ [c.peer, c.client]) ?_; go_frame) | (refine wpList_lits Try.wayAt14 rfl rfl [bothW (some ⟨p, 0, none⟩) c.peer c.client] rfl (by decide) (by decide) (by intro x hx; simp at hx; subst hx; exact PWay.cells_len zero32_len) rfl ?_; intro q w3 hp hh hb; go_frame; have HB3 := Lib.hid (bthen HB2.out hb); have HQ3 := Lib.hid hh; have HP3 := Lib.hid (keep hb HP2.out); have HR3 := Lib.hid (keep hb HR2.out); have HN2 := Lib.hid hp; clear hp hh hb) | (refine wpList_build10 rfl rfl (vs := [(0, .int .i64 c.cap), (1, .slice (some ⟨q, 0, none⟩) 1 1)]) rfl (build_out14 c.cap _ _ _ [bothW (some ⟨p, 0, none⟩) c.peer c.client]) ?_; go_frame) | (refine wpList_row10 rfl 31 _ _ rfl r (fundO (some ⟨p, 0, none⟩) (some ⟨q, 0, none⟩) c.cap c.peer c.client).cells rfl rfl 31 noOut.cells HR3.out (by kernel_rfl) rfl (POut.one _) ?_; intro w9 hh9 hb9) | fail)
  refine bodyPost_ret (results_cell_row rfl _ _ r 31 (POut.cells (fundO (some ⟨p, 0, none⟩) (some ⟨q, 0, none⟩) c.cap c.peer c.client)).toArray (0, 0) _ rfl hh9 Try.underlying31 rfl (by kernel_rfl)) rfl ?_
  have hrl := lt_of_block HR.out
  have np := HN1.out
  have nq := HN2.out
  have sz := HB2.out.size
  have lp := lt_of_block HP2.out
  have np3 : p ≠ r := by omega
  have lr2 := lt_of_block HR2.out
  have nq3 : q ≠ r := by omega
  exact ⟨_, _, rfl, ways_both ((hb9.block p (lt_of_block HP3.out) np3).trans HP3.out) ((hb9.block q (lt_of_block HQ3.out) nq3).trans HQ3.out) HC.out.peer HC.out.client, But.in HB3.out hb9 HN.out⟩
set_option linter.unusedSimpArgs false in
set_option maxRecDepth 100000 in
set_option maxHeartbeats 6400000 in
theorem funds14_low {w : World} {c : PChan} (hc : ChanIn c) (hle : c.client ≤ c.peer) :
    Calls Try.prog 3 #[.agg c.cells.toArray] w fun e w' => e = .returned (.bool true) ∧ Below w.heap.size w w' := by
  have HFD := Lib.hid (fun (W : World) => fund14_low (w := W) hc hle)
  have HAW := Lib.hid (fun (W : World) => awake14_any W)
  have HC := Lib.hid hc
  have SZCl := Lib.hid (chan_size hc.ftx)
  clear hc
  go_enter Try.func3, Try.ntmps3
  go_upto_region 1 with (fail)
  have b1 : Below w.heap.size w (w.alloc (.cells c.cells.toArray 27)) := (Below.refl _ _).alloc (Nat.le_refl _) _
  have h1 := heap_alloc_new w (.cells c.cells.toArray 27)
  revert b1 h1
  generalize (w.alloc (.cells c.cells.toArray 27)) = w1
  obtain ⟨g, hg⟩ : ∃ g, g = w.heap.size := ⟨_, rfl⟩
  rw [← hg]
  intro b1 h1
  rw [hg] at b1
  have HB := Lib.hid b1
  have HB1 := Lib.hid HB.out
  have H1 := Lib.hid h1
  clear h1 b1 hg HB
  refine wp_region_held_drew (S := fun w' => Below w1.heap.size w1 w') (by kernel_rfl) (below_drew (Below.refl _ _)) (fun hHeld => ?_)
  refine take_at (i := 0) (v := ?_) rfl rfl (by kernel_rfl) (by kernel_rfl) (by kernel_rfl) (fun _ _ _ h => h) (Or.inl ⟨by rfl, ?_⟩) (by assumption) ?_
  rotate_left
  · intro w0 hSw; (try dsimp only at hSw); first | (go_simp; done) | (go_simp; with_reducible rfl)
  simp only [List.setIfInBounds_toArray, List.set_cons_zero, List.set_cons_succ]
  refine take_at (i := 1) rfl rfl (by kernel_rfl) (by kernel_rfl) (by kernel_rfl) (fun _ _ _ h => h) (yields_cell (b := g) (o := 1) (by rfl) rfl rfl (fun w0 hSw => by have h9 := (chan_at HC.out.ftx (range_of (keep hSw H1.out))).client; rw [Nat.zero_add] at h9; exact h9) (fun w0 => Try.isAgg3 w0)) (by assumption) ?_
  simp only [List.setIfInBounds_toArray, List.set_cons_zero, List.set_cons_succ]
  refine take_at (i := 2) (v := ?_) rfl rfl (by kernel_rfl) (by kernel_rfl) (by kernel_rfl) (fun _ _ _ h => h) (Or.inl ⟨by rfl, ?_⟩) (by assumption) ?_
  rotate_left
  · intro w0 hSw; (try dsimp only at hSw); first | (go_simp; done) | (go_simp; with_reducible rfl)
  simp only [List.setIfInBounds_toArray, List.set_cons_zero, List.set_cons_succ]
  refine take_at (i := 3) rfl rfl (by kernel_rfl) (by kernel_rfl) (by kernel_rfl) (fun _ _ _ h => h) (yields_cell (b := g) (o := 2) (by rfl) rfl rfl (fun w0 hSw => by have h9 := (chan_at HC.out.ftx (range_of (keep hSw H1.out))).peer; rw [Nat.zero_add] at h9; exact h9) (fun w0 => Try.isAgg3 w0)) (by assumption) ?_
  simp only [List.setIfInBounds_toArray, List.set_cons_zero, List.set_cons_succ]
  refine take_at (i := 4) (v := ?_) rfl rfl (by kernel_rfl) (by kernel_rfl) (by kernel_rfl) (fun _ _ _ h => h) (Or.inl ⟨by rfl, ?_⟩) (by assumption) ?_
  rotate_left
  · intro w0 hSw; (try dsimp only at hSw); first | (go_simp; done) | (go_simp; with_reducible rfl)
  simp only [List.setIfInBounds_toArray, List.set_cons_zero, List.set_cons_succ]
  refine take_at (i := 5) (v := ?_) rfl rfl (by kernel_rfl) (by kernel_rfl) (by kernel_rfl) (fun _ _ _ h => h) (Or.inl ⟨by rfl, ?_⟩) (by assumption) ?_
  rotate_left
  · intro w0 hSw; (try dsimp only at hSw); first | (go_simp; done) | (go_simp; with_reducible rfl)
  simp only [List.setIfInBounds_toArray, List.set_cons_zero, List.set_cons_succ]
  refine wpAnyH_done (by kernel_rfl) ?_ _
  have HB2 := Lib.hid (bthen HB1.out (show Below w1.heap.size w1 w1.drew from hHeld))
  have H2 := Lib.hid (keep (show Below w1.heap.size w1 w1.drew from hHeld) H1.out)
  clear hHeld H1
  revert HB2 H2
  generalize w1.drew = w2
  intro HB2 H2
  have f1 : ¬ c.peer < c.client := by omega
  go_upto_region 4 with (fail)
  refine wp_region_held_drew (S := fun w' => Below w2.heap.size w2 w') (by kernel_rfl) (below_drew (Below.refl _ _)) (fun hHeld => ?_)
  refine take_at (i := 0) rfl rfl (by kernel_rfl) (by kernel_rfl) (by kernel_rfl) (fun _ _ _ h => h) (yieldsIf_load_mid (by rfl) _ _ rfl g 0 rfl c.cells _ (fun w0 hSw => range_of (keep hSw H2.out)) Try.underlying27 rfl SZCl.out) (by assumption) ?_
  simp only [List.setIfInBounds_toArray, List.set_cons_zero, List.set_cons_succ]
  refine take_at (i := 2) (v := ?_) rfl rfl (by kernel_rfl) (by kernel_rfl) (by kernel_rfl) (fun _ _ _ h => h) (Or.inl ⟨by rfl, ?_⟩) (by assumption) ?_
  rotate_left
  · intro w0 hSw; (try dsimp only at hSw); first | (go_simp; done) | (go_simp; with_reducible rfl)
  simp only [List.setIfInBounds_toArray, List.set_cons_zero, List.set_cons_succ]
  refine take_at (i := 3) rfl rfl (by kernel_rfl) (by kernel_rfl) (by kernel_rfl) (fun _ _ _ h => h) (yields_cell (b := g) (o := 36) (by rfl) rfl rfl (fun w0 hSw => by have h9 := (chan_at HC.out.ftx (range_of (keep hSw H2.out))).cap; rw [Nat.zero_add] at h9; exact h9) (fun w0 => Try.isAgg2 w0)) (by assumption) ?_
  simp only [List.setIfInBounds_toArray, List.set_cons_zero, List.set_cons_succ]
  refine take_at (i := 4) (v := ?_) rfl rfl (by kernel_rfl) (by kernel_rfl) (by kernel_rfl) (fun _ _ _ h => h) (Or.inl ⟨by rfl, ?_⟩) (by assumption) ?_
  rotate_left
  · intro w0 hSw; (try dsimp only at hSw); first | (go_simp; done) | (go_simp; with_reducible rfl)
  simp only [List.setIfInBounds_toArray, List.set_cons_zero, List.set_cons_succ]
  refine take_at (i := 5) (v := ?_) rfl rfl (by kernel_rfl) (by kernel_rfl) (by kernel_rfl) (fun _ _ _ h => h) (Or.inl ⟨by rfl, ?_⟩) (by assumption) ?_
  rotate_left
  · intro w0 hSw; (try dsimp only at hSw); first | (go_simp; done) | (go_simp; with_reducible rfl)
  simp only [List.setIfInBounds_toArray, List.set_cons_zero, List.set_cons_succ]
  refine wpAnyH_ready (rs := [1, 6]) (by kernel_rfl) (by simp) ?_
  refine AllReadyH.cons rfl (fun K hK => ?_) ?_
  · have HCx := Lib.hid HFD.out
    go_simp
    go_wp2_with ((go_at_call 5; (with_reducible refine (HCx.out _).mono ?_); rintro e y1 ⟨fa, fb, rfl, hw, hb⟩; have DW := Lib.hid hw; have HX := Lib.hid (bthen hHeld hb); clear hw hb HCx))
    refine hK.out _ _ (by (try dsimp only); exact HX.out) (fun hHeld => ?_)
    clear hK K
    refine wpAnyH_ready (rs := [6]) (by kernel_rfl) (by simp) ?_
    refine AllReadyH.cons rfl (fun K hK => ?_) ?_
    · refine step_two14 (d := 20) (y := c.client) (z := c.peer) rfl (by rfl) rfl (by rfl) (by rfl) ?_
      intro p y2 hp hh hb
      have DW := Lib.hid (DW.out.below hb)
      have DP := Lib.hid hh
      have HX := Lib.hid (bthen hHeld hb)
      clear hp hh hb
      refine hK.out _ _ (by (try dsimp only); exact HX.out) (fun hHeld => ?_)
      clear hK K
      refine take_at (i := 7) rfl rfl (by kernel_rfl) (by kernel_rfl) (by kernel_rfl) (fun _ _ _ h => h) (yields_build10 (by rfl) rfl (vs := [(0, .slice (some ⟨p, 0, none⟩) 2 2)]) (by rfl) (build_way_keys _ _ _ [c.client, c.peer])) (by assumption) ?_
      simp only [List.setIfInBounds_toArray, List.set_cons_zero, List.set_cons_succ]
      refine wpAnyH_ready (rs := [8]) (by kernel_rfl) (by simp) ?_
      refine AllReadyH.cons rfl (fun K hK => ?_) ?_
      · refine step_lits Try.wayAt14 (d := 22) rfl (by rfl) rfl [bothW (some ⟨p, 0, none⟩) c.client c.peer] rfl (by decide) (by decide) (by intro x hx; simp at hx; subst hx; exact PWay.cells_len zero32_len) (by rfl) ?_
        intro q y3 hp hh hb
        have DW := Lib.hid (DW.out.below hb)
        have DP := Lib.hid (keep hb DP.out)
        have DQ := Lib.hid hh
        have HX := Lib.hid (bthen hHeld hb)
        clear hp hh hb
        refine hK.out _ _ (by (try dsimp only); exact HX.out) (fun hHeld => ?_)
        clear hK K
        refine take_at (i := 9) rfl rfl (by kernel_rfl) (by kernel_rfl) (by kernel_rfl) (fun _ _ _ h => h) (yields_build10 (by rfl) rfl (vs := [(0, .int .i64 c.cap), (1, .slice (some ⟨q, 0, none⟩) 1 1)]) (by rfl) (build_fund14 c.cap c.client c.peer p q)) (by assumption) ?_
        simp only [List.setIfInBounds_toArray, List.set_cons_zero, List.set_cons_succ]
        refine wpAnyH_ready (rs := [10]) (by kernel_rfl) (by simp) ?_
        refine AllReadyH.cons rfl (fun K hK => ?_) ?_
        · have hsm := sameOut_any (x := fundO fa fb c.cap c.client c.peer) (y := fundO (some ⟨p, 0, none⟩) (some ⟨q, 0, none⟩) c.cap c.client c.peer) ⟨HC.out.cap, DW.out⟩ ⟨HC.out.cap, ways_both DP.out DQ.out HC.out.client HC.out.peer⟩
          rw [show alikeO (fundO fa fb c.cap c.client c.peer) (fundO (some ⟨p, 0, none⟩) (some ⟨q, 0, none⟩) c.cap c.client c.peer) = true by simp [alikeO, fundO, bothW, alikeWs, alikeW]] at hsm
          have HCx := Lib.hid hsm
          clear hsm
          go_simp
          go_wp2_with ((go_at_call 4; (with_reducible refine (HCx.out).mono ?_); rintro e y4 ⟨rfl, hb⟩; have HX := Lib.hid (bthen hHeld hb); clear hb HCx))
          refine hK.out _ _ (by (try dsimp only); exact HX.out) (fun hHeld => ?_)
          clear hK K
          refine take_at (i := 11) (v := ?_) rfl rfl (by kernel_rfl) (by kernel_rfl) (by kernel_rfl) (fun _ _ _ h => h) (Or.inl ⟨by rfl, ?_⟩) (by assumption) ?_
          rotate_left
          · intro w0 hSw; (try dsimp only at hSw); first | (go_simp; done) | (go_simp; with_reducible rfl)
          simp only [List.setIfInBounds_toArray, List.set_cons_zero, List.set_cons_succ]
          refine wpAnyH_ready (rs := [12]) (by kernel_rfl) (by simp) ?_
          refine AllReadyH.cons rfl (fun K hK => ?_) ?_
          · have HCx := Lib.hid HAW.out
            go_simp
            go_wp2_with ((go_at_call 6; (with_reducible refine (HCx.out _).mono ?_); rintro e y5 ⟨rfl, hb⟩; have HX := Lib.hid (bthen hHeld hb); clear hb HCx))
            refine hK.out _ _ (by (try dsimp only); exact HX.out) (fun hHeld => ?_)
            clear hK K
            refine take_at (i := 13) (v := ?_) rfl rfl (by kernel_rfl) (by kernel_rfl) (by kernel_rfl) (fun _ _ _ h => h) (Or.inl ⟨by rfl, ?_⟩) (by assumption) ?_
            rotate_left
            · intro w0 hSw; (try dsimp only at hSw); first | (go_simp; done) | (go_simp; with_reducible rfl)
            simp only [List.setIfInBounds_toArray, List.set_cons_zero, List.set_cons_succ]
            refine take_at (i := 14) (v := ?_) rfl rfl (by kernel_rfl) (by kernel_rfl) (by kernel_rfl) (fun _ _ _ h => h) (Or.inl ⟨by rfl, ?_⟩) (by assumption) ?_
            rotate_left
            · intro w0 hSw; (try dsimp only at hSw); first | (go_simp; done) | (go_simp; with_reducible rfl)
            simp only [List.setIfInBounds_toArray, List.set_cons_zero, List.set_cons_succ]
            refine wpAnyH_done (by kernel_rfl) ?_ _
            clear hHeld
            have HFIN := Lib.hid (bthen HB2.out HX.out)
            go_wp2_with fail
            go_ret
            exact ⟨rfl, HFIN.out⟩
          exact AllReadyH.nil
        exact AllReadyH.nil
      exact AllReadyH.nil
    exact AllReadyH.nil
  refine AllReadyH.cons rfl (fun K hK => ?_) ?_
  · refine step_two14 (d := 20) (y := c.client) (z := c.peer) rfl (by rfl) rfl (by rfl) (by rfl) ?_
    intro p y1 hp hh hb
    have DP := Lib.hid hh
    have HX := Lib.hid (bthen hHeld hb)
    clear hp hh hb
    refine hK.out _ _ (by (try dsimp only); exact HX.out) (fun hHeld => ?_)
    clear hK K
    refine take_at (i := 7) rfl rfl (by kernel_rfl) (by kernel_rfl) (by kernel_rfl) (fun _ _ _ h => h) (yields_build10 (by rfl) rfl (vs := [(0, .slice (some ⟨p, 0, none⟩) 2 2)]) (by rfl) (build_way_keys _ _ _ [c.client, c.peer])) (by assumption) ?_
    simp only [List.setIfInBounds_toArray, List.set_cons_zero, List.set_cons_succ]
    refine wpAnyH_ready (rs := [1, 8]) (by kernel_rfl) (by simp) ?_
    refine AllReadyH.cons rfl (fun K hK => ?_) ?_
    · have HCx := Lib.hid HFD.out
      go_simp
      go_wp2_with ((go_at_call 5; (with_reducible refine (HCx.out _).mono ?_); rintro e y2 ⟨fa, fb, rfl, hw, hb⟩; have DP := Lib.hid (keep hb DP.out); have DW := Lib.hid hw; have HX := Lib.hid (bthen hHeld hb); clear hw hb HCx))
      refine hK.out _ _ (by (try dsimp only); exact HX.out) (fun hHeld => ?_)
      clear hK K
      refine wpAnyH_ready (rs := [8]) (by kernel_rfl) (by simp) ?_
      refine AllReadyH.cons rfl (fun K hK => ?_) ?_
      · refine step_lits Try.wayAt14 (d := 22) rfl (by rfl) rfl [bothW (some ⟨p, 0, none⟩) c.client c.peer] rfl (by decide) (by decide) (by intro x hx; simp at hx; subst hx; exact PWay.cells_len zero32_len) (by rfl) ?_
        intro q y3 hp hh hb
        have DP := Lib.hid (keep hb DP.out)
        have DW := Lib.hid (DW.out.below hb)
        have DQ := Lib.hid hh
        have HX := Lib.hid (bthen hHeld hb)
        clear hp hh hb
        refine hK.out _ _ (by (try dsimp only); exact HX.out) (fun hHeld => ?_)
        clear hK K
        refine take_at (i := 9) rfl rfl (by kernel_rfl) (by kernel_rfl) (by kernel_rfl) (fun _ _ _ h => h) (yields_build10 (by rfl) rfl (vs := [(0, .int .i64 c.cap), (1, .slice (some ⟨q, 0, none⟩) 1 1)]) (by rfl) (build_fund14 c.cap c.client c.peer p q)) (by assumption) ?_
        simp only [List.setIfInBounds_toArray, List.set_cons_zero, List.set_cons_succ]
        refine wpAnyH_ready (rs := [10]) (by kernel_rfl) (by simp) ?_
        refine AllReadyH.cons rfl (fun K hK => ?_) ?_
        · have hsm := sameOut_any (x := fundO fa fb c.cap c.client c.peer) (y := fundO (some ⟨p, 0, none⟩) (some ⟨q, 0, none⟩) c.cap c.client c.peer) ⟨HC.out.cap, DW.out⟩ ⟨HC.out.cap, ways_both DP.out DQ.out HC.out.client HC.out.peer⟩
          rw [show alikeO (fundO fa fb c.cap c.client c.peer) (fundO (some ⟨p, 0, none⟩) (some ⟨q, 0, none⟩) c.cap c.client c.peer) = true by simp [alikeO, fundO, bothW, alikeWs, alikeW]] at hsm
          have HCx := Lib.hid hsm
          clear hsm
          go_simp
          go_wp2_with ((go_at_call 4; (with_reducible refine (HCx.out).mono ?_); rintro e y4 ⟨rfl, hb⟩; have HX := Lib.hid (bthen hHeld hb); clear hb HCx))
          refine hK.out _ _ (by (try dsimp only); exact HX.out) (fun hHeld => ?_)
          clear hK K
          refine take_at (i := 11) (v := ?_) rfl rfl (by kernel_rfl) (by kernel_rfl) (by kernel_rfl) (fun _ _ _ h => h) (Or.inl ⟨by rfl, ?_⟩) (by assumption) ?_
          rotate_left
          · intro w0 hSw; (try dsimp only at hSw); first | (go_simp; done) | (go_simp; with_reducible rfl)
          simp only [List.setIfInBounds_toArray, List.set_cons_zero, List.set_cons_succ]
          refine wpAnyH_ready (rs := [12]) (by kernel_rfl) (by simp) ?_
          refine AllReadyH.cons rfl (fun K hK => ?_) ?_
          · have HCx := Lib.hid HAW.out
            go_simp
            go_wp2_with ((go_at_call 6; (with_reducible refine (HCx.out _).mono ?_); rintro e y5 ⟨rfl, hb⟩; have HX := Lib.hid (bthen hHeld hb); clear hb HCx))
            refine hK.out _ _ (by (try dsimp only); exact HX.out) (fun hHeld => ?_)
            clear hK K
            refine take_at (i := 13) (v := ?_) rfl rfl (by kernel_rfl) (by kernel_rfl) (by kernel_rfl) (fun _ _ _ h => h) (Or.inl ⟨by rfl, ?_⟩) (by assumption) ?_
            rotate_left
            · intro w0 hSw; (try dsimp only at hSw); first | (go_simp; done) | (go_simp; with_reducible rfl)
            simp only [List.setIfInBounds_toArray, List.set_cons_zero, List.set_cons_succ]
            refine take_at (i := 14) (v := ?_) rfl rfl (by kernel_rfl) (by kernel_rfl) (by kernel_rfl) (fun _ _ _ h => h) (Or.inl ⟨by rfl, ?_⟩) (by assumption) ?_
            rotate_left
            · intro w0 hSw; (try dsimp only at hSw); first | (go_simp; done) | (go_simp; with_reducible rfl)
            simp only [List.setIfInBounds_toArray, List.set_cons_zero, List.set_cons_succ]
            refine wpAnyH_done (by kernel_rfl) ?_ _
            clear hHeld
            have HFIN := Lib.hid (bthen HB2.out HX.out)
            go_wp2_with fail
            go_ret
            exact ⟨rfl, HFIN.out⟩
          exact AllReadyH.nil
        exact AllReadyH.nil
      exact AllReadyH.nil
    refine AllReadyH.cons rfl (fun K hK => ?_) ?_
    · refine step_lits Try.wayAt14 (d := 22) rfl (by rfl) rfl [bothW (some ⟨p, 0, none⟩) c.client c.peer] rfl (by decide) (by decide) (by intro x hx; simp at hx; subst hx; exact PWay.cells_len zero32_len) (by rfl) ?_
      intro q y2 hp hh hb
      have DP := Lib.hid (keep hb DP.out)
      have DQ := Lib.hid hh
      have HX := Lib.hid (bthen hHeld hb)
      clear hp hh hb
      refine hK.out _ _ (by (try dsimp only); exact HX.out) (fun hHeld => ?_)
      clear hK K
      refine take_at (i := 9) rfl rfl (by kernel_rfl) (by kernel_rfl) (by kernel_rfl) (fun _ _ _ h => h) (yields_build10 (by rfl) rfl (vs := [(0, .int .i64 c.cap), (1, .slice (some ⟨q, 0, none⟩) 1 1)]) (by rfl) (build_fund14 c.cap c.client c.peer p q)) (by assumption) ?_
      simp only [List.setIfInBounds_toArray, List.set_cons_zero, List.set_cons_succ]
      refine wpAnyH_ready (rs := [1]) (by kernel_rfl) (by simp) ?_
      refine AllReadyH.cons rfl (fun K hK => ?_) ?_
      · have HCx := Lib.hid HFD.out
        go_simp
        go_wp2_with ((go_at_call 5; (with_reducible refine (HCx.out _).mono ?_); rintro e y3 ⟨fa, fb, rfl, hw, hb⟩; have DP := Lib.hid (keep hb DP.out); have DQ := Lib.hid (keep hb DQ.out); have DW := Lib.hid hw; have HX := Lib.hid (bthen hHeld hb); clear hw hb HCx))
        refine hK.out _ _ (by (try dsimp only); exact HX.out) (fun hHeld => ?_)
        clear hK K
        refine wpAnyH_ready (rs := [10]) (by kernel_rfl) (by simp) ?_
        refine AllReadyH.cons rfl (fun K hK => ?_) ?_
        · have hsm := sameOut_any (x := fundO fa fb c.cap c.client c.peer) (y := fundO (some ⟨p, 0, none⟩) (some ⟨q, 0, none⟩) c.cap c.client c.peer) ⟨HC.out.cap, DW.out⟩ ⟨HC.out.cap, ways_both DP.out DQ.out HC.out.client HC.out.peer⟩
          rw [show alikeO (fundO fa fb c.cap c.client c.peer) (fundO (some ⟨p, 0, none⟩) (some ⟨q, 0, none⟩) c.cap c.client c.peer) = true by simp [alikeO, fundO, bothW, alikeWs, alikeW]] at hsm
          have HCx := Lib.hid hsm
          clear hsm
          go_simp
          go_wp2_with ((go_at_call 4; (with_reducible refine (HCx.out).mono ?_); rintro e y4 ⟨rfl, hb⟩; have HX := Lib.hid (bthen hHeld hb); clear hb HCx))
          refine hK.out _ _ (by (try dsimp only); exact HX.out) (fun hHeld => ?_)
          clear hK K
          refine take_at (i := 11) (v := ?_) rfl rfl (by kernel_rfl) (by kernel_rfl) (by kernel_rfl) (fun _ _ _ h => h) (Or.inl ⟨by rfl, ?_⟩) (by assumption) ?_
          rotate_left
          · intro w0 hSw; (try dsimp only at hSw); first | (go_simp; done) | (go_simp; with_reducible rfl)
          simp only [List.setIfInBounds_toArray, List.set_cons_zero, List.set_cons_succ]
          refine wpAnyH_ready (rs := [12]) (by kernel_rfl) (by simp) ?_
          refine AllReadyH.cons rfl (fun K hK => ?_) ?_
          · have HCx := Lib.hid HAW.out
            go_simp
            go_wp2_with ((go_at_call 6; (with_reducible refine (HCx.out _).mono ?_); rintro e y5 ⟨rfl, hb⟩; have HX := Lib.hid (bthen hHeld hb); clear hb HCx))
            refine hK.out _ _ (by (try dsimp only); exact HX.out) (fun hHeld => ?_)
            clear hK K
            refine take_at (i := 13) (v := ?_) rfl rfl (by kernel_rfl) (by kernel_rfl) (by kernel_rfl) (fun _ _ _ h => h) (Or.inl ⟨by rfl, ?_⟩) (by assumption) ?_
            rotate_left
            · intro w0 hSw; (try dsimp only at hSw); first | (go_simp; done) | (go_simp; with_reducible rfl)
            simp only [List.setIfInBounds_toArray, List.set_cons_zero, List.set_cons_succ]
            refine take_at (i := 14) (v := ?_) rfl rfl (by kernel_rfl) (by kernel_rfl) (by kernel_rfl) (fun _ _ _ h => h) (Or.inl ⟨by rfl, ?_⟩) (by assumption) ?_
            rotate_left
            · intro w0 hSw; (try dsimp only at hSw); first | (go_simp; done) | (go_simp; with_reducible rfl)
            simp only [List.setIfInBounds_toArray, List.set_cons_zero, List.set_cons_succ]
            refine wpAnyH_done (by kernel_rfl) ?_ _
            clear hHeld
            have HFIN := Lib.hid (bthen HB2.out HX.out)
            go_wp2_with fail
            go_ret
            exact ⟨rfl, HFIN.out⟩
          exact AllReadyH.nil
        exact AllReadyH.nil
      exact AllReadyH.nil
    exact AllReadyH.nil
  exact AllReadyH.nil
set_option linter.unusedSimpArgs false in
set_option maxRecDepth 100000 in
set_option maxHeartbeats 6400000 in
theorem funds14_high {w : World} {c : PChan} (hc : ChanIn c) (hle : c.peer < c.client) :
    Calls Try.prog 3 #[.agg c.cells.toArray] w fun e w' => e = .returned (.bool true) ∧ Below w.heap.size w w' := by
  have HFD := Lib.hid (fun (W : World) => fund14_high (w := W) hc hle)
  have HAW := Lib.hid (fun (W : World) => awake14_any W)
  have HC := Lib.hid hc
  have SZCl := Lib.hid (chan_size hc.ftx)
  clear hc
  go_enter Try.func3, Try.ntmps3
  go_upto_region 1 with (fail)
  have b1 : Below w.heap.size w (w.alloc (.cells c.cells.toArray 27)) := (Below.refl _ _).alloc (Nat.le_refl _) _
  have h1 := heap_alloc_new w (.cells c.cells.toArray 27)
  revert b1 h1
  generalize (w.alloc (.cells c.cells.toArray 27)) = w1
  obtain ⟨g, hg⟩ : ∃ g, g = w.heap.size := ⟨_, rfl⟩
  rw [← hg]
  intro b1 h1
  rw [hg] at b1
  have HB := Lib.hid b1
  have HB1 := Lib.hid HB.out
  have H1 := Lib.hid h1
  clear h1 b1 hg HB
  refine wp_region_held_drew (S := fun w' => Below w1.heap.size w1 w') (by kernel_rfl) (below_drew (Below.refl _ _)) (fun hHeld => ?_)
  refine take_at (i := 0) (v := ?_) rfl rfl (by kernel_rfl) (by kernel_rfl) (by kernel_rfl) (fun _ _ _ h => h) (Or.inl ⟨by rfl, ?_⟩) (by assumption) ?_
  rotate_left
  · intro w0 hSw; (try dsimp only at hSw); first | (go_simp; done) | (go_simp; with_reducible rfl)
  simp only [List.setIfInBounds_toArray, List.set_cons_zero, List.set_cons_succ]
  refine take_at (i := 1) rfl rfl (by kernel_rfl) (by kernel_rfl) (by kernel_rfl) (fun _ _ _ h => h) (yields_cell (b := g) (o := 1) (by rfl) rfl rfl (fun w0 hSw => by have h9 := (chan_at HC.out.ftx (range_of (keep hSw H1.out))).client; rw [Nat.zero_add] at h9; exact h9) (fun w0 => Try.isAgg3 w0)) (by assumption) ?_
  simp only [List.setIfInBounds_toArray, List.set_cons_zero, List.set_cons_succ]
  refine take_at (i := 2) (v := ?_) rfl rfl (by kernel_rfl) (by kernel_rfl) (by kernel_rfl) (fun _ _ _ h => h) (Or.inl ⟨by rfl, ?_⟩) (by assumption) ?_
  rotate_left
  · intro w0 hSw; (try dsimp only at hSw); first | (go_simp; done) | (go_simp; with_reducible rfl)
  simp only [List.setIfInBounds_toArray, List.set_cons_zero, List.set_cons_succ]
  refine take_at (i := 3) rfl rfl (by kernel_rfl) (by kernel_rfl) (by kernel_rfl) (fun _ _ _ h => h) (yields_cell (b := g) (o := 2) (by rfl) rfl rfl (fun w0 hSw => by have h9 := (chan_at HC.out.ftx (range_of (keep hSw H1.out))).peer; rw [Nat.zero_add] at h9; exact h9) (fun w0 => Try.isAgg3 w0)) (by assumption) ?_
  simp only [List.setIfInBounds_toArray, List.set_cons_zero, List.set_cons_succ]
  refine take_at (i := 4) (v := ?_) rfl rfl (by kernel_rfl) (by kernel_rfl) (by kernel_rfl) (fun _ _ _ h => h) (Or.inl ⟨by rfl, ?_⟩) (by assumption) ?_
  rotate_left
  · intro w0 hSw; (try dsimp only at hSw); first | (go_simp; done) | (go_simp; with_reducible rfl)
  simp only [List.setIfInBounds_toArray, List.set_cons_zero, List.set_cons_succ]
  refine take_at (i := 5) (v := ?_) rfl rfl (by kernel_rfl) (by kernel_rfl) (by kernel_rfl) (fun _ _ _ h => h) (Or.inl ⟨by rfl, ?_⟩) (by assumption) ?_
  rotate_left
  · intro w0 hSw; (try dsimp only at hSw); first | (go_simp; done) | (go_simp; with_reducible rfl)
  simp only [List.setIfInBounds_toArray, List.set_cons_zero, List.set_cons_succ]
  refine wpAnyH_done (by kernel_rfl) ?_ _
  have HB2 := Lib.hid (bthen HB1.out (show Below w1.heap.size w1 w1.drew from hHeld))
  have H2 := Lib.hid (keep (show Below w1.heap.size w1 w1.drew from hHeld) H1.out)
  clear hHeld H1
  revert HB2 H2
  generalize w1.drew = w2
  intro HB2 H2
  have f1 : c.peer < c.client := by omega
  go_upto_region 4 with (fail)
  refine wp_region_held_drew (S := fun w' => Below w2.heap.size w2 w') (by kernel_rfl) (below_drew (Below.refl _ _)) (fun hHeld => ?_)
  refine take_at (i := 0) rfl rfl (by kernel_rfl) (by kernel_rfl) (by kernel_rfl) (fun _ _ _ h => h) (yieldsIf_load_mid (by rfl) _ _ rfl g 0 rfl c.cells _ (fun w0 hSw => range_of (keep hSw H2.out)) Try.underlying27 rfl SZCl.out) (by assumption) ?_
  simp only [List.setIfInBounds_toArray, List.set_cons_zero, List.set_cons_succ]
  refine take_at (i := 2) (v := ?_) rfl rfl (by kernel_rfl) (by kernel_rfl) (by kernel_rfl) (fun _ _ _ h => h) (Or.inl ⟨by rfl, ?_⟩) (by assumption) ?_
  rotate_left
  · intro w0 hSw; (try dsimp only at hSw); first | (go_simp; done) | (go_simp; with_reducible rfl)
  simp only [List.setIfInBounds_toArray, List.set_cons_zero, List.set_cons_succ]
  refine take_at (i := 3) rfl rfl (by kernel_rfl) (by kernel_rfl) (by kernel_rfl) (fun _ _ _ h => h) (yields_cell (b := g) (o := 36) (by rfl) rfl rfl (fun w0 hSw => by have h9 := (chan_at HC.out.ftx (range_of (keep hSw H2.out))).cap; rw [Nat.zero_add] at h9; exact h9) (fun w0 => Try.isAgg2 w0)) (by assumption) ?_
  simp only [List.setIfInBounds_toArray, List.set_cons_zero, List.set_cons_succ]
  refine take_at (i := 4) (v := ?_) rfl rfl (by kernel_rfl) (by kernel_rfl) (by kernel_rfl) (fun _ _ _ h => h) (Or.inl ⟨by rfl, ?_⟩) (by assumption) ?_
  rotate_left
  · intro w0 hSw; (try dsimp only at hSw); first | (go_simp; done) | (go_simp; with_reducible rfl)
  simp only [List.setIfInBounds_toArray, List.set_cons_zero, List.set_cons_succ]
  refine take_at (i := 5) (v := ?_) rfl rfl (by kernel_rfl) (by kernel_rfl) (by kernel_rfl) (fun _ _ _ h => h) (Or.inl ⟨by rfl, ?_⟩) (by assumption) ?_
  rotate_left
  · intro w0 hSw; (try dsimp only at hSw); first | (go_simp; done) | (go_simp; with_reducible rfl)
  simp only [List.setIfInBounds_toArray, List.set_cons_zero, List.set_cons_succ]
  refine wpAnyH_ready (rs := [1, 6]) (by kernel_rfl) (by simp) ?_
  refine AllReadyH.cons rfl (fun K hK => ?_) ?_
  · have HCx := Lib.hid HFD.out
    go_simp
    go_wp2_with ((go_at_call 5; (with_reducible refine (HCx.out _).mono ?_); rintro e y1 ⟨fa, fb, rfl, hw, hb⟩; have DW := Lib.hid hw; have HX := Lib.hid (bthen hHeld hb); clear hw hb HCx))
    refine hK.out _ _ (by (try dsimp only); exact HX.out) (fun hHeld => ?_)
    clear hK K
    refine wpAnyH_ready (rs := [6]) (by kernel_rfl) (by simp) ?_
    refine AllReadyH.cons rfl (fun K hK => ?_) ?_
    · refine step_two14 (d := 20) (y := c.peer) (z := c.client) rfl (by rfl) rfl (by rfl) (by rfl) ?_
      intro p y2 hp hh hb
      have DW := Lib.hid (DW.out.below hb)
      have DP := Lib.hid hh
      have HX := Lib.hid (bthen hHeld hb)
      clear hp hh hb
      refine hK.out _ _ (by (try dsimp only); exact HX.out) (fun hHeld => ?_)
      clear hK K
      refine take_at (i := 7) rfl rfl (by kernel_rfl) (by kernel_rfl) (by kernel_rfl) (fun _ _ _ h => h) (yields_build10 (by rfl) rfl (vs := [(0, .slice (some ⟨p, 0, none⟩) 2 2)]) (by rfl) (build_way_keys _ _ _ [c.peer, c.client])) (by assumption) ?_
      simp only [List.setIfInBounds_toArray, List.set_cons_zero, List.set_cons_succ]
      refine wpAnyH_ready (rs := [8]) (by kernel_rfl) (by simp) ?_
      refine AllReadyH.cons rfl (fun K hK => ?_) ?_
      · refine step_lits Try.wayAt14 (d := 22) rfl (by rfl) rfl [bothW (some ⟨p, 0, none⟩) c.peer c.client] rfl (by decide) (by decide) (by intro x hx; simp at hx; subst hx; exact PWay.cells_len zero32_len) (by rfl) ?_
        intro q y3 hp hh hb
        have DW := Lib.hid (DW.out.below hb)
        have DP := Lib.hid (keep hb DP.out)
        have DQ := Lib.hid hh
        have HX := Lib.hid (bthen hHeld hb)
        clear hp hh hb
        refine hK.out _ _ (by (try dsimp only); exact HX.out) (fun hHeld => ?_)
        clear hK K
        refine take_at (i := 9) rfl rfl (by kernel_rfl) (by kernel_rfl) (by kernel_rfl) (fun _ _ _ h => h) (yields_build10 (by rfl) rfl (vs := [(0, .int .i64 c.cap), (1, .slice (some ⟨q, 0, none⟩) 1 1)]) (by rfl) (build_fund14 c.cap c.peer c.client p q)) (by assumption) ?_
        simp only [List.setIfInBounds_toArray, List.set_cons_zero, List.set_cons_succ]
        refine wpAnyH_ready (rs := [10]) (by kernel_rfl) (by simp) ?_
        refine AllReadyH.cons rfl (fun K hK => ?_) ?_
        · have hsm := sameOut_any (x := fundO fa fb c.cap c.peer c.client) (y := fundO (some ⟨p, 0, none⟩) (some ⟨q, 0, none⟩) c.cap c.peer c.client) ⟨HC.out.cap, DW.out⟩ ⟨HC.out.cap, ways_both DP.out DQ.out HC.out.peer HC.out.client⟩
          rw [show alikeO (fundO fa fb c.cap c.peer c.client) (fundO (some ⟨p, 0, none⟩) (some ⟨q, 0, none⟩) c.cap c.peer c.client) = true by simp [alikeO, fundO, bothW, alikeWs, alikeW]] at hsm
          have HCx := Lib.hid hsm
          clear hsm
          go_simp
          go_wp2_with ((go_at_call 4; (with_reducible refine (HCx.out).mono ?_); rintro e y4 ⟨rfl, hb⟩; have HX := Lib.hid (bthen hHeld hb); clear hb HCx))
          refine hK.out _ _ (by (try dsimp only); exact HX.out) (fun hHeld => ?_)
          clear hK K
          refine take_at (i := 11) (v := ?_) rfl rfl (by kernel_rfl) (by kernel_rfl) (by kernel_rfl) (fun _ _ _ h => h) (Or.inl ⟨by rfl, ?_⟩) (by assumption) ?_
          rotate_left
          · intro w0 hSw; (try dsimp only at hSw); first | (go_simp; done) | (go_simp; with_reducible rfl)
          simp only [List.setIfInBounds_toArray, List.set_cons_zero, List.set_cons_succ]
          refine wpAnyH_ready (rs := [12]) (by kernel_rfl) (by simp) ?_
          refine AllReadyH.cons rfl (fun K hK => ?_) ?_
          · have HCx := Lib.hid HAW.out
            go_simp
            go_wp2_with ((go_at_call 6; (with_reducible refine (HCx.out _).mono ?_); rintro e y5 ⟨rfl, hb⟩; have HX := Lib.hid (bthen hHeld hb); clear hb HCx))
            refine hK.out _ _ (by (try dsimp only); exact HX.out) (fun hHeld => ?_)
            clear hK K
            refine take_at (i := 13) (v := ?_) rfl rfl (by kernel_rfl) (by kernel_rfl) (by kernel_rfl) (fun _ _ _ h => h) (Or.inl ⟨by rfl, ?_⟩) (by assumption) ?_
            rotate_left
            · intro w0 hSw; (try dsimp only at hSw); first | (go_simp; done) | (go_simp; with_reducible rfl)
            simp only [List.setIfInBounds_toArray, List.set_cons_zero, List.set_cons_succ]
            refine take_at (i := 14) (v := ?_) rfl rfl (by kernel_rfl) (by kernel_rfl) (by kernel_rfl) (fun _ _ _ h => h) (Or.inl ⟨by rfl, ?_⟩) (by assumption) ?_
            rotate_left
            · intro w0 hSw; (try dsimp only at hSw); first | (go_simp; done) | (go_simp; with_reducible rfl)
            simp only [List.setIfInBounds_toArray, List.set_cons_zero, List.set_cons_succ]
            refine wpAnyH_done (by kernel_rfl) ?_ _
            clear hHeld
            have HFIN := Lib.hid (bthen HB2.out HX.out)
            go_wp2_with fail
            go_ret
            exact ⟨rfl, HFIN.out⟩
          exact AllReadyH.nil
        exact AllReadyH.nil
      exact AllReadyH.nil
    exact AllReadyH.nil
  refine AllReadyH.cons rfl (fun K hK => ?_) ?_
  · refine step_two14 (d := 20) (y := c.peer) (z := c.client) rfl (by rfl) rfl (by rfl) (by rfl) ?_
    intro p y1 hp hh hb
    have DP := Lib.hid hh
    have HX := Lib.hid (bthen hHeld hb)
    clear hp hh hb
    refine hK.out _ _ (by (try dsimp only); exact HX.out) (fun hHeld => ?_)
    clear hK K
    refine take_at (i := 7) rfl rfl (by kernel_rfl) (by kernel_rfl) (by kernel_rfl) (fun _ _ _ h => h) (yields_build10 (by rfl) rfl (vs := [(0, .slice (some ⟨p, 0, none⟩) 2 2)]) (by rfl) (build_way_keys _ _ _ [c.peer, c.client])) (by assumption) ?_
    simp only [List.setIfInBounds_toArray, List.set_cons_zero, List.set_cons_succ]
    refine wpAnyH_ready (rs := [1, 8]) (by kernel_rfl) (by simp) ?_
    refine AllReadyH.cons rfl (fun K hK => ?_) ?_
    · have HCx := Lib.hid HFD.out
      go_simp
      go_wp2_with ((go_at_call 5; (with_reducible refine (HCx.out _).mono ?_); rintro e y2 ⟨fa, fb, rfl, hw, hb⟩; have DP := Lib.hid (keep hb DP.out); have DW := Lib.hid hw; have HX := Lib.hid (bthen hHeld hb); clear hw hb HCx))
      refine hK.out _ _ (by (try dsimp only); exact HX.out) (fun hHeld => ?_)
      clear hK K
      refine wpAnyH_ready (rs := [8]) (by kernel_rfl) (by simp) ?_
      refine AllReadyH.cons rfl (fun K hK => ?_) ?_
      · refine step_lits Try.wayAt14 (d := 22) rfl (by rfl) rfl [bothW (some ⟨p, 0, none⟩) c.peer c.client] rfl (by decide) (by decide) (by intro x hx; simp at hx; subst hx; exact PWay.cells_len zero32_len) (by rfl) ?_
        intro q y3 hp hh hb
        have DP := Lib.hid (keep hb DP.out)
        have DW := Lib.hid (DW.out.below hb)
        have DQ := Lib.hid hh
        have HX := Lib.hid (bthen hHeld hb)
        clear hp hh hb
        refine hK.out _ _ (by (try dsimp only); exact HX.out) (fun hHeld => ?_)
        clear hK K
        refine take_at (i := 9) rfl rfl (by kernel_rfl) (by kernel_rfl) (by kernel_rfl) (fun _ _ _ h => h) (yields_build10 (by rfl) rfl (vs := [(0, .int .i64 c.cap), (1, .slice (some ⟨q, 0, none⟩) 1 1)]) (by rfl) (build_fund14 c.cap c.peer c.client p q)) (by assumption) ?_
        simp only [List.setIfInBounds_toArray, List.set_cons_zero, List.set_cons_succ]
        refine wpAnyH_ready (rs := [10]) (by kernel_rfl) (by simp) ?_
        refine AllReadyH.cons rfl (fun K hK => ?_) ?_
        · have hsm := sameOut_any (x := fundO fa fb c.cap c.peer c.client) (y := fundO (some ⟨p, 0, none⟩) (some ⟨q, 0, none⟩) c.cap c.peer c.client) ⟨HC.out.cap, DW.out⟩ ⟨HC.out.cap, ways_both DP.out DQ.out HC.out.peer HC.out.client⟩
          rw [show alikeO (fundO fa fb c.cap c.peer c.client) (fundO (some ⟨p, 0, none⟩) (some ⟨q, 0, none⟩) c.cap c.peer c.client) = true by simp [alikeO, fundO, bothW, alikeWs, alikeW]] at hsm
          have HCx := Lib.hid hsm
          clear hsm
          go_simp
          go_wp2_with ((go_at_call 4; (with_reducible refine (HCx.out).mono ?_); rintro e y4 ⟨rfl, hb⟩; have HX := Lib.hid (bthen hHeld hb); clear hb HCx))
          refine hK.out _ _ (by (try dsimp only); exact HX.out) (fun hHeld => ?_)
          clear hK K
          refine take_at (i := 11) (v := ?_) rfl rfl (by kernel_rfl) (by kernel_rfl) (by kernel_rfl) (fun _ _ _ h => h) (Or.inl ⟨by rfl, ?_⟩) (by assumption) ?_
          rotate_left
          · intro w0 hSw; (try dsimp only at hSw); first | (go_simp; done) | (go_simp; with_reducible rfl)
          simp only [List.setIfInBounds_toArray, List.set_cons_zero, List.set_cons_succ]
          refine wpAnyH_ready (rs := [12]) (by kernel_rfl) (by simp) ?_
          refine AllReadyH.cons rfl (fun K hK => ?_) ?_
          · have HCx := Lib.hid HAW.out
            go_simp
            go_wp2_with ((go_at_call 6; (with_reducible refine (HCx.out _).mono ?_); rintro e y5 ⟨rfl, hb⟩; have HX := Lib.hid (bthen hHeld hb); clear hb HCx))
            refine hK.out _ _ (by (try dsimp only); exact HX.out) (fun hHeld => ?_)
            clear hK K
            refine take_at (i := 13) (v := ?_) rfl rfl (by kernel_rfl) (by kernel_rfl) (by kernel_rfl) (fun _ _ _ h => h) (Or.inl ⟨by rfl, ?_⟩) (by assumption) ?_
            rotate_left
            · intro w0 hSw; (try dsimp only at hSw); first | (go_simp; done) | (go_simp; with_reducible rfl)
            simp only [List.setIfInBounds_toArray, List.set_cons_zero, List.set_cons_succ]
            refine take_at (i := 14) (v := ?_) rfl rfl (by kernel_rfl) (by kernel_rfl) (by kernel_rfl) (fun _ _ _ h => h) (Or.inl ⟨by rfl, ?_⟩) (by assumption) ?_
            rotate_left
            · intro w0 hSw; (try dsimp only at hSw); first | (go_simp; done) | (go_simp; with_reducible rfl)
            simp only [List.setIfInBounds_toArray, List.set_cons_zero, List.set_cons_succ]
            refine wpAnyH_done (by kernel_rfl) ?_ _
            clear hHeld
            have HFIN := Lib.hid (bthen HB2.out HX.out)
            go_wp2_with fail
            go_ret
            exact ⟨rfl, HFIN.out⟩
          exact AllReadyH.nil
        exact AllReadyH.nil
      exact AllReadyH.nil
    refine AllReadyH.cons rfl (fun K hK => ?_) ?_
    · refine step_lits Try.wayAt14 (d := 22) rfl (by rfl) rfl [bothW (some ⟨p, 0, none⟩) c.peer c.client] rfl (by decide) (by decide) (by intro x hx; simp at hx; subst hx; exact PWay.cells_len zero32_len) (by rfl) ?_
      intro q y2 hp hh hb
      have DP := Lib.hid (keep hb DP.out)
      have DQ := Lib.hid hh
      have HX := Lib.hid (bthen hHeld hb)
      clear hp hh hb
      refine hK.out _ _ (by (try dsimp only); exact HX.out) (fun hHeld => ?_)
      clear hK K
      refine take_at (i := 9) rfl rfl (by kernel_rfl) (by kernel_rfl) (by kernel_rfl) (fun _ _ _ h => h) (yields_build10 (by rfl) rfl (vs := [(0, .int .i64 c.cap), (1, .slice (some ⟨q, 0, none⟩) 1 1)]) (by rfl) (build_fund14 c.cap c.peer c.client p q)) (by assumption) ?_
      simp only [List.setIfInBounds_toArray, List.set_cons_zero, List.set_cons_succ]
      refine wpAnyH_ready (rs := [1]) (by kernel_rfl) (by simp) ?_
      refine AllReadyH.cons rfl (fun K hK => ?_) ?_
      · have HCx := Lib.hid HFD.out
        go_simp
        go_wp2_with ((go_at_call 5; (with_reducible refine (HCx.out _).mono ?_); rintro e y3 ⟨fa, fb, rfl, hw, hb⟩; have DP := Lib.hid (keep hb DP.out); have DQ := Lib.hid (keep hb DQ.out); have DW := Lib.hid hw; have HX := Lib.hid (bthen hHeld hb); clear hw hb HCx))
        refine hK.out _ _ (by (try dsimp only); exact HX.out) (fun hHeld => ?_)
        clear hK K
        refine wpAnyH_ready (rs := [10]) (by kernel_rfl) (by simp) ?_
        refine AllReadyH.cons rfl (fun K hK => ?_) ?_
        · have hsm := sameOut_any (x := fundO fa fb c.cap c.peer c.client) (y := fundO (some ⟨p, 0, none⟩) (some ⟨q, 0, none⟩) c.cap c.peer c.client) ⟨HC.out.cap, DW.out⟩ ⟨HC.out.cap, ways_both DP.out DQ.out HC.out.peer HC.out.client⟩
          rw [show alikeO (fundO fa fb c.cap c.peer c.client) (fundO (some ⟨p, 0, none⟩) (some ⟨q, 0, none⟩) c.cap c.peer c.client) = true by simp [alikeO, fundO, bothW, alikeWs, alikeW]] at hsm
          have HCx := Lib.hid hsm
          clear hsm
          go_simp
          go_wp2_with ((go_at_call 4; (with_reducible refine (HCx.out).mono ?_); rintro e y4 ⟨rfl, hb⟩; have HX := Lib.hid (bthen hHeld hb); clear hb HCx))
          refine hK.out _ _ (by (try dsimp only); exact HX.out) (fun hHeld => ?_)
          clear hK K
          refine take_at (i := 11) (v := ?_) rfl rfl (by kernel_rfl) (by kernel_rfl) (by kernel_rfl) (fun _ _ _ h => h) (Or.inl ⟨by rfl, ?_⟩) (by assumption) ?_
          rotate_left
          · intro w0 hSw; (try dsimp only at hSw); first | (go_simp; done) | (go_simp; with_reducible rfl)
          simp only [List.setIfInBounds_toArray, List.set_cons_zero, List.set_cons_succ]
          refine wpAnyH_ready (rs := [12]) (by kernel_rfl) (by simp) ?_
          refine AllReadyH.cons rfl (fun K hK => ?_) ?_
          · have HCx := Lib.hid HAW.out
            go_simp
            go_wp2_with ((go_at_call 6; (with_reducible refine (HCx.out _).mono ?_); rintro e y5 ⟨rfl, hb⟩; have HX := Lib.hid (bthen hHeld hb); clear hb HCx))
            refine hK.out _ _ (by (try dsimp only); exact HX.out) (fun hHeld => ?_)
            clear hK K
            refine take_at (i := 13) (v := ?_) rfl rfl (by kernel_rfl) (by kernel_rfl) (by kernel_rfl) (fun _ _ _ h => h) (Or.inl ⟨by rfl, ?_⟩) (by assumption) ?_
            rotate_left
            · intro w0 hSw; (try dsimp only at hSw); first | (go_simp; done) | (go_simp; with_reducible rfl)
            simp only [List.setIfInBounds_toArray, List.set_cons_zero, List.set_cons_succ]
            refine take_at (i := 14) (v := ?_) rfl rfl (by kernel_rfl) (by kernel_rfl) (by kernel_rfl) (fun _ _ _ h => h) (Or.inl ⟨by rfl, ?_⟩) (by assumption) ?_
            rotate_left
            · intro w0 hSw; (try dsimp only at hSw); first | (go_simp; done) | (go_simp; with_reducible rfl)
            simp only [List.setIfInBounds_toArray, List.set_cons_zero, List.set_cons_succ]
            refine wpAnyH_done (by kernel_rfl) ?_ _
            clear hHeld
            have HFIN := Lib.hid (bthen HB2.out HX.out)
            go_wp2_with fail
            go_ret
            exact ⟨rfl, HFIN.out⟩
          exact AllReadyH.nil
        exact AllReadyH.nil
      exact AllReadyH.nil
    exact AllReadyH.nil
  exact AllReadyH.nil
theorem funds14_walk {w : World} {c : PChan} (hc : ChanIn c) :
    Calls Try.prog 3 #[.agg c.cells.toArray] w fun e w' => e = .returned (.bool true) ∧ Below w.heap.size w w' := by
  by_cases h : c.client ≤ c.peer
  · exact funds14_low hc h
  · exact funds14_high hc (by omega)
end Go.Proofs.Ytkihmhchdenamaa
