/- The outs of a commitment: what the code's otherOf, spendFund, outs come to. -/
import Derived.Test.YtkihmhchdenamaaDoorComLaid
import Derived.Test.YtkihmhchdenamaaDoorLock
import Derived.Test.YtkihmhchdenamaaDoorMemory
namespace Go.Proofs.YtkihmhchdenamaaDoor
open Go.RowKit

theorem step_int14 {ops : Array Oper} {o : Oper} {tmps : Array Value} {ds : List Deferred} {w : World} {K : Act → World → Prop} {Q : Exit → Act → World → Prop} {E : Prop} {d : Nat} {u : Operand} {y : Int} (hd : o.dst = some d) (hw : Region.wanted o (yielded ops tmps) = true) (ho : o.op = .buildSlice 66 1 #[(0, u)])
    (hu : Act.eval { tmps := tmps, defers := ds } u = .int .i64 y)
    (h : ∀ (p : Nat) (w' : World), w.heap.size ≤ p → w'.heap[p]? = some (.cells #[.int .i64 y] 3 (0, 0)) → Below w.heap.size w w' → K { tmps := tmps.setIfInBounds d (.slice (some ⟨p, 0, none⟩) 1 1), defers := ds } w') :
    if Region.wanted o (yielded ops tmps) = true then Oper.wp Tryd.prog o { tmps := tmps, defers := ds } w K Q else E := by
  rw [if_pos hw]
  unfold Oper.wp execOp
  simp only [ho, Sem.run_bind, Sem.run_pure, Result.andThen_ok, List.map_toArray, List.map_cons, List.map_nil, hu, run_int14 y w]
  show K (Act.put _ o.dst _) _
  rw [hd]
  exact h _ _ (Nat.le_refl _) (heap_alloc_new _ _) ((Below.refl _ _).alloc (Nat.le_refl _) _)
theorem Tryd.zeroPair14 : (Tryd.prog.info? 72).map (fun i => (i.zero, i.size, i.bytes)) = some (some (.agg #[.int .i64 0, .int .i64 0]), 2, 16) := by kernel_rfl
theorem build_pair14 (a b : Int) (w : World) : (Instr.build 72 ([(0, (.int .i64 a : Value)), (1, .int .i64 b)] : List (Nat × Value)).toArray).run Tryd.prog w = .ok (.agg #[.int .i64 a, .int .i64 b]) w := by kernel_rfl
theorem otherOf_any (w : World) {z : Int} (hz : z = 0 ∨ z = 1) : Calls Tryd.prog 18 #[.int .i64 z] w fun e w' => e = .returned (.int .i64 (1 - z)) ∧ w = w' := by
  rcases hz with rfl | rfl
  all_goals
    go_enter Tryd.func18, Tryd.ntmps18
    go_wp2
    go_ret
    exact ⟨rfl, rfl⟩
theorem to_at14 (key m : Int) (w : World) : Calls Tryd.prog 11 #[.int .i64 key, .int .i64 m] w fun e w' => ∃ p q : Nat, e = .returned (.agg (POut.cells (herP (some ⟨q, 0, none⟩) (some ⟨p, 0, none⟩) key m)).toArray) ∧ HerAt w.heap.size w' p q key ∧ Below w.heap.size w w' := by
  go_enter Tryd.func11, Tryd.ntmps11
  go_wp2
  refine bodyPost_ret (results_cell_row rfl _ _ w.heap.size 50 #[.int .i64 m, .slice (some ⟨w.heap.size + 1 + 1, 0, none⟩) 1 1] (0, 0) _ rfl (by rw [heap_alloc_old _ _ (by simp; omega), heap_alloc_old _ _ (by simp)]; exact heap_alloc_new _ _) Tryd.underlying50 rfl (by kernel_rfl)) rfl ?_
  refine ⟨w.heap.size + 1, w.heap.size + 1 + 1, rfl, ⟨⟨by omega, ?_⟩, ⟨by omega, ?_⟩⟩, ?_⟩
  · rw [heap_alloc_old _ _ (by simp)]
    exact heap_alloc_at _ _ _ (by simp)
  · exact heap_alloc_at _ _ _ (by simp)
  · exact (((Below.refl _ _).alloc (Nat.le_refl _) _).alloc (by simp) _).alloc (by simp; omega) _
set_option linter.unusedSimpArgs false in
set_option maxRecDepth 100000 in
set_option maxHeartbeats 6400000 in
theorem spendFund_any {w : World} {c : PChan} (hc : ChanIn c) : Calls Tryd.prog 19 #[.agg c.cells.toArray] w fun e w' => ∃ p : Nat, e = .returned (.slice (some ⟨p, 0, none⟩) 1 1) ∧ Laid14 w.heap.size w' p (insO [fundP c]) ∧ Below w.heap.size w w' := by
  have HC := Lib.hid hc
  have SZR : Hid ((Tryd.prog.info? 25).map (·.size) = some (refCells c.ftx c.fat).length) := Lib.hid (refSize hc.ftx)
  clear hc
  go_enter Tryd.func19, Tryd.ntmps19
  go_upto_region 1 with (fail)
  have b1 : Below w.heap.size w (w.alloc (.cells c.cells.toArray 27)) := (Below.refl _ _).alloc (Nat.le_refl _) _
  have h1 := heap_alloc_new w (.cells c.cells.toArray 27)
  revert b1 h1
  generalize (w.alloc (.cells c.cells.toArray 27)) = w1
  obtain ⟨g, hg⟩ : ∃ g, g = w.heap.size := ⟨_, rfl⟩
  rw [← hg]
  intro b1 h1
  rw [hg] at b1
  have HB := Lib.hid b1
  have RF := Lib.hid (chan_at HC.out.ftx (range_of h1)).fund
  clear h1 hg b1
  go_wp2_with (first | (refine wpList_load_mid rfl 25 _ rfl g 3 rfl (refCells c.ftx c.fat) _ RF.out Tryd.underlying25 rfl SZR.out ?_) | (refine wpList_build10 rfl rfl (vs := [(0, .agg (refCells c.ftx c.fat).toArray)]) rfl (build_in14 c.fat HC.out.ftx) ?_; go_frame) | (refine wpList_lits Tryd.inAt14 rfl rfl [fundP c] rfl (by decide) (by decide) (by intro x hx; simp at hx; subst hx; exact PIn.len HC.out.ftx) rfl ?_; intro p w2 hp hh hb; go_frame; have HP := Lib.hid hh; have HN := Lib.hid (Nat.le_trans HB.out.size hp); have HB2 := Lib.hid (bthen HB.out hb); clear hp hh hb) | fail)
  go_ret
  exact ⟨_, rfl, ⟨HN.out, HP.out⟩, HB2.out⟩
set_option linter.unusedSimpArgs false in
set_option maxRecDepth 100000 in
set_option maxHeartbeats 6400000 in
theorem outs0_any {w : World} {c : PChan} {h : List UInt8} {own rest : Int} (hc : ChanIn c) (hh : h.length = 32) :
    Calls Tryd.prog 17 #[.agg c.cells.toArray, .int .i64 0, .int .i64 own, .int .i64 rest, .agg (cellsOf h).toArray] w fun e w' => ∃ p1 p2 p3 p4 p5 p6 : Nat, e = .returned (.slice (some ⟨p6, 0, none⟩) 2 2) ∧ OutsAt w.heap.size w' c c.client c.peer own rest h p1 p2 p3 p4 p5 p6 ∧ Below w.heap.size w w' := by
  have HC := Lib.hid hc
  have HHL := Lib.hid hh
  have SZH : Hid ((Tryd.prog.info? 23).map (·.size) = some (cellsOf h).length) := Lib.hid (by rw [cellsOf_len, hh]; exact Tryd.size23)
  have HOF : Hid (∀ W : World, Calls Tryd.prog 18 #[.int .i64 0] W fun e w' => e = .returned (.int .i64 1) ∧ W = w') := Lib.hid fun W => otherOf_any W (.inl rfl)
  clear hc hh
  go_enter Tryd.func17, Tryd.ntmps17
  go_upto_region 1 with (fail)
  have b1 : Below w.heap.size w ((w.alloc (.cells c.cells.toArray 27)).alloc (.cells (cellsOf h).toArray 23)) := ((Below.refl _ _).alloc (Nat.le_refl _) _).alloc (by simp) _
  have h1 : ((w.alloc (.cells c.cells.toArray 27)).alloc (.cells (cellsOf h).toArray 23)).heap[w.heap.size]? = some (.cells c.cells.toArray 27 (0, 0)) := by
    rw [heap_alloc_old _ _ (by simp), heap_alloc_new]
  have h2 : ((w.alloc (.cells c.cells.toArray 27)).alloc (.cells (cellsOf h).toArray 23)).heap[w.heap.size + 1]? = some (.cells (cellsOf h).toArray 23 (0, 0)) := heap_alloc_at _ _ _ (by simp)
  revert b1 h1 h2
  generalize ((w.alloc (.cells c.cells.toArray 27)).alloc (.cells (cellsOf h).toArray 23)) = w1
  obtain ⟨g, hg⟩ : ∃ g, g = w.heap.size := ⟨_, rfl⟩
  rw [← hg]
  intro b1 h1 h2
  rw [hg] at b1
  have HB1 := Lib.hid b1
  have H1 := Lib.hid h1
  have H2 := Lib.hid h2
  have hat := chan_at HC.out.ftx (range_of h1)
  have c1 := hat.client
  have c2 := hat.peer
  rw [Nat.zero_add] at c1 c2
  clear hat b1 h1 h2 hg
  go_upto_region 3 with (first | (refine wpList_build10 rfl rfl (vs := [(0, .int .i64 c.client), (1, .int .i64 c.peer)]) rfl (build_pair14 _ _) ?_; go_frame) | (refine wpList_var rfl rfl 72 rfl _ _ rfl #[.int .i64 0, .int .i64 0] Tryd.zeroPair14 rfl [.int .i64 c.client, .int .i64 c.peer] (fun _ => rfl) (fun _ => rfl) rfl (by simp [Value.oneCell']) ?_; intro q w2 hq hh hb; go_frame; have d0 := (range_cons (range_of hh)).1; have d1 := (range_cons (range_cons (range_of hh)).2).1; rw [Nat.zero_add] at d1; have HD := Lib.hid d0; have HQL := Lib.hid (lt_of_block hh); have HB2 := Lib.hid (bthen HB1.out hb); have H12 := Lib.hid (keep hb H1.out); have H22 := Lib.hid (keep hb H2.out); clear hq hh hb c1 c2) | (go_at_call 18; (with_reducible refine (HOF.out _).mono ?_); rintro e w3 ⟨rfl, rfl⟩) | fail)
  have HGL := Lib.hid (lt_of_block H12.out)
  have HE : Hid (w2.cell? ⟨g, 37, none⟩ = some (.int .i64 c.wait)) := Lib.hid (by have h9 := (chan_at HC.out.ftx (range_of H12.out)).wait; rw [Nat.zero_add] at h9; exact h9)
  clear d0 d1
  refine wp_region_held_drew (S := fun w' => Below w2.heap.size w2 w') (by kernel_rfl) (below_drew (Below.refl _ _)) (fun hHeld => ?_)
  refine take_at (i := 0) (v := ?_) rfl rfl (by kernel_rfl) (by kernel_rfl) (by kernel_rfl) (fun _ _ _ h => h) (Or.inl ⟨by rfl, ?_⟩) (by assumption) ?_
  rotate_left
  · intro w0 hSw; (try dsimp only at hSw); first | (go_simp; done) | (go_simp; with_reducible rfl)
  simp only [List.setIfInBounds_toArray, List.set_cons_zero, List.set_cons_succ]
  refine take_at (i := 1) (v := ?_) rfl rfl (by kernel_rfl) (by kernel_rfl) (by kernel_rfl) (fun _ _ _ h => h) (Or.inl ⟨by rfl, ?_⟩) (by assumption) ?_
  rotate_left
  · intro w0 hSw; (try dsimp only at hSw); first | (go_simp; done) | (go_simp; with_reducible rfl)
  simp only [List.setIfInBounds_toArray, List.set_cons_zero, List.set_cons_succ]
  refine take_at (i := 2) (v := ?_) rfl rfl (by kernel_rfl) (by kernel_rfl) (by kernel_rfl) (fun _ _ _ h => h) (Or.inl ⟨by rfl, ?_⟩) (by assumption) ?_
  rotate_left
  · intro w0 hSw; (try dsimp only at hSw); first | (go_simp; done) | (go_simp; with_reducible rfl)
  simp only [List.setIfInBounds_toArray, List.set_cons_zero, List.set_cons_succ]
  refine take_at (i := 3) rfl rfl (by kernel_rfl) (by kernel_rfl) (by kernel_rfl) (fun _ _ _ h => h) (yields_cell (b := q) (o := 0) (by rfl) rfl rfl (fun w0 hSw => (Below.cell hSw (p := ⟨q, 0, none⟩) HQL.out).trans HD.out) (fun w0 => Tryd.isAgg3 w0)) (by assumption) ?_
  simp only [List.setIfInBounds_toArray, List.set_cons_zero, List.set_cons_succ]
  refine take_at (i := 5) (v := ?_) rfl rfl (by kernel_rfl) (by kernel_rfl) (by kernel_rfl) (fun _ _ _ h => h) (Or.inl ⟨by rfl, ?_⟩) (by assumption) ?_
  rotate_left
  · intro w0 hSw; (try dsimp only at hSw); first | (go_simp; done) | (go_simp; with_reducible rfl)
  simp only [List.setIfInBounds_toArray, List.set_cons_zero, List.set_cons_succ]
  refine take_at (i := 6) rfl rfl (by kernel_rfl) (by kernel_rfl) (by kernel_rfl) (fun _ _ _ h => h) (yields_cell (b := g) (o := 37) (by rfl) rfl rfl (fun w0 hSw => (Below.cell hSw (p := ⟨g, 37, none⟩) HGL.out).trans HE.out) (fun w0 => Tryd.isAgg3 w0)) (by assumption) ?_
  simp only [List.setIfInBounds_toArray, List.set_cons_zero, List.set_cons_succ]
  refine take_at (i := 8) (v := ?_) rfl rfl (by kernel_rfl) (by kernel_rfl) (by kernel_rfl) (fun _ _ _ h => h) (Or.inl ⟨by rfl, ?_⟩) (by assumption) ?_
  rotate_left
  · intro w0 hSw; (try dsimp only at hSw); first | (go_simp; done) | (go_simp; with_reducible rfl)
  simp only [List.setIfInBounds_toArray, List.set_cons_zero, List.set_cons_succ]
  refine take_at (i := 10) rfl rfl (by kernel_rfl) (by kernel_rfl) (by kernel_rfl) (fun _ _ _ h => h) (yieldsIf_load_mid (by rfl) _ _ rfl (g + 1) 0 rfl (cellsOf h) _ (fun w0 hSw => range_of (keep hSw H22.out)) Tryd.underlying23 rfl SZH.out) (by assumption) ?_
  simp only [List.setIfInBounds_toArray, List.set_cons_zero, List.set_cons_succ]
  refine wpAnyH_ready (rs := [4, 9, 14]) (by kernel_rfl) (by simp) ?_
  refine AllReadyH.cons rfl (fun K hK => ?_) ?_
  · refine step_int14 (d := 27) (y := c.client) rfl (by rfl) rfl (by rfl) ?_
    intro p4 y1 hp hh hb
    have NNp4 : Hid (w2.heap.size ≤ p4) := Lib.hid (Nat.le_trans (Below.size hHeld) hp)
    have HPp4 := Lib.hid hh
    have HX := Lib.hid (bthen hHeld hb)
    clear hp hh hb
    refine hK.out _ _ (by (try dsimp only); exact HX.out) (fun hHeld => ?_)
    clear hK K
    refine take_at (i := 7) rfl rfl (by kernel_rfl) (by kernel_rfl) (by kernel_rfl) (fun _ _ _ h => h) (yields_build10 (by rfl) rfl (vs := [(0, .slice (some ⟨p4, 0, none⟩) 1 1), (3, .int .i64 c.wait)]) (by rfl) (build_way_wait _ _ _ [c.client] _)) (by assumption) ?_
    simp only [List.setIfInBounds_toArray, List.set_cons_zero, List.set_cons_succ]
    refine wpAnyH_ready (rs := [9, 14]) (by kernel_rfl) (by simp) ?_
    refine AllReadyH.cons rfl (fun K hK => ?_) ?_
    · refine step_int14 (d := 32) (y := c.peer) rfl (by rfl) rfl (by rfl) ?_
      intro p9 y2 hp hh hb
      have HPp4 := Lib.hid (keep hb HPp4.out)
      have NNp9 : Hid (w2.heap.size ≤ p9) := Lib.hid (Nat.le_trans (Below.size hHeld) hp)
      have HPp9 := Lib.hid hh
      have HX := Lib.hid (bthen hHeld hb)
      clear hp hh hb
      refine hK.out _ _ (by (try dsimp only); exact HX.out) (fun hHeld => ?_)
      clear hK K
      refine take_at (i := 11) rfl rfl (by kernel_rfl) (by kernel_rfl) (by kernel_rfl) (fun _ _ _ h => h) (yields_build10 (by rfl) rfl (vs := [(0, .slice (some ⟨p9, 0, none⟩) 1 1), (1, .agg (cellsOf h).toArray)]) (by rfl) (build_way_hash _ _ _ [c.peer] HHL.out)) (by assumption) ?_
      simp only [List.setIfInBounds_toArray, List.set_cons_zero, List.set_cons_succ]
      refine wpAnyH_ready (rs := [12, 14]) (by kernel_rfl) (by simp) ?_
      refine AllReadyH.cons rfl (fun K hK => ?_) ?_
      · refine step_lits Tryd.wayAt14 (d := 35) rfl (by rfl) rfl [⟨some ⟨p4, 0, none⟩, 1, 1, [c.client], zero32, 0, c.wait⟩, ⟨some ⟨p9, 0, none⟩, 1, 1, [c.peer], h, 0, 0⟩] rfl (by decide) (by decide) (by intro x hx; simp at hx; rcases hx with rfl | rfl; exact PWay.cells_len zero32_len; exact PWay.cells_len HHL.out) (by rfl) ?_
        intro p12 y3 hp hh hb
        have HPp4 := Lib.hid (keep hb HPp4.out)
        have HPp9 := Lib.hid (keep hb HPp9.out)
        have NNp12 : Hid (w2.heap.size ≤ p12) := Lib.hid (Nat.le_trans (Below.size hHeld) hp)
        have HPp12 := Lib.hid hh
        have HX := Lib.hid (bthen hHeld hb)
        clear hp hh hb
        refine hK.out _ _ (by (try dsimp only); exact HX.out) (fun hHeld => ?_)
        clear hK K
        refine take_at (i := 13) rfl rfl (by kernel_rfl) (by kernel_rfl) (by kernel_rfl) (fun _ _ _ h => h) (yields_build10 (by rfl) rfl (vs := [(0, .int .i64 own), (1, .slice (some ⟨p12, 0, none⟩) 2 2)]) (by rfl) (build_out14 own _ _ _ [⟨some ⟨p4, 0, none⟩, 1, 1, [c.client], zero32, 0, c.wait⟩, ⟨some ⟨p9, 0, none⟩, 1, 1, [c.peer], h, 0, 0⟩])) (by assumption) ?_
        simp only [List.setIfInBounds_toArray, List.set_cons_zero, List.set_cons_succ]
        refine wpAnyH_ready (rs := [14]) (by kernel_rfl) (by simp) ?_
        refine AllReadyH.cons rfl (fun K hK => ?_) ?_
        · refine step_alloc10 (d := 13) rfl (by rfl) 50 rfl noOut.cells.toArray Tryd.zeroOut14 ?_
          intro p14 y4 hp hh hb
          have NEp4 : Hid (p4 ≠ p14) := Lib.hid (by have h8 := lt_of_block HPp4.out; omega)
          have NEp9 : Hid (p9 ≠ p14) := Lib.hid (by have h8 := lt_of_block HPp9.out; omega)
          have NEp12 : Hid (p12 ≠ p14) := Lib.hid (by have h8 := lt_of_block HPp12.out; omega)
          have N14 : Hid (w2.heap.size ≤ p14) := Lib.hid (Nat.le_trans (Below.size hHeld) hp)
          have HPp4 := Lib.hid (keep hb HPp4.out)
          have HPp9 := Lib.hid (keep hb HPp9.out)
          have HPp12 := Lib.hid (keep hb HPp12.out)
          have NNp14 : Hid (w2.heap.size ≤ p14) := Lib.hid (Nat.le_trans (Below.size hHeld) hp)
          have HPp14 := Lib.hid hh
          have HX := Lib.hid (bthen hHeld hb)
          clear hp hh hb
          refine hK.out _ _ (by (try dsimp only); exact HX.out) (fun hHeld => ?_)
          clear hK K
          refine wpAnyH_ready (rs := [15]) (by kernel_rfl) (by simp) ?_
          refine AllReadyH.cons rfl (fun K hK => ?_) ?_
          · refine step_row10 (by rfl) 50 _ _ rfl p14 (POut.cells (ownP c (some ⟨p12, 0, none⟩) (some ⟨p4, 0, none⟩) (some ⟨p9, 0, none⟩) c.client c.peer own h)) (by rfl) (by rfl) 50 noOut.cells HPp14.out (by kernel_rfl) rfl (POut.one _) (fun y5 hh hb => ?_)
            have HX := Lib.hid (But.in hHeld hb N14.out)
            have HPp4 := Lib.hid ((hb.block p4 (lt_of_block HPp4.out) NEp4.out).trans HPp4.out)
            have HPp9 := Lib.hid ((hb.block p9 (lt_of_block HPp9.out) NEp9.out).trans HPp9.out)
            have HPp12 := Lib.hid ((hb.block p12 (lt_of_block HPp12.out) NEp12.out).trans HPp12.out)
            have HPp14 := Lib.hid hh
            clear hh hb
            refine hK.out _ _ (by (try dsimp only); exact HX.out) (fun hHeld => ?_)
            clear hK K
            refine wpAnyH_done (by kernel_rfl) ?_ _
            clear hHeld
            go_upto_region 4 with (fail)
            refine wp_region_held_drew (S := fun w' => Below y5.heap.size y5 w') (by kernel_rfl) (below_drew (Below.refl _ _)) (fun hHeld => ?_)
            refine take_at (i := 0) rfl rfl (by kernel_rfl) (by kernel_rfl) (by kernel_rfl) (fun _ _ _ h => h) (yieldsIf_load_mid (by rfl) _ _ rfl p14 0 rfl (POut.cells (ownP c (some ⟨p12, 0, none⟩) (some ⟨p4, 0, none⟩) (some ⟨p9, 0, none⟩) c.client c.peer own h)) _ (fun w0 hSw => range_of (keep hSw HPp14.out)) Tryd.underlying50 rfl (by kernel_rfl)) (by assumption) ?_
            simp only [List.setIfInBounds_toArray, List.set_cons_zero, List.set_cons_succ]
            refine take_at (i := 1) (v := ?_) rfl rfl (by kernel_rfl) (by kernel_rfl) (by kernel_rfl) (fun _ _ _ h => h) (Or.inl ⟨by rfl, ?_⟩) (by assumption) ?_
            rotate_left
            · intro w0 hSw; (try dsimp only at hSw); first | (go_simp; done) | (go_simp; with_reducible rfl)
            simp only [List.setIfInBounds_toArray, List.set_cons_zero, List.set_cons_succ]
            refine take_at (i := 2) (v := ?_) rfl rfl (by kernel_rfl) (by kernel_rfl) (by kernel_rfl) (fun _ _ _ h => h) (Or.inl ⟨by rfl, ?_⟩) (by assumption) ?_
            rotate_left
            · intro w0 hSw; (try dsimp only at hSw); first | (go_simp; done) | (go_simp; with_reducible rfl)
            simp only [List.setIfInBounds_toArray, List.set_cons_zero, List.set_cons_succ]
            refine wpAnyH_ready (rs := [3]) (by kernel_rfl) (by simp) ?_
            refine AllReadyH.cons rfl (fun K hK => ?_) ?_
            · have HCT := Lib.hid (fun (W : World) => to_at14 c.peer rest W)
              go_simp
              go_wp2_with ((go_at_call 11; (with_reducible refine (HCT.out _).mono ?_); rintro e z3 ⟨av, bv, rfl, hw3, hb⟩; have HW3 := Lib.hid hw3; have HZ3 := Lib.hid (bthen hHeld hb); clear hw3 hb HCT))
              refine hK.out _ _ (by (try dsimp only); exact HZ3.out) (fun hHeld => ?_)
              clear hK K
              refine wpAnyH_ready (rs := [4]) (by kernel_rfl) (by simp) ?_
              refine AllReadyH.cons rfl (fun K hK => ?_) ?_
              · refine step_lits Tryd.outAt14 (d := 41) rfl (by rfl) rfl [(ownP c (some ⟨p12, 0, none⟩) (some ⟨p4, 0, none⟩) (some ⟨p9, 0, none⟩) c.client c.peer own h), (herP (some ⟨bv, 0, none⟩) (some ⟨av, 0, none⟩) c.peer rest)] rfl (by decide) (by decide) (by intro x hx; simp at hx; rcases hx with rfl | rfl; rfl; rfl) (by rfl) ?_
                intro p16 z4 hp hh hb
                have HP16 := Lib.hid hh
                have HZ4 := Lib.hid (bthen HZ3.out hb)
                have HW4 := Lib.hid (HW3.out.keep hb)
                have N16 := Lib.hid (Nat.le_trans HZ3.out.size hp)
                clear hp hh hb
                refine hK.out _ _ (by (try dsimp only); exact HZ4.out) (fun hHeld => ?_)
                clear hK K
                refine take_at (i := 5) (v := ?_) rfl rfl (by kernel_rfl) (by kernel_rfl) (by kernel_rfl) (fun _ _ _ h => h) (Or.inl ⟨by rfl, ?_⟩) (by assumption) ?_
                rotate_left
                · intro w0 hSw; (try dsimp only at hSw); first | (go_simp; done) | (go_simp; with_reducible rfl)
                simp only [List.setIfInBounds_toArray, List.set_cons_zero, List.set_cons_succ]
                refine wpAnyH_done (by kernel_rfl) ?_ _
                clear hHeld
                go_wp2_with fail
                go_ret
                have n2 := HB2.out.size
                have n5 := HX.out.size
                have m4 := NNp4.out
                have m9 := NNp9.out
                have m12 := NNp12.out
                have m16 := N16.out
                have n9 : y5.drew.heap.size = y5.heap.size := rfl
                exact ⟨p4, p9, p12, av, bv, p16, rfl, ⟨⟨⟨by omega, keep HZ4.out HPp4.out⟩, ⟨by omega, keep HZ4.out HPp9.out⟩, ⟨by omega, keep HZ4.out HPp12.out⟩⟩, HW4.out.old (by omega), ⟨by omega, HP16.out⟩⟩, bthen (bthen HB2.out HX.out) HZ4.out⟩
              exact AllReadyH.nil
            exact AllReadyH.nil
          exact AllReadyH.nil
        exact AllReadyH.nil
      refine AllReadyH.cons rfl (fun K hK => ?_) ?_
      · refine step_alloc10 (d := 13) rfl (by rfl) 50 rfl noOut.cells.toArray Tryd.zeroOut14 ?_
        intro p14 y3 hp hh hb
        have NEp4 : Hid (p4 ≠ p14) := Lib.hid (by have h8 := lt_of_block HPp4.out; omega)
        have NEp9 : Hid (p9 ≠ p14) := Lib.hid (by have h8 := lt_of_block HPp9.out; omega)
        have N14 : Hid (w2.heap.size ≤ p14) := Lib.hid (Nat.le_trans (Below.size hHeld) hp)
        have HPp4 := Lib.hid (keep hb HPp4.out)
        have HPp9 := Lib.hid (keep hb HPp9.out)
        have NNp14 : Hid (w2.heap.size ≤ p14) := Lib.hid (Nat.le_trans (Below.size hHeld) hp)
        have HPp14 := Lib.hid hh
        have HX := Lib.hid (bthen hHeld hb)
        clear hp hh hb
        refine hK.out _ _ (by (try dsimp only); exact HX.out) (fun hHeld => ?_)
        clear hK K
        refine wpAnyH_ready (rs := [12]) (by kernel_rfl) (by simp) ?_
        refine AllReadyH.cons rfl (fun K hK => ?_) ?_
        · refine step_lits Tryd.wayAt14 (d := 35) rfl (by rfl) rfl [⟨some ⟨p4, 0, none⟩, 1, 1, [c.client], zero32, 0, c.wait⟩, ⟨some ⟨p9, 0, none⟩, 1, 1, [c.peer], h, 0, 0⟩] rfl (by decide) (by decide) (by intro x hx; simp at hx; rcases hx with rfl | rfl; exact PWay.cells_len zero32_len; exact PWay.cells_len HHL.out) (by rfl) ?_
          intro p12 y4 hp hh hb
          have NEp12 : Hid (p12 ≠ p14) := Lib.hid (by have h8 := lt_of_block HPp14.out; omega)
          have HPp4 := Lib.hid (keep hb HPp4.out)
          have HPp9 := Lib.hid (keep hb HPp9.out)
          have HPp14 := Lib.hid (keep hb HPp14.out)
          have NNp12 : Hid (w2.heap.size ≤ p12) := Lib.hid (Nat.le_trans (Below.size hHeld) hp)
          have HPp12 := Lib.hid hh
          have HX := Lib.hid (bthen hHeld hb)
          clear hp hh hb
          refine hK.out _ _ (by (try dsimp only); exact HX.out) (fun hHeld => ?_)
          clear hK K
          refine take_at (i := 13) rfl rfl (by kernel_rfl) (by kernel_rfl) (by kernel_rfl) (fun _ _ _ h => h) (yields_build10 (by rfl) rfl (vs := [(0, .int .i64 own), (1, .slice (some ⟨p12, 0, none⟩) 2 2)]) (by rfl) (build_out14 own _ _ _ [⟨some ⟨p4, 0, none⟩, 1, 1, [c.client], zero32, 0, c.wait⟩, ⟨some ⟨p9, 0, none⟩, 1, 1, [c.peer], h, 0, 0⟩])) (by assumption) ?_
          simp only [List.setIfInBounds_toArray, List.set_cons_zero, List.set_cons_succ]
          refine wpAnyH_ready (rs := [15]) (by kernel_rfl) (by simp) ?_
          refine AllReadyH.cons rfl (fun K hK => ?_) ?_
          · refine step_row10 (by rfl) 50 _ _ rfl p14 (POut.cells (ownP c (some ⟨p12, 0, none⟩) (some ⟨p4, 0, none⟩) (some ⟨p9, 0, none⟩) c.client c.peer own h)) (by rfl) (by rfl) 50 noOut.cells HPp14.out (by kernel_rfl) rfl (POut.one _) (fun y5 hh hb => ?_)
            have HX := Lib.hid (But.in hHeld hb N14.out)
            have HPp4 := Lib.hid ((hb.block p4 (lt_of_block HPp4.out) NEp4.out).trans HPp4.out)
            have HPp9 := Lib.hid ((hb.block p9 (lt_of_block HPp9.out) NEp9.out).trans HPp9.out)
            have HPp12 := Lib.hid ((hb.block p12 (lt_of_block HPp12.out) NEp12.out).trans HPp12.out)
            have HPp14 := Lib.hid hh
            clear hh hb
            refine hK.out _ _ (by (try dsimp only); exact HX.out) (fun hHeld => ?_)
            clear hK K
            refine wpAnyH_done (by kernel_rfl) ?_ _
            clear hHeld
            go_upto_region 4 with (fail)
            refine wp_region_held_drew (S := fun w' => Below y5.heap.size y5 w') (by kernel_rfl) (below_drew (Below.refl _ _)) (fun hHeld => ?_)
            refine take_at (i := 0) rfl rfl (by kernel_rfl) (by kernel_rfl) (by kernel_rfl) (fun _ _ _ h => h) (yieldsIf_load_mid (by rfl) _ _ rfl p14 0 rfl (POut.cells (ownP c (some ⟨p12, 0, none⟩) (some ⟨p4, 0, none⟩) (some ⟨p9, 0, none⟩) c.client c.peer own h)) _ (fun w0 hSw => range_of (keep hSw HPp14.out)) Tryd.underlying50 rfl (by kernel_rfl)) (by assumption) ?_
            simp only [List.setIfInBounds_toArray, List.set_cons_zero, List.set_cons_succ]
            refine take_at (i := 1) (v := ?_) rfl rfl (by kernel_rfl) (by kernel_rfl) (by kernel_rfl) (fun _ _ _ h => h) (Or.inl ⟨by rfl, ?_⟩) (by assumption) ?_
            rotate_left
            · intro w0 hSw; (try dsimp only at hSw); first | (go_simp; done) | (go_simp; with_reducible rfl)
            simp only [List.setIfInBounds_toArray, List.set_cons_zero, List.set_cons_succ]
            refine take_at (i := 2) (v := ?_) rfl rfl (by kernel_rfl) (by kernel_rfl) (by kernel_rfl) (fun _ _ _ h => h) (Or.inl ⟨by rfl, ?_⟩) (by assumption) ?_
            rotate_left
            · intro w0 hSw; (try dsimp only at hSw); first | (go_simp; done) | (go_simp; with_reducible rfl)
            simp only [List.setIfInBounds_toArray, List.set_cons_zero, List.set_cons_succ]
            refine wpAnyH_ready (rs := [3]) (by kernel_rfl) (by simp) ?_
            refine AllReadyH.cons rfl (fun K hK => ?_) ?_
            · have HCT := Lib.hid (fun (W : World) => to_at14 c.peer rest W)
              go_simp
              go_wp2_with ((go_at_call 11; (with_reducible refine (HCT.out _).mono ?_); rintro e z3 ⟨av, bv, rfl, hw3, hb⟩; have HW3 := Lib.hid hw3; have HZ3 := Lib.hid (bthen hHeld hb); clear hw3 hb HCT))
              refine hK.out _ _ (by (try dsimp only); exact HZ3.out) (fun hHeld => ?_)
              clear hK K
              refine wpAnyH_ready (rs := [4]) (by kernel_rfl) (by simp) ?_
              refine AllReadyH.cons rfl (fun K hK => ?_) ?_
              · refine step_lits Tryd.outAt14 (d := 41) rfl (by rfl) rfl [(ownP c (some ⟨p12, 0, none⟩) (some ⟨p4, 0, none⟩) (some ⟨p9, 0, none⟩) c.client c.peer own h), (herP (some ⟨bv, 0, none⟩) (some ⟨av, 0, none⟩) c.peer rest)] rfl (by decide) (by decide) (by intro x hx; simp at hx; rcases hx with rfl | rfl; rfl; rfl) (by rfl) ?_
                intro p16 z4 hp hh hb
                have HP16 := Lib.hid hh
                have HZ4 := Lib.hid (bthen HZ3.out hb)
                have HW4 := Lib.hid (HW3.out.keep hb)
                have N16 := Lib.hid (Nat.le_trans HZ3.out.size hp)
                clear hp hh hb
                refine hK.out _ _ (by (try dsimp only); exact HZ4.out) (fun hHeld => ?_)
                clear hK K
                refine take_at (i := 5) (v := ?_) rfl rfl (by kernel_rfl) (by kernel_rfl) (by kernel_rfl) (fun _ _ _ h => h) (Or.inl ⟨by rfl, ?_⟩) (by assumption) ?_
                rotate_left
                · intro w0 hSw; (try dsimp only at hSw); first | (go_simp; done) | (go_simp; with_reducible rfl)
                simp only [List.setIfInBounds_toArray, List.set_cons_zero, List.set_cons_succ]
                refine wpAnyH_done (by kernel_rfl) ?_ _
                clear hHeld
                go_wp2_with fail
                go_ret
                have n2 := HB2.out.size
                have n5 := HX.out.size
                have m4 := NNp4.out
                have m9 := NNp9.out
                have m12 := NNp12.out
                have m16 := N16.out
                have n9 : y5.drew.heap.size = y5.heap.size := rfl
                exact ⟨p4, p9, p12, av, bv, p16, rfl, ⟨⟨⟨by omega, keep HZ4.out HPp4.out⟩, ⟨by omega, keep HZ4.out HPp9.out⟩, ⟨by omega, keep HZ4.out HPp12.out⟩⟩, HW4.out.old (by omega), ⟨by omega, HP16.out⟩⟩, bthen (bthen HB2.out HX.out) HZ4.out⟩
              exact AllReadyH.nil
            exact AllReadyH.nil
          exact AllReadyH.nil
        exact AllReadyH.nil
      exact AllReadyH.nil
    refine AllReadyH.cons rfl (fun K hK => ?_) ?_
    · refine step_alloc10 (d := 13) rfl (by rfl) 50 rfl noOut.cells.toArray Tryd.zeroOut14 ?_
      intro p14 y2 hp hh hb
      have NEp4 : Hid (p4 ≠ p14) := Lib.hid (by have h8 := lt_of_block HPp4.out; omega)
      have N14 : Hid (w2.heap.size ≤ p14) := Lib.hid (Nat.le_trans (Below.size hHeld) hp)
      have HPp4 := Lib.hid (keep hb HPp4.out)
      have NNp14 : Hid (w2.heap.size ≤ p14) := Lib.hid (Nat.le_trans (Below.size hHeld) hp)
      have HPp14 := Lib.hid hh
      have HX := Lib.hid (bthen hHeld hb)
      clear hp hh hb
      refine hK.out _ _ (by (try dsimp only); exact HX.out) (fun hHeld => ?_)
      clear hK K
      refine wpAnyH_ready (rs := [9]) (by kernel_rfl) (by simp) ?_
      refine AllReadyH.cons rfl (fun K hK => ?_) ?_
      · refine step_int14 (d := 32) (y := c.peer) rfl (by rfl) rfl (by rfl) ?_
        intro p9 y3 hp hh hb
        have NEp9 : Hid (p9 ≠ p14) := Lib.hid (by have h8 := lt_of_block HPp14.out; omega)
        have HPp4 := Lib.hid (keep hb HPp4.out)
        have HPp14 := Lib.hid (keep hb HPp14.out)
        have NNp9 : Hid (w2.heap.size ≤ p9) := Lib.hid (Nat.le_trans (Below.size hHeld) hp)
        have HPp9 := Lib.hid hh
        have HX := Lib.hid (bthen hHeld hb)
        clear hp hh hb
        refine hK.out _ _ (by (try dsimp only); exact HX.out) (fun hHeld => ?_)
        clear hK K
        refine take_at (i := 11) rfl rfl (by kernel_rfl) (by kernel_rfl) (by kernel_rfl) (fun _ _ _ h => h) (yields_build10 (by rfl) rfl (vs := [(0, .slice (some ⟨p9, 0, none⟩) 1 1), (1, .agg (cellsOf h).toArray)]) (by rfl) (build_way_hash _ _ _ [c.peer] HHL.out)) (by assumption) ?_
        simp only [List.setIfInBounds_toArray, List.set_cons_zero, List.set_cons_succ]
        refine wpAnyH_ready (rs := [12]) (by kernel_rfl) (by simp) ?_
        refine AllReadyH.cons rfl (fun K hK => ?_) ?_
        · refine step_lits Tryd.wayAt14 (d := 35) rfl (by rfl) rfl [⟨some ⟨p4, 0, none⟩, 1, 1, [c.client], zero32, 0, c.wait⟩, ⟨some ⟨p9, 0, none⟩, 1, 1, [c.peer], h, 0, 0⟩] rfl (by decide) (by decide) (by intro x hx; simp at hx; rcases hx with rfl | rfl; exact PWay.cells_len zero32_len; exact PWay.cells_len HHL.out) (by rfl) ?_
          intro p12 y4 hp hh hb
          have NEp12 : Hid (p12 ≠ p14) := Lib.hid (by have h8 := lt_of_block HPp14.out; omega)
          have HPp4 := Lib.hid (keep hb HPp4.out)
          have HPp14 := Lib.hid (keep hb HPp14.out)
          have HPp9 := Lib.hid (keep hb HPp9.out)
          have NNp12 : Hid (w2.heap.size ≤ p12) := Lib.hid (Nat.le_trans (Below.size hHeld) hp)
          have HPp12 := Lib.hid hh
          have HX := Lib.hid (bthen hHeld hb)
          clear hp hh hb
          refine hK.out _ _ (by (try dsimp only); exact HX.out) (fun hHeld => ?_)
          clear hK K
          refine take_at (i := 13) rfl rfl (by kernel_rfl) (by kernel_rfl) (by kernel_rfl) (fun _ _ _ h => h) (yields_build10 (by rfl) rfl (vs := [(0, .int .i64 own), (1, .slice (some ⟨p12, 0, none⟩) 2 2)]) (by rfl) (build_out14 own _ _ _ [⟨some ⟨p4, 0, none⟩, 1, 1, [c.client], zero32, 0, c.wait⟩, ⟨some ⟨p9, 0, none⟩, 1, 1, [c.peer], h, 0, 0⟩])) (by assumption) ?_
          simp only [List.setIfInBounds_toArray, List.set_cons_zero, List.set_cons_succ]
          refine wpAnyH_ready (rs := [15]) (by kernel_rfl) (by simp) ?_
          refine AllReadyH.cons rfl (fun K hK => ?_) ?_
          · refine step_row10 (by rfl) 50 _ _ rfl p14 (POut.cells (ownP c (some ⟨p12, 0, none⟩) (some ⟨p4, 0, none⟩) (some ⟨p9, 0, none⟩) c.client c.peer own h)) (by rfl) (by rfl) 50 noOut.cells HPp14.out (by kernel_rfl) rfl (POut.one _) (fun y5 hh hb => ?_)
            have HX := Lib.hid (But.in hHeld hb N14.out)
            have HPp4 := Lib.hid ((hb.block p4 (lt_of_block HPp4.out) NEp4.out).trans HPp4.out)
            have HPp9 := Lib.hid ((hb.block p9 (lt_of_block HPp9.out) NEp9.out).trans HPp9.out)
            have HPp12 := Lib.hid ((hb.block p12 (lt_of_block HPp12.out) NEp12.out).trans HPp12.out)
            have HPp14 := Lib.hid hh
            clear hh hb
            refine hK.out _ _ (by (try dsimp only); exact HX.out) (fun hHeld => ?_)
            clear hK K
            refine wpAnyH_done (by kernel_rfl) ?_ _
            clear hHeld
            go_upto_region 4 with (fail)
            refine wp_region_held_drew (S := fun w' => Below y5.heap.size y5 w') (by kernel_rfl) (below_drew (Below.refl _ _)) (fun hHeld => ?_)
            refine take_at (i := 0) rfl rfl (by kernel_rfl) (by kernel_rfl) (by kernel_rfl) (fun _ _ _ h => h) (yieldsIf_load_mid (by rfl) _ _ rfl p14 0 rfl (POut.cells (ownP c (some ⟨p12, 0, none⟩) (some ⟨p4, 0, none⟩) (some ⟨p9, 0, none⟩) c.client c.peer own h)) _ (fun w0 hSw => range_of (keep hSw HPp14.out)) Tryd.underlying50 rfl (by kernel_rfl)) (by assumption) ?_
            simp only [List.setIfInBounds_toArray, List.set_cons_zero, List.set_cons_succ]
            refine take_at (i := 1) (v := ?_) rfl rfl (by kernel_rfl) (by kernel_rfl) (by kernel_rfl) (fun _ _ _ h => h) (Or.inl ⟨by rfl, ?_⟩) (by assumption) ?_
            rotate_left
            · intro w0 hSw; (try dsimp only at hSw); first | (go_simp; done) | (go_simp; with_reducible rfl)
            simp only [List.setIfInBounds_toArray, List.set_cons_zero, List.set_cons_succ]
            refine take_at (i := 2) (v := ?_) rfl rfl (by kernel_rfl) (by kernel_rfl) (by kernel_rfl) (fun _ _ _ h => h) (Or.inl ⟨by rfl, ?_⟩) (by assumption) ?_
            rotate_left
            · intro w0 hSw; (try dsimp only at hSw); first | (go_simp; done) | (go_simp; with_reducible rfl)
            simp only [List.setIfInBounds_toArray, List.set_cons_zero, List.set_cons_succ]
            refine wpAnyH_ready (rs := [3]) (by kernel_rfl) (by simp) ?_
            refine AllReadyH.cons rfl (fun K hK => ?_) ?_
            · have HCT := Lib.hid (fun (W : World) => to_at14 c.peer rest W)
              go_simp
              go_wp2_with ((go_at_call 11; (with_reducible refine (HCT.out _).mono ?_); rintro e z3 ⟨av, bv, rfl, hw3, hb⟩; have HW3 := Lib.hid hw3; have HZ3 := Lib.hid (bthen hHeld hb); clear hw3 hb HCT))
              refine hK.out _ _ (by (try dsimp only); exact HZ3.out) (fun hHeld => ?_)
              clear hK K
              refine wpAnyH_ready (rs := [4]) (by kernel_rfl) (by simp) ?_
              refine AllReadyH.cons rfl (fun K hK => ?_) ?_
              · refine step_lits Tryd.outAt14 (d := 41) rfl (by rfl) rfl [(ownP c (some ⟨p12, 0, none⟩) (some ⟨p4, 0, none⟩) (some ⟨p9, 0, none⟩) c.client c.peer own h), (herP (some ⟨bv, 0, none⟩) (some ⟨av, 0, none⟩) c.peer rest)] rfl (by decide) (by decide) (by intro x hx; simp at hx; rcases hx with rfl | rfl; rfl; rfl) (by rfl) ?_
                intro p16 z4 hp hh hb
                have HP16 := Lib.hid hh
                have HZ4 := Lib.hid (bthen HZ3.out hb)
                have HW4 := Lib.hid (HW3.out.keep hb)
                have N16 := Lib.hid (Nat.le_trans HZ3.out.size hp)
                clear hp hh hb
                refine hK.out _ _ (by (try dsimp only); exact HZ4.out) (fun hHeld => ?_)
                clear hK K
                refine take_at (i := 5) (v := ?_) rfl rfl (by kernel_rfl) (by kernel_rfl) (by kernel_rfl) (fun _ _ _ h => h) (Or.inl ⟨by rfl, ?_⟩) (by assumption) ?_
                rotate_left
                · intro w0 hSw; (try dsimp only at hSw); first | (go_simp; done) | (go_simp; with_reducible rfl)
                simp only [List.setIfInBounds_toArray, List.set_cons_zero, List.set_cons_succ]
                refine wpAnyH_done (by kernel_rfl) ?_ _
                clear hHeld
                go_wp2_with fail
                go_ret
                have n2 := HB2.out.size
                have n5 := HX.out.size
                have m4 := NNp4.out
                have m9 := NNp9.out
                have m12 := NNp12.out
                have m16 := N16.out
                have n9 : y5.drew.heap.size = y5.heap.size := rfl
                exact ⟨p4, p9, p12, av, bv, p16, rfl, ⟨⟨⟨by omega, keep HZ4.out HPp4.out⟩, ⟨by omega, keep HZ4.out HPp9.out⟩, ⟨by omega, keep HZ4.out HPp12.out⟩⟩, HW4.out.old (by omega), ⟨by omega, HP16.out⟩⟩, bthen (bthen HB2.out HX.out) HZ4.out⟩
              exact AllReadyH.nil
            exact AllReadyH.nil
          exact AllReadyH.nil
        exact AllReadyH.nil
      exact AllReadyH.nil
    exact AllReadyH.nil
  refine AllReadyH.cons rfl (fun K hK => ?_) ?_
  · refine step_int14 (d := 32) (y := c.peer) rfl (by rfl) rfl (by rfl) ?_
    intro p9 y1 hp hh hb
    have NNp9 : Hid (w2.heap.size ≤ p9) := Lib.hid (Nat.le_trans (Below.size hHeld) hp)
    have HPp9 := Lib.hid hh
    have HX := Lib.hid (bthen hHeld hb)
    clear hp hh hb
    refine hK.out _ _ (by (try dsimp only); exact HX.out) (fun hHeld => ?_)
    clear hK K
    refine take_at (i := 11) rfl rfl (by kernel_rfl) (by kernel_rfl) (by kernel_rfl) (fun _ _ _ h => h) (yields_build10 (by rfl) rfl (vs := [(0, .slice (some ⟨p9, 0, none⟩) 1 1), (1, .agg (cellsOf h).toArray)]) (by rfl) (build_way_hash _ _ _ [c.peer] HHL.out)) (by assumption) ?_
    simp only [List.setIfInBounds_toArray, List.set_cons_zero, List.set_cons_succ]
    refine wpAnyH_ready (rs := [4, 14]) (by kernel_rfl) (by simp) ?_
    refine AllReadyH.cons rfl (fun K hK => ?_) ?_
    · refine step_int14 (d := 27) (y := c.client) rfl (by rfl) rfl (by rfl) ?_
      intro p4 y2 hp hh hb
      have HPp9 := Lib.hid (keep hb HPp9.out)
      have NNp4 : Hid (w2.heap.size ≤ p4) := Lib.hid (Nat.le_trans (Below.size hHeld) hp)
      have HPp4 := Lib.hid hh
      have HX := Lib.hid (bthen hHeld hb)
      clear hp hh hb
      refine hK.out _ _ (by (try dsimp only); exact HX.out) (fun hHeld => ?_)
      clear hK K
      refine take_at (i := 7) rfl rfl (by kernel_rfl) (by kernel_rfl) (by kernel_rfl) (fun _ _ _ h => h) (yields_build10 (by rfl) rfl (vs := [(0, .slice (some ⟨p4, 0, none⟩) 1 1), (3, .int .i64 c.wait)]) (by rfl) (build_way_wait _ _ _ [c.client] _)) (by assumption) ?_
      simp only [List.setIfInBounds_toArray, List.set_cons_zero, List.set_cons_succ]
      refine wpAnyH_ready (rs := [12, 14]) (by kernel_rfl) (by simp) ?_
      refine AllReadyH.cons rfl (fun K hK => ?_) ?_
      · refine step_lits Tryd.wayAt14 (d := 35) rfl (by rfl) rfl [⟨some ⟨p4, 0, none⟩, 1, 1, [c.client], zero32, 0, c.wait⟩, ⟨some ⟨p9, 0, none⟩, 1, 1, [c.peer], h, 0, 0⟩] rfl (by decide) (by decide) (by intro x hx; simp at hx; rcases hx with rfl | rfl; exact PWay.cells_len zero32_len; exact PWay.cells_len HHL.out) (by rfl) ?_
        intro p12 y3 hp hh hb
        have HPp9 := Lib.hid (keep hb HPp9.out)
        have HPp4 := Lib.hid (keep hb HPp4.out)
        have NNp12 : Hid (w2.heap.size ≤ p12) := Lib.hid (Nat.le_trans (Below.size hHeld) hp)
        have HPp12 := Lib.hid hh
        have HX := Lib.hid (bthen hHeld hb)
        clear hp hh hb
        refine hK.out _ _ (by (try dsimp only); exact HX.out) (fun hHeld => ?_)
        clear hK K
        refine take_at (i := 13) rfl rfl (by kernel_rfl) (by kernel_rfl) (by kernel_rfl) (fun _ _ _ h => h) (yields_build10 (by rfl) rfl (vs := [(0, .int .i64 own), (1, .slice (some ⟨p12, 0, none⟩) 2 2)]) (by rfl) (build_out14 own _ _ _ [⟨some ⟨p4, 0, none⟩, 1, 1, [c.client], zero32, 0, c.wait⟩, ⟨some ⟨p9, 0, none⟩, 1, 1, [c.peer], h, 0, 0⟩])) (by assumption) ?_
        simp only [List.setIfInBounds_toArray, List.set_cons_zero, List.set_cons_succ]
        refine wpAnyH_ready (rs := [14]) (by kernel_rfl) (by simp) ?_
        refine AllReadyH.cons rfl (fun K hK => ?_) ?_
        · refine step_alloc10 (d := 13) rfl (by rfl) 50 rfl noOut.cells.toArray Tryd.zeroOut14 ?_
          intro p14 y4 hp hh hb
          have NEp9 : Hid (p9 ≠ p14) := Lib.hid (by have h8 := lt_of_block HPp9.out; omega)
          have NEp4 : Hid (p4 ≠ p14) := Lib.hid (by have h8 := lt_of_block HPp4.out; omega)
          have NEp12 : Hid (p12 ≠ p14) := Lib.hid (by have h8 := lt_of_block HPp12.out; omega)
          have N14 : Hid (w2.heap.size ≤ p14) := Lib.hid (Nat.le_trans (Below.size hHeld) hp)
          have HPp9 := Lib.hid (keep hb HPp9.out)
          have HPp4 := Lib.hid (keep hb HPp4.out)
          have HPp12 := Lib.hid (keep hb HPp12.out)
          have NNp14 : Hid (w2.heap.size ≤ p14) := Lib.hid (Nat.le_trans (Below.size hHeld) hp)
          have HPp14 := Lib.hid hh
          have HX := Lib.hid (bthen hHeld hb)
          clear hp hh hb
          refine hK.out _ _ (by (try dsimp only); exact HX.out) (fun hHeld => ?_)
          clear hK K
          refine wpAnyH_ready (rs := [15]) (by kernel_rfl) (by simp) ?_
          refine AllReadyH.cons rfl (fun K hK => ?_) ?_
          · refine step_row10 (by rfl) 50 _ _ rfl p14 (POut.cells (ownP c (some ⟨p12, 0, none⟩) (some ⟨p4, 0, none⟩) (some ⟨p9, 0, none⟩) c.client c.peer own h)) (by rfl) (by rfl) 50 noOut.cells HPp14.out (by kernel_rfl) rfl (POut.one _) (fun y5 hh hb => ?_)
            have HX := Lib.hid (But.in hHeld hb N14.out)
            have HPp9 := Lib.hid ((hb.block p9 (lt_of_block HPp9.out) NEp9.out).trans HPp9.out)
            have HPp4 := Lib.hid ((hb.block p4 (lt_of_block HPp4.out) NEp4.out).trans HPp4.out)
            have HPp12 := Lib.hid ((hb.block p12 (lt_of_block HPp12.out) NEp12.out).trans HPp12.out)
            have HPp14 := Lib.hid hh
            clear hh hb
            refine hK.out _ _ (by (try dsimp only); exact HX.out) (fun hHeld => ?_)
            clear hK K
            refine wpAnyH_done (by kernel_rfl) ?_ _
            clear hHeld
            go_upto_region 4 with (fail)
            refine wp_region_held_drew (S := fun w' => Below y5.heap.size y5 w') (by kernel_rfl) (below_drew (Below.refl _ _)) (fun hHeld => ?_)
            refine take_at (i := 0) rfl rfl (by kernel_rfl) (by kernel_rfl) (by kernel_rfl) (fun _ _ _ h => h) (yieldsIf_load_mid (by rfl) _ _ rfl p14 0 rfl (POut.cells (ownP c (some ⟨p12, 0, none⟩) (some ⟨p4, 0, none⟩) (some ⟨p9, 0, none⟩) c.client c.peer own h)) _ (fun w0 hSw => range_of (keep hSw HPp14.out)) Tryd.underlying50 rfl (by kernel_rfl)) (by assumption) ?_
            simp only [List.setIfInBounds_toArray, List.set_cons_zero, List.set_cons_succ]
            refine take_at (i := 1) (v := ?_) rfl rfl (by kernel_rfl) (by kernel_rfl) (by kernel_rfl) (fun _ _ _ h => h) (Or.inl ⟨by rfl, ?_⟩) (by assumption) ?_
            rotate_left
            · intro w0 hSw; (try dsimp only at hSw); first | (go_simp; done) | (go_simp; with_reducible rfl)
            simp only [List.setIfInBounds_toArray, List.set_cons_zero, List.set_cons_succ]
            refine take_at (i := 2) (v := ?_) rfl rfl (by kernel_rfl) (by kernel_rfl) (by kernel_rfl) (fun _ _ _ h => h) (Or.inl ⟨by rfl, ?_⟩) (by assumption) ?_
            rotate_left
            · intro w0 hSw; (try dsimp only at hSw); first | (go_simp; done) | (go_simp; with_reducible rfl)
            simp only [List.setIfInBounds_toArray, List.set_cons_zero, List.set_cons_succ]
            refine wpAnyH_ready (rs := [3]) (by kernel_rfl) (by simp) ?_
            refine AllReadyH.cons rfl (fun K hK => ?_) ?_
            · have HCT := Lib.hid (fun (W : World) => to_at14 c.peer rest W)
              go_simp
              go_wp2_with ((go_at_call 11; (with_reducible refine (HCT.out _).mono ?_); rintro e z3 ⟨av, bv, rfl, hw3, hb⟩; have HW3 := Lib.hid hw3; have HZ3 := Lib.hid (bthen hHeld hb); clear hw3 hb HCT))
              refine hK.out _ _ (by (try dsimp only); exact HZ3.out) (fun hHeld => ?_)
              clear hK K
              refine wpAnyH_ready (rs := [4]) (by kernel_rfl) (by simp) ?_
              refine AllReadyH.cons rfl (fun K hK => ?_) ?_
              · refine step_lits Tryd.outAt14 (d := 41) rfl (by rfl) rfl [(ownP c (some ⟨p12, 0, none⟩) (some ⟨p4, 0, none⟩) (some ⟨p9, 0, none⟩) c.client c.peer own h), (herP (some ⟨bv, 0, none⟩) (some ⟨av, 0, none⟩) c.peer rest)] rfl (by decide) (by decide) (by intro x hx; simp at hx; rcases hx with rfl | rfl; rfl; rfl) (by rfl) ?_
                intro p16 z4 hp hh hb
                have HP16 := Lib.hid hh
                have HZ4 := Lib.hid (bthen HZ3.out hb)
                have HW4 := Lib.hid (HW3.out.keep hb)
                have N16 := Lib.hid (Nat.le_trans HZ3.out.size hp)
                clear hp hh hb
                refine hK.out _ _ (by (try dsimp only); exact HZ4.out) (fun hHeld => ?_)
                clear hK K
                refine take_at (i := 5) (v := ?_) rfl rfl (by kernel_rfl) (by kernel_rfl) (by kernel_rfl) (fun _ _ _ h => h) (Or.inl ⟨by rfl, ?_⟩) (by assumption) ?_
                rotate_left
                · intro w0 hSw; (try dsimp only at hSw); first | (go_simp; done) | (go_simp; with_reducible rfl)
                simp only [List.setIfInBounds_toArray, List.set_cons_zero, List.set_cons_succ]
                refine wpAnyH_done (by kernel_rfl) ?_ _
                clear hHeld
                go_wp2_with fail
                go_ret
                have n2 := HB2.out.size
                have n5 := HX.out.size
                have m4 := NNp4.out
                have m9 := NNp9.out
                have m12 := NNp12.out
                have m16 := N16.out
                have n9 : y5.drew.heap.size = y5.heap.size := rfl
                exact ⟨p4, p9, p12, av, bv, p16, rfl, ⟨⟨⟨by omega, keep HZ4.out HPp4.out⟩, ⟨by omega, keep HZ4.out HPp9.out⟩, ⟨by omega, keep HZ4.out HPp12.out⟩⟩, HW4.out.old (by omega), ⟨by omega, HP16.out⟩⟩, bthen (bthen HB2.out HX.out) HZ4.out⟩
              exact AllReadyH.nil
            exact AllReadyH.nil
          exact AllReadyH.nil
        exact AllReadyH.nil
      refine AllReadyH.cons rfl (fun K hK => ?_) ?_
      · refine step_alloc10 (d := 13) rfl (by rfl) 50 rfl noOut.cells.toArray Tryd.zeroOut14 ?_
        intro p14 y3 hp hh hb
        have NEp9 : Hid (p9 ≠ p14) := Lib.hid (by have h8 := lt_of_block HPp9.out; omega)
        have NEp4 : Hid (p4 ≠ p14) := Lib.hid (by have h8 := lt_of_block HPp4.out; omega)
        have N14 : Hid (w2.heap.size ≤ p14) := Lib.hid (Nat.le_trans (Below.size hHeld) hp)
        have HPp9 := Lib.hid (keep hb HPp9.out)
        have HPp4 := Lib.hid (keep hb HPp4.out)
        have NNp14 : Hid (w2.heap.size ≤ p14) := Lib.hid (Nat.le_trans (Below.size hHeld) hp)
        have HPp14 := Lib.hid hh
        have HX := Lib.hid (bthen hHeld hb)
        clear hp hh hb
        refine hK.out _ _ (by (try dsimp only); exact HX.out) (fun hHeld => ?_)
        clear hK K
        refine wpAnyH_ready (rs := [12]) (by kernel_rfl) (by simp) ?_
        refine AllReadyH.cons rfl (fun K hK => ?_) ?_
        · refine step_lits Tryd.wayAt14 (d := 35) rfl (by rfl) rfl [⟨some ⟨p4, 0, none⟩, 1, 1, [c.client], zero32, 0, c.wait⟩, ⟨some ⟨p9, 0, none⟩, 1, 1, [c.peer], h, 0, 0⟩] rfl (by decide) (by decide) (by intro x hx; simp at hx; rcases hx with rfl | rfl; exact PWay.cells_len zero32_len; exact PWay.cells_len HHL.out) (by rfl) ?_
          intro p12 y4 hp hh hb
          have NEp12 : Hid (p12 ≠ p14) := Lib.hid (by have h8 := lt_of_block HPp14.out; omega)
          have HPp9 := Lib.hid (keep hb HPp9.out)
          have HPp4 := Lib.hid (keep hb HPp4.out)
          have HPp14 := Lib.hid (keep hb HPp14.out)
          have NNp12 : Hid (w2.heap.size ≤ p12) := Lib.hid (Nat.le_trans (Below.size hHeld) hp)
          have HPp12 := Lib.hid hh
          have HX := Lib.hid (bthen hHeld hb)
          clear hp hh hb
          refine hK.out _ _ (by (try dsimp only); exact HX.out) (fun hHeld => ?_)
          clear hK K
          refine take_at (i := 13) rfl rfl (by kernel_rfl) (by kernel_rfl) (by kernel_rfl) (fun _ _ _ h => h) (yields_build10 (by rfl) rfl (vs := [(0, .int .i64 own), (1, .slice (some ⟨p12, 0, none⟩) 2 2)]) (by rfl) (build_out14 own _ _ _ [⟨some ⟨p4, 0, none⟩, 1, 1, [c.client], zero32, 0, c.wait⟩, ⟨some ⟨p9, 0, none⟩, 1, 1, [c.peer], h, 0, 0⟩])) (by assumption) ?_
          simp only [List.setIfInBounds_toArray, List.set_cons_zero, List.set_cons_succ]
          refine wpAnyH_ready (rs := [15]) (by kernel_rfl) (by simp) ?_
          refine AllReadyH.cons rfl (fun K hK => ?_) ?_
          · refine step_row10 (by rfl) 50 _ _ rfl p14 (POut.cells (ownP c (some ⟨p12, 0, none⟩) (some ⟨p4, 0, none⟩) (some ⟨p9, 0, none⟩) c.client c.peer own h)) (by rfl) (by rfl) 50 noOut.cells HPp14.out (by kernel_rfl) rfl (POut.one _) (fun y5 hh hb => ?_)
            have HX := Lib.hid (But.in hHeld hb N14.out)
            have HPp9 := Lib.hid ((hb.block p9 (lt_of_block HPp9.out) NEp9.out).trans HPp9.out)
            have HPp4 := Lib.hid ((hb.block p4 (lt_of_block HPp4.out) NEp4.out).trans HPp4.out)
            have HPp12 := Lib.hid ((hb.block p12 (lt_of_block HPp12.out) NEp12.out).trans HPp12.out)
            have HPp14 := Lib.hid hh
            clear hh hb
            refine hK.out _ _ (by (try dsimp only); exact HX.out) (fun hHeld => ?_)
            clear hK K
            refine wpAnyH_done (by kernel_rfl) ?_ _
            clear hHeld
            go_upto_region 4 with (fail)
            refine wp_region_held_drew (S := fun w' => Below y5.heap.size y5 w') (by kernel_rfl) (below_drew (Below.refl _ _)) (fun hHeld => ?_)
            refine take_at (i := 0) rfl rfl (by kernel_rfl) (by kernel_rfl) (by kernel_rfl) (fun _ _ _ h => h) (yieldsIf_load_mid (by rfl) _ _ rfl p14 0 rfl (POut.cells (ownP c (some ⟨p12, 0, none⟩) (some ⟨p4, 0, none⟩) (some ⟨p9, 0, none⟩) c.client c.peer own h)) _ (fun w0 hSw => range_of (keep hSw HPp14.out)) Tryd.underlying50 rfl (by kernel_rfl)) (by assumption) ?_
            simp only [List.setIfInBounds_toArray, List.set_cons_zero, List.set_cons_succ]
            refine take_at (i := 1) (v := ?_) rfl rfl (by kernel_rfl) (by kernel_rfl) (by kernel_rfl) (fun _ _ _ h => h) (Or.inl ⟨by rfl, ?_⟩) (by assumption) ?_
            rotate_left
            · intro w0 hSw; (try dsimp only at hSw); first | (go_simp; done) | (go_simp; with_reducible rfl)
            simp only [List.setIfInBounds_toArray, List.set_cons_zero, List.set_cons_succ]
            refine take_at (i := 2) (v := ?_) rfl rfl (by kernel_rfl) (by kernel_rfl) (by kernel_rfl) (fun _ _ _ h => h) (Or.inl ⟨by rfl, ?_⟩) (by assumption) ?_
            rotate_left
            · intro w0 hSw; (try dsimp only at hSw); first | (go_simp; done) | (go_simp; with_reducible rfl)
            simp only [List.setIfInBounds_toArray, List.set_cons_zero, List.set_cons_succ]
            refine wpAnyH_ready (rs := [3]) (by kernel_rfl) (by simp) ?_
            refine AllReadyH.cons rfl (fun K hK => ?_) ?_
            · have HCT := Lib.hid (fun (W : World) => to_at14 c.peer rest W)
              go_simp
              go_wp2_with ((go_at_call 11; (with_reducible refine (HCT.out _).mono ?_); rintro e z3 ⟨av, bv, rfl, hw3, hb⟩; have HW3 := Lib.hid hw3; have HZ3 := Lib.hid (bthen hHeld hb); clear hw3 hb HCT))
              refine hK.out _ _ (by (try dsimp only); exact HZ3.out) (fun hHeld => ?_)
              clear hK K
              refine wpAnyH_ready (rs := [4]) (by kernel_rfl) (by simp) ?_
              refine AllReadyH.cons rfl (fun K hK => ?_) ?_
              · refine step_lits Tryd.outAt14 (d := 41) rfl (by rfl) rfl [(ownP c (some ⟨p12, 0, none⟩) (some ⟨p4, 0, none⟩) (some ⟨p9, 0, none⟩) c.client c.peer own h), (herP (some ⟨bv, 0, none⟩) (some ⟨av, 0, none⟩) c.peer rest)] rfl (by decide) (by decide) (by intro x hx; simp at hx; rcases hx with rfl | rfl; rfl; rfl) (by rfl) ?_
                intro p16 z4 hp hh hb
                have HP16 := Lib.hid hh
                have HZ4 := Lib.hid (bthen HZ3.out hb)
                have HW4 := Lib.hid (HW3.out.keep hb)
                have N16 := Lib.hid (Nat.le_trans HZ3.out.size hp)
                clear hp hh hb
                refine hK.out _ _ (by (try dsimp only); exact HZ4.out) (fun hHeld => ?_)
                clear hK K
                refine take_at (i := 5) (v := ?_) rfl rfl (by kernel_rfl) (by kernel_rfl) (by kernel_rfl) (fun _ _ _ h => h) (Or.inl ⟨by rfl, ?_⟩) (by assumption) ?_
                rotate_left
                · intro w0 hSw; (try dsimp only at hSw); first | (go_simp; done) | (go_simp; with_reducible rfl)
                simp only [List.setIfInBounds_toArray, List.set_cons_zero, List.set_cons_succ]
                refine wpAnyH_done (by kernel_rfl) ?_ _
                clear hHeld
                go_wp2_with fail
                go_ret
                have n2 := HB2.out.size
                have n5 := HX.out.size
                have m4 := NNp4.out
                have m9 := NNp9.out
                have m12 := NNp12.out
                have m16 := N16.out
                have n9 : y5.drew.heap.size = y5.heap.size := rfl
                exact ⟨p4, p9, p12, av, bv, p16, rfl, ⟨⟨⟨by omega, keep HZ4.out HPp4.out⟩, ⟨by omega, keep HZ4.out HPp9.out⟩, ⟨by omega, keep HZ4.out HPp12.out⟩⟩, HW4.out.old (by omega), ⟨by omega, HP16.out⟩⟩, bthen (bthen HB2.out HX.out) HZ4.out⟩
              exact AllReadyH.nil
            exact AllReadyH.nil
          exact AllReadyH.nil
        exact AllReadyH.nil
      exact AllReadyH.nil
    refine AllReadyH.cons rfl (fun K hK => ?_) ?_
    · refine step_alloc10 (d := 13) rfl (by rfl) 50 rfl noOut.cells.toArray Tryd.zeroOut14 ?_
      intro p14 y2 hp hh hb
      have NEp9 : Hid (p9 ≠ p14) := Lib.hid (by have h8 := lt_of_block HPp9.out; omega)
      have N14 : Hid (w2.heap.size ≤ p14) := Lib.hid (Nat.le_trans (Below.size hHeld) hp)
      have HPp9 := Lib.hid (keep hb HPp9.out)
      have NNp14 : Hid (w2.heap.size ≤ p14) := Lib.hid (Nat.le_trans (Below.size hHeld) hp)
      have HPp14 := Lib.hid hh
      have HX := Lib.hid (bthen hHeld hb)
      clear hp hh hb
      refine hK.out _ _ (by (try dsimp only); exact HX.out) (fun hHeld => ?_)
      clear hK K
      refine wpAnyH_ready (rs := [4]) (by kernel_rfl) (by simp) ?_
      refine AllReadyH.cons rfl (fun K hK => ?_) ?_
      · refine step_int14 (d := 27) (y := c.client) rfl (by rfl) rfl (by rfl) ?_
        intro p4 y3 hp hh hb
        have NEp4 : Hid (p4 ≠ p14) := Lib.hid (by have h8 := lt_of_block HPp14.out; omega)
        have HPp9 := Lib.hid (keep hb HPp9.out)
        have HPp14 := Lib.hid (keep hb HPp14.out)
        have NNp4 : Hid (w2.heap.size ≤ p4) := Lib.hid (Nat.le_trans (Below.size hHeld) hp)
        have HPp4 := Lib.hid hh
        have HX := Lib.hid (bthen hHeld hb)
        clear hp hh hb
        refine hK.out _ _ (by (try dsimp only); exact HX.out) (fun hHeld => ?_)
        clear hK K
        refine take_at (i := 7) rfl rfl (by kernel_rfl) (by kernel_rfl) (by kernel_rfl) (fun _ _ _ h => h) (yields_build10 (by rfl) rfl (vs := [(0, .slice (some ⟨p4, 0, none⟩) 1 1), (3, .int .i64 c.wait)]) (by rfl) (build_way_wait _ _ _ [c.client] _)) (by assumption) ?_
        simp only [List.setIfInBounds_toArray, List.set_cons_zero, List.set_cons_succ]
        refine wpAnyH_ready (rs := [12]) (by kernel_rfl) (by simp) ?_
        refine AllReadyH.cons rfl (fun K hK => ?_) ?_
        · refine step_lits Tryd.wayAt14 (d := 35) rfl (by rfl) rfl [⟨some ⟨p4, 0, none⟩, 1, 1, [c.client], zero32, 0, c.wait⟩, ⟨some ⟨p9, 0, none⟩, 1, 1, [c.peer], h, 0, 0⟩] rfl (by decide) (by decide) (by intro x hx; simp at hx; rcases hx with rfl | rfl; exact PWay.cells_len zero32_len; exact PWay.cells_len HHL.out) (by rfl) ?_
          intro p12 y4 hp hh hb
          have NEp12 : Hid (p12 ≠ p14) := Lib.hid (by have h8 := lt_of_block HPp14.out; omega)
          have HPp9 := Lib.hid (keep hb HPp9.out)
          have HPp14 := Lib.hid (keep hb HPp14.out)
          have HPp4 := Lib.hid (keep hb HPp4.out)
          have NNp12 : Hid (w2.heap.size ≤ p12) := Lib.hid (Nat.le_trans (Below.size hHeld) hp)
          have HPp12 := Lib.hid hh
          have HX := Lib.hid (bthen hHeld hb)
          clear hp hh hb
          refine hK.out _ _ (by (try dsimp only); exact HX.out) (fun hHeld => ?_)
          clear hK K
          refine take_at (i := 13) rfl rfl (by kernel_rfl) (by kernel_rfl) (by kernel_rfl) (fun _ _ _ h => h) (yields_build10 (by rfl) rfl (vs := [(0, .int .i64 own), (1, .slice (some ⟨p12, 0, none⟩) 2 2)]) (by rfl) (build_out14 own _ _ _ [⟨some ⟨p4, 0, none⟩, 1, 1, [c.client], zero32, 0, c.wait⟩, ⟨some ⟨p9, 0, none⟩, 1, 1, [c.peer], h, 0, 0⟩])) (by assumption) ?_
          simp only [List.setIfInBounds_toArray, List.set_cons_zero, List.set_cons_succ]
          refine wpAnyH_ready (rs := [15]) (by kernel_rfl) (by simp) ?_
          refine AllReadyH.cons rfl (fun K hK => ?_) ?_
          · refine step_row10 (by rfl) 50 _ _ rfl p14 (POut.cells (ownP c (some ⟨p12, 0, none⟩) (some ⟨p4, 0, none⟩) (some ⟨p9, 0, none⟩) c.client c.peer own h)) (by rfl) (by rfl) 50 noOut.cells HPp14.out (by kernel_rfl) rfl (POut.one _) (fun y5 hh hb => ?_)
            have HX := Lib.hid (But.in hHeld hb N14.out)
            have HPp9 := Lib.hid ((hb.block p9 (lt_of_block HPp9.out) NEp9.out).trans HPp9.out)
            have HPp4 := Lib.hid ((hb.block p4 (lt_of_block HPp4.out) NEp4.out).trans HPp4.out)
            have HPp12 := Lib.hid ((hb.block p12 (lt_of_block HPp12.out) NEp12.out).trans HPp12.out)
            have HPp14 := Lib.hid hh
            clear hh hb
            refine hK.out _ _ (by (try dsimp only); exact HX.out) (fun hHeld => ?_)
            clear hK K
            refine wpAnyH_done (by kernel_rfl) ?_ _
            clear hHeld
            go_upto_region 4 with (fail)
            refine wp_region_held_drew (S := fun w' => Below y5.heap.size y5 w') (by kernel_rfl) (below_drew (Below.refl _ _)) (fun hHeld => ?_)
            refine take_at (i := 0) rfl rfl (by kernel_rfl) (by kernel_rfl) (by kernel_rfl) (fun _ _ _ h => h) (yieldsIf_load_mid (by rfl) _ _ rfl p14 0 rfl (POut.cells (ownP c (some ⟨p12, 0, none⟩) (some ⟨p4, 0, none⟩) (some ⟨p9, 0, none⟩) c.client c.peer own h)) _ (fun w0 hSw => range_of (keep hSw HPp14.out)) Tryd.underlying50 rfl (by kernel_rfl)) (by assumption) ?_
            simp only [List.setIfInBounds_toArray, List.set_cons_zero, List.set_cons_succ]
            refine take_at (i := 1) (v := ?_) rfl rfl (by kernel_rfl) (by kernel_rfl) (by kernel_rfl) (fun _ _ _ h => h) (Or.inl ⟨by rfl, ?_⟩) (by assumption) ?_
            rotate_left
            · intro w0 hSw; (try dsimp only at hSw); first | (go_simp; done) | (go_simp; with_reducible rfl)
            simp only [List.setIfInBounds_toArray, List.set_cons_zero, List.set_cons_succ]
            refine take_at (i := 2) (v := ?_) rfl rfl (by kernel_rfl) (by kernel_rfl) (by kernel_rfl) (fun _ _ _ h => h) (Or.inl ⟨by rfl, ?_⟩) (by assumption) ?_
            rotate_left
            · intro w0 hSw; (try dsimp only at hSw); first | (go_simp; done) | (go_simp; with_reducible rfl)
            simp only [List.setIfInBounds_toArray, List.set_cons_zero, List.set_cons_succ]
            refine wpAnyH_ready (rs := [3]) (by kernel_rfl) (by simp) ?_
            refine AllReadyH.cons rfl (fun K hK => ?_) ?_
            · have HCT := Lib.hid (fun (W : World) => to_at14 c.peer rest W)
              go_simp
              go_wp2_with ((go_at_call 11; (with_reducible refine (HCT.out _).mono ?_); rintro e z3 ⟨av, bv, rfl, hw3, hb⟩; have HW3 := Lib.hid hw3; have HZ3 := Lib.hid (bthen hHeld hb); clear hw3 hb HCT))
              refine hK.out _ _ (by (try dsimp only); exact HZ3.out) (fun hHeld => ?_)
              clear hK K
              refine wpAnyH_ready (rs := [4]) (by kernel_rfl) (by simp) ?_
              refine AllReadyH.cons rfl (fun K hK => ?_) ?_
              · refine step_lits Tryd.outAt14 (d := 41) rfl (by rfl) rfl [(ownP c (some ⟨p12, 0, none⟩) (some ⟨p4, 0, none⟩) (some ⟨p9, 0, none⟩) c.client c.peer own h), (herP (some ⟨bv, 0, none⟩) (some ⟨av, 0, none⟩) c.peer rest)] rfl (by decide) (by decide) (by intro x hx; simp at hx; rcases hx with rfl | rfl; rfl; rfl) (by rfl) ?_
                intro p16 z4 hp hh hb
                have HP16 := Lib.hid hh
                have HZ4 := Lib.hid (bthen HZ3.out hb)
                have HW4 := Lib.hid (HW3.out.keep hb)
                have N16 := Lib.hid (Nat.le_trans HZ3.out.size hp)
                clear hp hh hb
                refine hK.out _ _ (by (try dsimp only); exact HZ4.out) (fun hHeld => ?_)
                clear hK K
                refine take_at (i := 5) (v := ?_) rfl rfl (by kernel_rfl) (by kernel_rfl) (by kernel_rfl) (fun _ _ _ h => h) (Or.inl ⟨by rfl, ?_⟩) (by assumption) ?_
                rotate_left
                · intro w0 hSw; (try dsimp only at hSw); first | (go_simp; done) | (go_simp; with_reducible rfl)
                simp only [List.setIfInBounds_toArray, List.set_cons_zero, List.set_cons_succ]
                refine wpAnyH_done (by kernel_rfl) ?_ _
                clear hHeld
                go_wp2_with fail
                go_ret
                have n2 := HB2.out.size
                have n5 := HX.out.size
                have m4 := NNp4.out
                have m9 := NNp9.out
                have m12 := NNp12.out
                have m16 := N16.out
                have n9 : y5.drew.heap.size = y5.heap.size := rfl
                exact ⟨p4, p9, p12, av, bv, p16, rfl, ⟨⟨⟨by omega, keep HZ4.out HPp4.out⟩, ⟨by omega, keep HZ4.out HPp9.out⟩, ⟨by omega, keep HZ4.out HPp12.out⟩⟩, HW4.out.old (by omega), ⟨by omega, HP16.out⟩⟩, bthen (bthen HB2.out HX.out) HZ4.out⟩
              exact AllReadyH.nil
            exact AllReadyH.nil
          exact AllReadyH.nil
        exact AllReadyH.nil
      exact AllReadyH.nil
    exact AllReadyH.nil
  refine AllReadyH.cons rfl (fun K hK => ?_) ?_
  · refine step_alloc10 (d := 13) rfl (by rfl) 50 rfl noOut.cells.toArray Tryd.zeroOut14 ?_
    intro p14 y1 hp hh hb
    have N14 : Hid (w2.heap.size ≤ p14) := Lib.hid (Nat.le_trans (Below.size hHeld) hp)
    have NNp14 : Hid (w2.heap.size ≤ p14) := Lib.hid (Nat.le_trans (Below.size hHeld) hp)
    have HPp14 := Lib.hid hh
    have HX := Lib.hid (bthen hHeld hb)
    clear hp hh hb
    refine hK.out _ _ (by (try dsimp only); exact HX.out) (fun hHeld => ?_)
    clear hK K
    refine wpAnyH_ready (rs := [4, 9]) (by kernel_rfl) (by simp) ?_
    refine AllReadyH.cons rfl (fun K hK => ?_) ?_
    · refine step_int14 (d := 27) (y := c.client) rfl (by rfl) rfl (by rfl) ?_
      intro p4 y2 hp hh hb
      have NEp4 : Hid (p4 ≠ p14) := Lib.hid (by have h8 := lt_of_block HPp14.out; omega)
      have HPp14 := Lib.hid (keep hb HPp14.out)
      have NNp4 : Hid (w2.heap.size ≤ p4) := Lib.hid (Nat.le_trans (Below.size hHeld) hp)
      have HPp4 := Lib.hid hh
      have HX := Lib.hid (bthen hHeld hb)
      clear hp hh hb
      refine hK.out _ _ (by (try dsimp only); exact HX.out) (fun hHeld => ?_)
      clear hK K
      refine take_at (i := 7) rfl rfl (by kernel_rfl) (by kernel_rfl) (by kernel_rfl) (fun _ _ _ h => h) (yields_build10 (by rfl) rfl (vs := [(0, .slice (some ⟨p4, 0, none⟩) 1 1), (3, .int .i64 c.wait)]) (by rfl) (build_way_wait _ _ _ [c.client] _)) (by assumption) ?_
      simp only [List.setIfInBounds_toArray, List.set_cons_zero, List.set_cons_succ]
      refine wpAnyH_ready (rs := [9]) (by kernel_rfl) (by simp) ?_
      refine AllReadyH.cons rfl (fun K hK => ?_) ?_
      · refine step_int14 (d := 32) (y := c.peer) rfl (by rfl) rfl (by rfl) ?_
        intro p9 y3 hp hh hb
        have NEp9 : Hid (p9 ≠ p14) := Lib.hid (by have h8 := lt_of_block HPp14.out; omega)
        have HPp14 := Lib.hid (keep hb HPp14.out)
        have HPp4 := Lib.hid (keep hb HPp4.out)
        have NNp9 : Hid (w2.heap.size ≤ p9) := Lib.hid (Nat.le_trans (Below.size hHeld) hp)
        have HPp9 := Lib.hid hh
        have HX := Lib.hid (bthen hHeld hb)
        clear hp hh hb
        refine hK.out _ _ (by (try dsimp only); exact HX.out) (fun hHeld => ?_)
        clear hK K
        refine take_at (i := 11) rfl rfl (by kernel_rfl) (by kernel_rfl) (by kernel_rfl) (fun _ _ _ h => h) (yields_build10 (by rfl) rfl (vs := [(0, .slice (some ⟨p9, 0, none⟩) 1 1), (1, .agg (cellsOf h).toArray)]) (by rfl) (build_way_hash _ _ _ [c.peer] HHL.out)) (by assumption) ?_
        simp only [List.setIfInBounds_toArray, List.set_cons_zero, List.set_cons_succ]
        refine wpAnyH_ready (rs := [12]) (by kernel_rfl) (by simp) ?_
        refine AllReadyH.cons rfl (fun K hK => ?_) ?_
        · refine step_lits Tryd.wayAt14 (d := 35) rfl (by rfl) rfl [⟨some ⟨p4, 0, none⟩, 1, 1, [c.client], zero32, 0, c.wait⟩, ⟨some ⟨p9, 0, none⟩, 1, 1, [c.peer], h, 0, 0⟩] rfl (by decide) (by decide) (by intro x hx; simp at hx; rcases hx with rfl | rfl; exact PWay.cells_len zero32_len; exact PWay.cells_len HHL.out) (by rfl) ?_
          intro p12 y4 hp hh hb
          have NEp12 : Hid (p12 ≠ p14) := Lib.hid (by have h8 := lt_of_block HPp14.out; omega)
          have HPp14 := Lib.hid (keep hb HPp14.out)
          have HPp4 := Lib.hid (keep hb HPp4.out)
          have HPp9 := Lib.hid (keep hb HPp9.out)
          have NNp12 : Hid (w2.heap.size ≤ p12) := Lib.hid (Nat.le_trans (Below.size hHeld) hp)
          have HPp12 := Lib.hid hh
          have HX := Lib.hid (bthen hHeld hb)
          clear hp hh hb
          refine hK.out _ _ (by (try dsimp only); exact HX.out) (fun hHeld => ?_)
          clear hK K
          refine take_at (i := 13) rfl rfl (by kernel_rfl) (by kernel_rfl) (by kernel_rfl) (fun _ _ _ h => h) (yields_build10 (by rfl) rfl (vs := [(0, .int .i64 own), (1, .slice (some ⟨p12, 0, none⟩) 2 2)]) (by rfl) (build_out14 own _ _ _ [⟨some ⟨p4, 0, none⟩, 1, 1, [c.client], zero32, 0, c.wait⟩, ⟨some ⟨p9, 0, none⟩, 1, 1, [c.peer], h, 0, 0⟩])) (by assumption) ?_
          simp only [List.setIfInBounds_toArray, List.set_cons_zero, List.set_cons_succ]
          refine wpAnyH_ready (rs := [15]) (by kernel_rfl) (by simp) ?_
          refine AllReadyH.cons rfl (fun K hK => ?_) ?_
          · refine step_row10 (by rfl) 50 _ _ rfl p14 (POut.cells (ownP c (some ⟨p12, 0, none⟩) (some ⟨p4, 0, none⟩) (some ⟨p9, 0, none⟩) c.client c.peer own h)) (by rfl) (by rfl) 50 noOut.cells HPp14.out (by kernel_rfl) rfl (POut.one _) (fun y5 hh hb => ?_)
            have HX := Lib.hid (But.in hHeld hb N14.out)
            have HPp4 := Lib.hid ((hb.block p4 (lt_of_block HPp4.out) NEp4.out).trans HPp4.out)
            have HPp9 := Lib.hid ((hb.block p9 (lt_of_block HPp9.out) NEp9.out).trans HPp9.out)
            have HPp12 := Lib.hid ((hb.block p12 (lt_of_block HPp12.out) NEp12.out).trans HPp12.out)
            have HPp14 := Lib.hid hh
            clear hh hb
            refine hK.out _ _ (by (try dsimp only); exact HX.out) (fun hHeld => ?_)
            clear hK K
            refine wpAnyH_done (by kernel_rfl) ?_ _
            clear hHeld
            go_upto_region 4 with (fail)
            refine wp_region_held_drew (S := fun w' => Below y5.heap.size y5 w') (by kernel_rfl) (below_drew (Below.refl _ _)) (fun hHeld => ?_)
            refine take_at (i := 0) rfl rfl (by kernel_rfl) (by kernel_rfl) (by kernel_rfl) (fun _ _ _ h => h) (yieldsIf_load_mid (by rfl) _ _ rfl p14 0 rfl (POut.cells (ownP c (some ⟨p12, 0, none⟩) (some ⟨p4, 0, none⟩) (some ⟨p9, 0, none⟩) c.client c.peer own h)) _ (fun w0 hSw => range_of (keep hSw HPp14.out)) Tryd.underlying50 rfl (by kernel_rfl)) (by assumption) ?_
            simp only [List.setIfInBounds_toArray, List.set_cons_zero, List.set_cons_succ]
            refine take_at (i := 1) (v := ?_) rfl rfl (by kernel_rfl) (by kernel_rfl) (by kernel_rfl) (fun _ _ _ h => h) (Or.inl ⟨by rfl, ?_⟩) (by assumption) ?_
            rotate_left
            · intro w0 hSw; (try dsimp only at hSw); first | (go_simp; done) | (go_simp; with_reducible rfl)
            simp only [List.setIfInBounds_toArray, List.set_cons_zero, List.set_cons_succ]
            refine take_at (i := 2) (v := ?_) rfl rfl (by kernel_rfl) (by kernel_rfl) (by kernel_rfl) (fun _ _ _ h => h) (Or.inl ⟨by rfl, ?_⟩) (by assumption) ?_
            rotate_left
            · intro w0 hSw; (try dsimp only at hSw); first | (go_simp; done) | (go_simp; with_reducible rfl)
            simp only [List.setIfInBounds_toArray, List.set_cons_zero, List.set_cons_succ]
            refine wpAnyH_ready (rs := [3]) (by kernel_rfl) (by simp) ?_
            refine AllReadyH.cons rfl (fun K hK => ?_) ?_
            · have HCT := Lib.hid (fun (W : World) => to_at14 c.peer rest W)
              go_simp
              go_wp2_with ((go_at_call 11; (with_reducible refine (HCT.out _).mono ?_); rintro e z3 ⟨av, bv, rfl, hw3, hb⟩; have HW3 := Lib.hid hw3; have HZ3 := Lib.hid (bthen hHeld hb); clear hw3 hb HCT))
              refine hK.out _ _ (by (try dsimp only); exact HZ3.out) (fun hHeld => ?_)
              clear hK K
              refine wpAnyH_ready (rs := [4]) (by kernel_rfl) (by simp) ?_
              refine AllReadyH.cons rfl (fun K hK => ?_) ?_
              · refine step_lits Tryd.outAt14 (d := 41) rfl (by rfl) rfl [(ownP c (some ⟨p12, 0, none⟩) (some ⟨p4, 0, none⟩) (some ⟨p9, 0, none⟩) c.client c.peer own h), (herP (some ⟨bv, 0, none⟩) (some ⟨av, 0, none⟩) c.peer rest)] rfl (by decide) (by decide) (by intro x hx; simp at hx; rcases hx with rfl | rfl; rfl; rfl) (by rfl) ?_
                intro p16 z4 hp hh hb
                have HP16 := Lib.hid hh
                have HZ4 := Lib.hid (bthen HZ3.out hb)
                have HW4 := Lib.hid (HW3.out.keep hb)
                have N16 := Lib.hid (Nat.le_trans HZ3.out.size hp)
                clear hp hh hb
                refine hK.out _ _ (by (try dsimp only); exact HZ4.out) (fun hHeld => ?_)
                clear hK K
                refine take_at (i := 5) (v := ?_) rfl rfl (by kernel_rfl) (by kernel_rfl) (by kernel_rfl) (fun _ _ _ h => h) (Or.inl ⟨by rfl, ?_⟩) (by assumption) ?_
                rotate_left
                · intro w0 hSw; (try dsimp only at hSw); first | (go_simp; done) | (go_simp; with_reducible rfl)
                simp only [List.setIfInBounds_toArray, List.set_cons_zero, List.set_cons_succ]
                refine wpAnyH_done (by kernel_rfl) ?_ _
                clear hHeld
                go_wp2_with fail
                go_ret
                have n2 := HB2.out.size
                have n5 := HX.out.size
                have m4 := NNp4.out
                have m9 := NNp9.out
                have m12 := NNp12.out
                have m16 := N16.out
                have n9 : y5.drew.heap.size = y5.heap.size := rfl
                exact ⟨p4, p9, p12, av, bv, p16, rfl, ⟨⟨⟨by omega, keep HZ4.out HPp4.out⟩, ⟨by omega, keep HZ4.out HPp9.out⟩, ⟨by omega, keep HZ4.out HPp12.out⟩⟩, HW4.out.old (by omega), ⟨by omega, HP16.out⟩⟩, bthen (bthen HB2.out HX.out) HZ4.out⟩
              exact AllReadyH.nil
            exact AllReadyH.nil
          exact AllReadyH.nil
        exact AllReadyH.nil
      exact AllReadyH.nil
    refine AllReadyH.cons rfl (fun K hK => ?_) ?_
    · refine step_int14 (d := 32) (y := c.peer) rfl (by rfl) rfl (by rfl) ?_
      intro p9 y2 hp hh hb
      have NEp9 : Hid (p9 ≠ p14) := Lib.hid (by have h8 := lt_of_block HPp14.out; omega)
      have HPp14 := Lib.hid (keep hb HPp14.out)
      have NNp9 : Hid (w2.heap.size ≤ p9) := Lib.hid (Nat.le_trans (Below.size hHeld) hp)
      have HPp9 := Lib.hid hh
      have HX := Lib.hid (bthen hHeld hb)
      clear hp hh hb
      refine hK.out _ _ (by (try dsimp only); exact HX.out) (fun hHeld => ?_)
      clear hK K
      refine take_at (i := 11) rfl rfl (by kernel_rfl) (by kernel_rfl) (by kernel_rfl) (fun _ _ _ h => h) (yields_build10 (by rfl) rfl (vs := [(0, .slice (some ⟨p9, 0, none⟩) 1 1), (1, .agg (cellsOf h).toArray)]) (by rfl) (build_way_hash _ _ _ [c.peer] HHL.out)) (by assumption) ?_
      simp only [List.setIfInBounds_toArray, List.set_cons_zero, List.set_cons_succ]
      refine wpAnyH_ready (rs := [4]) (by kernel_rfl) (by simp) ?_
      refine AllReadyH.cons rfl (fun K hK => ?_) ?_
      · refine step_int14 (d := 27) (y := c.client) rfl (by rfl) rfl (by rfl) ?_
        intro p4 y3 hp hh hb
        have NEp4 : Hid (p4 ≠ p14) := Lib.hid (by have h8 := lt_of_block HPp14.out; omega)
        have HPp14 := Lib.hid (keep hb HPp14.out)
        have HPp9 := Lib.hid (keep hb HPp9.out)
        have NNp4 : Hid (w2.heap.size ≤ p4) := Lib.hid (Nat.le_trans (Below.size hHeld) hp)
        have HPp4 := Lib.hid hh
        have HX := Lib.hid (bthen hHeld hb)
        clear hp hh hb
        refine hK.out _ _ (by (try dsimp only); exact HX.out) (fun hHeld => ?_)
        clear hK K
        refine take_at (i := 7) rfl rfl (by kernel_rfl) (by kernel_rfl) (by kernel_rfl) (fun _ _ _ h => h) (yields_build10 (by rfl) rfl (vs := [(0, .slice (some ⟨p4, 0, none⟩) 1 1), (3, .int .i64 c.wait)]) (by rfl) (build_way_wait _ _ _ [c.client] _)) (by assumption) ?_
        simp only [List.setIfInBounds_toArray, List.set_cons_zero, List.set_cons_succ]
        refine wpAnyH_ready (rs := [12]) (by kernel_rfl) (by simp) ?_
        refine AllReadyH.cons rfl (fun K hK => ?_) ?_
        · refine step_lits Tryd.wayAt14 (d := 35) rfl (by rfl) rfl [⟨some ⟨p4, 0, none⟩, 1, 1, [c.client], zero32, 0, c.wait⟩, ⟨some ⟨p9, 0, none⟩, 1, 1, [c.peer], h, 0, 0⟩] rfl (by decide) (by decide) (by intro x hx; simp at hx; rcases hx with rfl | rfl; exact PWay.cells_len zero32_len; exact PWay.cells_len HHL.out) (by rfl) ?_
          intro p12 y4 hp hh hb
          have NEp12 : Hid (p12 ≠ p14) := Lib.hid (by have h8 := lt_of_block HPp14.out; omega)
          have HPp14 := Lib.hid (keep hb HPp14.out)
          have HPp9 := Lib.hid (keep hb HPp9.out)
          have HPp4 := Lib.hid (keep hb HPp4.out)
          have NNp12 : Hid (w2.heap.size ≤ p12) := Lib.hid (Nat.le_trans (Below.size hHeld) hp)
          have HPp12 := Lib.hid hh
          have HX := Lib.hid (bthen hHeld hb)
          clear hp hh hb
          refine hK.out _ _ (by (try dsimp only); exact HX.out) (fun hHeld => ?_)
          clear hK K
          refine take_at (i := 13) rfl rfl (by kernel_rfl) (by kernel_rfl) (by kernel_rfl) (fun _ _ _ h => h) (yields_build10 (by rfl) rfl (vs := [(0, .int .i64 own), (1, .slice (some ⟨p12, 0, none⟩) 2 2)]) (by rfl) (build_out14 own _ _ _ [⟨some ⟨p4, 0, none⟩, 1, 1, [c.client], zero32, 0, c.wait⟩, ⟨some ⟨p9, 0, none⟩, 1, 1, [c.peer], h, 0, 0⟩])) (by assumption) ?_
          simp only [List.setIfInBounds_toArray, List.set_cons_zero, List.set_cons_succ]
          refine wpAnyH_ready (rs := [15]) (by kernel_rfl) (by simp) ?_
          refine AllReadyH.cons rfl (fun K hK => ?_) ?_
          · refine step_row10 (by rfl) 50 _ _ rfl p14 (POut.cells (ownP c (some ⟨p12, 0, none⟩) (some ⟨p4, 0, none⟩) (some ⟨p9, 0, none⟩) c.client c.peer own h)) (by rfl) (by rfl) 50 noOut.cells HPp14.out (by kernel_rfl) rfl (POut.one _) (fun y5 hh hb => ?_)
            have HX := Lib.hid (But.in hHeld hb N14.out)
            have HPp9 := Lib.hid ((hb.block p9 (lt_of_block HPp9.out) NEp9.out).trans HPp9.out)
            have HPp4 := Lib.hid ((hb.block p4 (lt_of_block HPp4.out) NEp4.out).trans HPp4.out)
            have HPp12 := Lib.hid ((hb.block p12 (lt_of_block HPp12.out) NEp12.out).trans HPp12.out)
            have HPp14 := Lib.hid hh
            clear hh hb
            refine hK.out _ _ (by (try dsimp only); exact HX.out) (fun hHeld => ?_)
            clear hK K
            refine wpAnyH_done (by kernel_rfl) ?_ _
            clear hHeld
            go_upto_region 4 with (fail)
            refine wp_region_held_drew (S := fun w' => Below y5.heap.size y5 w') (by kernel_rfl) (below_drew (Below.refl _ _)) (fun hHeld => ?_)
            refine take_at (i := 0) rfl rfl (by kernel_rfl) (by kernel_rfl) (by kernel_rfl) (fun _ _ _ h => h) (yieldsIf_load_mid (by rfl) _ _ rfl p14 0 rfl (POut.cells (ownP c (some ⟨p12, 0, none⟩) (some ⟨p4, 0, none⟩) (some ⟨p9, 0, none⟩) c.client c.peer own h)) _ (fun w0 hSw => range_of (keep hSw HPp14.out)) Tryd.underlying50 rfl (by kernel_rfl)) (by assumption) ?_
            simp only [List.setIfInBounds_toArray, List.set_cons_zero, List.set_cons_succ]
            refine take_at (i := 1) (v := ?_) rfl rfl (by kernel_rfl) (by kernel_rfl) (by kernel_rfl) (fun _ _ _ h => h) (Or.inl ⟨by rfl, ?_⟩) (by assumption) ?_
            rotate_left
            · intro w0 hSw; (try dsimp only at hSw); first | (go_simp; done) | (go_simp; with_reducible rfl)
            simp only [List.setIfInBounds_toArray, List.set_cons_zero, List.set_cons_succ]
            refine take_at (i := 2) (v := ?_) rfl rfl (by kernel_rfl) (by kernel_rfl) (by kernel_rfl) (fun _ _ _ h => h) (Or.inl ⟨by rfl, ?_⟩) (by assumption) ?_
            rotate_left
            · intro w0 hSw; (try dsimp only at hSw); first | (go_simp; done) | (go_simp; with_reducible rfl)
            simp only [List.setIfInBounds_toArray, List.set_cons_zero, List.set_cons_succ]
            refine wpAnyH_ready (rs := [3]) (by kernel_rfl) (by simp) ?_
            refine AllReadyH.cons rfl (fun K hK => ?_) ?_
            · have HCT := Lib.hid (fun (W : World) => to_at14 c.peer rest W)
              go_simp
              go_wp2_with ((go_at_call 11; (with_reducible refine (HCT.out _).mono ?_); rintro e z3 ⟨av, bv, rfl, hw3, hb⟩; have HW3 := Lib.hid hw3; have HZ3 := Lib.hid (bthen hHeld hb); clear hw3 hb HCT))
              refine hK.out _ _ (by (try dsimp only); exact HZ3.out) (fun hHeld => ?_)
              clear hK K
              refine wpAnyH_ready (rs := [4]) (by kernel_rfl) (by simp) ?_
              refine AllReadyH.cons rfl (fun K hK => ?_) ?_
              · refine step_lits Tryd.outAt14 (d := 41) rfl (by rfl) rfl [(ownP c (some ⟨p12, 0, none⟩) (some ⟨p4, 0, none⟩) (some ⟨p9, 0, none⟩) c.client c.peer own h), (herP (some ⟨bv, 0, none⟩) (some ⟨av, 0, none⟩) c.peer rest)] rfl (by decide) (by decide) (by intro x hx; simp at hx; rcases hx with rfl | rfl; rfl; rfl) (by rfl) ?_
                intro p16 z4 hp hh hb
                have HP16 := Lib.hid hh
                have HZ4 := Lib.hid (bthen HZ3.out hb)
                have HW4 := Lib.hid (HW3.out.keep hb)
                have N16 := Lib.hid (Nat.le_trans HZ3.out.size hp)
                clear hp hh hb
                refine hK.out _ _ (by (try dsimp only); exact HZ4.out) (fun hHeld => ?_)
                clear hK K
                refine take_at (i := 5) (v := ?_) rfl rfl (by kernel_rfl) (by kernel_rfl) (by kernel_rfl) (fun _ _ _ h => h) (Or.inl ⟨by rfl, ?_⟩) (by assumption) ?_
                rotate_left
                · intro w0 hSw; (try dsimp only at hSw); first | (go_simp; done) | (go_simp; with_reducible rfl)
                simp only [List.setIfInBounds_toArray, List.set_cons_zero, List.set_cons_succ]
                refine wpAnyH_done (by kernel_rfl) ?_ _
                clear hHeld
                go_wp2_with fail
                go_ret
                have n2 := HB2.out.size
                have n5 := HX.out.size
                have m4 := NNp4.out
                have m9 := NNp9.out
                have m12 := NNp12.out
                have m16 := N16.out
                have n9 : y5.drew.heap.size = y5.heap.size := rfl
                exact ⟨p4, p9, p12, av, bv, p16, rfl, ⟨⟨⟨by omega, keep HZ4.out HPp4.out⟩, ⟨by omega, keep HZ4.out HPp9.out⟩, ⟨by omega, keep HZ4.out HPp12.out⟩⟩, HW4.out.old (by omega), ⟨by omega, HP16.out⟩⟩, bthen (bthen HB2.out HX.out) HZ4.out⟩
              exact AllReadyH.nil
            exact AllReadyH.nil
          exact AllReadyH.nil
        exact AllReadyH.nil
      exact AllReadyH.nil
    exact AllReadyH.nil
  exact AllReadyH.nil
set_option linter.unusedSimpArgs false in
set_option maxRecDepth 100000 in
set_option maxHeartbeats 6400000 in
theorem outs1_any {w : World} {c : PChan} {h : List UInt8} {own rest : Int} (hc : ChanIn c) (hh : h.length = 32) :
    Calls Tryd.prog 17 #[.agg c.cells.toArray, .int .i64 1, .int .i64 own, .int .i64 rest, .agg (cellsOf h).toArray] w fun e w' => ∃ p1 p2 p3 p4 p5 p6 : Nat, e = .returned (.slice (some ⟨p6, 0, none⟩) 2 2) ∧ OutsAt w.heap.size w' c c.peer c.client own rest h p1 p2 p3 p4 p5 p6 ∧ Below w.heap.size w w' := by
  have HC := Lib.hid hc
  have HHL := Lib.hid hh
  have SZH : Hid ((Tryd.prog.info? 23).map (·.size) = some (cellsOf h).length) := Lib.hid (by rw [cellsOf_len, hh]; exact Tryd.size23)
  have HOF : Hid (∀ W : World, Calls Tryd.prog 18 #[.int .i64 1] W fun e w' => e = .returned (.int .i64 0) ∧ W = w') := Lib.hid fun W => otherOf_any W (.inr rfl)
  clear hc hh
  go_enter Tryd.func17, Tryd.ntmps17
  go_upto_region 1 with (fail)
  have b1 : Below w.heap.size w ((w.alloc (.cells c.cells.toArray 27)).alloc (.cells (cellsOf h).toArray 23)) := ((Below.refl _ _).alloc (Nat.le_refl _) _).alloc (by simp) _
  have h1 : ((w.alloc (.cells c.cells.toArray 27)).alloc (.cells (cellsOf h).toArray 23)).heap[w.heap.size]? = some (.cells c.cells.toArray 27 (0, 0)) := by
    rw [heap_alloc_old _ _ (by simp), heap_alloc_new]
  have h2 : ((w.alloc (.cells c.cells.toArray 27)).alloc (.cells (cellsOf h).toArray 23)).heap[w.heap.size + 1]? = some (.cells (cellsOf h).toArray 23 (0, 0)) := heap_alloc_at _ _ _ (by simp)
  revert b1 h1 h2
  generalize ((w.alloc (.cells c.cells.toArray 27)).alloc (.cells (cellsOf h).toArray 23)) = w1
  obtain ⟨g, hg⟩ : ∃ g, g = w.heap.size := ⟨_, rfl⟩
  rw [← hg]
  intro b1 h1 h2
  rw [hg] at b1
  have HB1 := Lib.hid b1
  have H1 := Lib.hid h1
  have H2 := Lib.hid h2
  have hat := chan_at HC.out.ftx (range_of h1)
  have c1 := hat.client
  have c2 := hat.peer
  rw [Nat.zero_add] at c1 c2
  clear hat b1 h1 h2 hg
  go_upto_region 3 with (first | (refine wpList_build10 rfl rfl (vs := [(0, .int .i64 c.client), (1, .int .i64 c.peer)]) rfl (build_pair14 _ _) ?_; go_frame) | (refine wpList_var rfl rfl 72 rfl _ _ rfl #[.int .i64 0, .int .i64 0] Tryd.zeroPair14 rfl [.int .i64 c.client, .int .i64 c.peer] (fun _ => rfl) (fun _ => rfl) rfl (by simp [Value.oneCell']) ?_; intro q w2 hq hh hb; go_frame; have d0 := (range_cons (range_of hh)).1; have d1 := (range_cons (range_cons (range_of hh)).2).1; rw [Nat.zero_add] at d1; have HD := Lib.hid d1; have HQL := Lib.hid (lt_of_block hh); have HB2 := Lib.hid (bthen HB1.out hb); have H12 := Lib.hid (keep hb H1.out); have H22 := Lib.hid (keep hb H2.out); clear hq hh hb c1 c2) | (go_at_call 18; (with_reducible refine (HOF.out _).mono ?_); rintro e w3 ⟨rfl, rfl⟩) | fail)
  have HGL := Lib.hid (lt_of_block H12.out)
  have HE : Hid (w2.cell? ⟨g, 37, none⟩ = some (.int .i64 c.wait)) := Lib.hid (by have h9 := (chan_at HC.out.ftx (range_of H12.out)).wait; rw [Nat.zero_add] at h9; exact h9)
  clear d0 d1
  refine wp_region_held_drew (S := fun w' => Below w2.heap.size w2 w') (by kernel_rfl) (below_drew (Below.refl _ _)) (fun hHeld => ?_)
  refine take_at (i := 0) (v := ?_) rfl rfl (by kernel_rfl) (by kernel_rfl) (by kernel_rfl) (fun _ _ _ h => h) (Or.inl ⟨by rfl, ?_⟩) (by assumption) ?_
  rotate_left
  · intro w0 hSw; (try dsimp only at hSw); first | (go_simp; done) | (go_simp; with_reducible rfl)
  simp only [List.setIfInBounds_toArray, List.set_cons_zero, List.set_cons_succ]
  refine take_at (i := 1) (v := ?_) rfl rfl (by kernel_rfl) (by kernel_rfl) (by kernel_rfl) (fun _ _ _ h => h) (Or.inl ⟨by rfl, ?_⟩) (by assumption) ?_
  rotate_left
  · intro w0 hSw; (try dsimp only at hSw); first | (go_simp; done) | (go_simp; with_reducible rfl)
  simp only [List.setIfInBounds_toArray, List.set_cons_zero, List.set_cons_succ]
  refine take_at (i := 2) (v := ?_) rfl rfl (by kernel_rfl) (by kernel_rfl) (by kernel_rfl) (fun _ _ _ h => h) (Or.inl ⟨by rfl, ?_⟩) (by assumption) ?_
  rotate_left
  · intro w0 hSw; (try dsimp only at hSw); first | (go_simp; done) | (go_simp; with_reducible rfl)
  simp only [List.setIfInBounds_toArray, List.set_cons_zero, List.set_cons_succ]
  refine take_at (i := 3) rfl rfl (by kernel_rfl) (by kernel_rfl) (by kernel_rfl) (fun _ _ _ h => h) (yields_cell (b := q) (o := 1) (by rfl) rfl rfl (fun w0 hSw => (Below.cell hSw (p := ⟨q, 1, none⟩) HQL.out).trans HD.out) (fun w0 => Tryd.isAgg3 w0)) (by assumption) ?_
  simp only [List.setIfInBounds_toArray, List.set_cons_zero, List.set_cons_succ]
  refine take_at (i := 5) (v := ?_) rfl rfl (by kernel_rfl) (by kernel_rfl) (by kernel_rfl) (fun _ _ _ h => h) (Or.inl ⟨by rfl, ?_⟩) (by assumption) ?_
  rotate_left
  · intro w0 hSw; (try dsimp only at hSw); first | (go_simp; done) | (go_simp; with_reducible rfl)
  simp only [List.setIfInBounds_toArray, List.set_cons_zero, List.set_cons_succ]
  refine take_at (i := 6) rfl rfl (by kernel_rfl) (by kernel_rfl) (by kernel_rfl) (fun _ _ _ h => h) (yields_cell (b := g) (o := 37) (by rfl) rfl rfl (fun w0 hSw => (Below.cell hSw (p := ⟨g, 37, none⟩) HGL.out).trans HE.out) (fun w0 => Tryd.isAgg3 w0)) (by assumption) ?_
  simp only [List.setIfInBounds_toArray, List.set_cons_zero, List.set_cons_succ]
  refine take_at (i := 8) (v := ?_) rfl rfl (by kernel_rfl) (by kernel_rfl) (by kernel_rfl) (fun _ _ _ h => h) (Or.inl ⟨by rfl, ?_⟩) (by assumption) ?_
  rotate_left
  · intro w0 hSw; (try dsimp only at hSw); first | (go_simp; done) | (go_simp; with_reducible rfl)
  simp only [List.setIfInBounds_toArray, List.set_cons_zero, List.set_cons_succ]
  refine take_at (i := 10) rfl rfl (by kernel_rfl) (by kernel_rfl) (by kernel_rfl) (fun _ _ _ h => h) (yieldsIf_load_mid (by rfl) _ _ rfl (g + 1) 0 rfl (cellsOf h) _ (fun w0 hSw => range_of (keep hSw H22.out)) Tryd.underlying23 rfl SZH.out) (by assumption) ?_
  simp only [List.setIfInBounds_toArray, List.set_cons_zero, List.set_cons_succ]
  refine wpAnyH_ready (rs := [4, 9, 14]) (by kernel_rfl) (by simp) ?_
  refine AllReadyH.cons rfl (fun K hK => ?_) ?_
  · refine step_int14 (d := 27) (y := c.peer) rfl (by rfl) rfl (by rfl) ?_
    intro p4 y1 hp hh hb
    have NNp4 : Hid (w2.heap.size ≤ p4) := Lib.hid (Nat.le_trans (Below.size hHeld) hp)
    have HPp4 := Lib.hid hh
    have HX := Lib.hid (bthen hHeld hb)
    clear hp hh hb
    refine hK.out _ _ (by (try dsimp only); exact HX.out) (fun hHeld => ?_)
    clear hK K
    refine take_at (i := 7) rfl rfl (by kernel_rfl) (by kernel_rfl) (by kernel_rfl) (fun _ _ _ h => h) (yields_build10 (by rfl) rfl (vs := [(0, .slice (some ⟨p4, 0, none⟩) 1 1), (3, .int .i64 c.wait)]) (by rfl) (build_way_wait _ _ _ [c.peer] _)) (by assumption) ?_
    simp only [List.setIfInBounds_toArray, List.set_cons_zero, List.set_cons_succ]
    refine wpAnyH_ready (rs := [9, 14]) (by kernel_rfl) (by simp) ?_
    refine AllReadyH.cons rfl (fun K hK => ?_) ?_
    · refine step_int14 (d := 32) (y := c.client) rfl (by rfl) rfl (by rfl) ?_
      intro p9 y2 hp hh hb
      have HPp4 := Lib.hid (keep hb HPp4.out)
      have NNp9 : Hid (w2.heap.size ≤ p9) := Lib.hid (Nat.le_trans (Below.size hHeld) hp)
      have HPp9 := Lib.hid hh
      have HX := Lib.hid (bthen hHeld hb)
      clear hp hh hb
      refine hK.out _ _ (by (try dsimp only); exact HX.out) (fun hHeld => ?_)
      clear hK K
      refine take_at (i := 11) rfl rfl (by kernel_rfl) (by kernel_rfl) (by kernel_rfl) (fun _ _ _ h => h) (yields_build10 (by rfl) rfl (vs := [(0, .slice (some ⟨p9, 0, none⟩) 1 1), (1, .agg (cellsOf h).toArray)]) (by rfl) (build_way_hash _ _ _ [c.client] HHL.out)) (by assumption) ?_
      simp only [List.setIfInBounds_toArray, List.set_cons_zero, List.set_cons_succ]
      refine wpAnyH_ready (rs := [12, 14]) (by kernel_rfl) (by simp) ?_
      refine AllReadyH.cons rfl (fun K hK => ?_) ?_
      · refine step_lits Tryd.wayAt14 (d := 35) rfl (by rfl) rfl [⟨some ⟨p4, 0, none⟩, 1, 1, [c.peer], zero32, 0, c.wait⟩, ⟨some ⟨p9, 0, none⟩, 1, 1, [c.client], h, 0, 0⟩] rfl (by decide) (by decide) (by intro x hx; simp at hx; rcases hx with rfl | rfl; exact PWay.cells_len zero32_len; exact PWay.cells_len HHL.out) (by rfl) ?_
        intro p12 y3 hp hh hb
        have HPp4 := Lib.hid (keep hb HPp4.out)
        have HPp9 := Lib.hid (keep hb HPp9.out)
        have NNp12 : Hid (w2.heap.size ≤ p12) := Lib.hid (Nat.le_trans (Below.size hHeld) hp)
        have HPp12 := Lib.hid hh
        have HX := Lib.hid (bthen hHeld hb)
        clear hp hh hb
        refine hK.out _ _ (by (try dsimp only); exact HX.out) (fun hHeld => ?_)
        clear hK K
        refine take_at (i := 13) rfl rfl (by kernel_rfl) (by kernel_rfl) (by kernel_rfl) (fun _ _ _ h => h) (yields_build10 (by rfl) rfl (vs := [(0, .int .i64 own), (1, .slice (some ⟨p12, 0, none⟩) 2 2)]) (by rfl) (build_out14 own _ _ _ [⟨some ⟨p4, 0, none⟩, 1, 1, [c.peer], zero32, 0, c.wait⟩, ⟨some ⟨p9, 0, none⟩, 1, 1, [c.client], h, 0, 0⟩])) (by assumption) ?_
        simp only [List.setIfInBounds_toArray, List.set_cons_zero, List.set_cons_succ]
        refine wpAnyH_ready (rs := [14]) (by kernel_rfl) (by simp) ?_
        refine AllReadyH.cons rfl (fun K hK => ?_) ?_
        · refine step_alloc10 (d := 13) rfl (by rfl) 50 rfl noOut.cells.toArray Tryd.zeroOut14 ?_
          intro p14 y4 hp hh hb
          have NEp4 : Hid (p4 ≠ p14) := Lib.hid (by have h8 := lt_of_block HPp4.out; omega)
          have NEp9 : Hid (p9 ≠ p14) := Lib.hid (by have h8 := lt_of_block HPp9.out; omega)
          have NEp12 : Hid (p12 ≠ p14) := Lib.hid (by have h8 := lt_of_block HPp12.out; omega)
          have N14 : Hid (w2.heap.size ≤ p14) := Lib.hid (Nat.le_trans (Below.size hHeld) hp)
          have HPp4 := Lib.hid (keep hb HPp4.out)
          have HPp9 := Lib.hid (keep hb HPp9.out)
          have HPp12 := Lib.hid (keep hb HPp12.out)
          have NNp14 : Hid (w2.heap.size ≤ p14) := Lib.hid (Nat.le_trans (Below.size hHeld) hp)
          have HPp14 := Lib.hid hh
          have HX := Lib.hid (bthen hHeld hb)
          clear hp hh hb
          refine hK.out _ _ (by (try dsimp only); exact HX.out) (fun hHeld => ?_)
          clear hK K
          refine wpAnyH_ready (rs := [15]) (by kernel_rfl) (by simp) ?_
          refine AllReadyH.cons rfl (fun K hK => ?_) ?_
          · refine step_row10 (by rfl) 50 _ _ rfl p14 (POut.cells (ownP c (some ⟨p12, 0, none⟩) (some ⟨p4, 0, none⟩) (some ⟨p9, 0, none⟩) c.peer c.client own h)) (by rfl) (by rfl) 50 noOut.cells HPp14.out (by kernel_rfl) rfl (POut.one _) (fun y5 hh hb => ?_)
            have HX := Lib.hid (But.in hHeld hb N14.out)
            have HPp4 := Lib.hid ((hb.block p4 (lt_of_block HPp4.out) NEp4.out).trans HPp4.out)
            have HPp9 := Lib.hid ((hb.block p9 (lt_of_block HPp9.out) NEp9.out).trans HPp9.out)
            have HPp12 := Lib.hid ((hb.block p12 (lt_of_block HPp12.out) NEp12.out).trans HPp12.out)
            have HPp14 := Lib.hid hh
            clear hh hb
            refine hK.out _ _ (by (try dsimp only); exact HX.out) (fun hHeld => ?_)
            clear hK K
            refine wpAnyH_done (by kernel_rfl) ?_ _
            clear hHeld
            go_upto_region 4 with (fail)
            refine wp_region_held_drew (S := fun w' => Below y5.heap.size y5 w') (by kernel_rfl) (below_drew (Below.refl _ _)) (fun hHeld => ?_)
            refine take_at (i := 0) rfl rfl (by kernel_rfl) (by kernel_rfl) (by kernel_rfl) (fun _ _ _ h => h) (yieldsIf_load_mid (by rfl) _ _ rfl p14 0 rfl (POut.cells (ownP c (some ⟨p12, 0, none⟩) (some ⟨p4, 0, none⟩) (some ⟨p9, 0, none⟩) c.peer c.client own h)) _ (fun w0 hSw => range_of (keep hSw HPp14.out)) Tryd.underlying50 rfl (by kernel_rfl)) (by assumption) ?_
            simp only [List.setIfInBounds_toArray, List.set_cons_zero, List.set_cons_succ]
            refine take_at (i := 1) (v := ?_) rfl rfl (by kernel_rfl) (by kernel_rfl) (by kernel_rfl) (fun _ _ _ h => h) (Or.inl ⟨by rfl, ?_⟩) (by assumption) ?_
            rotate_left
            · intro w0 hSw; (try dsimp only at hSw); first | (go_simp; done) | (go_simp; with_reducible rfl)
            simp only [List.setIfInBounds_toArray, List.set_cons_zero, List.set_cons_succ]
            refine take_at (i := 2) (v := ?_) rfl rfl (by kernel_rfl) (by kernel_rfl) (by kernel_rfl) (fun _ _ _ h => h) (Or.inl ⟨by rfl, ?_⟩) (by assumption) ?_
            rotate_left
            · intro w0 hSw; (try dsimp only at hSw); first | (go_simp; done) | (go_simp; with_reducible rfl)
            simp only [List.setIfInBounds_toArray, List.set_cons_zero, List.set_cons_succ]
            refine wpAnyH_ready (rs := [3]) (by kernel_rfl) (by simp) ?_
            refine AllReadyH.cons rfl (fun K hK => ?_) ?_
            · have HCT := Lib.hid (fun (W : World) => to_at14 c.client rest W)
              go_simp
              go_wp2_with ((go_at_call 11; (with_reducible refine (HCT.out _).mono ?_); rintro e z3 ⟨av, bv, rfl, hw3, hb⟩; have HW3 := Lib.hid hw3; have HZ3 := Lib.hid (bthen hHeld hb); clear hw3 hb HCT))
              refine hK.out _ _ (by (try dsimp only); exact HZ3.out) (fun hHeld => ?_)
              clear hK K
              refine wpAnyH_ready (rs := [4]) (by kernel_rfl) (by simp) ?_
              refine AllReadyH.cons rfl (fun K hK => ?_) ?_
              · refine step_lits Tryd.outAt14 (d := 41) rfl (by rfl) rfl [(ownP c (some ⟨p12, 0, none⟩) (some ⟨p4, 0, none⟩) (some ⟨p9, 0, none⟩) c.peer c.client own h), (herP (some ⟨bv, 0, none⟩) (some ⟨av, 0, none⟩) c.client rest)] rfl (by decide) (by decide) (by intro x hx; simp at hx; rcases hx with rfl | rfl; rfl; rfl) (by rfl) ?_
                intro p16 z4 hp hh hb
                have HP16 := Lib.hid hh
                have HZ4 := Lib.hid (bthen HZ3.out hb)
                have HW4 := Lib.hid (HW3.out.keep hb)
                have N16 := Lib.hid (Nat.le_trans HZ3.out.size hp)
                clear hp hh hb
                refine hK.out _ _ (by (try dsimp only); exact HZ4.out) (fun hHeld => ?_)
                clear hK K
                refine take_at (i := 5) (v := ?_) rfl rfl (by kernel_rfl) (by kernel_rfl) (by kernel_rfl) (fun _ _ _ h => h) (Or.inl ⟨by rfl, ?_⟩) (by assumption) ?_
                rotate_left
                · intro w0 hSw; (try dsimp only at hSw); first | (go_simp; done) | (go_simp; with_reducible rfl)
                simp only [List.setIfInBounds_toArray, List.set_cons_zero, List.set_cons_succ]
                refine wpAnyH_done (by kernel_rfl) ?_ _
                clear hHeld
                go_wp2_with fail
                go_ret
                have n2 := HB2.out.size
                have n5 := HX.out.size
                have m4 := NNp4.out
                have m9 := NNp9.out
                have m12 := NNp12.out
                have m16 := N16.out
                have n9 : y5.drew.heap.size = y5.heap.size := rfl
                exact ⟨p4, p9, p12, av, bv, p16, rfl, ⟨⟨⟨by omega, keep HZ4.out HPp4.out⟩, ⟨by omega, keep HZ4.out HPp9.out⟩, ⟨by omega, keep HZ4.out HPp12.out⟩⟩, HW4.out.old (by omega), ⟨by omega, HP16.out⟩⟩, bthen (bthen HB2.out HX.out) HZ4.out⟩
              exact AllReadyH.nil
            exact AllReadyH.nil
          exact AllReadyH.nil
        exact AllReadyH.nil
      refine AllReadyH.cons rfl (fun K hK => ?_) ?_
      · refine step_alloc10 (d := 13) rfl (by rfl) 50 rfl noOut.cells.toArray Tryd.zeroOut14 ?_
        intro p14 y3 hp hh hb
        have NEp4 : Hid (p4 ≠ p14) := Lib.hid (by have h8 := lt_of_block HPp4.out; omega)
        have NEp9 : Hid (p9 ≠ p14) := Lib.hid (by have h8 := lt_of_block HPp9.out; omega)
        have N14 : Hid (w2.heap.size ≤ p14) := Lib.hid (Nat.le_trans (Below.size hHeld) hp)
        have HPp4 := Lib.hid (keep hb HPp4.out)
        have HPp9 := Lib.hid (keep hb HPp9.out)
        have NNp14 : Hid (w2.heap.size ≤ p14) := Lib.hid (Nat.le_trans (Below.size hHeld) hp)
        have HPp14 := Lib.hid hh
        have HX := Lib.hid (bthen hHeld hb)
        clear hp hh hb
        refine hK.out _ _ (by (try dsimp only); exact HX.out) (fun hHeld => ?_)
        clear hK K
        refine wpAnyH_ready (rs := [12]) (by kernel_rfl) (by simp) ?_
        refine AllReadyH.cons rfl (fun K hK => ?_) ?_
        · refine step_lits Tryd.wayAt14 (d := 35) rfl (by rfl) rfl [⟨some ⟨p4, 0, none⟩, 1, 1, [c.peer], zero32, 0, c.wait⟩, ⟨some ⟨p9, 0, none⟩, 1, 1, [c.client], h, 0, 0⟩] rfl (by decide) (by decide) (by intro x hx; simp at hx; rcases hx with rfl | rfl; exact PWay.cells_len zero32_len; exact PWay.cells_len HHL.out) (by rfl) ?_
          intro p12 y4 hp hh hb
          have NEp12 : Hid (p12 ≠ p14) := Lib.hid (by have h8 := lt_of_block HPp14.out; omega)
          have HPp4 := Lib.hid (keep hb HPp4.out)
          have HPp9 := Lib.hid (keep hb HPp9.out)
          have HPp14 := Lib.hid (keep hb HPp14.out)
          have NNp12 : Hid (w2.heap.size ≤ p12) := Lib.hid (Nat.le_trans (Below.size hHeld) hp)
          have HPp12 := Lib.hid hh
          have HX := Lib.hid (bthen hHeld hb)
          clear hp hh hb
          refine hK.out _ _ (by (try dsimp only); exact HX.out) (fun hHeld => ?_)
          clear hK K
          refine take_at (i := 13) rfl rfl (by kernel_rfl) (by kernel_rfl) (by kernel_rfl) (fun _ _ _ h => h) (yields_build10 (by rfl) rfl (vs := [(0, .int .i64 own), (1, .slice (some ⟨p12, 0, none⟩) 2 2)]) (by rfl) (build_out14 own _ _ _ [⟨some ⟨p4, 0, none⟩, 1, 1, [c.peer], zero32, 0, c.wait⟩, ⟨some ⟨p9, 0, none⟩, 1, 1, [c.client], h, 0, 0⟩])) (by assumption) ?_
          simp only [List.setIfInBounds_toArray, List.set_cons_zero, List.set_cons_succ]
          refine wpAnyH_ready (rs := [15]) (by kernel_rfl) (by simp) ?_
          refine AllReadyH.cons rfl (fun K hK => ?_) ?_
          · refine step_row10 (by rfl) 50 _ _ rfl p14 (POut.cells (ownP c (some ⟨p12, 0, none⟩) (some ⟨p4, 0, none⟩) (some ⟨p9, 0, none⟩) c.peer c.client own h)) (by rfl) (by rfl) 50 noOut.cells HPp14.out (by kernel_rfl) rfl (POut.one _) (fun y5 hh hb => ?_)
            have HX := Lib.hid (But.in hHeld hb N14.out)
            have HPp4 := Lib.hid ((hb.block p4 (lt_of_block HPp4.out) NEp4.out).trans HPp4.out)
            have HPp9 := Lib.hid ((hb.block p9 (lt_of_block HPp9.out) NEp9.out).trans HPp9.out)
            have HPp12 := Lib.hid ((hb.block p12 (lt_of_block HPp12.out) NEp12.out).trans HPp12.out)
            have HPp14 := Lib.hid hh
            clear hh hb
            refine hK.out _ _ (by (try dsimp only); exact HX.out) (fun hHeld => ?_)
            clear hK K
            refine wpAnyH_done (by kernel_rfl) ?_ _
            clear hHeld
            go_upto_region 4 with (fail)
            refine wp_region_held_drew (S := fun w' => Below y5.heap.size y5 w') (by kernel_rfl) (below_drew (Below.refl _ _)) (fun hHeld => ?_)
            refine take_at (i := 0) rfl rfl (by kernel_rfl) (by kernel_rfl) (by kernel_rfl) (fun _ _ _ h => h) (yieldsIf_load_mid (by rfl) _ _ rfl p14 0 rfl (POut.cells (ownP c (some ⟨p12, 0, none⟩) (some ⟨p4, 0, none⟩) (some ⟨p9, 0, none⟩) c.peer c.client own h)) _ (fun w0 hSw => range_of (keep hSw HPp14.out)) Tryd.underlying50 rfl (by kernel_rfl)) (by assumption) ?_
            simp only [List.setIfInBounds_toArray, List.set_cons_zero, List.set_cons_succ]
            refine take_at (i := 1) (v := ?_) rfl rfl (by kernel_rfl) (by kernel_rfl) (by kernel_rfl) (fun _ _ _ h => h) (Or.inl ⟨by rfl, ?_⟩) (by assumption) ?_
            rotate_left
            · intro w0 hSw; (try dsimp only at hSw); first | (go_simp; done) | (go_simp; with_reducible rfl)
            simp only [List.setIfInBounds_toArray, List.set_cons_zero, List.set_cons_succ]
            refine take_at (i := 2) (v := ?_) rfl rfl (by kernel_rfl) (by kernel_rfl) (by kernel_rfl) (fun _ _ _ h => h) (Or.inl ⟨by rfl, ?_⟩) (by assumption) ?_
            rotate_left
            · intro w0 hSw; (try dsimp only at hSw); first | (go_simp; done) | (go_simp; with_reducible rfl)
            simp only [List.setIfInBounds_toArray, List.set_cons_zero, List.set_cons_succ]
            refine wpAnyH_ready (rs := [3]) (by kernel_rfl) (by simp) ?_
            refine AllReadyH.cons rfl (fun K hK => ?_) ?_
            · have HCT := Lib.hid (fun (W : World) => to_at14 c.client rest W)
              go_simp
              go_wp2_with ((go_at_call 11; (with_reducible refine (HCT.out _).mono ?_); rintro e z3 ⟨av, bv, rfl, hw3, hb⟩; have HW3 := Lib.hid hw3; have HZ3 := Lib.hid (bthen hHeld hb); clear hw3 hb HCT))
              refine hK.out _ _ (by (try dsimp only); exact HZ3.out) (fun hHeld => ?_)
              clear hK K
              refine wpAnyH_ready (rs := [4]) (by kernel_rfl) (by simp) ?_
              refine AllReadyH.cons rfl (fun K hK => ?_) ?_
              · refine step_lits Tryd.outAt14 (d := 41) rfl (by rfl) rfl [(ownP c (some ⟨p12, 0, none⟩) (some ⟨p4, 0, none⟩) (some ⟨p9, 0, none⟩) c.peer c.client own h), (herP (some ⟨bv, 0, none⟩) (some ⟨av, 0, none⟩) c.client rest)] rfl (by decide) (by decide) (by intro x hx; simp at hx; rcases hx with rfl | rfl; rfl; rfl) (by rfl) ?_
                intro p16 z4 hp hh hb
                have HP16 := Lib.hid hh
                have HZ4 := Lib.hid (bthen HZ3.out hb)
                have HW4 := Lib.hid (HW3.out.keep hb)
                have N16 := Lib.hid (Nat.le_trans HZ3.out.size hp)
                clear hp hh hb
                refine hK.out _ _ (by (try dsimp only); exact HZ4.out) (fun hHeld => ?_)
                clear hK K
                refine take_at (i := 5) (v := ?_) rfl rfl (by kernel_rfl) (by kernel_rfl) (by kernel_rfl) (fun _ _ _ h => h) (Or.inl ⟨by rfl, ?_⟩) (by assumption) ?_
                rotate_left
                · intro w0 hSw; (try dsimp only at hSw); first | (go_simp; done) | (go_simp; with_reducible rfl)
                simp only [List.setIfInBounds_toArray, List.set_cons_zero, List.set_cons_succ]
                refine wpAnyH_done (by kernel_rfl) ?_ _
                clear hHeld
                go_wp2_with fail
                go_ret
                have n2 := HB2.out.size
                have n5 := HX.out.size
                have m4 := NNp4.out
                have m9 := NNp9.out
                have m12 := NNp12.out
                have m16 := N16.out
                have n9 : y5.drew.heap.size = y5.heap.size := rfl
                exact ⟨p4, p9, p12, av, bv, p16, rfl, ⟨⟨⟨by omega, keep HZ4.out HPp4.out⟩, ⟨by omega, keep HZ4.out HPp9.out⟩, ⟨by omega, keep HZ4.out HPp12.out⟩⟩, HW4.out.old (by omega), ⟨by omega, HP16.out⟩⟩, bthen (bthen HB2.out HX.out) HZ4.out⟩
              exact AllReadyH.nil
            exact AllReadyH.nil
          exact AllReadyH.nil
        exact AllReadyH.nil
      exact AllReadyH.nil
    refine AllReadyH.cons rfl (fun K hK => ?_) ?_
    · refine step_alloc10 (d := 13) rfl (by rfl) 50 rfl noOut.cells.toArray Tryd.zeroOut14 ?_
      intro p14 y2 hp hh hb
      have NEp4 : Hid (p4 ≠ p14) := Lib.hid (by have h8 := lt_of_block HPp4.out; omega)
      have N14 : Hid (w2.heap.size ≤ p14) := Lib.hid (Nat.le_trans (Below.size hHeld) hp)
      have HPp4 := Lib.hid (keep hb HPp4.out)
      have NNp14 : Hid (w2.heap.size ≤ p14) := Lib.hid (Nat.le_trans (Below.size hHeld) hp)
      have HPp14 := Lib.hid hh
      have HX := Lib.hid (bthen hHeld hb)
      clear hp hh hb
      refine hK.out _ _ (by (try dsimp only); exact HX.out) (fun hHeld => ?_)
      clear hK K
      refine wpAnyH_ready (rs := [9]) (by kernel_rfl) (by simp) ?_
      refine AllReadyH.cons rfl (fun K hK => ?_) ?_
      · refine step_int14 (d := 32) (y := c.client) rfl (by rfl) rfl (by rfl) ?_
        intro p9 y3 hp hh hb
        have NEp9 : Hid (p9 ≠ p14) := Lib.hid (by have h8 := lt_of_block HPp14.out; omega)
        have HPp4 := Lib.hid (keep hb HPp4.out)
        have HPp14 := Lib.hid (keep hb HPp14.out)
        have NNp9 : Hid (w2.heap.size ≤ p9) := Lib.hid (Nat.le_trans (Below.size hHeld) hp)
        have HPp9 := Lib.hid hh
        have HX := Lib.hid (bthen hHeld hb)
        clear hp hh hb
        refine hK.out _ _ (by (try dsimp only); exact HX.out) (fun hHeld => ?_)
        clear hK K
        refine take_at (i := 11) rfl rfl (by kernel_rfl) (by kernel_rfl) (by kernel_rfl) (fun _ _ _ h => h) (yields_build10 (by rfl) rfl (vs := [(0, .slice (some ⟨p9, 0, none⟩) 1 1), (1, .agg (cellsOf h).toArray)]) (by rfl) (build_way_hash _ _ _ [c.client] HHL.out)) (by assumption) ?_
        simp only [List.setIfInBounds_toArray, List.set_cons_zero, List.set_cons_succ]
        refine wpAnyH_ready (rs := [12]) (by kernel_rfl) (by simp) ?_
        refine AllReadyH.cons rfl (fun K hK => ?_) ?_
        · refine step_lits Tryd.wayAt14 (d := 35) rfl (by rfl) rfl [⟨some ⟨p4, 0, none⟩, 1, 1, [c.peer], zero32, 0, c.wait⟩, ⟨some ⟨p9, 0, none⟩, 1, 1, [c.client], h, 0, 0⟩] rfl (by decide) (by decide) (by intro x hx; simp at hx; rcases hx with rfl | rfl; exact PWay.cells_len zero32_len; exact PWay.cells_len HHL.out) (by rfl) ?_
          intro p12 y4 hp hh hb
          have NEp12 : Hid (p12 ≠ p14) := Lib.hid (by have h8 := lt_of_block HPp14.out; omega)
          have HPp4 := Lib.hid (keep hb HPp4.out)
          have HPp14 := Lib.hid (keep hb HPp14.out)
          have HPp9 := Lib.hid (keep hb HPp9.out)
          have NNp12 : Hid (w2.heap.size ≤ p12) := Lib.hid (Nat.le_trans (Below.size hHeld) hp)
          have HPp12 := Lib.hid hh
          have HX := Lib.hid (bthen hHeld hb)
          clear hp hh hb
          refine hK.out _ _ (by (try dsimp only); exact HX.out) (fun hHeld => ?_)
          clear hK K
          refine take_at (i := 13) rfl rfl (by kernel_rfl) (by kernel_rfl) (by kernel_rfl) (fun _ _ _ h => h) (yields_build10 (by rfl) rfl (vs := [(0, .int .i64 own), (1, .slice (some ⟨p12, 0, none⟩) 2 2)]) (by rfl) (build_out14 own _ _ _ [⟨some ⟨p4, 0, none⟩, 1, 1, [c.peer], zero32, 0, c.wait⟩, ⟨some ⟨p9, 0, none⟩, 1, 1, [c.client], h, 0, 0⟩])) (by assumption) ?_
          simp only [List.setIfInBounds_toArray, List.set_cons_zero, List.set_cons_succ]
          refine wpAnyH_ready (rs := [15]) (by kernel_rfl) (by simp) ?_
          refine AllReadyH.cons rfl (fun K hK => ?_) ?_
          · refine step_row10 (by rfl) 50 _ _ rfl p14 (POut.cells (ownP c (some ⟨p12, 0, none⟩) (some ⟨p4, 0, none⟩) (some ⟨p9, 0, none⟩) c.peer c.client own h)) (by rfl) (by rfl) 50 noOut.cells HPp14.out (by kernel_rfl) rfl (POut.one _) (fun y5 hh hb => ?_)
            have HX := Lib.hid (But.in hHeld hb N14.out)
            have HPp4 := Lib.hid ((hb.block p4 (lt_of_block HPp4.out) NEp4.out).trans HPp4.out)
            have HPp9 := Lib.hid ((hb.block p9 (lt_of_block HPp9.out) NEp9.out).trans HPp9.out)
            have HPp12 := Lib.hid ((hb.block p12 (lt_of_block HPp12.out) NEp12.out).trans HPp12.out)
            have HPp14 := Lib.hid hh
            clear hh hb
            refine hK.out _ _ (by (try dsimp only); exact HX.out) (fun hHeld => ?_)
            clear hK K
            refine wpAnyH_done (by kernel_rfl) ?_ _
            clear hHeld
            go_upto_region 4 with (fail)
            refine wp_region_held_drew (S := fun w' => Below y5.heap.size y5 w') (by kernel_rfl) (below_drew (Below.refl _ _)) (fun hHeld => ?_)
            refine take_at (i := 0) rfl rfl (by kernel_rfl) (by kernel_rfl) (by kernel_rfl) (fun _ _ _ h => h) (yieldsIf_load_mid (by rfl) _ _ rfl p14 0 rfl (POut.cells (ownP c (some ⟨p12, 0, none⟩) (some ⟨p4, 0, none⟩) (some ⟨p9, 0, none⟩) c.peer c.client own h)) _ (fun w0 hSw => range_of (keep hSw HPp14.out)) Tryd.underlying50 rfl (by kernel_rfl)) (by assumption) ?_
            simp only [List.setIfInBounds_toArray, List.set_cons_zero, List.set_cons_succ]
            refine take_at (i := 1) (v := ?_) rfl rfl (by kernel_rfl) (by kernel_rfl) (by kernel_rfl) (fun _ _ _ h => h) (Or.inl ⟨by rfl, ?_⟩) (by assumption) ?_
            rotate_left
            · intro w0 hSw; (try dsimp only at hSw); first | (go_simp; done) | (go_simp; with_reducible rfl)
            simp only [List.setIfInBounds_toArray, List.set_cons_zero, List.set_cons_succ]
            refine take_at (i := 2) (v := ?_) rfl rfl (by kernel_rfl) (by kernel_rfl) (by kernel_rfl) (fun _ _ _ h => h) (Or.inl ⟨by rfl, ?_⟩) (by assumption) ?_
            rotate_left
            · intro w0 hSw; (try dsimp only at hSw); first | (go_simp; done) | (go_simp; with_reducible rfl)
            simp only [List.setIfInBounds_toArray, List.set_cons_zero, List.set_cons_succ]
            refine wpAnyH_ready (rs := [3]) (by kernel_rfl) (by simp) ?_
            refine AllReadyH.cons rfl (fun K hK => ?_) ?_
            · have HCT := Lib.hid (fun (W : World) => to_at14 c.client rest W)
              go_simp
              go_wp2_with ((go_at_call 11; (with_reducible refine (HCT.out _).mono ?_); rintro e z3 ⟨av, bv, rfl, hw3, hb⟩; have HW3 := Lib.hid hw3; have HZ3 := Lib.hid (bthen hHeld hb); clear hw3 hb HCT))
              refine hK.out _ _ (by (try dsimp only); exact HZ3.out) (fun hHeld => ?_)
              clear hK K
              refine wpAnyH_ready (rs := [4]) (by kernel_rfl) (by simp) ?_
              refine AllReadyH.cons rfl (fun K hK => ?_) ?_
              · refine step_lits Tryd.outAt14 (d := 41) rfl (by rfl) rfl [(ownP c (some ⟨p12, 0, none⟩) (some ⟨p4, 0, none⟩) (some ⟨p9, 0, none⟩) c.peer c.client own h), (herP (some ⟨bv, 0, none⟩) (some ⟨av, 0, none⟩) c.client rest)] rfl (by decide) (by decide) (by intro x hx; simp at hx; rcases hx with rfl | rfl; rfl; rfl) (by rfl) ?_
                intro p16 z4 hp hh hb
                have HP16 := Lib.hid hh
                have HZ4 := Lib.hid (bthen HZ3.out hb)
                have HW4 := Lib.hid (HW3.out.keep hb)
                have N16 := Lib.hid (Nat.le_trans HZ3.out.size hp)
                clear hp hh hb
                refine hK.out _ _ (by (try dsimp only); exact HZ4.out) (fun hHeld => ?_)
                clear hK K
                refine take_at (i := 5) (v := ?_) rfl rfl (by kernel_rfl) (by kernel_rfl) (by kernel_rfl) (fun _ _ _ h => h) (Or.inl ⟨by rfl, ?_⟩) (by assumption) ?_
                rotate_left
                · intro w0 hSw; (try dsimp only at hSw); first | (go_simp; done) | (go_simp; with_reducible rfl)
                simp only [List.setIfInBounds_toArray, List.set_cons_zero, List.set_cons_succ]
                refine wpAnyH_done (by kernel_rfl) ?_ _
                clear hHeld
                go_wp2_with fail
                go_ret
                have n2 := HB2.out.size
                have n5 := HX.out.size
                have m4 := NNp4.out
                have m9 := NNp9.out
                have m12 := NNp12.out
                have m16 := N16.out
                have n9 : y5.drew.heap.size = y5.heap.size := rfl
                exact ⟨p4, p9, p12, av, bv, p16, rfl, ⟨⟨⟨by omega, keep HZ4.out HPp4.out⟩, ⟨by omega, keep HZ4.out HPp9.out⟩, ⟨by omega, keep HZ4.out HPp12.out⟩⟩, HW4.out.old (by omega), ⟨by omega, HP16.out⟩⟩, bthen (bthen HB2.out HX.out) HZ4.out⟩
              exact AllReadyH.nil
            exact AllReadyH.nil
          exact AllReadyH.nil
        exact AllReadyH.nil
      exact AllReadyH.nil
    exact AllReadyH.nil
  refine AllReadyH.cons rfl (fun K hK => ?_) ?_
  · refine step_int14 (d := 32) (y := c.client) rfl (by rfl) rfl (by rfl) ?_
    intro p9 y1 hp hh hb
    have NNp9 : Hid (w2.heap.size ≤ p9) := Lib.hid (Nat.le_trans (Below.size hHeld) hp)
    have HPp9 := Lib.hid hh
    have HX := Lib.hid (bthen hHeld hb)
    clear hp hh hb
    refine hK.out _ _ (by (try dsimp only); exact HX.out) (fun hHeld => ?_)
    clear hK K
    refine take_at (i := 11) rfl rfl (by kernel_rfl) (by kernel_rfl) (by kernel_rfl) (fun _ _ _ h => h) (yields_build10 (by rfl) rfl (vs := [(0, .slice (some ⟨p9, 0, none⟩) 1 1), (1, .agg (cellsOf h).toArray)]) (by rfl) (build_way_hash _ _ _ [c.client] HHL.out)) (by assumption) ?_
    simp only [List.setIfInBounds_toArray, List.set_cons_zero, List.set_cons_succ]
    refine wpAnyH_ready (rs := [4, 14]) (by kernel_rfl) (by simp) ?_
    refine AllReadyH.cons rfl (fun K hK => ?_) ?_
    · refine step_int14 (d := 27) (y := c.peer) rfl (by rfl) rfl (by rfl) ?_
      intro p4 y2 hp hh hb
      have HPp9 := Lib.hid (keep hb HPp9.out)
      have NNp4 : Hid (w2.heap.size ≤ p4) := Lib.hid (Nat.le_trans (Below.size hHeld) hp)
      have HPp4 := Lib.hid hh
      have HX := Lib.hid (bthen hHeld hb)
      clear hp hh hb
      refine hK.out _ _ (by (try dsimp only); exact HX.out) (fun hHeld => ?_)
      clear hK K
      refine take_at (i := 7) rfl rfl (by kernel_rfl) (by kernel_rfl) (by kernel_rfl) (fun _ _ _ h => h) (yields_build10 (by rfl) rfl (vs := [(0, .slice (some ⟨p4, 0, none⟩) 1 1), (3, .int .i64 c.wait)]) (by rfl) (build_way_wait _ _ _ [c.peer] _)) (by assumption) ?_
      simp only [List.setIfInBounds_toArray, List.set_cons_zero, List.set_cons_succ]
      refine wpAnyH_ready (rs := [12, 14]) (by kernel_rfl) (by simp) ?_
      refine AllReadyH.cons rfl (fun K hK => ?_) ?_
      · refine step_lits Tryd.wayAt14 (d := 35) rfl (by rfl) rfl [⟨some ⟨p4, 0, none⟩, 1, 1, [c.peer], zero32, 0, c.wait⟩, ⟨some ⟨p9, 0, none⟩, 1, 1, [c.client], h, 0, 0⟩] rfl (by decide) (by decide) (by intro x hx; simp at hx; rcases hx with rfl | rfl; exact PWay.cells_len zero32_len; exact PWay.cells_len HHL.out) (by rfl) ?_
        intro p12 y3 hp hh hb
        have HPp9 := Lib.hid (keep hb HPp9.out)
        have HPp4 := Lib.hid (keep hb HPp4.out)
        have NNp12 : Hid (w2.heap.size ≤ p12) := Lib.hid (Nat.le_trans (Below.size hHeld) hp)
        have HPp12 := Lib.hid hh
        have HX := Lib.hid (bthen hHeld hb)
        clear hp hh hb
        refine hK.out _ _ (by (try dsimp only); exact HX.out) (fun hHeld => ?_)
        clear hK K
        refine take_at (i := 13) rfl rfl (by kernel_rfl) (by kernel_rfl) (by kernel_rfl) (fun _ _ _ h => h) (yields_build10 (by rfl) rfl (vs := [(0, .int .i64 own), (1, .slice (some ⟨p12, 0, none⟩) 2 2)]) (by rfl) (build_out14 own _ _ _ [⟨some ⟨p4, 0, none⟩, 1, 1, [c.peer], zero32, 0, c.wait⟩, ⟨some ⟨p9, 0, none⟩, 1, 1, [c.client], h, 0, 0⟩])) (by assumption) ?_
        simp only [List.setIfInBounds_toArray, List.set_cons_zero, List.set_cons_succ]
        refine wpAnyH_ready (rs := [14]) (by kernel_rfl) (by simp) ?_
        refine AllReadyH.cons rfl (fun K hK => ?_) ?_
        · refine step_alloc10 (d := 13) rfl (by rfl) 50 rfl noOut.cells.toArray Tryd.zeroOut14 ?_
          intro p14 y4 hp hh hb
          have NEp9 : Hid (p9 ≠ p14) := Lib.hid (by have h8 := lt_of_block HPp9.out; omega)
          have NEp4 : Hid (p4 ≠ p14) := Lib.hid (by have h8 := lt_of_block HPp4.out; omega)
          have NEp12 : Hid (p12 ≠ p14) := Lib.hid (by have h8 := lt_of_block HPp12.out; omega)
          have N14 : Hid (w2.heap.size ≤ p14) := Lib.hid (Nat.le_trans (Below.size hHeld) hp)
          have HPp9 := Lib.hid (keep hb HPp9.out)
          have HPp4 := Lib.hid (keep hb HPp4.out)
          have HPp12 := Lib.hid (keep hb HPp12.out)
          have NNp14 : Hid (w2.heap.size ≤ p14) := Lib.hid (Nat.le_trans (Below.size hHeld) hp)
          have HPp14 := Lib.hid hh
          have HX := Lib.hid (bthen hHeld hb)
          clear hp hh hb
          refine hK.out _ _ (by (try dsimp only); exact HX.out) (fun hHeld => ?_)
          clear hK K
          refine wpAnyH_ready (rs := [15]) (by kernel_rfl) (by simp) ?_
          refine AllReadyH.cons rfl (fun K hK => ?_) ?_
          · refine step_row10 (by rfl) 50 _ _ rfl p14 (POut.cells (ownP c (some ⟨p12, 0, none⟩) (some ⟨p4, 0, none⟩) (some ⟨p9, 0, none⟩) c.peer c.client own h)) (by rfl) (by rfl) 50 noOut.cells HPp14.out (by kernel_rfl) rfl (POut.one _) (fun y5 hh hb => ?_)
            have HX := Lib.hid (But.in hHeld hb N14.out)
            have HPp9 := Lib.hid ((hb.block p9 (lt_of_block HPp9.out) NEp9.out).trans HPp9.out)
            have HPp4 := Lib.hid ((hb.block p4 (lt_of_block HPp4.out) NEp4.out).trans HPp4.out)
            have HPp12 := Lib.hid ((hb.block p12 (lt_of_block HPp12.out) NEp12.out).trans HPp12.out)
            have HPp14 := Lib.hid hh
            clear hh hb
            refine hK.out _ _ (by (try dsimp only); exact HX.out) (fun hHeld => ?_)
            clear hK K
            refine wpAnyH_done (by kernel_rfl) ?_ _
            clear hHeld
            go_upto_region 4 with (fail)
            refine wp_region_held_drew (S := fun w' => Below y5.heap.size y5 w') (by kernel_rfl) (below_drew (Below.refl _ _)) (fun hHeld => ?_)
            refine take_at (i := 0) rfl rfl (by kernel_rfl) (by kernel_rfl) (by kernel_rfl) (fun _ _ _ h => h) (yieldsIf_load_mid (by rfl) _ _ rfl p14 0 rfl (POut.cells (ownP c (some ⟨p12, 0, none⟩) (some ⟨p4, 0, none⟩) (some ⟨p9, 0, none⟩) c.peer c.client own h)) _ (fun w0 hSw => range_of (keep hSw HPp14.out)) Tryd.underlying50 rfl (by kernel_rfl)) (by assumption) ?_
            simp only [List.setIfInBounds_toArray, List.set_cons_zero, List.set_cons_succ]
            refine take_at (i := 1) (v := ?_) rfl rfl (by kernel_rfl) (by kernel_rfl) (by kernel_rfl) (fun _ _ _ h => h) (Or.inl ⟨by rfl, ?_⟩) (by assumption) ?_
            rotate_left
            · intro w0 hSw; (try dsimp only at hSw); first | (go_simp; done) | (go_simp; with_reducible rfl)
            simp only [List.setIfInBounds_toArray, List.set_cons_zero, List.set_cons_succ]
            refine take_at (i := 2) (v := ?_) rfl rfl (by kernel_rfl) (by kernel_rfl) (by kernel_rfl) (fun _ _ _ h => h) (Or.inl ⟨by rfl, ?_⟩) (by assumption) ?_
            rotate_left
            · intro w0 hSw; (try dsimp only at hSw); first | (go_simp; done) | (go_simp; with_reducible rfl)
            simp only [List.setIfInBounds_toArray, List.set_cons_zero, List.set_cons_succ]
            refine wpAnyH_ready (rs := [3]) (by kernel_rfl) (by simp) ?_
            refine AllReadyH.cons rfl (fun K hK => ?_) ?_
            · have HCT := Lib.hid (fun (W : World) => to_at14 c.client rest W)
              go_simp
              go_wp2_with ((go_at_call 11; (with_reducible refine (HCT.out _).mono ?_); rintro e z3 ⟨av, bv, rfl, hw3, hb⟩; have HW3 := Lib.hid hw3; have HZ3 := Lib.hid (bthen hHeld hb); clear hw3 hb HCT))
              refine hK.out _ _ (by (try dsimp only); exact HZ3.out) (fun hHeld => ?_)
              clear hK K
              refine wpAnyH_ready (rs := [4]) (by kernel_rfl) (by simp) ?_
              refine AllReadyH.cons rfl (fun K hK => ?_) ?_
              · refine step_lits Tryd.outAt14 (d := 41) rfl (by rfl) rfl [(ownP c (some ⟨p12, 0, none⟩) (some ⟨p4, 0, none⟩) (some ⟨p9, 0, none⟩) c.peer c.client own h), (herP (some ⟨bv, 0, none⟩) (some ⟨av, 0, none⟩) c.client rest)] rfl (by decide) (by decide) (by intro x hx; simp at hx; rcases hx with rfl | rfl; rfl; rfl) (by rfl) ?_
                intro p16 z4 hp hh hb
                have HP16 := Lib.hid hh
                have HZ4 := Lib.hid (bthen HZ3.out hb)
                have HW4 := Lib.hid (HW3.out.keep hb)
                have N16 := Lib.hid (Nat.le_trans HZ3.out.size hp)
                clear hp hh hb
                refine hK.out _ _ (by (try dsimp only); exact HZ4.out) (fun hHeld => ?_)
                clear hK K
                refine take_at (i := 5) (v := ?_) rfl rfl (by kernel_rfl) (by kernel_rfl) (by kernel_rfl) (fun _ _ _ h => h) (Or.inl ⟨by rfl, ?_⟩) (by assumption) ?_
                rotate_left
                · intro w0 hSw; (try dsimp only at hSw); first | (go_simp; done) | (go_simp; with_reducible rfl)
                simp only [List.setIfInBounds_toArray, List.set_cons_zero, List.set_cons_succ]
                refine wpAnyH_done (by kernel_rfl) ?_ _
                clear hHeld
                go_wp2_with fail
                go_ret
                have n2 := HB2.out.size
                have n5 := HX.out.size
                have m4 := NNp4.out
                have m9 := NNp9.out
                have m12 := NNp12.out
                have m16 := N16.out
                have n9 : y5.drew.heap.size = y5.heap.size := rfl
                exact ⟨p4, p9, p12, av, bv, p16, rfl, ⟨⟨⟨by omega, keep HZ4.out HPp4.out⟩, ⟨by omega, keep HZ4.out HPp9.out⟩, ⟨by omega, keep HZ4.out HPp12.out⟩⟩, HW4.out.old (by omega), ⟨by omega, HP16.out⟩⟩, bthen (bthen HB2.out HX.out) HZ4.out⟩
              exact AllReadyH.nil
            exact AllReadyH.nil
          exact AllReadyH.nil
        exact AllReadyH.nil
      refine AllReadyH.cons rfl (fun K hK => ?_) ?_
      · refine step_alloc10 (d := 13) rfl (by rfl) 50 rfl noOut.cells.toArray Tryd.zeroOut14 ?_
        intro p14 y3 hp hh hb
        have NEp9 : Hid (p9 ≠ p14) := Lib.hid (by have h8 := lt_of_block HPp9.out; omega)
        have NEp4 : Hid (p4 ≠ p14) := Lib.hid (by have h8 := lt_of_block HPp4.out; omega)
        have N14 : Hid (w2.heap.size ≤ p14) := Lib.hid (Nat.le_trans (Below.size hHeld) hp)
        have HPp9 := Lib.hid (keep hb HPp9.out)
        have HPp4 := Lib.hid (keep hb HPp4.out)
        have NNp14 : Hid (w2.heap.size ≤ p14) := Lib.hid (Nat.le_trans (Below.size hHeld) hp)
        have HPp14 := Lib.hid hh
        have HX := Lib.hid (bthen hHeld hb)
        clear hp hh hb
        refine hK.out _ _ (by (try dsimp only); exact HX.out) (fun hHeld => ?_)
        clear hK K
        refine wpAnyH_ready (rs := [12]) (by kernel_rfl) (by simp) ?_
        refine AllReadyH.cons rfl (fun K hK => ?_) ?_
        · refine step_lits Tryd.wayAt14 (d := 35) rfl (by rfl) rfl [⟨some ⟨p4, 0, none⟩, 1, 1, [c.peer], zero32, 0, c.wait⟩, ⟨some ⟨p9, 0, none⟩, 1, 1, [c.client], h, 0, 0⟩] rfl (by decide) (by decide) (by intro x hx; simp at hx; rcases hx with rfl | rfl; exact PWay.cells_len zero32_len; exact PWay.cells_len HHL.out) (by rfl) ?_
          intro p12 y4 hp hh hb
          have NEp12 : Hid (p12 ≠ p14) := Lib.hid (by have h8 := lt_of_block HPp14.out; omega)
          have HPp9 := Lib.hid (keep hb HPp9.out)
          have HPp4 := Lib.hid (keep hb HPp4.out)
          have HPp14 := Lib.hid (keep hb HPp14.out)
          have NNp12 : Hid (w2.heap.size ≤ p12) := Lib.hid (Nat.le_trans (Below.size hHeld) hp)
          have HPp12 := Lib.hid hh
          have HX := Lib.hid (bthen hHeld hb)
          clear hp hh hb
          refine hK.out _ _ (by (try dsimp only); exact HX.out) (fun hHeld => ?_)
          clear hK K
          refine take_at (i := 13) rfl rfl (by kernel_rfl) (by kernel_rfl) (by kernel_rfl) (fun _ _ _ h => h) (yields_build10 (by rfl) rfl (vs := [(0, .int .i64 own), (1, .slice (some ⟨p12, 0, none⟩) 2 2)]) (by rfl) (build_out14 own _ _ _ [⟨some ⟨p4, 0, none⟩, 1, 1, [c.peer], zero32, 0, c.wait⟩, ⟨some ⟨p9, 0, none⟩, 1, 1, [c.client], h, 0, 0⟩])) (by assumption) ?_
          simp only [List.setIfInBounds_toArray, List.set_cons_zero, List.set_cons_succ]
          refine wpAnyH_ready (rs := [15]) (by kernel_rfl) (by simp) ?_
          refine AllReadyH.cons rfl (fun K hK => ?_) ?_
          · refine step_row10 (by rfl) 50 _ _ rfl p14 (POut.cells (ownP c (some ⟨p12, 0, none⟩) (some ⟨p4, 0, none⟩) (some ⟨p9, 0, none⟩) c.peer c.client own h)) (by rfl) (by rfl) 50 noOut.cells HPp14.out (by kernel_rfl) rfl (POut.one _) (fun y5 hh hb => ?_)
            have HX := Lib.hid (But.in hHeld hb N14.out)
            have HPp9 := Lib.hid ((hb.block p9 (lt_of_block HPp9.out) NEp9.out).trans HPp9.out)
            have HPp4 := Lib.hid ((hb.block p4 (lt_of_block HPp4.out) NEp4.out).trans HPp4.out)
            have HPp12 := Lib.hid ((hb.block p12 (lt_of_block HPp12.out) NEp12.out).trans HPp12.out)
            have HPp14 := Lib.hid hh
            clear hh hb
            refine hK.out _ _ (by (try dsimp only); exact HX.out) (fun hHeld => ?_)
            clear hK K
            refine wpAnyH_done (by kernel_rfl) ?_ _
            clear hHeld
            go_upto_region 4 with (fail)
            refine wp_region_held_drew (S := fun w' => Below y5.heap.size y5 w') (by kernel_rfl) (below_drew (Below.refl _ _)) (fun hHeld => ?_)
            refine take_at (i := 0) rfl rfl (by kernel_rfl) (by kernel_rfl) (by kernel_rfl) (fun _ _ _ h => h) (yieldsIf_load_mid (by rfl) _ _ rfl p14 0 rfl (POut.cells (ownP c (some ⟨p12, 0, none⟩) (some ⟨p4, 0, none⟩) (some ⟨p9, 0, none⟩) c.peer c.client own h)) _ (fun w0 hSw => range_of (keep hSw HPp14.out)) Tryd.underlying50 rfl (by kernel_rfl)) (by assumption) ?_
            simp only [List.setIfInBounds_toArray, List.set_cons_zero, List.set_cons_succ]
            refine take_at (i := 1) (v := ?_) rfl rfl (by kernel_rfl) (by kernel_rfl) (by kernel_rfl) (fun _ _ _ h => h) (Or.inl ⟨by rfl, ?_⟩) (by assumption) ?_
            rotate_left
            · intro w0 hSw; (try dsimp only at hSw); first | (go_simp; done) | (go_simp; with_reducible rfl)
            simp only [List.setIfInBounds_toArray, List.set_cons_zero, List.set_cons_succ]
            refine take_at (i := 2) (v := ?_) rfl rfl (by kernel_rfl) (by kernel_rfl) (by kernel_rfl) (fun _ _ _ h => h) (Or.inl ⟨by rfl, ?_⟩) (by assumption) ?_
            rotate_left
            · intro w0 hSw; (try dsimp only at hSw); first | (go_simp; done) | (go_simp; with_reducible rfl)
            simp only [List.setIfInBounds_toArray, List.set_cons_zero, List.set_cons_succ]
            refine wpAnyH_ready (rs := [3]) (by kernel_rfl) (by simp) ?_
            refine AllReadyH.cons rfl (fun K hK => ?_) ?_
            · have HCT := Lib.hid (fun (W : World) => to_at14 c.client rest W)
              go_simp
              go_wp2_with ((go_at_call 11; (with_reducible refine (HCT.out _).mono ?_); rintro e z3 ⟨av, bv, rfl, hw3, hb⟩; have HW3 := Lib.hid hw3; have HZ3 := Lib.hid (bthen hHeld hb); clear hw3 hb HCT))
              refine hK.out _ _ (by (try dsimp only); exact HZ3.out) (fun hHeld => ?_)
              clear hK K
              refine wpAnyH_ready (rs := [4]) (by kernel_rfl) (by simp) ?_
              refine AllReadyH.cons rfl (fun K hK => ?_) ?_
              · refine step_lits Tryd.outAt14 (d := 41) rfl (by rfl) rfl [(ownP c (some ⟨p12, 0, none⟩) (some ⟨p4, 0, none⟩) (some ⟨p9, 0, none⟩) c.peer c.client own h), (herP (some ⟨bv, 0, none⟩) (some ⟨av, 0, none⟩) c.client rest)] rfl (by decide) (by decide) (by intro x hx; simp at hx; rcases hx with rfl | rfl; rfl; rfl) (by rfl) ?_
                intro p16 z4 hp hh hb
                have HP16 := Lib.hid hh
                have HZ4 := Lib.hid (bthen HZ3.out hb)
                have HW4 := Lib.hid (HW3.out.keep hb)
                have N16 := Lib.hid (Nat.le_trans HZ3.out.size hp)
                clear hp hh hb
                refine hK.out _ _ (by (try dsimp only); exact HZ4.out) (fun hHeld => ?_)
                clear hK K
                refine take_at (i := 5) (v := ?_) rfl rfl (by kernel_rfl) (by kernel_rfl) (by kernel_rfl) (fun _ _ _ h => h) (Or.inl ⟨by rfl, ?_⟩) (by assumption) ?_
                rotate_left
                · intro w0 hSw; (try dsimp only at hSw); first | (go_simp; done) | (go_simp; with_reducible rfl)
                simp only [List.setIfInBounds_toArray, List.set_cons_zero, List.set_cons_succ]
                refine wpAnyH_done (by kernel_rfl) ?_ _
                clear hHeld
                go_wp2_with fail
                go_ret
                have n2 := HB2.out.size
                have n5 := HX.out.size
                have m4 := NNp4.out
                have m9 := NNp9.out
                have m12 := NNp12.out
                have m16 := N16.out
                have n9 : y5.drew.heap.size = y5.heap.size := rfl
                exact ⟨p4, p9, p12, av, bv, p16, rfl, ⟨⟨⟨by omega, keep HZ4.out HPp4.out⟩, ⟨by omega, keep HZ4.out HPp9.out⟩, ⟨by omega, keep HZ4.out HPp12.out⟩⟩, HW4.out.old (by omega), ⟨by omega, HP16.out⟩⟩, bthen (bthen HB2.out HX.out) HZ4.out⟩
              exact AllReadyH.nil
            exact AllReadyH.nil
          exact AllReadyH.nil
        exact AllReadyH.nil
      exact AllReadyH.nil
    refine AllReadyH.cons rfl (fun K hK => ?_) ?_
    · refine step_alloc10 (d := 13) rfl (by rfl) 50 rfl noOut.cells.toArray Tryd.zeroOut14 ?_
      intro p14 y2 hp hh hb
      have NEp9 : Hid (p9 ≠ p14) := Lib.hid (by have h8 := lt_of_block HPp9.out; omega)
      have N14 : Hid (w2.heap.size ≤ p14) := Lib.hid (Nat.le_trans (Below.size hHeld) hp)
      have HPp9 := Lib.hid (keep hb HPp9.out)
      have NNp14 : Hid (w2.heap.size ≤ p14) := Lib.hid (Nat.le_trans (Below.size hHeld) hp)
      have HPp14 := Lib.hid hh
      have HX := Lib.hid (bthen hHeld hb)
      clear hp hh hb
      refine hK.out _ _ (by (try dsimp only); exact HX.out) (fun hHeld => ?_)
      clear hK K
      refine wpAnyH_ready (rs := [4]) (by kernel_rfl) (by simp) ?_
      refine AllReadyH.cons rfl (fun K hK => ?_) ?_
      · refine step_int14 (d := 27) (y := c.peer) rfl (by rfl) rfl (by rfl) ?_
        intro p4 y3 hp hh hb
        have NEp4 : Hid (p4 ≠ p14) := Lib.hid (by have h8 := lt_of_block HPp14.out; omega)
        have HPp9 := Lib.hid (keep hb HPp9.out)
        have HPp14 := Lib.hid (keep hb HPp14.out)
        have NNp4 : Hid (w2.heap.size ≤ p4) := Lib.hid (Nat.le_trans (Below.size hHeld) hp)
        have HPp4 := Lib.hid hh
        have HX := Lib.hid (bthen hHeld hb)
        clear hp hh hb
        refine hK.out _ _ (by (try dsimp only); exact HX.out) (fun hHeld => ?_)
        clear hK K
        refine take_at (i := 7) rfl rfl (by kernel_rfl) (by kernel_rfl) (by kernel_rfl) (fun _ _ _ h => h) (yields_build10 (by rfl) rfl (vs := [(0, .slice (some ⟨p4, 0, none⟩) 1 1), (3, .int .i64 c.wait)]) (by rfl) (build_way_wait _ _ _ [c.peer] _)) (by assumption) ?_
        simp only [List.setIfInBounds_toArray, List.set_cons_zero, List.set_cons_succ]
        refine wpAnyH_ready (rs := [12]) (by kernel_rfl) (by simp) ?_
        refine AllReadyH.cons rfl (fun K hK => ?_) ?_
        · refine step_lits Tryd.wayAt14 (d := 35) rfl (by rfl) rfl [⟨some ⟨p4, 0, none⟩, 1, 1, [c.peer], zero32, 0, c.wait⟩, ⟨some ⟨p9, 0, none⟩, 1, 1, [c.client], h, 0, 0⟩] rfl (by decide) (by decide) (by intro x hx; simp at hx; rcases hx with rfl | rfl; exact PWay.cells_len zero32_len; exact PWay.cells_len HHL.out) (by rfl) ?_
          intro p12 y4 hp hh hb
          have NEp12 : Hid (p12 ≠ p14) := Lib.hid (by have h8 := lt_of_block HPp14.out; omega)
          have HPp9 := Lib.hid (keep hb HPp9.out)
          have HPp14 := Lib.hid (keep hb HPp14.out)
          have HPp4 := Lib.hid (keep hb HPp4.out)
          have NNp12 : Hid (w2.heap.size ≤ p12) := Lib.hid (Nat.le_trans (Below.size hHeld) hp)
          have HPp12 := Lib.hid hh
          have HX := Lib.hid (bthen hHeld hb)
          clear hp hh hb
          refine hK.out _ _ (by (try dsimp only); exact HX.out) (fun hHeld => ?_)
          clear hK K
          refine take_at (i := 13) rfl rfl (by kernel_rfl) (by kernel_rfl) (by kernel_rfl) (fun _ _ _ h => h) (yields_build10 (by rfl) rfl (vs := [(0, .int .i64 own), (1, .slice (some ⟨p12, 0, none⟩) 2 2)]) (by rfl) (build_out14 own _ _ _ [⟨some ⟨p4, 0, none⟩, 1, 1, [c.peer], zero32, 0, c.wait⟩, ⟨some ⟨p9, 0, none⟩, 1, 1, [c.client], h, 0, 0⟩])) (by assumption) ?_
          simp only [List.setIfInBounds_toArray, List.set_cons_zero, List.set_cons_succ]
          refine wpAnyH_ready (rs := [15]) (by kernel_rfl) (by simp) ?_
          refine AllReadyH.cons rfl (fun K hK => ?_) ?_
          · refine step_row10 (by rfl) 50 _ _ rfl p14 (POut.cells (ownP c (some ⟨p12, 0, none⟩) (some ⟨p4, 0, none⟩) (some ⟨p9, 0, none⟩) c.peer c.client own h)) (by rfl) (by rfl) 50 noOut.cells HPp14.out (by kernel_rfl) rfl (POut.one _) (fun y5 hh hb => ?_)
            have HX := Lib.hid (But.in hHeld hb N14.out)
            have HPp9 := Lib.hid ((hb.block p9 (lt_of_block HPp9.out) NEp9.out).trans HPp9.out)
            have HPp4 := Lib.hid ((hb.block p4 (lt_of_block HPp4.out) NEp4.out).trans HPp4.out)
            have HPp12 := Lib.hid ((hb.block p12 (lt_of_block HPp12.out) NEp12.out).trans HPp12.out)
            have HPp14 := Lib.hid hh
            clear hh hb
            refine hK.out _ _ (by (try dsimp only); exact HX.out) (fun hHeld => ?_)
            clear hK K
            refine wpAnyH_done (by kernel_rfl) ?_ _
            clear hHeld
            go_upto_region 4 with (fail)
            refine wp_region_held_drew (S := fun w' => Below y5.heap.size y5 w') (by kernel_rfl) (below_drew (Below.refl _ _)) (fun hHeld => ?_)
            refine take_at (i := 0) rfl rfl (by kernel_rfl) (by kernel_rfl) (by kernel_rfl) (fun _ _ _ h => h) (yieldsIf_load_mid (by rfl) _ _ rfl p14 0 rfl (POut.cells (ownP c (some ⟨p12, 0, none⟩) (some ⟨p4, 0, none⟩) (some ⟨p9, 0, none⟩) c.peer c.client own h)) _ (fun w0 hSw => range_of (keep hSw HPp14.out)) Tryd.underlying50 rfl (by kernel_rfl)) (by assumption) ?_
            simp only [List.setIfInBounds_toArray, List.set_cons_zero, List.set_cons_succ]
            refine take_at (i := 1) (v := ?_) rfl rfl (by kernel_rfl) (by kernel_rfl) (by kernel_rfl) (fun _ _ _ h => h) (Or.inl ⟨by rfl, ?_⟩) (by assumption) ?_
            rotate_left
            · intro w0 hSw; (try dsimp only at hSw); first | (go_simp; done) | (go_simp; with_reducible rfl)
            simp only [List.setIfInBounds_toArray, List.set_cons_zero, List.set_cons_succ]
            refine take_at (i := 2) (v := ?_) rfl rfl (by kernel_rfl) (by kernel_rfl) (by kernel_rfl) (fun _ _ _ h => h) (Or.inl ⟨by rfl, ?_⟩) (by assumption) ?_
            rotate_left
            · intro w0 hSw; (try dsimp only at hSw); first | (go_simp; done) | (go_simp; with_reducible rfl)
            simp only [List.setIfInBounds_toArray, List.set_cons_zero, List.set_cons_succ]
            refine wpAnyH_ready (rs := [3]) (by kernel_rfl) (by simp) ?_
            refine AllReadyH.cons rfl (fun K hK => ?_) ?_
            · have HCT := Lib.hid (fun (W : World) => to_at14 c.client rest W)
              go_simp
              go_wp2_with ((go_at_call 11; (with_reducible refine (HCT.out _).mono ?_); rintro e z3 ⟨av, bv, rfl, hw3, hb⟩; have HW3 := Lib.hid hw3; have HZ3 := Lib.hid (bthen hHeld hb); clear hw3 hb HCT))
              refine hK.out _ _ (by (try dsimp only); exact HZ3.out) (fun hHeld => ?_)
              clear hK K
              refine wpAnyH_ready (rs := [4]) (by kernel_rfl) (by simp) ?_
              refine AllReadyH.cons rfl (fun K hK => ?_) ?_
              · refine step_lits Tryd.outAt14 (d := 41) rfl (by rfl) rfl [(ownP c (some ⟨p12, 0, none⟩) (some ⟨p4, 0, none⟩) (some ⟨p9, 0, none⟩) c.peer c.client own h), (herP (some ⟨bv, 0, none⟩) (some ⟨av, 0, none⟩) c.client rest)] rfl (by decide) (by decide) (by intro x hx; simp at hx; rcases hx with rfl | rfl; rfl; rfl) (by rfl) ?_
                intro p16 z4 hp hh hb
                have HP16 := Lib.hid hh
                have HZ4 := Lib.hid (bthen HZ3.out hb)
                have HW4 := Lib.hid (HW3.out.keep hb)
                have N16 := Lib.hid (Nat.le_trans HZ3.out.size hp)
                clear hp hh hb
                refine hK.out _ _ (by (try dsimp only); exact HZ4.out) (fun hHeld => ?_)
                clear hK K
                refine take_at (i := 5) (v := ?_) rfl rfl (by kernel_rfl) (by kernel_rfl) (by kernel_rfl) (fun _ _ _ h => h) (Or.inl ⟨by rfl, ?_⟩) (by assumption) ?_
                rotate_left
                · intro w0 hSw; (try dsimp only at hSw); first | (go_simp; done) | (go_simp; with_reducible rfl)
                simp only [List.setIfInBounds_toArray, List.set_cons_zero, List.set_cons_succ]
                refine wpAnyH_done (by kernel_rfl) ?_ _
                clear hHeld
                go_wp2_with fail
                go_ret
                have n2 := HB2.out.size
                have n5 := HX.out.size
                have m4 := NNp4.out
                have m9 := NNp9.out
                have m12 := NNp12.out
                have m16 := N16.out
                have n9 : y5.drew.heap.size = y5.heap.size := rfl
                exact ⟨p4, p9, p12, av, bv, p16, rfl, ⟨⟨⟨by omega, keep HZ4.out HPp4.out⟩, ⟨by omega, keep HZ4.out HPp9.out⟩, ⟨by omega, keep HZ4.out HPp12.out⟩⟩, HW4.out.old (by omega), ⟨by omega, HP16.out⟩⟩, bthen (bthen HB2.out HX.out) HZ4.out⟩
              exact AllReadyH.nil
            exact AllReadyH.nil
          exact AllReadyH.nil
        exact AllReadyH.nil
      exact AllReadyH.nil
    exact AllReadyH.nil
  refine AllReadyH.cons rfl (fun K hK => ?_) ?_
  · refine step_alloc10 (d := 13) rfl (by rfl) 50 rfl noOut.cells.toArray Tryd.zeroOut14 ?_
    intro p14 y1 hp hh hb
    have N14 : Hid (w2.heap.size ≤ p14) := Lib.hid (Nat.le_trans (Below.size hHeld) hp)
    have NNp14 : Hid (w2.heap.size ≤ p14) := Lib.hid (Nat.le_trans (Below.size hHeld) hp)
    have HPp14 := Lib.hid hh
    have HX := Lib.hid (bthen hHeld hb)
    clear hp hh hb
    refine hK.out _ _ (by (try dsimp only); exact HX.out) (fun hHeld => ?_)
    clear hK K
    refine wpAnyH_ready (rs := [4, 9]) (by kernel_rfl) (by simp) ?_
    refine AllReadyH.cons rfl (fun K hK => ?_) ?_
    · refine step_int14 (d := 27) (y := c.peer) rfl (by rfl) rfl (by rfl) ?_
      intro p4 y2 hp hh hb
      have NEp4 : Hid (p4 ≠ p14) := Lib.hid (by have h8 := lt_of_block HPp14.out; omega)
      have HPp14 := Lib.hid (keep hb HPp14.out)
      have NNp4 : Hid (w2.heap.size ≤ p4) := Lib.hid (Nat.le_trans (Below.size hHeld) hp)
      have HPp4 := Lib.hid hh
      have HX := Lib.hid (bthen hHeld hb)
      clear hp hh hb
      refine hK.out _ _ (by (try dsimp only); exact HX.out) (fun hHeld => ?_)
      clear hK K
      refine take_at (i := 7) rfl rfl (by kernel_rfl) (by kernel_rfl) (by kernel_rfl) (fun _ _ _ h => h) (yields_build10 (by rfl) rfl (vs := [(0, .slice (some ⟨p4, 0, none⟩) 1 1), (3, .int .i64 c.wait)]) (by rfl) (build_way_wait _ _ _ [c.peer] _)) (by assumption) ?_
      simp only [List.setIfInBounds_toArray, List.set_cons_zero, List.set_cons_succ]
      refine wpAnyH_ready (rs := [9]) (by kernel_rfl) (by simp) ?_
      refine AllReadyH.cons rfl (fun K hK => ?_) ?_
      · refine step_int14 (d := 32) (y := c.client) rfl (by rfl) rfl (by rfl) ?_
        intro p9 y3 hp hh hb
        have NEp9 : Hid (p9 ≠ p14) := Lib.hid (by have h8 := lt_of_block HPp14.out; omega)
        have HPp14 := Lib.hid (keep hb HPp14.out)
        have HPp4 := Lib.hid (keep hb HPp4.out)
        have NNp9 : Hid (w2.heap.size ≤ p9) := Lib.hid (Nat.le_trans (Below.size hHeld) hp)
        have HPp9 := Lib.hid hh
        have HX := Lib.hid (bthen hHeld hb)
        clear hp hh hb
        refine hK.out _ _ (by (try dsimp only); exact HX.out) (fun hHeld => ?_)
        clear hK K
        refine take_at (i := 11) rfl rfl (by kernel_rfl) (by kernel_rfl) (by kernel_rfl) (fun _ _ _ h => h) (yields_build10 (by rfl) rfl (vs := [(0, .slice (some ⟨p9, 0, none⟩) 1 1), (1, .agg (cellsOf h).toArray)]) (by rfl) (build_way_hash _ _ _ [c.client] HHL.out)) (by assumption) ?_
        simp only [List.setIfInBounds_toArray, List.set_cons_zero, List.set_cons_succ]
        refine wpAnyH_ready (rs := [12]) (by kernel_rfl) (by simp) ?_
        refine AllReadyH.cons rfl (fun K hK => ?_) ?_
        · refine step_lits Tryd.wayAt14 (d := 35) rfl (by rfl) rfl [⟨some ⟨p4, 0, none⟩, 1, 1, [c.peer], zero32, 0, c.wait⟩, ⟨some ⟨p9, 0, none⟩, 1, 1, [c.client], h, 0, 0⟩] rfl (by decide) (by decide) (by intro x hx; simp at hx; rcases hx with rfl | rfl; exact PWay.cells_len zero32_len; exact PWay.cells_len HHL.out) (by rfl) ?_
          intro p12 y4 hp hh hb
          have NEp12 : Hid (p12 ≠ p14) := Lib.hid (by have h8 := lt_of_block HPp14.out; omega)
          have HPp14 := Lib.hid (keep hb HPp14.out)
          have HPp4 := Lib.hid (keep hb HPp4.out)
          have HPp9 := Lib.hid (keep hb HPp9.out)
          have NNp12 : Hid (w2.heap.size ≤ p12) := Lib.hid (Nat.le_trans (Below.size hHeld) hp)
          have HPp12 := Lib.hid hh
          have HX := Lib.hid (bthen hHeld hb)
          clear hp hh hb
          refine hK.out _ _ (by (try dsimp only); exact HX.out) (fun hHeld => ?_)
          clear hK K
          refine take_at (i := 13) rfl rfl (by kernel_rfl) (by kernel_rfl) (by kernel_rfl) (fun _ _ _ h => h) (yields_build10 (by rfl) rfl (vs := [(0, .int .i64 own), (1, .slice (some ⟨p12, 0, none⟩) 2 2)]) (by rfl) (build_out14 own _ _ _ [⟨some ⟨p4, 0, none⟩, 1, 1, [c.peer], zero32, 0, c.wait⟩, ⟨some ⟨p9, 0, none⟩, 1, 1, [c.client], h, 0, 0⟩])) (by assumption) ?_
          simp only [List.setIfInBounds_toArray, List.set_cons_zero, List.set_cons_succ]
          refine wpAnyH_ready (rs := [15]) (by kernel_rfl) (by simp) ?_
          refine AllReadyH.cons rfl (fun K hK => ?_) ?_
          · refine step_row10 (by rfl) 50 _ _ rfl p14 (POut.cells (ownP c (some ⟨p12, 0, none⟩) (some ⟨p4, 0, none⟩) (some ⟨p9, 0, none⟩) c.peer c.client own h)) (by rfl) (by rfl) 50 noOut.cells HPp14.out (by kernel_rfl) rfl (POut.one _) (fun y5 hh hb => ?_)
            have HX := Lib.hid (But.in hHeld hb N14.out)
            have HPp4 := Lib.hid ((hb.block p4 (lt_of_block HPp4.out) NEp4.out).trans HPp4.out)
            have HPp9 := Lib.hid ((hb.block p9 (lt_of_block HPp9.out) NEp9.out).trans HPp9.out)
            have HPp12 := Lib.hid ((hb.block p12 (lt_of_block HPp12.out) NEp12.out).trans HPp12.out)
            have HPp14 := Lib.hid hh
            clear hh hb
            refine hK.out _ _ (by (try dsimp only); exact HX.out) (fun hHeld => ?_)
            clear hK K
            refine wpAnyH_done (by kernel_rfl) ?_ _
            clear hHeld
            go_upto_region 4 with (fail)
            refine wp_region_held_drew (S := fun w' => Below y5.heap.size y5 w') (by kernel_rfl) (below_drew (Below.refl _ _)) (fun hHeld => ?_)
            refine take_at (i := 0) rfl rfl (by kernel_rfl) (by kernel_rfl) (by kernel_rfl) (fun _ _ _ h => h) (yieldsIf_load_mid (by rfl) _ _ rfl p14 0 rfl (POut.cells (ownP c (some ⟨p12, 0, none⟩) (some ⟨p4, 0, none⟩) (some ⟨p9, 0, none⟩) c.peer c.client own h)) _ (fun w0 hSw => range_of (keep hSw HPp14.out)) Tryd.underlying50 rfl (by kernel_rfl)) (by assumption) ?_
            simp only [List.setIfInBounds_toArray, List.set_cons_zero, List.set_cons_succ]
            refine take_at (i := 1) (v := ?_) rfl rfl (by kernel_rfl) (by kernel_rfl) (by kernel_rfl) (fun _ _ _ h => h) (Or.inl ⟨by rfl, ?_⟩) (by assumption) ?_
            rotate_left
            · intro w0 hSw; (try dsimp only at hSw); first | (go_simp; done) | (go_simp; with_reducible rfl)
            simp only [List.setIfInBounds_toArray, List.set_cons_zero, List.set_cons_succ]
            refine take_at (i := 2) (v := ?_) rfl rfl (by kernel_rfl) (by kernel_rfl) (by kernel_rfl) (fun _ _ _ h => h) (Or.inl ⟨by rfl, ?_⟩) (by assumption) ?_
            rotate_left
            · intro w0 hSw; (try dsimp only at hSw); first | (go_simp; done) | (go_simp; with_reducible rfl)
            simp only [List.setIfInBounds_toArray, List.set_cons_zero, List.set_cons_succ]
            refine wpAnyH_ready (rs := [3]) (by kernel_rfl) (by simp) ?_
            refine AllReadyH.cons rfl (fun K hK => ?_) ?_
            · have HCT := Lib.hid (fun (W : World) => to_at14 c.client rest W)
              go_simp
              go_wp2_with ((go_at_call 11; (with_reducible refine (HCT.out _).mono ?_); rintro e z3 ⟨av, bv, rfl, hw3, hb⟩; have HW3 := Lib.hid hw3; have HZ3 := Lib.hid (bthen hHeld hb); clear hw3 hb HCT))
              refine hK.out _ _ (by (try dsimp only); exact HZ3.out) (fun hHeld => ?_)
              clear hK K
              refine wpAnyH_ready (rs := [4]) (by kernel_rfl) (by simp) ?_
              refine AllReadyH.cons rfl (fun K hK => ?_) ?_
              · refine step_lits Tryd.outAt14 (d := 41) rfl (by rfl) rfl [(ownP c (some ⟨p12, 0, none⟩) (some ⟨p4, 0, none⟩) (some ⟨p9, 0, none⟩) c.peer c.client own h), (herP (some ⟨bv, 0, none⟩) (some ⟨av, 0, none⟩) c.client rest)] rfl (by decide) (by decide) (by intro x hx; simp at hx; rcases hx with rfl | rfl; rfl; rfl) (by rfl) ?_
                intro p16 z4 hp hh hb
                have HP16 := Lib.hid hh
                have HZ4 := Lib.hid (bthen HZ3.out hb)
                have HW4 := Lib.hid (HW3.out.keep hb)
                have N16 := Lib.hid (Nat.le_trans HZ3.out.size hp)
                clear hp hh hb
                refine hK.out _ _ (by (try dsimp only); exact HZ4.out) (fun hHeld => ?_)
                clear hK K
                refine take_at (i := 5) (v := ?_) rfl rfl (by kernel_rfl) (by kernel_rfl) (by kernel_rfl) (fun _ _ _ h => h) (Or.inl ⟨by rfl, ?_⟩) (by assumption) ?_
                rotate_left
                · intro w0 hSw; (try dsimp only at hSw); first | (go_simp; done) | (go_simp; with_reducible rfl)
                simp only [List.setIfInBounds_toArray, List.set_cons_zero, List.set_cons_succ]
                refine wpAnyH_done (by kernel_rfl) ?_ _
                clear hHeld
                go_wp2_with fail
                go_ret
                have n2 := HB2.out.size
                have n5 := HX.out.size
                have m4 := NNp4.out
                have m9 := NNp9.out
                have m12 := NNp12.out
                have m16 := N16.out
                have n9 : y5.drew.heap.size = y5.heap.size := rfl
                exact ⟨p4, p9, p12, av, bv, p16, rfl, ⟨⟨⟨by omega, keep HZ4.out HPp4.out⟩, ⟨by omega, keep HZ4.out HPp9.out⟩, ⟨by omega, keep HZ4.out HPp12.out⟩⟩, HW4.out.old (by omega), ⟨by omega, HP16.out⟩⟩, bthen (bthen HB2.out HX.out) HZ4.out⟩
              exact AllReadyH.nil
            exact AllReadyH.nil
          exact AllReadyH.nil
        exact AllReadyH.nil
      exact AllReadyH.nil
    refine AllReadyH.cons rfl (fun K hK => ?_) ?_
    · refine step_int14 (d := 32) (y := c.client) rfl (by rfl) rfl (by rfl) ?_
      intro p9 y2 hp hh hb
      have NEp9 : Hid (p9 ≠ p14) := Lib.hid (by have h8 := lt_of_block HPp14.out; omega)
      have HPp14 := Lib.hid (keep hb HPp14.out)
      have NNp9 : Hid (w2.heap.size ≤ p9) := Lib.hid (Nat.le_trans (Below.size hHeld) hp)
      have HPp9 := Lib.hid hh
      have HX := Lib.hid (bthen hHeld hb)
      clear hp hh hb
      refine hK.out _ _ (by (try dsimp only); exact HX.out) (fun hHeld => ?_)
      clear hK K
      refine take_at (i := 11) rfl rfl (by kernel_rfl) (by kernel_rfl) (by kernel_rfl) (fun _ _ _ h => h) (yields_build10 (by rfl) rfl (vs := [(0, .slice (some ⟨p9, 0, none⟩) 1 1), (1, .agg (cellsOf h).toArray)]) (by rfl) (build_way_hash _ _ _ [c.client] HHL.out)) (by assumption) ?_
      simp only [List.setIfInBounds_toArray, List.set_cons_zero, List.set_cons_succ]
      refine wpAnyH_ready (rs := [4]) (by kernel_rfl) (by simp) ?_
      refine AllReadyH.cons rfl (fun K hK => ?_) ?_
      · refine step_int14 (d := 27) (y := c.peer) rfl (by rfl) rfl (by rfl) ?_
        intro p4 y3 hp hh hb
        have NEp4 : Hid (p4 ≠ p14) := Lib.hid (by have h8 := lt_of_block HPp14.out; omega)
        have HPp14 := Lib.hid (keep hb HPp14.out)
        have HPp9 := Lib.hid (keep hb HPp9.out)
        have NNp4 : Hid (w2.heap.size ≤ p4) := Lib.hid (Nat.le_trans (Below.size hHeld) hp)
        have HPp4 := Lib.hid hh
        have HX := Lib.hid (bthen hHeld hb)
        clear hp hh hb
        refine hK.out _ _ (by (try dsimp only); exact HX.out) (fun hHeld => ?_)
        clear hK K
        refine take_at (i := 7) rfl rfl (by kernel_rfl) (by kernel_rfl) (by kernel_rfl) (fun _ _ _ h => h) (yields_build10 (by rfl) rfl (vs := [(0, .slice (some ⟨p4, 0, none⟩) 1 1), (3, .int .i64 c.wait)]) (by rfl) (build_way_wait _ _ _ [c.peer] _)) (by assumption) ?_
        simp only [List.setIfInBounds_toArray, List.set_cons_zero, List.set_cons_succ]
        refine wpAnyH_ready (rs := [12]) (by kernel_rfl) (by simp) ?_
        refine AllReadyH.cons rfl (fun K hK => ?_) ?_
        · refine step_lits Tryd.wayAt14 (d := 35) rfl (by rfl) rfl [⟨some ⟨p4, 0, none⟩, 1, 1, [c.peer], zero32, 0, c.wait⟩, ⟨some ⟨p9, 0, none⟩, 1, 1, [c.client], h, 0, 0⟩] rfl (by decide) (by decide) (by intro x hx; simp at hx; rcases hx with rfl | rfl; exact PWay.cells_len zero32_len; exact PWay.cells_len HHL.out) (by rfl) ?_
          intro p12 y4 hp hh hb
          have NEp12 : Hid (p12 ≠ p14) := Lib.hid (by have h8 := lt_of_block HPp14.out; omega)
          have HPp14 := Lib.hid (keep hb HPp14.out)
          have HPp9 := Lib.hid (keep hb HPp9.out)
          have HPp4 := Lib.hid (keep hb HPp4.out)
          have NNp12 : Hid (w2.heap.size ≤ p12) := Lib.hid (Nat.le_trans (Below.size hHeld) hp)
          have HPp12 := Lib.hid hh
          have HX := Lib.hid (bthen hHeld hb)
          clear hp hh hb
          refine hK.out _ _ (by (try dsimp only); exact HX.out) (fun hHeld => ?_)
          clear hK K
          refine take_at (i := 13) rfl rfl (by kernel_rfl) (by kernel_rfl) (by kernel_rfl) (fun _ _ _ h => h) (yields_build10 (by rfl) rfl (vs := [(0, .int .i64 own), (1, .slice (some ⟨p12, 0, none⟩) 2 2)]) (by rfl) (build_out14 own _ _ _ [⟨some ⟨p4, 0, none⟩, 1, 1, [c.peer], zero32, 0, c.wait⟩, ⟨some ⟨p9, 0, none⟩, 1, 1, [c.client], h, 0, 0⟩])) (by assumption) ?_
          simp only [List.setIfInBounds_toArray, List.set_cons_zero, List.set_cons_succ]
          refine wpAnyH_ready (rs := [15]) (by kernel_rfl) (by simp) ?_
          refine AllReadyH.cons rfl (fun K hK => ?_) ?_
          · refine step_row10 (by rfl) 50 _ _ rfl p14 (POut.cells (ownP c (some ⟨p12, 0, none⟩) (some ⟨p4, 0, none⟩) (some ⟨p9, 0, none⟩) c.peer c.client own h)) (by rfl) (by rfl) 50 noOut.cells HPp14.out (by kernel_rfl) rfl (POut.one _) (fun y5 hh hb => ?_)
            have HX := Lib.hid (But.in hHeld hb N14.out)
            have HPp9 := Lib.hid ((hb.block p9 (lt_of_block HPp9.out) NEp9.out).trans HPp9.out)
            have HPp4 := Lib.hid ((hb.block p4 (lt_of_block HPp4.out) NEp4.out).trans HPp4.out)
            have HPp12 := Lib.hid ((hb.block p12 (lt_of_block HPp12.out) NEp12.out).trans HPp12.out)
            have HPp14 := Lib.hid hh
            clear hh hb
            refine hK.out _ _ (by (try dsimp only); exact HX.out) (fun hHeld => ?_)
            clear hK K
            refine wpAnyH_done (by kernel_rfl) ?_ _
            clear hHeld
            go_upto_region 4 with (fail)
            refine wp_region_held_drew (S := fun w' => Below y5.heap.size y5 w') (by kernel_rfl) (below_drew (Below.refl _ _)) (fun hHeld => ?_)
            refine take_at (i := 0) rfl rfl (by kernel_rfl) (by kernel_rfl) (by kernel_rfl) (fun _ _ _ h => h) (yieldsIf_load_mid (by rfl) _ _ rfl p14 0 rfl (POut.cells (ownP c (some ⟨p12, 0, none⟩) (some ⟨p4, 0, none⟩) (some ⟨p9, 0, none⟩) c.peer c.client own h)) _ (fun w0 hSw => range_of (keep hSw HPp14.out)) Tryd.underlying50 rfl (by kernel_rfl)) (by assumption) ?_
            simp only [List.setIfInBounds_toArray, List.set_cons_zero, List.set_cons_succ]
            refine take_at (i := 1) (v := ?_) rfl rfl (by kernel_rfl) (by kernel_rfl) (by kernel_rfl) (fun _ _ _ h => h) (Or.inl ⟨by rfl, ?_⟩) (by assumption) ?_
            rotate_left
            · intro w0 hSw; (try dsimp only at hSw); first | (go_simp; done) | (go_simp; with_reducible rfl)
            simp only [List.setIfInBounds_toArray, List.set_cons_zero, List.set_cons_succ]
            refine take_at (i := 2) (v := ?_) rfl rfl (by kernel_rfl) (by kernel_rfl) (by kernel_rfl) (fun _ _ _ h => h) (Or.inl ⟨by rfl, ?_⟩) (by assumption) ?_
            rotate_left
            · intro w0 hSw; (try dsimp only at hSw); first | (go_simp; done) | (go_simp; with_reducible rfl)
            simp only [List.setIfInBounds_toArray, List.set_cons_zero, List.set_cons_succ]
            refine wpAnyH_ready (rs := [3]) (by kernel_rfl) (by simp) ?_
            refine AllReadyH.cons rfl (fun K hK => ?_) ?_
            · have HCT := Lib.hid (fun (W : World) => to_at14 c.client rest W)
              go_simp
              go_wp2_with ((go_at_call 11; (with_reducible refine (HCT.out _).mono ?_); rintro e z3 ⟨av, bv, rfl, hw3, hb⟩; have HW3 := Lib.hid hw3; have HZ3 := Lib.hid (bthen hHeld hb); clear hw3 hb HCT))
              refine hK.out _ _ (by (try dsimp only); exact HZ3.out) (fun hHeld => ?_)
              clear hK K
              refine wpAnyH_ready (rs := [4]) (by kernel_rfl) (by simp) ?_
              refine AllReadyH.cons rfl (fun K hK => ?_) ?_
              · refine step_lits Tryd.outAt14 (d := 41) rfl (by rfl) rfl [(ownP c (some ⟨p12, 0, none⟩) (some ⟨p4, 0, none⟩) (some ⟨p9, 0, none⟩) c.peer c.client own h), (herP (some ⟨bv, 0, none⟩) (some ⟨av, 0, none⟩) c.client rest)] rfl (by decide) (by decide) (by intro x hx; simp at hx; rcases hx with rfl | rfl; rfl; rfl) (by rfl) ?_
                intro p16 z4 hp hh hb
                have HP16 := Lib.hid hh
                have HZ4 := Lib.hid (bthen HZ3.out hb)
                have HW4 := Lib.hid (HW3.out.keep hb)
                have N16 := Lib.hid (Nat.le_trans HZ3.out.size hp)
                clear hp hh hb
                refine hK.out _ _ (by (try dsimp only); exact HZ4.out) (fun hHeld => ?_)
                clear hK K
                refine take_at (i := 5) (v := ?_) rfl rfl (by kernel_rfl) (by kernel_rfl) (by kernel_rfl) (fun _ _ _ h => h) (Or.inl ⟨by rfl, ?_⟩) (by assumption) ?_
                rotate_left
                · intro w0 hSw; (try dsimp only at hSw); first | (go_simp; done) | (go_simp; with_reducible rfl)
                simp only [List.setIfInBounds_toArray, List.set_cons_zero, List.set_cons_succ]
                refine wpAnyH_done (by kernel_rfl) ?_ _
                clear hHeld
                go_wp2_with fail
                go_ret
                have n2 := HB2.out.size
                have n5 := HX.out.size
                have m4 := NNp4.out
                have m9 := NNp9.out
                have m12 := NNp12.out
                have m16 := N16.out
                have n9 : y5.drew.heap.size = y5.heap.size := rfl
                exact ⟨p4, p9, p12, av, bv, p16, rfl, ⟨⟨⟨by omega, keep HZ4.out HPp4.out⟩, ⟨by omega, keep HZ4.out HPp9.out⟩, ⟨by omega, keep HZ4.out HPp12.out⟩⟩, HW4.out.old (by omega), ⟨by omega, HP16.out⟩⟩, bthen (bthen HB2.out HX.out) HZ4.out⟩
              exact AllReadyH.nil
            exact AllReadyH.nil
          exact AllReadyH.nil
        exact AllReadyH.nil
      exact AllReadyH.nil
    exact AllReadyH.nil
  exact AllReadyH.nil
end Go.Proofs.YtkihmhchdenamaaDoor
