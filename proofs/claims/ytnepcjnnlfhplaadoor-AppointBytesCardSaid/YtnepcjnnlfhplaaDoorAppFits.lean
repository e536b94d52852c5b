/- What package appoint's Receipt and Fits come to. -/
import Derived.Test.YtnepcjnnlfhplaaDoorAppSums
import Derived.Test.YtnepcjnnlfhplaaDoorJobMem
import Derived.Test.YtnepcjnnlfhplaaDoorEqRec
import Derived.Test.YtnepcjnnlfhplaaDoorSteps
namespace Go.Proofs.YtnepcjnnlfhplaaDoor
open Go.RowKit

/-- What a tower signs for a job. -/
def recOf (x : PJob) (t : Int) : PRec := ⟨t, x.channel, x.state, x.hint, sumOf (partsOf 73 [x.blob])⟩
theorem recOf_in {w : World} {x : PJob} {t : Int} (h : JobIn w x) (ht : Fits t) : RecIn (recOf x t) := ⟨ht, h.channel, h.state, h.hint, sumOf_len _⟩
theorem Tryd.recFields16 : ∃ fs, Tryd.prog.underlying 49 = some (.struct fs) ∧ ∀ w : World, ((fs.mapM fun (f : Field) => do pure (f.offset, ← sizeOf f.type)) : Sem (Array (Nat × Nat))).run Tryd.prog w = .ok #[(0, 1), (1, 1), (2, 1), (3, 32), (35, 32)] w := ⟨_, Tryd.underlying49, fun w => by kernel_rfl⟩
theorem build_rec16 (t ch st : Int) {h b : List UInt8} (hl : h.length = 32) (hb : b.length = 32) (w : World) : (Instr.build 49 ([(0, (.int .i64 t : Value)), (1, .int .i64 ch), (2, .int .i64 st), (3, .agg (cellsOf h).toArray), (4, .agg (cellsOf b).toArray)] : List (Nat × Value)).toArray).run Tryd.prog w = .ok (.agg (PRec.cells ⟨t, ch, st, h, b⟩).toArray) w := by
  obtain ⟨fs, hu, hm⟩ := Tryd.recFields16
  refine run_build_of hu hm Tryd.infoRec ?_ w
  rw [show ([(0, (.int .i64 t : Value)), (1, .int .i64 ch), (2, .int .i64 st), (3, .agg (cellsOf h).toArray), (4, .agg (cellsOf b).toArray)] : List (Nat × Value)).toArray.toList = [(0, .int .i64 t), (1, .int .i64 ch), (2, .int .i64 st), (3, .agg (cellsOf h).toArray), (4, .agg (cellsOf b).toArray)] from rfl, show noRec.cells = ([.int .i64 0] : List Value) ++ (([.int .i64 0] : List Value) ++ (([.int .i64 0] : List Value) ++ (cellsOf zero32 ++ cellsOf zero32))) from rfl]
  rw [fill_step (off := 0) (n := 1) rfl (vs := [.int .i64 t]) rfl rfl (by simp), spl_head (by rfl)]
  rw [fill_step (off := 1) (n := 1) rfl (vs := [.int .i64 ch]) rfl rfl (by simp), spl_at (k := 1) (cs := [.int .i64 t]) (by rfl) (by rfl)]
  rw [show ([.int .i64 t] : List Value) ++ (([.int .i64 ch] : List Value) ++ (([.int .i64 0] : List Value) ++ (cellsOf zero32 ++ cellsOf zero32))) = ([.int .i64 t, .int .i64 ch] : List Value) ++ (([.int .i64 0] : List Value) ++ (cellsOf zero32 ++ cellsOf zero32)) from rfl]
  rw [fill_step (off := 2) (n := 1) rfl (vs := [.int .i64 st]) rfl rfl (by simp), spl_at (k := 2) (cs := [.int .i64 t, .int .i64 ch]) (by rfl) (by rfl)]
  rw [show ([.int .i64 t, .int .i64 ch] : List Value) ++ (([.int .i64 st] : List Value) ++ (cellsOf zero32 ++ cellsOf zero32)) = ([.int .i64 t, .int .i64 ch, .int .i64 st] : List Value) ++ (cellsOf zero32 ++ cellsOf zero32) from rfl]
  rw [fill_step (off := 3) (n := 32) rfl (vs := cellsOf h) rfl (by rw [cellsOf_len, hl]) (by simp [cellsOf_len, zero32_size]), spl_at (k := 3) (cs := [.int .i64 t, .int .i64 ch, .int .i64 st]) (by rfl) (by rw [cellsOf_len, cellsOf_len, hl]; rfl)]
  rw [show ([.int .i64 t, .int .i64 ch, .int .i64 st] : List Value) ++ (cellsOf h ++ cellsOf zero32) = (([.int .i64 t, .int .i64 ch, .int .i64 st] : List Value) ++ cellsOf h) ++ (cellsOf zero32 ++ []) by simp]
  rw [fill_step (off := 35) (n := 32) rfl (vs := cellsOf b) rfl (by rw [cellsOf_len, hb]) (by simp [cellsOf_len, hl, zero32_size]), spl_at (by simp [cellsOf_len, hl]) (by rw [cellsOf_len, cellsOf_len, hb]; rfl)]
  unfold Instr.fill
  simp [PRec.cells]
theorem no_guardR : Tryd.prog.eqGuardType Tryd.prog.depth 49 = false := by kernel_rfl
theorem yields_eqrec {S : World → Prop} {ops : Array Oper} {o : Oper} {a : Act} {u v : Operand} {rt : TypeId} {x y : PRec} (hw : Region.wanted o (yielded ops a.tmps) = true) (ho : o.op = .binOp .eql 49 u v rt) (hu : a.eval u = .agg x.cells.toArray) (hv : a.eval v = .agg y.cells.toArray) (hx : RecIn x) (hy : RecIn y) : YieldsIf Tryd.prog ops S o (.bool (recEq x y)) a :=
  .inl ⟨hw, fun w _ => by
    have h : (binOp .eql 49 (.agg x.cells.toArray) (.agg y.cells.toArray)).run Tryd.prog w = .ok (.bool (recEq x y)) w := by
      rw [run_eql_struct, run_eqRecs x y hx hy]
      rfl
    unfold execOp
    simp only [ho, hu, hv, run_eqGuard_agg w .eql 49 u v _ _ no_guardR, Sem.run_bind, Sem.run_pure, Result.andThen_ok, h]⟩
set_option linter.unusedSimpArgs false in
set_option maxRecDepth 100000 in
set_option maxHeartbeats 6400000 in
theorem receipt_any {w : World} {x : PJob} {t : Int} (h : JobIn w x) (hk : KsAt w) (hn : x.n ≤ 1000000) :
    Calls Tryd.prog 20 #[.agg x.cells.toArray, .int .i64 t] w fun e w' => e = .returned (.agg (recOf x t).cells.toArray) ∧ Below w.heap.size w w' := by
  obtain ⟨X, hX⟩ : ∃ X, sumOf (partsOf 73 [x.blob]) = X := ⟨_, rfl⟩
  have hXl : X.length = 32 := by rw [← hX]; exact sumOf_len _
  have HMK : Hid (∀ W : World, Below w.heap.size w W → Calls Tryd.prog 16 #[.slice x.a x.n x.c] W fun e w' => e = .returned (.agg (cellsOf X).toArray) ∧ Below W.heap.size W w') := Lib.hid fun W hW => by
    rw [← hX]
    exact appmark_any (h.blob.below hW) (hk.below hW) hn
  unfold recOf
  rw [hX]
  have HX := Lib.hid h
  have XL := Lib.hid hXl
  have SXH : Hid ((Tryd.prog.info? 23).map (·.size) = some (cellsOf x.hint).length) := Lib.hid (by rw [cellsOf_len, h.hint]; exact Tryd.size23)
  have SZR : Hid ((Tryd.prog.info? 49).map (·.size) = some (PRec.cells ⟨t, x.channel, x.state, x.hint, X⟩).length) := Lib.hid (by rw [show (PRec.cells ⟨t, x.channel, x.state, x.hint, X⟩).length = 67 by simp [PRec.cells, cellsOf_len, h.hint, hXl]]; exact Tryd.sizeRec)
  have ZR : Hid (noRec.cells.length = (PRec.cells ⟨t, x.channel, x.state, x.hint, X⟩).length) := Lib.hid (by rw [show (PRec.cells ⟨t, x.channel, x.state, x.hint, X⟩).length = 67 by simp [PRec.cells, cellsOf_len, h.hint, hXl]]; rfl)
  clear h hk hn hX hXl
  go_enter Tryd.func20, Tryd.ntmps20
  go_upto_region 1 with (first | (refine wpList_new rfl 49 rfl noRec.cells.toArray Tryd.infoRec ?_; intro r w1 hr hh hb; go_frame) | fail)
  have b0 : Below w.heap.size w (w.alloc (.cells x.cells.toArray 51)) := (Below.refl _ _).alloc (Nat.le_refl _) _
  have h1 := keep hb (heap_alloc_new w (.cells x.cells.toArray 51))
  have hr' : w.heap.size ≤ r := Nat.le_trans b0.size hr
  have HB1 := Lib.hid (bthen b0 hb)
  obtain ⟨g, hg⟩ : ∃ g, g = w.heap.size := ⟨_, rfl⟩
  rw [← hg] at h1 ⊢
  have H1 := Lib.hid h1
  have HR := Lib.hid hh
  have HNR : Hid (w.heap.size ≤ r) := Lib.hid hr'
  have HGN : Hid (g ≠ r) := Lib.hid (by simp at hr; omega)
  have HGL := Lib.hid (lt_of_block h1)
  clear b0 h1 hr' hg hr hh hb
  refine wp_region_held_drew (S := fun w' => But w1.heap.size r w1 w') (by kernel_rfl) (by have h9 := But.refl w1.heap.size r w1; exact ⟨h9.os, h9.tape, h9.output, h9.size, h9.block⟩) (fun hHeld => ?_)
  refine take_at (i := 0) (v := ?_) rfl rfl (by kernel_rfl) (by kernel_rfl) (by kernel_rfl) (fun _ _ _ h => h) (Or.inl ⟨by rfl, ?_⟩) (by assumption) ?_
  rotate_left
  · intro w0 hSw; (try dsimp only at hSw); first | (go_simp; done) | (go_simp; with_reducible rfl)
  simp only [List.setIfInBounds_toArray, List.set_cons_zero, List.set_cons_succ]
  refine take_at (i := 1) (v := ?_) rfl rfl (by kernel_rfl) (by kernel_rfl) (by kernel_rfl) (fun _ _ _ h => h) (Or.inl ⟨by rfl, ?_⟩) (by assumption) ?_
  rotate_left
  · intro w0 hSw; (try dsimp only at hSw); first | (go_simp; done) | (go_simp; with_reducible rfl)
  simp only [List.setIfInBounds_toArray, List.set_cons_zero, List.set_cons_succ]
  refine take_at (i := 2) rfl rfl (by kernel_rfl) (by kernel_rfl) (by kernel_rfl) (fun _ _ _ h => h) (yields_cell (by rfl) rfl rfl (b := g) (o := 0) (fun w0 hSw => job_channel (range_of (But.heap hSw H1.out HGL.out HGN.out))) Tryd.isAgg3) (by assumption) ?_
  simp only [List.setIfInBounds_toArray, List.set_cons_zero, List.set_cons_succ]
  refine take_at (i := 3) (v := ?_) rfl rfl (by kernel_rfl) (by kernel_rfl) (by kernel_rfl) (fun _ _ _ h => h) (Or.inl ⟨by rfl, ?_⟩) (by assumption) ?_
  rotate_left
  · intro w0 hSw; (try dsimp only at hSw); first | (go_simp; done) | (go_simp; with_reducible rfl)
  simp only [List.setIfInBounds_toArray, List.set_cons_zero, List.set_cons_succ]
  refine take_at (i := 4) rfl rfl (by kernel_rfl) (by kernel_rfl) (by kernel_rfl) (fun _ _ _ h => h) (yields_cell (by rfl) rfl rfl (b := g) (o := 1) (fun w0 hSw => job_state (g := g) (o := 0) (range_of (But.heap hSw H1.out HGL.out HGN.out))) Tryd.isAgg3) (by assumption) ?_
  simp only [List.setIfInBounds_toArray, List.set_cons_zero, List.set_cons_succ]
  refine take_at (i := 5) (v := ?_) rfl rfl (by kernel_rfl) (by kernel_rfl) (by kernel_rfl) (fun _ _ _ h => h) (Or.inl ⟨by rfl, ?_⟩) (by assumption) ?_
  rotate_left
  · intro w0 hSw; (try dsimp only at hSw); first | (go_simp; done) | (go_simp; with_reducible rfl)
  simp only [List.setIfInBounds_toArray, List.set_cons_zero, List.set_cons_succ]
  refine take_at (i := 6) rfl rfl (by kernel_rfl) (by kernel_rfl) (by kernel_rfl) (fun _ _ _ h => h) (yieldsIf_load_mid (by rfl) _ _ rfl g 2 rfl (cellsOf x.hint) _ (fun w0 hSw => job_hint (g := g) (o := 0) (range_of (But.heap hSw H1.out HGL.out HGN.out))) Tryd.underlying23 rfl SXH.out) (by assumption) ?_
  simp only [List.setIfInBounds_toArray, List.set_cons_zero, List.set_cons_succ]
  refine take_at (i := 7) (v := ?_) rfl rfl (by kernel_rfl) (by kernel_rfl) (by kernel_rfl) (fun _ _ _ h => h) (Or.inl ⟨by rfl, ?_⟩) (by assumption) ?_
  rotate_left
  · intro w0 hSw; (try dsimp only at hSw); first | (go_simp; done) | (go_simp; with_reducible rfl)
  simp only [List.setIfInBounds_toArray, List.set_cons_zero, List.set_cons_succ]
  refine take_at (i := 8) rfl rfl (by kernel_rfl) (by kernel_rfl) (by kernel_rfl) (fun _ _ _ h => h) (yields_cell (by rfl) rfl rfl (b := g) (o := 34) (fun w0 hSw => job_blob (g := g) (o := 0) HX.out.hint (range_of (But.heap hSw H1.out HGL.out HGN.out))) Tryd.isAgg26) (by assumption) ?_
  simp only [List.setIfInBounds_toArray, List.set_cons_zero, List.set_cons_succ]
  refine wpAnyH_ready (rs := [9]) (by kernel_rfl) (by simp) ?_
  refine AllReadyH.cons rfl (fun K hK => ?_) ?_
  · go_simp
    go_wp2_with ((go_at_call 16; (with_reducible refine (HMK.out _ (But.in HB1.out hHeld HNR.out)).mono ?_); rintro e w2 ⟨rfl, hb⟩; have HS2 := Lib.hid hb; have HR2 := Lib.hid (keep hb (show w1.drew.heap[r]? = some (.cells noRec.cells.toArray 49 (0, 0)) from HR.out)); clear hb))
    refine hK.out _ _ (by (try dsimp only); exact But.trans hHeld (But.of HS2.out)) (fun hHeld => ?_)
    clear hK K
    refine take_at (i := 10) rfl rfl (by kernel_rfl) (by kernel_rfl) (by kernel_rfl) (fun _ _ _ h => h) (yields_build10 (by rfl) rfl (vs := [(0, .int .i64 t), (1, .int .i64 x.channel), (2, .int .i64 x.state), (3, .agg (cellsOf x.hint).toArray), (4, .agg (cellsOf X).toArray)]) rfl (build_rec16 t x.channel x.state HX.out.hint XL.out)) (by assumption) ?_
    simp only [List.setIfInBounds_toArray, List.set_cons_zero, List.set_cons_succ]
    refine wpAnyH_ready (rs := [11]) (by kernel_rfl) (by simp) ?_
    refine AllReadyH.cons rfl (fun K hK => ?_) ?_
    · refine step_row10 (by rfl) 49 _ _ rfl r (PRec.cells ⟨t, x.channel, x.state, x.hint, X⟩) rfl rfl 49 noRec.cells HR2.out SZR.out ZR.out (PRec.one _) ?_
      intro w9 hh9 hb9
      have HH9 := Lib.hid hh9
      have HS9 := Lib.hid hb9
      clear hh9 hb9
      refine hK.out _ _ (by (try dsimp only); exact But.trans hHeld (But.mono HS9.out (But.size hHeld))) (fun hHeld => ?_)
      clear hK K
      refine wpAnyH_done (by kernel_rfl) ?_ _
      have HEND : Hid (Below w.heap.size w w9) := Lib.hid (But.in HB1.out hHeld HNR.out)
      clear hHeld
      go_wp2_with fail
      exact bodyPost_ret (results_cell_row rfl _ _ r 49 (PRec.cells ⟨t, x.channel, x.state, x.hint, X⟩).toArray (0, 0) _ rfl HH9.out Tryd.underlying49 rfl (by rw [List.size_toArray]; exact SZR.out)) rfl ⟨rfl, HEND.out⟩
    exact AllReadyH.nil
  exact AllReadyH.nil
set_option linter.unusedSimpArgs false in
set_option maxRecDepth 100000 in
set_option maxHeartbeats 6400000 in
theorem fits_any {w : World} {x : PJob} {y : PRec} (h : JobIn w x) (hy : RecIn y) (hk : KsAt w) (hn : x.n ≤ 1000000) :
    Calls Tryd.prog 21 #[.agg x.cells.toArray, .agg y.cells.toArray] w fun e w' => e = .returned (.bool (recEq y (recOf x y.tower))) ∧ Below w.heap.size w w' := by
  obtain ⟨R, hR⟩ : ∃ R, recOf x y.tower = R := ⟨_, rfl⟩
  have hRI : RecIn R := by rw [← hR]; exact recOf_in h hy.tower
  have HRC : Hid (∀ W : World, Below w.heap.size w W → Calls Tryd.prog 20 #[.agg x.cells.toArray, .int .i64 y.tower] W fun e w' => e = .returned (.agg R.cells.toArray) ∧ Below W.heap.size W w') := Lib.hid fun W hW => by
    rw [← hR]
    exact receipt_any (h.below hW) (hk.below hW) hn
  rw [hR]
  have HYI := Lib.hid hy
  have HRI := Lib.hid hRI
  have SZY := Lib.hid (rec_size hy)
  have SZX := Lib.hid (job_size h.hint)
  clear h hy hk hn hR hRI
  go_enter Tryd.func21, Tryd.ntmps21
  go_upto_region 1 with (fail)
  have b1 : Below w.heap.size w ((w.alloc (.cells x.cells.toArray 51)).alloc (.cells y.cells.toArray 49)) := ((Below.refl _ _).alloc (Nat.le_refl _) _).alloc (by simp) _
  have h1 : ((w.alloc (.cells x.cells.toArray 51)).alloc (.cells y.cells.toArray 49)).heap[w.heap.size]? = some (.cells x.cells.toArray 51 (0, 0)) := by
    rw [heap_alloc_old _ _ (by simp), heap_alloc_new]
  have h2 : ((w.alloc (.cells x.cells.toArray 51)).alloc (.cells y.cells.toArray 49)).heap[w.heap.size + 1]? = some (.cells y.cells.toArray 49 (0, 0)) := heap_alloc_at _ _ _ (by simp)
  revert b1 h1 h2
  generalize ((w.alloc (.cells x.cells.toArray 51)).alloc (.cells y.cells.toArray 49)) = w1
  obtain ⟨g, hg⟩ : ∃ g, g = w.heap.size := ⟨_, rfl⟩
  obtain ⟨g1, hg1⟩ : ∃ g1, g1 = g + 1 := ⟨_, rfl⟩
  rw [← hg, ← hg1]
  intro b1 h1 h2
  rw [hg] at b1
  have HB1 := Lib.hid b1
  have H1 := Lib.hid h1
  have H2 := Lib.hid h2
  clear b1 h1 h2 hg hg1
  refine wp_region_held_drew (S := fun w' => Below w1.heap.size w1 w') (by kernel_rfl) (below_drew (Below.refl _ _)) (fun hHeld => ?_)
  refine take_at (i := 0) rfl rfl (by kernel_rfl) (by kernel_rfl) (by kernel_rfl) (fun _ _ _ h => h) (yieldsIf_load_mid (by rfl) _ _ rfl g1 0 rfl y.cells _ (fun w0 hSw => range_of (keep hSw H2.out)) Tryd.underlying49 rfl SZY.out) (by assumption) ?_
  simp only [List.setIfInBounds_toArray, List.set_cons_zero, List.set_cons_succ]
  refine take_at (i := 1) rfl rfl (by kernel_rfl) (by kernel_rfl) (by kernel_rfl) (fun _ _ _ h => h) (yieldsIf_load_mid (by rfl) _ _ rfl g 0 rfl x.cells _ (fun w0 hSw => range_of (keep hSw H1.out)) Tryd.underlying51 rfl SZX.out) (by assumption) ?_
  simp only [List.setIfInBounds_toArray, List.set_cons_zero, List.set_cons_succ]
  refine take_at (i := 2) (v := ?_) rfl rfl (by kernel_rfl) (by kernel_rfl) (by kernel_rfl) (fun _ _ _ h => h) (Or.inl ⟨by rfl, ?_⟩) (by assumption) ?_
  rotate_left
  · intro w0 hSw; (try dsimp only at hSw); first | (go_simp; done) | (go_simp; with_reducible rfl)
  simp only [List.setIfInBounds_toArray, List.set_cons_zero, List.set_cons_succ]
  refine take_at (i := 3) rfl rfl (by kernel_rfl) (by kernel_rfl) (by kernel_rfl) (fun _ _ _ h => h) (yields_cell (by rfl) rfl rfl (b := g1) (o := 0) (fun w0 hSw => rec_tower (range_nil (range_of (keep hSw H2.out)))) Tryd.isAgg3) (by assumption) ?_
  simp only [List.setIfInBounds_toArray, List.set_cons_zero, List.set_cons_succ]
  refine wpAnyH_ready (rs := [4]) (by kernel_rfl) (by simp) ?_
  refine AllReadyH.cons rfl (fun K hK => ?_) ?_
  · go_simp
    go_wp2_with ((go_at_call 20; (with_reducible refine (HRC.out _ (bthen HB1.out hHeld)).mono ?_); rintro e w2 ⟨rfl, hb⟩; have HS2 := Lib.hid hb; clear hb))
    refine hK.out _ _ (by (try dsimp only); exact hHeld.trans (HS2.out.mono hHeld.size)) (fun hHeld => ?_)
    clear hK K
    refine take_at (i := 5) rfl rfl (by kernel_rfl) (by kernel_rfl) (by kernel_rfl) (fun _ _ _ h => h) (yields_eqrec (by rfl) rfl rfl rfl HYI.out HRI.out) (by assumption) ?_
    simp only [List.setIfInBounds_toArray, List.set_cons_zero, List.set_cons_succ]
    refine take_at (i := 6) (v := ?_) rfl rfl (by kernel_rfl) (by kernel_rfl) (by kernel_rfl) (fun _ _ _ h => h) (Or.inl ⟨by rfl, ?_⟩) (by assumption) ?_
    rotate_left
    · intro w0 hSw; (try dsimp only at hSw); first | (go_simp; done) | (go_simp; with_reducible rfl)
    simp only [List.setIfInBounds_toArray, List.set_cons_zero, List.set_cons_succ]
    refine wpAnyH_done (by kernel_rfl) ?_ _
    have HEND : Hid (Below w.heap.size w w2) := Lib.hid (bthen HB1.out hHeld)
    clear hHeld
    go_wp2_with fail
    go_ret
    exact ⟨rfl, HEND.out⟩
  exact AllReadyH.nil
end Go.Proofs.YtnepcjnnlfhplaaDoor
