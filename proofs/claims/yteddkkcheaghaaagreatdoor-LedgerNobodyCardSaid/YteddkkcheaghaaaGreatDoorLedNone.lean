/- Ledgers that are not given: nil, and the zero ledger. -/
import Derived.Test.YteddkkcheaghaaaGreatDoorLedMem
import Derived.Test.YteddkkcheaghaaaGreatDoorLeda
namespace Go.Proofs.YteddkkcheaghaaaGreatDoor
open Go.RowKit Go.Maps

/-- A ledger that New did not give. -/
def NoLed (w : World) (pv : Value) : Prop := pv = .pointer none ∨ ∃ g, pv = .pointer (some ⟨g, 0, none⟩) ∧ w.heap[g]? = some (.cells #[.pointer none, .pointer none, .map none, .map none, .slice none 0 0, .int .i64 0] 68 (0, 0))
theorem NoLed.below {w w' : World} {pv : Value} (h : NoLed w pv) (hb : Below w.heap.size w w') : NoLed w' pv := by
  rcases h with h | ⟨g, h1, h2⟩
  · exact .inl h
  · exact .inr ⟨g, h1, keep hb h2⟩
set_option linter.unusedSimpArgs false in
set_option maxRecDepth 100000 in
set_option maxHeartbeats 6400000 in
theorem ledGiven_no {w : World} {pv : Value} (h : NoLed w pv) : ∀ W : World, Below w.heap.size w W → Calls Tryz.prog 45 #[pv] W fun e w' => e = .returned (.bool false) ∧ W = w' := fun W hW => by
  rcases h with rfl | ⟨g, rfl, h⟩
  · go_enter Tryz.func45, Tryz.ntmps45
    go_wp2
    go_ret
    exact ⟨rfl, rfl⟩
  · have h2 := keep hW h
    have c2 := cell_of_row W g 2 _ _ _ h2
    have hq := run_neq_map_nil10 W none Tryz.underlying65
    clear h2 h
    go_enter Tryz.func45, Tryz.ntmps45
    go_wp2
    go_ret
    exact ⟨rfl, rfl⟩
set_option linter.unusedSimpArgs false in
set_option maxRecDepth 100000 in
set_option maxHeartbeats 6400000 in
theorem order_no {w : World} {pv : Value} (h : NoLed w pv) : Calls Tryz.prog 20 #[pv] w fun e w' => e = .returned (.slice none 0 0) ∧ w = w' := by
  have HG := Lib.hid (ledGiven_no h)
  clear h
  go_enter Tryz.func20, Tryz.ntmps20
  go_wp2_with (first | (go_at_call 45; (with_reducible refine (HG.out _ (Below.refl _ _)).mono ?_); rintro e w3 ⟨rfl, rfl⟩) | fail)
  go_ret
  exact ⟨rfl, rfl⟩
set_option linter.unusedSimpArgs false in
set_option maxRecDepth 100000 in
set_option maxHeartbeats 6400000 in
theorem fees_no {w : World} {pv : Value} (h : NoLed w pv) : Calls Tryz.prog 34 #[pv] w fun e w' => e = .returned (.int .i64 0) ∧ w = w' := by
  have HG := Lib.hid (ledGiven_no h)
  clear h
  go_enter Tryz.func34, Tryz.ntmps34
  go_wp2_with (first | (go_at_call 45; (with_reducible refine (HG.out _ (Below.refl _ _)).mono ?_); rintro e w3 ⟨rfl, rfl⟩) | fail)
  go_ret
  exact ⟨rfl, rfl⟩
set_option linter.unusedSimpArgs false in
set_option maxRecDepth 100000 in
set_option maxHeartbeats 6400000 in
theorem worth_no {w : World} {pv : Value} (h : NoLed w pv) : Calls Tryz.prog 18 #[pv] w fun e w' => e = .returned (.int .i64 0) ∧ w = w' := by
  have HG := Lib.hid (ledGiven_no h)
  clear h
  go_enter Tryz.func18, Tryz.ntmps18
  go_wp2_with (first | (go_at_call 45; (with_reducible refine (HG.out _ (Below.refl _ _)).mono ?_); rintro e w3 ⟨rfl, rfl⟩) | fail)
  go_ret
  exact ⟨rfl, rfl⟩
set_option linter.unusedSimpArgs false in
set_option maxRecDepth 100000 in
set_option maxHeartbeats 6400000 in
theorem ledClone_no {w : World} {pv : Value} (h : NoLed w pv) : Calls Tryz.prog 19 #[pv] w fun e w' => e = .returned (pv) ∧ w = w' := by
  have HG := Lib.hid (ledGiven_no h)
  clear h
  go_enter Tryz.func19, Tryz.ntmps19
  go_wp2_with (first | (go_at_call 45; (with_reducible refine (HG.out _ (Below.refl _ _)).mono ?_); rintro e w3 ⟨rfl, rfl⟩) | fail)
  go_ret
  exact ⟨rfl, rfl⟩
set_option linter.unusedSimpArgs false in
set_option maxRecDepth 100000 in
set_option maxHeartbeats 6400000 in
theorem apply_no {w : World} {pv : Value} {x : PTx} {H : Int} (h : NoLed w pv) : Calls Tryz.prog 12 #[pv, .agg x.cells.toArray, .int .i64 H] w fun e w' => e = .returned (.int .i64 1) ∧ Below w.heap.size w w' := by
  have b1 : Below w.heap.size w (w.alloc (.cells x.cells.toArray 50)) := (Below.refl _ _).alloc (Nat.le_refl _) _
  have HG := Lib.hid (ledGiven_no h)
  have HB := Lib.hid b1
  clear b1 h
  go_enter Tryz.func12, Tryz.ntmps12
  go_upto_region 1 with (fail)
  revert HB
  generalize (w.alloc (.cells x.cells.toArray 50)) = w1
  intro HB
  go_wp2_with (first | (go_at_call 45; (with_reducible refine (HG.out _ HB.out).mono ?_); rintro e w3 ⟨rfl, rfl⟩) | fail)
  go_ret
  exact ⟨rfl, HB.out⟩
theorem build_done0 (w : World) : (Instr.build 95 ([] : List (Nat × Value)).toArray).run Tryz.prog w = .ok (.agg (doneCells noTx 0).toArray) w := by kernel_rfl
theorem build_spend0 (w : World) : (Instr.build 99 ([] : List (Nat × Value)).toArray).run Tryz.prog w = .ok (.agg (spendCells zero32 0 0).toArray) w := by kernel_rfl
def factsCells0 : List Value := noTx.cells ++ [.int .i64 0, .bool false, .int .i64 0]
theorem build_facts0 (w : World) : (Instr.build 55 ([] : List (Nat × Value)).toArray).run Tryz.prog w = .ok (.agg factsCells0.toArray) w := by kernel_rfl
theorem Tryz.zeroFacts18 : (Tryz.prog.info? 55).map (fun i => (i.zero, i.size, i.bytes)) = some (some (.agg factsCells0.toArray), 43, 184) := by kernel_rfl
theorem Tryz.sizeFacts18 : (Tryz.prog.info? 55).map (·.size) = some factsCells0.length := by kernel_rfl
theorem Tryz.sizeDone18 : (Tryz.prog.info? 95).map (·.size) = some (doneCells noTx 0).length := by kernel_rfl
theorem Tryz.sizeSpend18 : (Tryz.prog.info? 99).map (·.size) = some (spendCells zero32 0 0).length := by kernel_rfl
theorem factsOne18 : ∀ v ∈ factsCells0, v.oneCell' = true := by
  intro v hv
  rcases List.mem_append.1 hv with hv | hv
  · exact PTx.one noTx v hv
  · simp at hv
    rcases hv with rfl | rfl | rfl <;> rfl
theorem spendOne18 : ∀ v ∈ spendCells zero32 0 0, v.oneCell' = true := by
  intro v hv
  rcases List.mem_append.1 hv with hv | hv
  · exact cellsOf_one zero32 v hv
  · simp at hv
    subst hv
    rfl
set_option linter.unusedSimpArgs false in
set_option maxRecDepth 100000 in
set_option maxHeartbeats 6400000 in
theorem done_no {w : World} {pv : Value} {s : List UInt8} (h : NoLed w pv) : Calls Tryz.prog 32 #[pv, .agg (cellsOf s).toArray] w fun e w' => e = .returned (.tuple #[.agg (doneCells noTx 0).toArray, .bool false]) ∧ Below w.heap.size w w' := by
  have b1 : Below w.heap.size w (w.alloc (.cells (cellsOf s).toArray 28)) := (Below.refl _ _).alloc (Nat.le_refl _) _
  have HG := Lib.hid (ledGiven_no h)
  have HB := Lib.hid b1
  clear b1 h
  go_enter Tryz.func32, Tryz.ntmps32
  go_upto_region 1 with (first | (refine wpList_new rfl 95 rfl (doneCells noTx 0).toArray Tryz.zeroDone18 ?_; intro r w2 hr hh hb; go_frame; have HR := Lib.hid hh; have HNR : Hid (w.heap.size ≤ r) := Lib.hid (Nat.le_trans HB.out.size hr); have HB2 := Lib.hid (bthen HB.out hb); clear hr hh hb) | fail)
  go_wp2_with (first | (go_at_call 45; (with_reducible refine (HG.out _ HB2.out).mono ?_); rintro e w3 ⟨rfl, rfl⟩) | (refine wpList_build10 rfl rfl (vs := []) rfl build_done0 ?_; go_frame) | (refine wpList_row10 rfl 95 _ _ rfl r (doneCells noTx 0) rfl rfl 95 (doneCells noTx 0) HR.out Tryz.sizeDone18 rfl (doneOne18 noTx 0) ?_; intro w9 hh9 hb9) | fail)
  refine bodyPost_ret (results_cell_then rfl _ _ r 95 (doneCells noTx 0).toArray (0, 0) _ (.bool false) rfl rfl hh9 Tryz.underlying95 rfl (by rw [List.size_toArray]; exact Tryz.sizeDone18)) rfl ?_
  exact ⟨rfl, But.in HB2.out hb9 HNR.out⟩
set_option linter.unusedSimpArgs false in
set_option maxRecDepth 100000 in
set_option maxHeartbeats 6400000 in
theorem spent_no {w : World} {pv : Value} {s : List UInt8} {z : Int} (h : NoLed w pv) : Calls Tryz.prog 33 #[pv, .agg (refCells s z).toArray] w fun e w' => e = .returned (.tuple #[.agg (spendCells zero32 0 0).toArray, .bool false]) ∧ Below w.heap.size w w' := by
  have b1 : Below w.heap.size w (w.alloc (.cells (refCells s z).toArray 71)) := (Below.refl _ _).alloc (Nat.le_refl _) _
  have HG := Lib.hid (ledGiven_no h)
  have HB := Lib.hid b1
  clear b1 h
  go_enter Tryz.func33, Tryz.ntmps33
  go_upto_region 1 with (first | (refine wpList_new rfl 99 rfl (spendCells zero32 0 0).toArray Tryz.zeroSpend18 ?_; intro r w2 hr hh hb; go_frame; have HR := Lib.hid hh; have HNR : Hid (w.heap.size ≤ r) := Lib.hid (Nat.le_trans HB.out.size hr); have HB2 := Lib.hid (bthen HB.out hb); clear hr hh hb) | fail)
  go_wp2_with (first | (go_at_call 45; (with_reducible refine (HG.out _ HB2.out).mono ?_); rintro e w3 ⟨rfl, rfl⟩) | (refine wpList_build10 rfl rfl (vs := []) rfl build_spend0 ?_; go_frame) | (refine wpList_row10 rfl 99 _ _ rfl r (spendCells zero32 0 0) rfl rfl 99 (spendCells zero32 0 0) HR.out Tryz.sizeSpend18 rfl spendOne18 ?_; intro w9 hh9 hb9) | fail)
  refine bodyPost_ret (results_cell_then rfl _ _ r 99 (spendCells zero32 0 0).toArray (0, 0) _ (.bool false) rfl rfl hh9 Tryz.underlying99 rfl (by rw [List.size_toArray]; exact Tryz.sizeSpend18)) rfl ?_
  exact ⟨rfl, But.in HB2.out hb9 HNR.out⟩
set_option linter.unusedSimpArgs false in
set_option maxRecDepth 100000 in
set_option maxHeartbeats 6400000 in
theorem facts_no {w : World} {pv : Value} {s : List UInt8} (hs : s.length = 32) (h : NoLed w pv) : Calls Tryz.prog 15 #[pv, .agg (cellsOf s).toArray] w fun e w' => e = .returned (.tuple #[.agg factsCells0.toArray, .bool false]) ∧ Below w.heap.size w w' := by
  have b1 : Below w.heap.size w (w.alloc (.cells (cellsOf s).toArray 28)) := (Below.refl _ _).alloc (Nat.le_refl _) _
  have HB := Lib.hid b1
  have H1 := Lib.hid (heap_alloc_new w (.cells (cellsOf s).toArray 28))
  have HN := Lib.hid h
  have SSL : Hid ((Tryz.prog.info? 28).map (·.size) = some (cellsOf s).length) := Lib.hid (by rw [cellsOf_len, hs]; exact Tryz.size28)
  clear b1 h hs
  go_enter Tryz.func15, Tryz.ntmps15
  go_upto_region 1 with (first | (refine wpList_new rfl 55 rfl factsCells0.toArray Tryz.zeroFacts18 ?_; intro r w2 hr hh hb; go_frame; have HR := Lib.hid hh; have HNR : Hid (w.heap.size ≤ r) := Lib.hid (Nat.le_trans HB.out.size hr); have HB2 := Lib.hid (bthen HB.out hb); have R1 := Lib.hid (range_of (keep hb H1.out)); clear hr hh hb) | fail)
  go_wp2_with (first
    | (refine wpList_load_mid rfl 28 _ rfl w.heap.size 0 rfl (cellsOf s) _ R1.out Tryz.underlying28 rfl SSL.out ?_)
    | (go_at_call 32; (with_reducible refine (done_no (s := s) (HN.out.below HB2.out)).mono ?_); rintro e w3 ⟨rfl, hb⟩; have HB3 := Lib.hid (bthen HB2.out hb); have HR3 := Lib.hid (keep hb HR.out); clear hb)
    | (refine wpList_new rfl 95 rfl (doneCells noTx 0).toArray Tryz.zeroDone18 ?_; intro q w4 hq hh hb; go_frame; have HQ := Lib.hid hh; have HNQ : Hid (w3.heap.size ≤ q) := Lib.hid hq; have HB4 := Lib.hid hb; clear hq hh hb)
    | (refine wpList_row10 rfl 95 _ _ rfl q (doneCells noTx 0) rfl rfl 95 (doneCells noTx 0) HQ.out Tryz.sizeDone18 rfl (doneOne18 noTx 0) ?_; intro w5 hh5 hb5; have HX := Lib.hid (But.in HB4.out hb5 HNQ.out); have HB5 := Lib.hid (bthen HB3.out HX.out); have HR5 := Lib.hid (keep HX.out HR3.out); clear hh5 hb5)
    | (refine wpList_build10 rfl rfl (vs := []) rfl build_facts0 ?_; go_frame)
    | (refine wpList_row10 rfl 55 _ _ rfl r factsCells0 rfl rfl 55 factsCells0 HR5.out Tryz.sizeFacts18 rfl factsOne18 ?_; intro w9 hh9 hb9) | fail)
  refine bodyPost_ret (results_cell_then rfl _ _ r 55 factsCells0.toArray (0, 0) _ (.bool false) rfl rfl hh9 Tryz.underlying55 rfl (by rw [List.size_toArray]; exact Tryz.sizeFacts18)) rfl ?_
  exact ⟨rfl, But.in HB5.out hb9 HNR.out⟩
set_option linter.unusedSimpArgs false in
set_option maxRecDepth 100000 in
set_option maxHeartbeats 6400000 in
theorem key18 (w : World) : Calls Tryz.prog 35 #[.int .i64 0] w fun e w' => e = .returned (.int .i64 100) ∧ w = w' := by
  have iw : IntKind.i64.wrap (100 + 0) = 100 := by decide
  go_enter Tryz.func35, Tryz.ntmps35
  go_wp2
  go_ret
  exact ⟨rfl, rfl⟩
end Go.Proofs.YteddkkcheaghaaaGreatDoor
