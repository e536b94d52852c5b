/- What the code's Build and Close come to. -/
import Derived.Test.YtkihmhchdenamaaDoorComOuts
import Derived.Test.YtkihmhchdenamaaDoorTxOk
import Derived.Test.YtkihmhchdenamaaDoorComState
namespace Go.Proofs.YtkihmhchdenamaaDoor
open Go.RowKit

theorem Tryd.zeroPair64 : (Tryd.prog.info? 58).map (fun i => (i.zero, i.size, i.bytes)) = some (some (.agg #[.int .i64 0, .int .i64 0]), 2, 16) := by kernel_rfl
theorem build_pair64 (a b : Int) (w : World) : (Instr.build 58 ([(0, (.int .i64 a : Value)), (1, .int .i64 b)] : List (Nat × Value)).toArray).run Tryd.prog w = .ok (.agg #[.int .i64 a, .int .i64 b]) w := by kernel_rfl
theorem build_noTx14 (w : World) : (Instr.build 38 ([] : List (Nat × Value)).toArray).run Tryd.prog w = .ok (.agg noTx.cells.toArray) w := by kernel_rfl
theorem commit_size (c : PChan) (a0 a1 a2 a3 a4 a5 a6 : Option Addr) (me other mine hers : Int) (h : List UInt8) : (Tryd.prog.info? 38).map (·.size) = some (commitP c a0 a1 a2 a3 a4 a5 a6 me other mine hers h).cells.length := tx_size zero32_len
theorem build_commit14 (c : PChan) (p0 p1 p2 p3 p4 p5 p6 : Nat) (me other own rest : Int) (h : List UInt8) (w : World) : (Instr.build 38 ([(0, (.slice (some ⟨p0, 0, none⟩) 1 1 : Value)), (1, .slice (some ⟨p6, 0, none⟩) 2 2)] : List (Nat × Value)).toArray).run Tryd.prog w = .ok (.agg (PTx.cells (commitP c (some ⟨p0, 0, none⟩) (some ⟨p3, 0, none⟩) (some ⟨p1, 0, none⟩) (some ⟨p2, 0, none⟩) (some ⟨p5, 0, none⟩) (some ⟨p4, 0, none⟩) (some ⟨p6, 0, none⟩) me other own rest h)).toArray) w := build_tx14 _ _ _ _ _ _ _ _ w
theorem commit_in14 {B : Nat} {w : World} {c : PChan} {me other own rest : Int} {h : List UInt8} {p0 p1 p2 p3 p4 p5 p6 : Nat} (k0 : Laid14 B w p0 (insO [fundP c])) (k : OutsAt B w c me other own rest h p1 p2 p3 p4 p5 p6) (hc : ChanIn c) (f1 : Fits me) (f2 : Fits other) (f3 : Fits own) (f4 : Fits rest) (hl : h.length = 32) :
    TxIn w (commitP c (some ⟨p0, 0, none⟩) (some ⟨p3, 0, none⟩) (some ⟨p1, 0, none⟩) (some ⟨p2, 0, none⟩) (some ⟨p5, 0, none⟩) (some ⟨p4, 0, none⟩) (some ⟨p6, 0, none⟩) me other own rest h) := ⟨fund_slice k0 hc, k.slice hc f1 f2 f3 f4 hl, op_none14 w, SliceOf.nil _ _⟩
def peaceP (c : PChan) (a0 a1 a2 a3 a4 a5 : Option Addr) (mine hers : Int) : PTx := ⟨a0, 1, 1, [fundP c], a5, 2, 2, [herP a1 a2 c.client mine, herP a3 a4 c.peer hers], noOp, none, 0, 0, []⟩
theorem build_peace14 (c : PChan) (p0 p1 p2 p3 p4 p5 : Nat) (mine hers : Int) (w : World) : (Instr.build 38 ([(0, (.slice (some ⟨p0, 0, none⟩) 1 1 : Value)), (1, .slice (some ⟨p5, 0, none⟩) 2 2)] : List (Nat × Value)).toArray).run Tryd.prog w = .ok (.agg (PTx.cells (peaceP c (some ⟨p0, 0, none⟩) (some ⟨p2, 0, none⟩) (some ⟨p1, 0, none⟩) (some ⟨p4, 0, none⟩) (some ⟨p3, 0, none⟩) (some ⟨p5, 0, none⟩) mine hers)).toArray) w := build_tx14 _ _ _ _ _ _ _ _ w
theorem peace_in14 {B : Nat} {w : World} {c : PChan} {mine hers : Int} {p0 p1 p2 p3 p4 p5 : Nat} (k0 : Laid14 B w p0 (insO [fundP c])) (k : PeaceAt B w c mine hers p1 p2 p3 p4 p5) (hc : ChanIn c) (f3 : Fits mine) (f4 : Fits hers) :
    TxIn w (peaceP c (some ⟨p0, 0, none⟩) (some ⟨p2, 0, none⟩) (some ⟨p1, 0, none⟩) (some ⟨p4, 0, none⟩) (some ⟨p3, 0, none⟩) (some ⟨p5, 0, none⟩) mine hers) := ⟨fund_slice k0 hc, k.slice hc f3 f4, op_none14 w, SliceOf.nil _ _⟩
set_option linter.unusedSimpArgs false in
set_option maxRecDepth 100000 in
set_option maxHeartbeats 6400000 in
theorem build14_bad {w : World} {c : PChan} {s : PState} {z : Int} (hc : ChanIn c) (hs : StateIn s) (hu : stateOk c s = false) :
    Calls Tryd.prog 4 #[.agg c.cells.toArray, .agg s.cells.toArray, .int .i64 z] w fun e w' => e = .returned (.tuple #[.agg noTx.cells.toArray, .int .i64 1]) ∧ Below w.heap.size w w' := by
  have HC := Lib.hid hc
  have HS := Lib.hid hs
  have HRT : Hid (∀ W : World, Calls Tryd.prog 8 #[.agg c.cells.toArray, .agg s.cells.toArray] W fun e w' => e = .returned (.bool false) ∧ Below W.heap.size W w') := Lib.hid fun W => by rw [← hu]; exact rightState_any W hc.ftx hs
  have SZC := Lib.hid (chan_sizeA hc.ftx)
  have SZS := Lib.hid (state_sizeA hs)
  have SZ0 : Hid ((Tryd.prog.info? 38).map (·.size) = some noTx.cells.length) := Lib.hid (tx_size zero32_len)
  clear hc hs hu
  go_enter Tryd.func4, Tryd.ntmps4
  go_upto_region 1 with (first | (refine wpList_new rfl 38 rfl noTx.cells.toArray Tryd.zeroTx14 ?_; intro r w1 hr hh hb; go_frame) | fail)
  have b0 : Below w.heap.size w ((w.alloc (.cells c.cells.toArray 27)).alloc (.cells s.cells.toArray 30)) := ((Below.refl _ _).alloc (Nat.le_refl _) _).alloc (by simp) _
  have k1 : ((w.alloc (.cells c.cells.toArray 27)).alloc (.cells s.cells.toArray 30)).heap[w.heap.size]? = some (.cells c.cells.toArray 27 (0, 0)) := by
    rw [heap_alloc_old _ _ (by simp), heap_alloc_new]
  have k2 : ((w.alloc (.cells c.cells.toArray 27)).alloc (.cells s.cells.toArray 30)).heap[w.heap.size + 1]? = some (.cells s.cells.toArray 30 (0, 0)) := heap_alloc_at _ _ _ (by simp)
  have b1 := bthen b0 hb
  have h1 := keep hb k1
  have h2 := keep hb k2
  have hr' : w.heap.size ≤ r := Nat.le_trans b0.size hr
  obtain ⟨g, hg⟩ : ∃ g, g = w.heap.size := ⟨_, rfl⟩
  rw [← hg] at h1 h2 ⊢
  have HB1 := Lib.hid b1
  have H1 := Lib.hid h1
  have H2 := Lib.hid h2
  have HR := Lib.hid hh
  have HN : Hid (w.heap.size ≤ r) := Lib.hid hr'
  clear b0 k1 k2 b1 h1 h2 hr' hg hr hh hb
  go_wp2_with (first | (refine wpList_load_row rfl 27 _ rfl g rfl 27 c.cells.toArray (0, 0) _ H1.out Tryd.underlying27 rfl SZC.out ?_) | (refine wpList_load_row rfl 30 _ rfl (g + 1) rfl 30 s.cells.toArray (0, 0) _ H2.out Tryd.underlying30 rfl SZS.out ?_) | (go_at_call 8; (with_reducible refine (HRT.out _).mono ?_); rintro e w2 ⟨rfl, hb⟩; have HB2 := Lib.hid (bthen HB1.out hb); have H12 := Lib.hid (keep hb H1.out); have H22 := Lib.hid (keep hb H2.out); have HR2 := Lib.hid (keep hb HR.out); clear hb) | (refine wpList_build10 rfl rfl (vs := []) rfl build_noTx14 ?_; go_frame) | (refine wpList_row10 rfl 38 _ _ rfl r noTx.cells rfl rfl 38 noTx.cells HR2.out SZ0.out rfl (PTx.one _) ?_; intro w9 hh9 hb9) | fail)
  refine bodyPost_ret (results_cell_then rfl _ _ r 38 noTx.cells.toArray (0, 0) _ (.int .i64 1) rfl rfl hh9 Tryd.underlying38 rfl (by rw [List.size_toArray]; exact SZ0.out)) rfl ?_
  exact ⟨rfl, But.in HB2.out hb9 HN.out⟩
set_option linter.unusedSimpArgs false in
set_option maxRecDepth 100000 in
set_option maxHeartbeats 6400000 in
theorem build14_none {w : World} {c : PChan} {s : PState} {z : Int} (hc : ChanIn c) (hs : StateIn s) (hu : stateOk c s = true) (z0 : z ≠ 0) (z1 : z ≠ 1) :
    Calls Tryd.prog 4 #[.agg c.cells.toArray, .agg s.cells.toArray, .int .i64 z] w fun e w' => e = .returned (.tuple #[.agg noTx.cells.toArray, .int .i64 1]) ∧ Below w.heap.size w w' := by
  have HC := Lib.hid hc
  have HS := Lib.hid hs
  have HRT : Hid (∀ W : World, Calls Tryd.prog 8 #[.agg c.cells.toArray, .agg s.cells.toArray] W fun e w' => e = .returned (.bool true) ∧ Below W.heap.size W w') := Lib.hid fun W => by rw [← hu]; exact rightState_any W hc.ftx hs
  have SZC := Lib.hid (chan_sizeA hc.ftx)
  have SZS := Lib.hid (state_sizeA hs)
  have SZ0 : Hid ((Tryd.prog.info? 38).map (·.size) = some noTx.cells.length) := Lib.hid (tx_size zero32_len)
  clear hc hs hu
  go_enter Tryd.func4, Tryd.ntmps4
  go_upto_region 1 with (first | (refine wpList_new rfl 38 rfl noTx.cells.toArray Tryd.zeroTx14 ?_; intro r w1 hr hh hb; go_frame) | fail)
  have b0 : Below w.heap.size w ((w.alloc (.cells c.cells.toArray 27)).alloc (.cells s.cells.toArray 30)) := ((Below.refl _ _).alloc (Nat.le_refl _) _).alloc (by simp) _
  have k1 : ((w.alloc (.cells c.cells.toArray 27)).alloc (.cells s.cells.toArray 30)).heap[w.heap.size]? = some (.cells c.cells.toArray 27 (0, 0)) := by
    rw [heap_alloc_old _ _ (by simp), heap_alloc_new]
  have k2 : ((w.alloc (.cells c.cells.toArray 27)).alloc (.cells s.cells.toArray 30)).heap[w.heap.size + 1]? = some (.cells s.cells.toArray 30 (0, 0)) := heap_alloc_at _ _ _ (by simp)
  have b1 := bthen b0 hb
  have h1 := keep hb k1
  have h2 := keep hb k2
  have hr' : w.heap.size ≤ r := Nat.le_trans b0.size hr
  obtain ⟨g, hg⟩ : ∃ g, g = w.heap.size := ⟨_, rfl⟩
  rw [← hg] at h1 h2 ⊢
  have HB1 := Lib.hid b1
  have H1 := Lib.hid h1
  have H2 := Lib.hid h2
  have HR := Lib.hid hh
  have HN : Hid (w.heap.size ≤ r) := Lib.hid hr'
  clear b0 k1 k2 b1 h1 h2 hr' hg hr hh hb
  have e0 : (z != 0) = true := by simp [z0]
  have e1 : (z != 1) = true := by simp [z1]
  go_wp2_with (first | (refine wpList_load_row rfl 27 _ rfl g rfl 27 c.cells.toArray (0, 0) _ H1.out Tryd.underlying27 rfl SZC.out ?_) | (refine wpList_load_row rfl 30 _ rfl (g + 1) rfl 30 s.cells.toArray (0, 0) _ H2.out Tryd.underlying30 rfl SZS.out ?_) | (go_at_call 8; (with_reducible refine (HRT.out _).mono ?_); rintro e w2 ⟨rfl, hb⟩; have HB2 := Lib.hid (bthen HB1.out hb); have H12 := Lib.hid (keep hb H1.out); have H22 := Lib.hid (keep hb H2.out); have HR2 := Lib.hid (keep hb HR.out); clear hb) | (refine wpList_build10 rfl rfl (vs := []) rfl build_noTx14 ?_; go_frame) | (refine wpList_row10 rfl 38 _ _ rfl r noTx.cells rfl rfl 38 noTx.cells HR2.out SZ0.out rfl (PTx.one _) ?_; intro w9 hh9 hb9) | fail)
  refine bodyPost_ret (results_cell_then rfl _ _ r 38 noTx.cells.toArray (0, 0) _ (.int .i64 1) rfl rfl hh9 Tryd.underlying38 rfl (by rw [List.size_toArray]; exact SZ0.out)) rfl ?_
  exact ⟨rfl, But.in HB2.out hb9 HN.out⟩
set_option linter.unusedSimpArgs false in
set_option maxRecDepth 100000 in
set_option maxHeartbeats 6400000 in
theorem build14_0 {w : World} {c : PChan} {s : PState} (hc : ChanIn c) (hs : StateIn s) (hu : stateOk c s = true) :
    Calls Tryd.prog 4 #[.agg c.cells.toArray, .agg s.cells.toArray, .int .i64 0] w fun e w' => ∃ a0 a1 a2 a3 a4 a5 a6, e = .returned (.tuple #[.agg (commitP c a0 a1 a2 a3 a4 a5 a6 c.client c.peer s.client s.peer s.h0).cells.toArray, .int .i64 0]) ∧ TxIn w' (commitP c a0 a1 a2 a3 a4 a5 a6 c.client c.peer s.client s.peer s.h0) ∧ Below w.heap.size w w' := by
  have SZH : Hid ((Tryd.prog.info? 23).map (·.size) = some (cellsOf s.h0).length) := Lib.hid (by rw [cellsOf_len, hs.h0]; exact Tryd.size23)
  have SZCl := Lib.hid (chan_size hc.ftx)
  have HC := Lib.hid hc
  have HS := Lib.hid hs
  have HRT : Hid (∀ W : World, Calls Tryd.prog 8 #[.agg c.cells.toArray, .agg s.cells.toArray] W fun e w' => e = .returned (.bool true) ∧ Below W.heap.size W w') := Lib.hid fun W => by rw [← hu]; exact rightState_any W hc.ftx hs
  have SZC := Lib.hid (chan_sizeA hc.ftx)
  have SZS := Lib.hid (state_sizeA hs)
  have SZ0 : Hid ((Tryd.prog.info? 38).map (·.size) = some noTx.cells.length) := Lib.hid (tx_size zero32_len)
  clear hc hs hu
  go_enter Tryd.func4, Tryd.ntmps4
  go_upto_region 1 with (first | (refine wpList_new rfl 38 rfl noTx.cells.toArray Tryd.zeroTx14 ?_; intro r w1 hr hh hb; go_frame) | fail)
  have b0 : Below w.heap.size w ((w.alloc (.cells c.cells.toArray 27)).alloc (.cells s.cells.toArray 30)) := ((Below.refl _ _).alloc (Nat.le_refl _) _).alloc (by simp) _
  have k1 : ((w.alloc (.cells c.cells.toArray 27)).alloc (.cells s.cells.toArray 30)).heap[w.heap.size]? = some (.cells c.cells.toArray 27 (0, 0)) := by
    rw [heap_alloc_old _ _ (by simp), heap_alloc_new]
  have k2 : ((w.alloc (.cells c.cells.toArray 27)).alloc (.cells s.cells.toArray 30)).heap[w.heap.size + 1]? = some (.cells s.cells.toArray 30 (0, 0)) := heap_alloc_at _ _ _ (by simp)
  have b1 := bthen b0 hb
  have h1 := keep hb k1
  have h2 := keep hb k2
  have hr' : w.heap.size ≤ r := Nat.le_trans b0.size hr
  obtain ⟨g, hg⟩ : ∃ g, g = w.heap.size := ⟨_, rfl⟩
  rw [← hg] at h1 h2 ⊢
  have HB1 := Lib.hid b1
  have H1 := Lib.hid h1
  have H2 := Lib.hid h2
  have HR := Lib.hid hh
  have HN : Hid (w.heap.size ≤ r) := Lib.hid hr'
  clear b0 k1 k2 b1 h1 h2 hr' hg hr hh hb
  go_upto_region 3 with (first | (refine wpList_load_row rfl 27 _ rfl g rfl 27 c.cells.toArray (0, 0) _ H1.out Tryd.underlying27 rfl SZC.out ?_) | (refine wpList_load_row rfl 30 _ rfl (g + 1) rfl 30 s.cells.toArray (0, 0) _ H2.out Tryd.underlying30 rfl SZS.out ?_) | (go_at_call 8; (with_reducible refine (HRT.out _).mono ?_); rintro e w2 ⟨rfl, hb⟩; have HB2 := Lib.hid (bthen HB1.out hb); have H12 := Lib.hid (keep hb H1.out); have H22 := Lib.hid (keep hb H2.out); have HR2 := Lib.hid (keep hb HR.out); clear hb) | fail)
  have hat := state_at HS.out (range_of H22.out)
  have s1 := hat.client
  have s2 := hat.peer
  rw [Nat.zero_add] at s1 s2
  clear hat
  go_upto_region 4 with (first | (refine wpList_build10 rfl rfl (vs := [(0, .int .i64 s.client), (1, .int .i64 s.peer)]) rfl (build_pair64 _ _) ?_; go_frame) | (refine wpList_var rfl rfl 58 rfl _ _ rfl #[.int .i64 0, .int .i64 0] Tryd.zeroPair64 rfl [.int .i64 s.client, .int .i64 s.peer] (fun _ => rfl) (fun _ => rfl) rfl (by simp [Value.oneCell']) ?_; intro q w3 hq hh hb; go_frame; have d0 := (range_cons (range_of hh)).1; have d1 := (range_cons (range_cons (range_of hh)).2).1; rw [Nat.zero_add] at d1; have HD0 := Lib.hid d0; have HD1 := Lib.hid d1; have HQL := Lib.hid (lt_of_block hh); have HB3 := Lib.hid (bthen HB2.out hb); have H13 := Lib.hid (keep hb H12.out); have H23 := Lib.hid (keep hb H22.out); have HR3 := Lib.hid (keep hb HR2.out); clear hq hh hb d0 d1 s1 s2) | fail)
  refine wp_region_held_drew (S := fun w' => Below w3.heap.size w3 w') (by kernel_rfl) (below_drew (Below.refl _ _)) (fun hHeld => ?_)
  refine take_at (i := 0) rfl rfl (by kernel_rfl) (by kernel_rfl) (by kernel_rfl) (fun _ _ _ h => h) (yieldsIf_load_mid (by rfl) _ _ rfl g 0 rfl c.cells _ (fun w0 hSw => range_of (keep hSw H13.out)) Tryd.underlying27 rfl SZCl.out) (by assumption) ?_
  simp only [List.setIfInBounds_toArray, List.set_cons_zero, List.set_cons_succ]
  refine take_at (i := 1) (v := ?_) rfl rfl (by kernel_rfl) (by kernel_rfl) (by kernel_rfl) (fun _ _ _ h => h) (Or.inl ⟨by rfl, ?_⟩) (by assumption) ?_
  rotate_left
  · intro w0 hSw; (try dsimp only at hSw); first | (go_simp; done) | (go_simp; with_reducible rfl)
  simp only [List.setIfInBounds_toArray, List.set_cons_zero, List.set_cons_succ]
  refine take_at (i := 2) (v := ?_) rfl rfl (by kernel_rfl) (by kernel_rfl) (by kernel_rfl) (fun _ _ _ h => h) (Or.inl ⟨by rfl, ?_⟩) (by assumption) ?_
  rotate_left
  · intro w0 hSw; (try dsimp only at hSw); first | (go_simp; done) | (go_simp; with_reducible rfl)
  simp only [List.setIfInBounds_toArray, List.set_cons_zero, List.set_cons_succ]
  refine take_at (i := 3) (v := ?_) rfl rfl (by kernel_rfl) (by kernel_rfl) (by kernel_rfl) (fun _ _ _ h => h) (Or.inl ⟨by rfl, ?_⟩) (by assumption) ?_
  rotate_left
  · intro w0 hSw; (try dsimp only at hSw); first | (go_simp; done) | (go_simp; with_reducible rfl)
  simp only [List.setIfInBounds_toArray, List.set_cons_zero, List.set_cons_succ]
  refine take_at (i := 4) rfl rfl (by kernel_rfl) (by kernel_rfl) (by kernel_rfl) (fun _ _ _ h => h) (yields_cell (b := q) (o := 0) (by rfl) rfl rfl (fun w0 hSw => (Below.cell hSw (p := ⟨q, 0, none⟩) HQL.out).trans HD0.out) (fun w0 => Tryd.isAgg2 w0)) (by assumption) ?_
  simp only [List.setIfInBounds_toArray, List.set_cons_zero, List.set_cons_succ]
  refine take_at (i := 5) (v := ?_) rfl rfl (by kernel_rfl) (by kernel_rfl) (by kernel_rfl) (fun _ _ _ h => h) (Or.inl ⟨by rfl, ?_⟩) (by assumption) ?_
  rotate_left
  · intro w0 hSw; (try dsimp only at hSw); first | (go_simp; done) | (go_simp; with_reducible rfl)
  simp only [List.setIfInBounds_toArray, List.set_cons_zero, List.set_cons_succ]
  refine take_at (i := 9) (v := ?_) rfl rfl (by kernel_rfl) (by kernel_rfl) (by kernel_rfl) (fun _ _ _ h => h) (Or.inl ⟨by rfl, ?_⟩) (by assumption) ?_
  rotate_left
  · intro w0 hSw; (try dsimp only at hSw); first | (go_simp; done) | (go_simp; with_reducible rfl)
  simp only [List.setIfInBounds_toArray, List.set_cons_zero, List.set_cons_succ]
  refine take_at (i := 10) (v := ?_) rfl rfl (by kernel_rfl) (by kernel_rfl) (by kernel_rfl) (fun _ _ _ h => h) (Or.inl ⟨by rfl, ?_⟩) (by assumption) ?_
  rotate_left
  · intro w0 hSw; (try dsimp only at hSw); first | (go_simp; done) | (go_simp; with_reducible rfl)
  simp only [List.setIfInBounds_toArray, List.set_cons_zero, List.set_cons_succ]
  refine take_at (i := 11) (v := ?_) rfl rfl (by kernel_rfl) (by kernel_rfl) (by kernel_rfl) (fun _ _ _ h => h) (Or.inl ⟨by rfl, ?_⟩) (by assumption) ?_
  rotate_left
  · intro w0 hSw; (try dsimp only at hSw); first | (go_simp; done) | (go_simp; with_reducible rfl)
  simp only [List.setIfInBounds_toArray, List.set_cons_zero, List.set_cons_succ]
  refine take_at (i := 12) rfl rfl (by kernel_rfl) (by kernel_rfl) (by kernel_rfl) (fun _ _ _ h => h) (yieldsIf_load_mid (by rfl) _ _ rfl (g + 1) 3 rfl (cellsOf s.h0) _ (fun w0 hSw => by have h9 := (state_at HS.out (range_of (keep hSw H23.out))).h0; rw [Nat.zero_add] at h9; exact h9) Tryd.underlying23 rfl SZH.out) (by assumption) ?_
  simp only [List.setIfInBounds_toArray, List.set_cons_zero, List.set_cons_succ]
  refine wpAnyH_ready (rs := [6]) (by kernel_rfl) (by simp) ?_
  refine AllReadyH.cons rfl (fun K hK => ?_) ?_
  · have HC6 := Lib.hid (fun (W : World) => otherOf_any W (z := 0) (.inl rfl))
    go_simp
    go_wp2_with ((go_at_call 18; (with_reducible refine (HC6.out _).mono ?_); rintro e x6 ⟨rfl, rfl⟩))
    clear HC6
    refine hK.out _ _ (by (try dsimp only); exact hHeld) (fun hHeld => ?_)
    clear hK K
    refine take_at (i := 7) (v := ?_) rfl rfl (by kernel_rfl) (by kernel_rfl) (by kernel_rfl) (fun _ _ _ h => h) (Or.inl ⟨by rfl, ?_⟩) (by assumption) ?_
    rotate_left
    · intro w0 hSw; (try dsimp only at hSw); first | (go_simp; done) | (go_simp; with_reducible rfl)
    simp only [List.setIfInBounds_toArray, List.set_cons_zero, List.set_cons_succ]
    refine take_at (i := 8) rfl rfl (by kernel_rfl) (by kernel_rfl) (by kernel_rfl) (fun _ _ _ h => h) (yields_cell (b := q) (o := 1) (by rfl) rfl rfl (fun w0 hSw => (Below.cell hSw (p := ⟨q, 1, none⟩) HQL.out).trans HD1.out) (fun w0 => Tryd.isAgg2 w0)) (by assumption) ?_
    simp only [List.setIfInBounds_toArray, List.set_cons_zero, List.set_cons_succ]
    refine wpAnyH_ready (rs := [13]) (by kernel_rfl) (by simp) ?_
    refine AllReadyH.cons rfl (fun K hK => ?_) ?_
    · have HC13 := Lib.hid (fun (W : World) => outs0_any (w := W) (own := s.client) (rest := s.peer) HC.out HS.out.h0)
      go_simp
      go_wp2_with ((go_at_call 17; (with_reducible refine (HC13.out _).mono ?_); rintro e w4 ⟨p1, p2, p3, p4, p5, p6, rfl, ho, hb⟩; have HB34 := Lib.hid (bthen hHeld hb); have HO := Lib.hid (ho.old (Below.size hHeld)); clear ho hb HC13))
      refine hK.out _ _ (by (try dsimp only); exact HB34.out) (fun hHeld => ?_)
      clear hK K
      refine take_at (i := 14) (v := ?_) rfl rfl (by kernel_rfl) (by kernel_rfl) (by kernel_rfl) (fun _ _ _ h => h) (Or.inl ⟨by rfl, ?_⟩) (by assumption) ?_
      rotate_left
      · intro w0 hSw; (try dsimp only at hSw); first | (go_simp; done) | (go_simp; with_reducible rfl)
      simp only [List.setIfInBounds_toArray, List.set_cons_zero, List.set_cons_succ]
      refine wpAnyH_done (by kernel_rfl) ?_ _
      clear hHeld
      have HB4 := Lib.hid (bthen HB3.out HB34.out)
      have H14 := Lib.hid (keep HB34.out H13.out)
      have HR4 := Lib.hid (keep HB34.out HR3.out)
      have HSF := Lib.hid (fun (W : World) => spendFund_any (w := W) HC.out)
      go_wp2_with (first | (refine wpList_load_row rfl 27 _ rfl g rfl 27 c.cells.toArray (0, 0) _ H14.out Tryd.underlying27 rfl SZC.out ?_) | (go_at_call 19; (with_reducible refine (HSF.out _).mono ?_); rintro e w5 ⟨p0, rfl, hf, hb⟩; have HB5 := Lib.hid (bthen HB4.out hb); have HO5 := Lib.hid (HO.out.keep hb); have HF5 := Lib.hid (show Laid14 w3.heap.size w5 p0 _ from hf.old HB34.out.size); have HR5 := Lib.hid (keep hb HR4.out); clear hf hb) | (refine wpList_build10 rfl rfl (vs := [(0, .slice (some ⟨p0, 0, none⟩) 1 1), (1, .slice (some ⟨p6, 0, none⟩) 2 2)]) rfl (build_commit14 c p0 p1 p2 p3 p4 p5 p6 c.client c.peer s.client s.peer s.h0) ?_; go_frame) | (refine wpList_row10 rfl 38 _ _ rfl r (commitP c (some ⟨p0, 0, none⟩) (some ⟨p3, 0, none⟩) (some ⟨p1, 0, none⟩) (some ⟨p2, 0, none⟩) (some ⟨p5, 0, none⟩) (some ⟨p4, 0, none⟩) (some ⟨p6, 0, none⟩) c.client c.peer s.client s.peer s.h0).cells rfl rfl 38 noTx.cells HR5.out (commit_size _ _ _ _ _ _ _ _ _ _ _ _ _) rfl (PTx.one _) ?_; intro w9 hh9 hb9) | fail)
      refine bodyPost_ret (results_cell_then rfl _ _ r 38 (PTx.cells (commitP c (some ⟨p0, 0, none⟩) (some ⟨p3, 0, none⟩) (some ⟨p1, 0, none⟩) (some ⟨p2, 0, none⟩) (some ⟨p5, 0, none⟩) (some ⟨p4, 0, none⟩) (some ⟨p6, 0, none⟩) c.client c.peer s.client s.peer s.h0)).toArray (0, 0) _ (.int .i64 0) rfl rfl hh9 Tryd.underlying38 rfl (by rw [List.size_toArray]; exact commit_size _ _ _ _ _ _ _ _ _ _ _ _ _)) rfl ?_
      have hrl := lt_of_block HR3.out
      exact ⟨_, _, _, _, _, _, _, rfl, commit_in14 (HF5.out.but hrl hb9) (HO5.out.but hrl hb9) HC.out HC.out.client HC.out.peer HS.out.client HS.out.peer HS.out.h0, But.in HB5.out hb9 HN.out⟩
    exact AllReadyH.nil
  exact AllReadyH.nil
set_option linter.unusedSimpArgs false in
set_option maxRecDepth 100000 in
set_option maxHeartbeats 6400000 in
theorem build14_1 {w : World} {c : PChan} {s : PState} (hc : ChanIn c) (hs : StateIn s) (hu : stateOk c s = true) :
    Calls Tryd.prog 4 #[.agg c.cells.toArray, .agg s.cells.toArray, .int .i64 1] w fun e w' => ∃ a0 a1 a2 a3 a4 a5 a6, e = .returned (.tuple #[.agg (commitP c a0 a1 a2 a3 a4 a5 a6 c.peer c.client s.peer s.client s.h1).cells.toArray, .int .i64 0]) ∧ TxIn w' (commitP c a0 a1 a2 a3 a4 a5 a6 c.peer c.client s.peer s.client s.h1) ∧ Below w.heap.size w w' := by
  have SZH : Hid ((Tryd.prog.info? 23).map (·.size) = some (cellsOf s.h1).length) := Lib.hid (by rw [cellsOf_len, hs.h1]; exact Tryd.size23)
  have SZCl := Lib.hid (chan_size hc.ftx)
  have HC := Lib.hid hc
  have HS := Lib.hid hs
  have HRT : Hid (∀ W : World, Calls Tryd.prog 8 #[.agg c.cells.toArray, .agg s.cells.toArray] W fun e w' => e = .returned (.bool true) ∧ Below W.heap.size W w') := Lib.hid fun W => by rw [← hu]; exact rightState_any W hc.ftx hs
  have SZC := Lib.hid (chan_sizeA hc.ftx)
  have SZS := Lib.hid (state_sizeA hs)
  have SZ0 : Hid ((Tryd.prog.info? 38).map (·.size) = some noTx.cells.length) := Lib.hid (tx_size zero32_len)
  clear hc hs hu
  go_enter Tryd.func4, Tryd.ntmps4
  go_upto_region 1 with (first | (refine wpList_new rfl 38 rfl noTx.cells.toArray Tryd.zeroTx14 ?_; intro r w1 hr hh hb; go_frame) | fail)
  have b0 : Below w.heap.size w ((w.alloc (.cells c.cells.toArray 27)).alloc (.cells s.cells.toArray 30)) := ((Below.refl _ _).alloc (Nat.le_refl _) _).alloc (by simp) _
  have k1 : ((w.alloc (.cells c.cells.toArray 27)).alloc (.cells s.cells.toArray 30)).heap[w.heap.size]? = some (.cells c.cells.toArray 27 (0, 0)) := by
    rw [heap_alloc_old _ _ (by simp), heap_alloc_new]
  have k2 : ((w.alloc (.cells c.cells.toArray 27)).alloc (.cells s.cells.toArray 30)).heap[w.heap.size + 1]? = some (.cells s.cells.toArray 30 (0, 0)) := heap_alloc_at _ _ _ (by simp)
  have b1 := bthen b0 hb
  have h1 := keep hb k1
  have h2 := keep hb k2
  have hr' : w.heap.size ≤ r := Nat.le_trans b0.size hr
  obtain ⟨g, hg⟩ : ∃ g, g = w.heap.size := ⟨_, rfl⟩
  rw [← hg] at h1 h2 ⊢
  have HB1 := Lib.hid b1
  have H1 := Lib.hid h1
  have H2 := Lib.hid h2
  have HR := Lib.hid hh
  have HN : Hid (w.heap.size ≤ r) := Lib.hid hr'
  clear b0 k1 k2 b1 h1 h2 hr' hg hr hh hb
  go_upto_region 3 with (first | (refine wpList_load_row rfl 27 _ rfl g rfl 27 c.cells.toArray (0, 0) _ H1.out Tryd.underlying27 rfl SZC.out ?_) | (refine wpList_load_row rfl 30 _ rfl (g + 1) rfl 30 s.cells.toArray (0, 0) _ H2.out Tryd.underlying30 rfl SZS.out ?_) | (go_at_call 8; (with_reducible refine (HRT.out _).mono ?_); rintro e w2 ⟨rfl, hb⟩; have HB2 := Lib.hid (bthen HB1.out hb); have H12 := Lib.hid (keep hb H1.out); have H22 := Lib.hid (keep hb H2.out); have HR2 := Lib.hid (keep hb HR.out); clear hb) | fail)
  have hat := state_at HS.out (range_of H22.out)
  have s1 := hat.client
  have s2 := hat.peer
  rw [Nat.zero_add] at s1 s2
  clear hat
  go_upto_region 4 with (first | (refine wpList_build10 rfl rfl (vs := [(0, .int .i64 s.client), (1, .int .i64 s.peer)]) rfl (build_pair64 _ _) ?_; go_frame) | (refine wpList_var rfl rfl 58 rfl _ _ rfl #[.int .i64 0, .int .i64 0] Tryd.zeroPair64 rfl [.int .i64 s.client, .int .i64 s.peer] (fun _ => rfl) (fun _ => rfl) rfl (by simp [Value.oneCell']) ?_; intro q w3 hq hh hb; go_frame; have d0 := (range_cons (range_of hh)).1; have d1 := (range_cons (range_cons (range_of hh)).2).1; rw [Nat.zero_add] at d1; have HD0 := Lib.hid d0; have HD1 := Lib.hid d1; have HQL := Lib.hid (lt_of_block hh); have HB3 := Lib.hid (bthen HB2.out hb); have H13 := Lib.hid (keep hb H12.out); have H23 := Lib.hid (keep hb H22.out); have HR3 := Lib.hid (keep hb HR2.out); clear hq hh hb d0 d1 s1 s2) | fail)
  refine wp_region_held_drew (S := fun w' => Below w3.heap.size w3 w') (by kernel_rfl) (below_drew (Below.refl _ _)) (fun hHeld => ?_)
  refine take_at (i := 0) rfl rfl (by kernel_rfl) (by kernel_rfl) (by kernel_rfl) (fun _ _ _ h => h) (yieldsIf_load_mid (by rfl) _ _ rfl g 0 rfl c.cells _ (fun w0 hSw => range_of (keep hSw H13.out)) Tryd.underlying27 rfl SZCl.out) (by assumption) ?_
  simp only [List.setIfInBounds_toArray, List.set_cons_zero, List.set_cons_succ]
  refine take_at (i := 1) (v := ?_) rfl rfl (by kernel_rfl) (by kernel_rfl) (by kernel_rfl) (fun _ _ _ h => h) (Or.inl ⟨by rfl, ?_⟩) (by assumption) ?_
  rotate_left
  · intro w0 hSw; (try dsimp only at hSw); first | (go_simp; done) | (go_simp; with_reducible rfl)
  simp only [List.setIfInBounds_toArray, List.set_cons_zero, List.set_cons_succ]
  refine take_at (i := 2) (v := ?_) rfl rfl (by kernel_rfl) (by kernel_rfl) (by kernel_rfl) (fun _ _ _ h => h) (Or.inl ⟨by rfl, ?_⟩) (by assumption) ?_
  rotate_left
  · intro w0 hSw; (try dsimp only at hSw); first | (go_simp; done) | (go_simp; with_reducible rfl)
  simp only [List.setIfInBounds_toArray, List.set_cons_zero, List.set_cons_succ]
  refine take_at (i := 3) (v := ?_) rfl rfl (by kernel_rfl) (by kernel_rfl) (by kernel_rfl) (fun _ _ _ h => h) (Or.inl ⟨by rfl, ?_⟩) (by assumption) ?_
  rotate_left
  · intro w0 hSw; (try dsimp only at hSw); first | (go_simp; done) | (go_simp; with_reducible rfl)
  simp only [List.setIfInBounds_toArray, List.set_cons_zero, List.set_cons_succ]
  refine take_at (i := 4) rfl rfl (by kernel_rfl) (by kernel_rfl) (by kernel_rfl) (fun _ _ _ h => h) (yields_cell (b := q) (o := 1) (by rfl) rfl rfl (fun w0 hSw => (Below.cell hSw (p := ⟨q, 1, none⟩) HQL.out).trans HD1.out) (fun w0 => Tryd.isAgg2 w0)) (by assumption) ?_
  simp only [List.setIfInBounds_toArray, List.set_cons_zero, List.set_cons_succ]
  refine take_at (i := 5) (v := ?_) rfl rfl (by kernel_rfl) (by kernel_rfl) (by kernel_rfl) (fun _ _ _ h => h) (Or.inl ⟨by rfl, ?_⟩) (by assumption) ?_
  rotate_left
  · intro w0 hSw; (try dsimp only at hSw); first | (go_simp; done) | (go_simp; with_reducible rfl)
  simp only [List.setIfInBounds_toArray, List.set_cons_zero, List.set_cons_succ]
  refine take_at (i := 9) (v := ?_) rfl rfl (by kernel_rfl) (by kernel_rfl) (by kernel_rfl) (fun _ _ _ h => h) (Or.inl ⟨by rfl, ?_⟩) (by assumption) ?_
  rotate_left
  · intro w0 hSw; (try dsimp only at hSw); first | (go_simp; done) | (go_simp; with_reducible rfl)
  simp only [List.setIfInBounds_toArray, List.set_cons_zero, List.set_cons_succ]
  refine take_at (i := 10) (v := ?_) rfl rfl (by kernel_rfl) (by kernel_rfl) (by kernel_rfl) (fun _ _ _ h => h) (Or.inl ⟨by rfl, ?_⟩) (by assumption) ?_
  rotate_left
  · intro w0 hSw; (try dsimp only at hSw); first | (go_simp; done) | (go_simp; with_reducible rfl)
  simp only [List.setIfInBounds_toArray, List.set_cons_zero, List.set_cons_succ]
  refine take_at (i := 11) (v := ?_) rfl rfl (by kernel_rfl) (by kernel_rfl) (by kernel_rfl) (fun _ _ _ h => h) (Or.inl ⟨by rfl, ?_⟩) (by assumption) ?_
  rotate_left
  · intro w0 hSw; (try dsimp only at hSw); first | (go_simp; done) | (go_simp; with_reducible rfl)
  simp only [List.setIfInBounds_toArray, List.set_cons_zero, List.set_cons_succ]
  refine take_at (i := 12) rfl rfl (by kernel_rfl) (by kernel_rfl) (by kernel_rfl) (fun _ _ _ h => h) (yieldsIf_load_mid (by rfl) _ _ rfl (g + 1) 35 rfl (cellsOf s.h1) _ (fun w0 hSw => by have h9 := (state_at HS.out (range_of (keep hSw H23.out))).h1; rw [Nat.zero_add] at h9; exact h9) Tryd.underlying23 rfl SZH.out) (by assumption) ?_
  simp only [List.setIfInBounds_toArray, List.set_cons_zero, List.set_cons_succ]
  refine wpAnyH_ready (rs := [6]) (by kernel_rfl) (by simp) ?_
  refine AllReadyH.cons rfl (fun K hK => ?_) ?_
  · have HC6 := Lib.hid (fun (W : World) => otherOf_any W (z := 1) (.inr rfl))
    go_simp
    go_wp2_with ((go_at_call 18; (with_reducible refine (HC6.out _).mono ?_); rintro e x6 ⟨rfl, rfl⟩))
    clear HC6
    refine hK.out _ _ (by (try dsimp only); exact hHeld) (fun hHeld => ?_)
    clear hK K
    refine take_at (i := 7) (v := ?_) rfl rfl (by kernel_rfl) (by kernel_rfl) (by kernel_rfl) (fun _ _ _ h => h) (Or.inl ⟨by rfl, ?_⟩) (by assumption) ?_
    rotate_left
    · intro w0 hSw; (try dsimp only at hSw); first | (go_simp; done) | (go_simp; with_reducible rfl)
    simp only [List.setIfInBounds_toArray, List.set_cons_zero, List.set_cons_succ]
    refine take_at (i := 8) rfl rfl (by kernel_rfl) (by kernel_rfl) (by kernel_rfl) (fun _ _ _ h => h) (yields_cell (b := q) (o := 0) (by rfl) rfl rfl (fun w0 hSw => (Below.cell hSw (p := ⟨q, 0, none⟩) HQL.out).trans HD0.out) (fun w0 => Tryd.isAgg2 w0)) (by assumption) ?_
    simp only [List.setIfInBounds_toArray, List.set_cons_zero, List.set_cons_succ]
    refine wpAnyH_ready (rs := [13]) (by kernel_rfl) (by simp) ?_
    refine AllReadyH.cons rfl (fun K hK => ?_) ?_
    · have HC13 := Lib.hid (fun (W : World) => outs1_any (w := W) (own := s.peer) (rest := s.client) HC.out HS.out.h1)
      go_simp
      go_wp2_with ((go_at_call 17; (with_reducible refine (HC13.out _).mono ?_); rintro e w4 ⟨p1, p2, p3, p4, p5, p6, rfl, ho, hb⟩; have HB34 := Lib.hid (bthen hHeld hb); have HO := Lib.hid (ho.old (Below.size hHeld)); clear ho hb HC13))
      refine hK.out _ _ (by (try dsimp only); exact HB34.out) (fun hHeld => ?_)
      clear hK K
      refine take_at (i := 14) (v := ?_) rfl rfl (by kernel_rfl) (by kernel_rfl) (by kernel_rfl) (fun _ _ _ h => h) (Or.inl ⟨by rfl, ?_⟩) (by assumption) ?_
      rotate_left
      · intro w0 hSw; (try dsimp only at hSw); first | (go_simp; done) | (go_simp; with_reducible rfl)
      simp only [List.setIfInBounds_toArray, List.set_cons_zero, List.set_cons_succ]
      refine wpAnyH_done (by kernel_rfl) ?_ _
      clear hHeld
      have HB4 := Lib.hid (bthen HB3.out HB34.out)
      have H14 := Lib.hid (keep HB34.out H13.out)
      have HR4 := Lib.hid (keep HB34.out HR3.out)
      have HSF := Lib.hid (fun (W : World) => spendFund_any (w := W) HC.out)
      go_wp2_with (first | (refine wpList_load_row rfl 27 _ rfl g rfl 27 c.cells.toArray (0, 0) _ H14.out Tryd.underlying27 rfl SZC.out ?_) | (go_at_call 19; (with_reducible refine (HSF.out _).mono ?_); rintro e w5 ⟨p0, rfl, hf, hb⟩; have HB5 := Lib.hid (bthen HB4.out hb); have HO5 := Lib.hid (HO.out.keep hb); have HF5 := Lib.hid (show Laid14 w3.heap.size w5 p0 _ from hf.old HB34.out.size); have HR5 := Lib.hid (keep hb HR4.out); clear hf hb) | (refine wpList_build10 rfl rfl (vs := [(0, .slice (some ⟨p0, 0, none⟩) 1 1), (1, .slice (some ⟨p6, 0, none⟩) 2 2)]) rfl (build_commit14 c p0 p1 p2 p3 p4 p5 p6 c.peer c.client s.peer s.client s.h1) ?_; go_frame) | (refine wpList_row10 rfl 38 _ _ rfl r (commitP c (some ⟨p0, 0, none⟩) (some ⟨p3, 0, none⟩) (some ⟨p1, 0, none⟩) (some ⟨p2, 0, none⟩) (some ⟨p5, 0, none⟩) (some ⟨p4, 0, none⟩) (some ⟨p6, 0, none⟩) c.peer c.client s.peer s.client s.h1).cells rfl rfl 38 noTx.cells HR5.out (commit_size _ _ _ _ _ _ _ _ _ _ _ _ _) rfl (PTx.one _) ?_; intro w9 hh9 hb9) | fail)
      refine bodyPost_ret (results_cell_then rfl _ _ r 38 (PTx.cells (commitP c (some ⟨p0, 0, none⟩) (some ⟨p3, 0, none⟩) (some ⟨p1, 0, none⟩) (some ⟨p2, 0, none⟩) (some ⟨p5, 0, none⟩) (some ⟨p4, 0, none⟩) (some ⟨p6, 0, none⟩) c.peer c.client s.peer s.client s.h1)).toArray (0, 0) _ (.int .i64 0) rfl rfl hh9 Tryd.underlying38 rfl (by rw [List.size_toArray]; exact commit_size _ _ _ _ _ _ _ _ _ _ _ _ _)) rfl ?_
      have hrl := lt_of_block HR3.out
      exact ⟨_, _, _, _, _, _, _, rfl, commit_in14 (HF5.out.but hrl hb9) (HO5.out.but hrl hb9) HC.out HC.out.peer HC.out.client HS.out.peer HS.out.client HS.out.h1, But.in HB5.out hb9 HN.out⟩
    exact AllReadyH.nil
  exact AllReadyH.nil
end Go.Proofs.YtkihmhchdenamaaDoor
