/- The law's step: the law's call first. -/
import Derived.Test.YtijanllppbambaaStepWalk
namespace Go.Proofs.Ytijanllppbambaa
open Go.RowKit Go.Maps

set_option linter.unusedSimpArgs false in
set_option maxRecDepth 100000 in
set_option maxHeartbeats 12800000 in
theorem step_ask {P0 P1 P2 : World → Prop} {w : World} {pv p : Value} {n m z : Int} {s : List UInt8} {c : PChan} {a2 b1 b2 : Int} (ho : CallIn ⟨4, n, m, s, c, z⟩) (h0 : P0 w) (hbel : ∀ W W', P0 W → Below W.heap.size W W' → P0 W') (hl : ∀ W, P0 W → Calls Try.prog 25 #[p, .agg (PCall.cells ⟨4, n, m, s, c, z⟩).toArray] W fun e w' => e = .returned (.tuple #[.int .i64 a2, .int .i64 b2]) ∧ P1 w' ∧ KeepOp W w') (hc : ∀ W, P1 W → Calls Try.prog 18 #[pv, .int .i64 n, .int .i64 m, .int .i64 z] W fun e w' => e = .returned (.int .i64 b1) ∧ P2 w') :
    Calls Try.prog 7 #[pv, p, .agg (PCall.cells ⟨4, n, m, s, c, z⟩).toArray] w fun e w' => e = .returned (.bool (decide (b1 = b2))) ∧ P2 w' := by
  have HO := Lib.hid ho
  have HC := Lib.hid hc
  have HL := Lib.hid hl
  have HS : Hid (s.length = 32) := Lib.hid ho.root
  have HF : Hid (c.ftx.length = 32) := Lib.hid ho.ch.ftx
  clear ho hc hl
  go_enter Try.func7, Try.ntmps7
  go_wp2_with (first | (refine wpList_box10 rfl 37 _ rfl (PCall.cells ⟨4, n, m, s, c, z⟩).toArray rfl ?_; intro g3 w3 n3 h3 k3; have H3 := Lib.hid h3; have Q3 := Lib.hid (hbel _ _ h0 k3); have C3 : Hid (CallAt w3 g3 0 ⟨4, n, m, s, c, z⟩) := Lib.hid (call_at HO.out (range_of h3)); have ck := C3.out.kind; clear h3 k3 n3 h0; go_frame) | (refine wpList_loadw (by rfl) 37 _ rfl g3 0 rfl (PCall.cells ⟨4, n, m, s, c, z⟩) _ (range_of H3.out) Try.underlying37 rfl (call_size HO.out) ?_; go_frame) | (go_at_call 25; refine (HL.out _ Q3.out).mono ?_; rintro e w4 ⟨rfl, q4, k4⟩; have Q4 := Lib.hid q4; have H34 := Lib.hid (k4 _ _ _ H3.out); have cw41 : w4.cell? ⟨g3, 1, none⟩ = some (.int .i64 n) := (call_at HO.out (range_of H34.out)).tower; have cw42 : w4.cell? ⟨g3, 2, none⟩ = some (.int .i64 m) := (call_at HO.out (range_of H34.out)).n; have cw474 : w4.cell? ⟨g3, 74, none⟩ = some (.int .i64 z) := (call_at HO.out (range_of H34.out)).height; clear q4 k4) | (go_at_call 18; refine (HC.out _ Q4.out).mono ?_; rintro e w5 ⟨rfl, q5⟩; have Q5 := Lib.hid q5; clear q5) | fail)
  go_ret
  exact ⟨rfl, Q5.out⟩
set_option linter.unusedSimpArgs false in
set_option maxRecDepth 100000 in
set_option maxHeartbeats 12800000 in
theorem step_take {P0 P1 P2 : World → Prop} {w : World} {pv p : Value} {n m z : Int} {s : List UInt8} {c : PChan} {a1 a2 b1 b2 : Int} (ho : CallIn ⟨5, n, m, s, c, z⟩) (h0 : P0 w) (hbel : ∀ W W', P0 W → Below W.heap.size W W' → P0 W') (hl : ∀ W, P0 W → Calls Try.prog 25 #[p, .agg (PCall.cells ⟨5, n, m, s, c, z⟩).toArray] W fun e w' => e = .returned (.tuple #[.int .i64 a2, .int .i64 b2]) ∧ P1 w' ∧ KeepOp W w') (hc : ∀ W, P1 W → Calls Try.prog 13 #[pv, .int .i64 n, .int .i64 z] W fun e w' => e = .returned (.tuple #[.int .i64 a1, .int .i64 b1]) ∧ P2 w') :
    Calls Try.prog 7 #[pv, p, .agg (PCall.cells ⟨5, n, m, s, c, z⟩).toArray] w fun e w' => ∃ r, e = .returned (.bool r) ∧ (a1 = a2 → b1 = b2 → r = true) ∧ P2 w' := by
  have HO := Lib.hid ho
  have HC := Lib.hid hc
  have HL := Lib.hid hl
  have HS : Hid (s.length = 32) := Lib.hid ho.root
  have HF : Hid (c.ftx.length = 32) := Lib.hid ho.ch.ftx
  clear ho hc hl
  go_enter Try.func7, Try.ntmps7
  go_wp2_with (first | (refine wpList_box10 rfl 37 _ rfl (PCall.cells ⟨5, n, m, s, c, z⟩).toArray rfl ?_; intro g3 w3 n3 h3 k3; have H3 := Lib.hid h3; have Q3 := Lib.hid (hbel _ _ h0 k3); have C3 : Hid (CallAt w3 g3 0 ⟨5, n, m, s, c, z⟩) := Lib.hid (call_at HO.out (range_of h3)); have ck := C3.out.kind; clear h3 k3 n3 h0; go_frame) | (refine wpList_loadw (by rfl) 37 _ rfl g3 0 rfl (PCall.cells ⟨5, n, m, s, c, z⟩) _ (range_of H3.out) Try.underlying37 rfl (call_size HO.out) ?_; go_frame) | (go_at_call 25; refine (HL.out _ Q3.out).mono ?_; rintro e w4 ⟨rfl, q4, k4⟩; have Q4 := Lib.hid q4; have H34 := Lib.hid (k4 _ _ _ H3.out); have cw41 : w4.cell? ⟨g3, 1, none⟩ = some (.int .i64 n) := (call_at HO.out (range_of H34.out)).tower; have cw474 : w4.cell? ⟨g3, 74, none⟩ = some (.int .i64 z) := (call_at HO.out (range_of H34.out)).height; clear q4 k4) | (go_at_call 13; refine (HC.out _ Q4.out).mono ?_; rintro e w5 ⟨rfl, q5⟩; have Q5 := Lib.hid q5; clear q5) | fail)
  all_goals (go_ret; exact ⟨_, rfl, (fun h1 h2 => by first | (simp only [h2, beq_self_eq_true]; done) | exact absurd h1.symm (by assumption) | exact absurd h1 (by assumption)), Q5.out⟩)
set_option linter.unusedSimpArgs false in
set_option maxRecDepth 100000 in
set_option maxHeartbeats 12800000 in
theorem step_prove {P0 P1 P2 : World → Prop} {w : World} {pv p : Value} {n m z : Int} {s : List UInt8} {c : PChan} {a2 b1 b2 : Int} (ho : CallIn ⟨6, n, m, s, c, z⟩) (h0 : P0 w) (hbel : ∀ W W', P0 W → Below W.heap.size W W' → P0 W') (hl : ∀ W, P0 W → Calls Try.prog 26 #[p, .agg (PCall.cells ⟨6, n, m, s, c, z⟩).toArray] W fun e w' => e = .returned (.tuple #[.int .i64 a2, .int .i64 b2]) ∧ P1 w' ∧ KeepOp W w') (hc : ∀ W, P1 W → Calls Try.prog 19 #[pv, .int .i64 n, .int .i64 c.id, .int .i64 z, .agg (cellsOf s).toArray] W fun e w' => e = .returned (.int .i64 b1) ∧ P2 w') :
    Calls Try.prog 7 #[pv, p, .agg (PCall.cells ⟨6, n, m, s, c, z⟩).toArray] w fun e w' => e = .returned (.bool (decide (b1 = b2))) ∧ P2 w' := by
  have HO := Lib.hid ho
  have HC := Lib.hid hc
  have HL := Lib.hid hl
  have HS : Hid (s.length = 32) := Lib.hid ho.root
  have HF : Hid (c.ftx.length = 32) := Lib.hid ho.ch.ftx
  clear ho hc hl
  go_enter Try.func7, Try.ntmps7
  go_wp2_with (first | (refine wpList_box10 rfl 37 _ rfl (PCall.cells ⟨6, n, m, s, c, z⟩).toArray rfl ?_; intro g3 w3 n3 h3 k3; have H3 := Lib.hid h3; have Q3 := Lib.hid (hbel _ _ h0 k3); have C3 : Hid (CallAt w3 g3 0 ⟨6, n, m, s, c, z⟩) := Lib.hid (call_at HO.out (range_of h3)); have ck := C3.out.kind; clear h3 k3 n3 h0; go_frame) | (refine wpList_loadw (by rfl) 37 _ rfl g3 0 rfl (PCall.cells ⟨6, n, m, s, c, z⟩) _ (range_of H3.out) Try.underlying37 rfl (call_size HO.out) ?_; go_frame) | (go_at_call 26; refine (HL.out _ Q3.out).mono ?_; rintro e w4 ⟨rfl, q4, k4⟩; have Q4 := Lib.hid q4; have H34 := Lib.hid (k4 _ _ _ H3.out); have cw41 : w4.cell? ⟨g3, 1, none⟩ = some (.int .i64 n) := (call_at HO.out (range_of H34.out)).tower; have cw435 : w4.cell? ⟨g3, 35, none⟩ = some (.int .i64 c.id) := (call_at HO.out (range_of H34.out)).id; have cw474 : w4.cell? ⟨g3, 74, none⟩ = some (.int .i64 z) := (call_at HO.out (range_of H34.out)).height; clear q4 k4) | (refine wpList_loadw (by rfl) 31 _ rfl g3 3 rfl (cellsOf s) _ ((call_at HO.out (range_of H34.out)).root) Try.underlying31 rfl (sum_size HS.out) ?_; go_frame) | (go_at_call 19; refine (HC.out _ Q4.out).mono ?_; rintro e w5 ⟨rfl, q5⟩; have Q5 := Lib.hid q5; clear q5) | fail)
  go_ret
  exact ⟨rfl, Q5.out⟩
set_option linter.unusedSimpArgs false in
set_option maxRecDepth 100000 in
set_option maxHeartbeats 12800000 in
theorem step_settle {P0 P1 P2 : World → Prop} {w : World} {pv p : Value} {n m z : Int} {s : List UInt8} {c : PChan} {a1 a2 b1 b2 : Int} (ho : CallIn ⟨7, n, m, s, c, z⟩) (h0 : P0 w) (hbel : ∀ W W', P0 W → Below W.heap.size W W' → P0 W') (hl : ∀ W, P0 W → Calls Try.prog 26 #[p, .agg (PCall.cells ⟨7, n, m, s, c, z⟩).toArray] W fun e w' => e = .returned (.tuple #[.int .i64 a2, .int .i64 b2]) ∧ P1 w' ∧ KeepOp W w') (hc : ∀ W, P1 W → Calls Try.prog 14 #[pv, .int .i64 n, .int .i64 c.id, .int .i64 z] W fun e w' => e = .returned (.tuple #[.int .i64 a1, .int .i64 b1]) ∧ P2 w') :
    Calls Try.prog 7 #[pv, p, .agg (PCall.cells ⟨7, n, m, s, c, z⟩).toArray] w fun e w' => ∃ r, e = .returned (.bool r) ∧ (a1 = a2 → b1 = b2 → r = true) ∧ P2 w' := by
  have HO := Lib.hid ho
  have HC := Lib.hid hc
  have HL := Lib.hid hl
  have HS : Hid (s.length = 32) := Lib.hid ho.root
  have HF : Hid (c.ftx.length = 32) := Lib.hid ho.ch.ftx
  clear ho hc hl
  go_enter Try.func7, Try.ntmps7
  go_wp2_with (first | (refine wpList_box10 rfl 37 _ rfl (PCall.cells ⟨7, n, m, s, c, z⟩).toArray rfl ?_; intro g3 w3 n3 h3 k3; have H3 := Lib.hid h3; have Q3 := Lib.hid (hbel _ _ h0 k3); have C3 : Hid (CallAt w3 g3 0 ⟨7, n, m, s, c, z⟩) := Lib.hid (call_at HO.out (range_of h3)); have ck := C3.out.kind; clear h3 k3 n3 h0; go_frame) | (refine wpList_loadw (by rfl) 37 _ rfl g3 0 rfl (PCall.cells ⟨7, n, m, s, c, z⟩) _ (range_of H3.out) Try.underlying37 rfl (call_size HO.out) ?_; go_frame) | (go_at_call 26; refine (HL.out _ Q3.out).mono ?_; rintro e w4 ⟨rfl, q4, k4⟩; have Q4 := Lib.hid q4; have H34 := Lib.hid (k4 _ _ _ H3.out); have cw41 : w4.cell? ⟨g3, 1, none⟩ = some (.int .i64 n) := (call_at HO.out (range_of H34.out)).tower; have cw435 : w4.cell? ⟨g3, 35, none⟩ = some (.int .i64 c.id) := (call_at HO.out (range_of H34.out)).id; have cw474 : w4.cell? ⟨g3, 74, none⟩ = some (.int .i64 z) := (call_at HO.out (range_of H34.out)).height; clear q4 k4) | (go_at_call 14; refine (HC.out _ Q4.out).mono ?_; rintro e w5 ⟨rfl, q5⟩; have Q5 := Lib.hid q5; clear q5) | fail)
  all_goals (go_ret; exact ⟨_, rfl, (fun h1 h2 => by first | (simp only [h2, beq_self_eq_true]; done) | exact absurd h1.symm (by assumption) | exact absurd h1 (by assumption)), Q5.out⟩)
set_option linter.unusedSimpArgs false in
set_option maxRecDepth 100000 in
set_option maxHeartbeats 12800000 in
theorem step_else {P2 : World → Prop} {w : World} {pv p : Value} {k n m z : Int} {s : List UInt8} {c : PChan} (ho : CallIn ⟨k, n, m, s, c, z⟩) (hk : k < 0 ∨ 7 < k) (h0 : P2 w) (hbel : ∀ W W', P2 W → Below W.heap.size W W' → P2 W') :
    Calls Try.prog 7 #[pv, p, .agg (PCall.cells ⟨k, n, m, s, c, z⟩).toArray] w fun e w' => e = .returned (.bool true) ∧ P2 w' := by
  have HO := Lib.hid ho
  clear ho
  have f0 : ¬ k = 0 := by omega
  have f1 : ¬ k = 1 := by omega
  have f2 : ¬ k = 2 := by omega
  have f3 : ¬ k = 3 := by omega
  have f4 : ¬ k = 4 := by omega
  have f5 : ¬ k = 5 := by omega
  have f6 : ¬ k = 6 := by omega
  have f7 : ¬ k = 7 := by omega
  clear hk
  go_enter Try.func7, Try.ntmps7
  go_wp2_with (first | (refine wpList_box10 rfl 37 _ rfl (PCall.cells ⟨k, n, m, s, c, z⟩).toArray rfl ?_; intro g3 w3 n3 h3 k3; have H3 := Lib.hid h3; have Q3 := Lib.hid (hbel _ _ h0 k3); have C3 : Hid (CallAt w3 g3 0 ⟨k, n, m, s, c, z⟩) := Lib.hid (call_at HO.out (range_of h3)); have ck := C3.out.kind; clear h3 k3 n3 h0; go_frame) | fail)
  go_ret
  exact ⟨rfl, Q3.out⟩
end Go.Proofs.Ytijanllppbambaa
