/- bond.Let, case by case. -/
import Derived.Test.YtijanllppbambaaBondOps
namespace Go.Proofs.Ytijanllppbambaa
open Go.RowKit Go.Maps

set_option linter.unusedSimpArgs false in
set_option maxRecDepth 100000 in
set_option maxHeartbeats 12800000 in
theorem let_none {w : World} {pv : Value} {n id : Int} {v : PHold} (hv : HoldIn v) (hh : HoldsIs w pv n id v false) :
    Calls Try.prog 17 #[pv, .int .i64 n, .int .i64 id] w fun e w' => e = .returned (.int .i64 7) ∧ Below w.heap.size w w' := by
  have HH := Lib.hid hh
  have HV := Lib.hid hv
  clear hh
  go_enter Try.func17, Try.ntmps17
  go_wp2_with (first | (go_at_call 15; refine (HH.out _ (Below.refl _ _)).mono ?_; rintro e w5 ⟨rfl, hb5⟩; have K5 := Lib.hid hb5; clear hb5) | (refine wpList_var rfl rfl 53 rfl _ _ rfl noHold.cells.toArray Try.zeroHold rfl v.cells (fun _ => rfl) (fun _ => rfl) (PHold.len HV.out) v.one ?_; intro g7 w6 n6 h6 k6; have H6 := Lib.hid h6; have K6 := Lib.hid (bthen K5.out k6); have N6 := Lib.hid (Nat.le_trans K5.out.size n6); clear h6 k6 n6; go_frame) | fail)
  go_ret
  exact ⟨rfl, K6.out⟩
set_option linter.unusedSimpArgs false in
set_option maxRecDepth 100000 in
set_option maxHeartbeats 12800000 in
theorem let_proved {w : World} {pv : Value} {n id : Int} {v : PHold} (hv : HoldIn v) (hh : HoldsIs w pv n id v true) (hp : v.proved = true) :
    Calls Try.prog 17 #[pv, .int .i64 n, .int .i64 id] w fun e w' => e = .returned (.int .i64 9) ∧ Below w.heap.size w w' := by
  have HP := Lib.hid hp
  have HH := Lib.hid hh
  have HV := Lib.hid hv
  clear hp
  clear hh
  go_enter Try.func17, Try.ntmps17
  go_wp2_with (first | (go_at_call 15; refine (HH.out _ (Below.refl _ _)).mono ?_; rintro e w5 ⟨rfl, hb5⟩; have K5 := Lib.hid hb5; clear hb5) | (refine wpList_var rfl rfl 53 rfl _ _ rfl noHold.cells.toArray Try.zeroHold rfl v.cells (fun _ => rfl) (fun _ => rfl) (PHold.len HV.out) v.one ?_; intro g7 w6 n6 h6 k6; have H6 := Lib.hid h6; have K6 := Lib.hid (bthen K5.out k6); have N6 := Lib.hid (Nat.le_trans K5.out.size n6); have c40 : w6.cell? ⟨g7, 40, none⟩ = some (.bool true) := (by have h9 := (hold_at HV.out (range_of h6)).proved; rw [Nat.zero_add, HP.out] at h9; exact h9); clear h6 k6 n6; go_frame) | fail)
  go_ret
  exact ⟨rfl, K6.out⟩
set_option linter.unusedSimpArgs false in
set_option maxRecDepth 100000 in
set_option maxHeartbeats 12800000 in
theorem let_ok {B : Nat} {w : World} {pv : Value} {tb hb N : Nat} {ts : List PTE} {hs : List PHE} (h : BoardAt B w pv tb hb N ts hs) (hN : N + 1 ≤ 100) {n id : Int} (f1 : Fits n) (f2 : Fits id) {x : PHE} (hl : lookH n id hs = some x) (hp : x.h.proved = false) :
    Calls Try.prog 17 #[pv, .int .i64 n, .int .i64 id] w fun e w' => CodeOut B w pv tb hb N (.int .i64 0) ts (delK hkey (n, id) hs) e w' := by
  have hh := h.holds_yes hl
  have hv := (h.inv.hin x (lookK_mem hl).1).h
  have HP := Lib.hid hp
  have HH := Lib.hid hh
  have HV := Lib.hid hv
  have HA := Lib.hid h
  obtain ⟨vb, rfl, hvb⟩ := h.has
  have HVB := Lib.hid hvb
  have HD : Hid (∀ W : World, Below w.heap.size w W → ∀ ty, ∃ w', (Builtin.delete_ #[49, 76] ty #[.map (some hb), .agg #[.int .i64 n, .int .i64 id]]).run Try.prog W = .ok (.tuple #[]) w' ∧ (BoardAt B w' (.pointer (some ⟨vb, 0, none⟩)) tb hb (N + 1) ts (delK hkey (n, id) hs) ∧ W.grownBy w' (some hb))) := Lib.hid (fun W hW ty => by
    obtain ⟨w', k1, k2, k3⟩ := (h.below hW).delH hN f1 f2 (by rw [hl]; simp) ty
    exact ⟨w', k1, k2, k3⟩)
  clear h hvb hp hl
  clear hh
  go_enter Try.func17, Try.ntmps17
  go_wp2_with (first | (go_at_call 15; refine (HH.out _ (Below.refl _ _)).mono ?_; rintro e w5 ⟨rfl, hb5⟩; have K5 := Lib.hid hb5; clear hb5) | (refine wpList_var rfl rfl 53 rfl _ _ rfl noHold.cells.toArray Try.zeroHold rfl x.h.cells (fun _ => rfl) (fun _ => rfl) (PHold.len HV.out) x.h.one ?_; intro g7 w6 n6 h6 k6; have H6 := Lib.hid h6; have K6 := Lib.hid (bthen K5.out k6); have N6 := Lib.hid (Nat.le_trans K5.out.size n6); have c40 : w6.cell? ⟨g7, 40, none⟩ = some (.bool false) := (by have h9 := (hold_at HV.out (range_of h6)).proved; rw [Nat.zero_add, HP.out] at h9; exact h9); have c1 := cell_of_row w6 vb 1 _ _ _ (keep (bthen K5.out k6) HVB.out); clear h6 k6 n6; go_frame) | (refine wpList_buildw (by rfl) rfl (vs := [(0, .int .i64 n), (1, .int .i64 id)]) (by rfl) (build_two n id) ?_; go_frame) | (refine wpList_delete10 rfl rfl rfl rfl (HD.out _ K6.out) ?_; rintro w8 ⟨hA8, hg8⟩; have HA8 := Lib.hid hA8; have HG8 := Lib.hid hg8; clear hA8 hg8; go_frame) | fail)
  go_ret
  exact HA.out.wrote K6.out (.inr HG8.out) HA8.out _
end Go.Proofs.Ytijanllppbambaa
