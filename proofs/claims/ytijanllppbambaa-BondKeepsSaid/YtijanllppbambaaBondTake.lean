/- bond.Take, case by case. -/
import Derived.Test.YtijanllppbambaaBondAsk
namespace Go.Proofs.Ytijanllppbambaa
open Go.RowKit Go.Maps

set_option linter.unusedSimpArgs false in
set_option maxRecDepth 100000 in
set_option maxHeartbeats 12800000 in
theorem take_none {w : World} {pv : Value} {n z : Int} {v : PTow} (hr : v.root.length = 32) (ht : GetIs w pv n v false) :
    Calls Try.prog 13 #[pv, .int .i64 n, .int .i64 z] w fun e w' => e = .returned (.tuple #[.int .i64 0, .int .i64 21]) ∧ Below w.heap.size w w' := by
  have HT := Lib.hid ht
  have HR := Lib.hid hr
  clear ht
  go_enter Try.func13, Try.ntmps13
  go_wp2_with (first | (go_at_call 28; refine (HT.out _ (Below.refl _ _)).mono ?_; rintro e w5 ⟨rfl, hb5⟩; have K5 := Lib.hid hb5; clear hb5) | (refine wpList_var rfl rfl 67 rfl _ _ rfl noTow.cells.toArray Try.zeroTow rfl v.cells (fun _ => rfl) (fun _ => rfl) (PTow.len HR.out) v.one ?_; intro g7 w6 n6 h6 k6; have H6 := Lib.hid h6; have K6 := Lib.hid (bthen K5.out k6); have N6 := Lib.hid (Nat.le_trans K5.out.size n6); clear h6 k6 n6; go_frame) | fail)
  go_ret2
  exact ⟨rfl, K6.out⟩
set_option linter.unusedSimpArgs false in
set_option maxRecDepth 100000 in
set_option maxHeartbeats 12800000 in
theorem take_zero {w : World} {pv : Value} {n z : Int} {v : PTow} (hr : v.root.length = 32) (ht : GetIs w pv n v true) (h1 : v.asked = 0) :
    Calls Try.prog 13 #[pv, .int .i64 n, .int .i64 z] w fun e w' => e = .returned (.tuple #[.int .i64 0, .int .i64 7]) ∧ Below w.heap.size w w' := by
  have HAS := Lib.hid h1
  have HT := Lib.hid ht
  have HR := Lib.hid hr
  clear h1
  clear ht
  go_enter Try.func13, Try.ntmps13
  go_wp2_with (first | (go_at_call 28; refine (HT.out _ (Below.refl _ _)).mono ?_; rintro e w5 ⟨rfl, hb5⟩; have K5 := Lib.hid hb5; clear hb5) | (refine wpList_var rfl rfl 67 rfl _ _ rfl noTow.cells.toArray Try.zeroTow rfl v.cells (fun _ => rfl) (fun _ => rfl) (PTow.len HR.out) v.one ?_; intro g7 w6 n6 h6 k6; have H6 := Lib.hid h6; have K6 := Lib.hid (bthen K5.out k6); have N6 := Lib.hid (Nat.le_trans K5.out.size n6); have c33 : w6.cell? ⟨g7, 33, none⟩ = some (.int .i64 0) := (by have h9 := (tow_at HR.out (range_of h6)).asked; rw [Nat.zero_add, HAS.out] at h9; exact h9); clear h6 k6 n6; go_frame) | fail)
  go_ret2
  exact ⟨rfl, K6.out⟩
set_option linter.unusedSimpArgs false in
set_option maxRecDepth 100000 in
set_option maxHeartbeats 12800000 in
theorem take_early {w : World} {pv : Value} {n z : Int} {v : PTow} (hr : v.root.length = 32) (ht : GetIs w pv n v true) (h1 : ¬ v.asked = 0) (hz0 : -1099511627776 ≤ z) (hz1 : z ≤ 1099511627776) (ht0 : -1099511627776 ≤ v.at9) (ht1 : v.at9 ≤ 1099511627776) (h2 : z - v.at9 < 12) :
    Calls Try.prog 13 #[pv, .int .i64 n, .int .i64 z] w fun e w' => e = .returned (.tuple #[.int .i64 0, .int .i64 17]) ∧ Below w.heap.size w w' := by
  obtain ⟨a, ha⟩ : ∃ a, a = v.asked := ⟨_, rfl⟩
  obtain ⟨l, hlk⟩ : ∃ l, l = v.locked := ⟨_, rfl⟩
  obtain ⟨t, ht9⟩ : ∃ t, t = v.at9 := ⟨_, rfl⟩
  have HAS := Lib.hid ha
  have HLK := Lib.hid hlk
  have HTT := Lib.hid ht9
  rw [← ha] at h1
  rw [← ht9] at ht0 ht1 h2
  have iw : IntKind.i64.wrap (z - t) = z - t := IntWalk.i64_in _ (by omega)
  have HT := Lib.hid ht
  have HR := Lib.hid hr
  clear ha hlk ht9
  clear ht
  go_enter Try.func13, Try.ntmps13
  go_wp2_with (first | (go_at_call 28; refine (HT.out _ (Below.refl _ _)).mono ?_; rintro e w5 ⟨rfl, hb5⟩; have K5 := Lib.hid hb5; clear hb5) | (refine wpList_var rfl rfl 67 rfl _ _ rfl noTow.cells.toArray Try.zeroTow rfl v.cells (fun _ => rfl) (fun _ => rfl) (PTow.len HR.out) v.one ?_; intro g7 w6 n6 h6 k6; have H6 := Lib.hid h6; have K6 := Lib.hid (bthen K5.out k6); have N6 := Lib.hid (Nat.le_trans K5.out.size n6); have c33 : w6.cell? ⟨g7, 33, none⟩ = some (.int .i64 a) := (by have h9 := (tow_at HR.out (range_of h6)).asked; rw [Nat.zero_add, ← HAS.out] at h9; exact h9); have c34 : w6.cell? ⟨g7, 34, none⟩ = some (.int .i64 t) := (by have h9 := (tow_at HR.out (range_of h6)).at9; rw [Nat.zero_add, ← HTT.out] at h9; exact h9); clear h6 k6 n6; go_frame) | fail)
  go_ret2
  exact ⟨rfl, K6.out⟩
set_option linter.unusedSimpArgs false in
set_option maxRecDepth 100000 in
set_option maxHeartbeats 12800000 in
theorem take_ok {B : Nat} {w : World} {pv : Value} {tb hb N : Nat} {ts : List PTE} {hs : List PHE} (h : BoardAt B w pv tb hb N ts hs) (hN : N + 1 ≤ 100) {n z : Int} {x : PTE} (hl : lookT n ts = some x) (hz0 : -1099511627776 ≤ z) (hz1 : z ≤ 1099511627776) (h1 : ¬ x.t.asked = 0) (h2 : ¬ z - x.t.at9 < 12) :
    Calls Try.prog 13 #[pv, .int .i64 n, .int .i64 z] w fun e w' => CodeOut B w pv tb hb N (.tuple #[.int .i64 x.t.asked, .int .i64 0]) (putT n ⟨x.t.root, x.t.locked - x.t.asked, 0, 0⟩ ts) hs e w' := by
  have hi := h.inv.take hl
  have hx := h.inv.teIn (lookT_num hl).1
  have hx2 := h.inv.ta x (lookT_num hl).1
  have hx3 := h.inv.locked0 (lookT_num hl).1
  have hx4 := h.inv.lockedMax (lookT_num hl).1
  have hx5 := h.inv.tl x (lookT_num hl).1
  have hx6 := h.inv.held0 x.n
  have fn : Fits n := by have h9 := hx.n; rw [(lookT_num hl).2] at h9; exact h9
  have ht := h.get_yes hl
  obtain ⟨v, hv⟩ : ∃ v, v = x.t := ⟨_, rfl⟩
  rw [← hv] at h1 h2 hi ht hx2 hx3 hx4 hx5 ⊢
  have hr : v.root.length = 32 := by rw [hv]; exact hx.t.root
  obtain ⟨a, ha⟩ : ∃ a, a = v.asked := ⟨_, rfl⟩
  obtain ⟨l, hlk⟩ : ∃ l, l = v.locked := ⟨_, rfl⟩
  obtain ⟨t, ht9⟩ : ∃ t, t = v.at9 := ⟨_, rfl⟩
  have HAS := Lib.hid ha
  have HLK := Lib.hid hlk
  have HTT := Lib.hid ht9
  rw [← ha, ← hlk] at hi ⊢
  rw [← ha] at h1 hx2 hx5
  rw [← hlk] at hx3 hx4 hx5
  rw [← ht9] at h2 hx2
  have iw : IntKind.i64.wrap (z - t) = z - t := IntWalk.i64_in _ (by omega)
  have iw2 : IntKind.i64.wrap (l - a) = l - a := IntWalk.i64_in _ (by omega)
  have HP : Hid (∀ W : World, Below w.heap.size w W → ∃ w', (Instr.mapUpdate 48 (.map (some tb)) (.int .i64 n) (.agg (PTow.cells ⟨v.root, l - a, 0, 0⟩).toArray)).run Try.prog W = .ok () w' ∧ BoardAt B w' pv tb hb (N + 1) (putT n ⟨v.root, l - a, 0, 0⟩ ts) hs ∧ W.grownBy w' (some tb)) := Lib.hid (fun W hW => (h.below hW).putTow hN fn _ hi)
  have HT := Lib.hid ht
  have HR := Lib.hid hr
  have HA := Lib.hid h
  obtain ⟨vb, rfl, hvb⟩ := h.has
  have HVB := Lib.hid hvb
  clear h hvb hl hi hx hx2 hx3 hx4 hx5 hx6 fn hv ha hlk ht9 hz0 hz1 hN
  clear ht
  generalize putT n ⟨v.root, l - a, 0, 0⟩ ts = ts' at HP ⊢
  go_enter Try.func13, Try.ntmps13
  go_upto_region 8 with (first | (go_at_call 28; refine (HT.out _ (Below.refl _ _)).mono ?_; rintro e w5 ⟨rfl, hb5⟩; have K5 := Lib.hid hb5; clear hb5) | (refine wpList_var rfl rfl 67 rfl _ _ rfl noTow.cells.toArray Try.zeroTow rfl v.cells (fun _ => rfl) (fun _ => rfl) (PTow.len HR.out) v.one ?_; intro g7 w6 n6 h6 k6; have H6 := Lib.hid h6; have K6 := Lib.hid (bthen K5.out k6); have N6 := Lib.hid (Nat.le_trans K5.out.size n6); have c33 : w6.cell? ⟨g7, 33, none⟩ = some (.int .i64 a) := (by have h9 := (tow_at HR.out (range_of h6)).asked; rw [Nat.zero_add, ← HAS.out] at h9; exact h9); have c34 : w6.cell? ⟨g7, 34, none⟩ = some (.int .i64 t) := (by have h9 := (tow_at HR.out (range_of h6)).at9; rw [Nat.zero_add, ← HTT.out] at h9; exact h9); clear h6 k6 n6; go_frame) | fail)
  clear c33 c34
  obtain ⟨es9, cl9, hmap9⟩ := (HA.out.below K6.out).tMap
  have hv9 := keep K6.out HVB.out
  have CB : Hid (∀ W : World, But w6.heap.size tb w6 W → W.cell? ⟨vb, 0, none⟩ = some (.map (some tb))) := Lib.hid (fun W hW => cell_of_row W vb 0 _ _ _ (hW.heap hv9 (lt_of_block hv9) (ne_of_map hmap9 hv9)))
  have RV : Hid (∀ W : World, But w6.heap.size tb w6 W → TowAt W g7 0 v) := Lib.hid (fun W hW => by
    have h9 := hW.heap H6.out (lt_of_block H6.out) (ne_of_map hmap9 H6.out)
    exact tow_at HR.out (range_of h9))
  clear hmap9 hv9
  have C32 : Hid (∀ W : World, But w6.heap.size tb w6 W → W.cell? ⟨g7, 32, none⟩ = some (.int .i64 l)) := Lib.hid (fun W hW => by have h9 := (RV.out W hW).locked; rw [Nat.zero_add, ← HLK.out] at h9; exact h9)
  have C33 : Hid (∀ W : World, But w6.heap.size tb w6 W → W.cell? ⟨g7, 33, none⟩ = some (.int .i64 a)) := Lib.hid (fun W hW => by have h9 := (RV.out W hW).asked; rw [Nat.zero_add, ← HAS.out] at h9; exact h9)
  have SZ := Lib.hid (sum_size HR.out)
  refine wp_region_held_drew (S := fun w' => But w6.heap.size tb w6 w') (by kernel_rfl) ((But.refl _ _ _).drew) (fun hHeld => ?_)
  refine take_at (i := 0) (v := ?_) rfl rfl (by kernel_rfl) (by kernel_rfl) (by kernel_rfl) (fun _ _ _ h => h) (Or.inl ⟨by rfl, ?_⟩) (by assumption) ?_
  rotate_left
  · intro w0 hSw; (try dsimp only at hSw); first | (go_simp; done) | (go_simp; with_reducible rfl)
  simp only [List.setIfInBounds_toArray, List.set_cons_zero, List.set_cons_succ]
  refine take_at (i := 1) (v := ?_) rfl rfl (by kernel_rfl) (by kernel_rfl) (by kernel_rfl) (fun _ _ _ h => h) (Or.inl ⟨by rfl, ?_⟩) (by assumption) ?_
  rotate_left
  · intro w0 hSw; (try dsimp only at hSw); first | (go_simp; done) | (go_simp; with_reducible rfl)
  simp only [List.setIfInBounds_toArray, List.set_cons_zero, List.set_cons_succ]
  refine take_at (i := 2) (v := ?_) rfl rfl (by kernel_rfl) (by kernel_rfl) (by kernel_rfl) (fun _ _ _ h => h) (Or.inl ⟨by rfl, ?_⟩) (by assumption) ?_
  rotate_left
  · intro w0 hSw; (try dsimp only at hSw); first | (go_simp; done) | (go_simp; with_reducible rfl)
  simp only [List.setIfInBounds_toArray, List.set_cons_zero, List.set_cons_succ]
  refine take_at (i := 3) rfl rfl (by kernel_rfl) (by kernel_rfl) (by kernel_rfl) (fun _ _ _ h => h) (yields_cell (b := vb) (o := 0) (by rfl) rfl rfl (fun w0 hSw => CB.out w0 hSw) (fun w0 => Try.isAgg48 w0)) (by assumption) ?_
  simp only [List.setIfInBounds_toArray, List.set_cons_zero, List.set_cons_succ]
  refine take_at (i := 4) (v := ?_) rfl rfl (by kernel_rfl) (by kernel_rfl) (by kernel_rfl) (fun _ _ _ h => h) (Or.inl ⟨by rfl, ?_⟩) (by assumption) ?_
  rotate_left
  · intro w0 hSw; (try dsimp only at hSw); first | (go_simp; done) | (go_simp; with_reducible rfl)
  simp only [List.setIfInBounds_toArray, List.set_cons_zero, List.set_cons_succ]
  refine take_at (i := 5) (v := ?_) rfl rfl (by kernel_rfl) (by kernel_rfl) (by kernel_rfl) (fun _ _ _ h => h) (Or.inl ⟨by rfl, ?_⟩) (by assumption) ?_
  rotate_left
  · intro w0 hSw; (try dsimp only at hSw); first | (go_simp; done) | (go_simp; with_reducible rfl)
  simp only [List.setIfInBounds_toArray, List.set_cons_zero, List.set_cons_succ]
  refine take_at (i := 6) rfl rfl (by kernel_rfl) (by kernel_rfl) (by kernel_rfl) (fun _ _ _ h => h) (yieldsIf_load_mid (by rfl) _ _ rfl g7 0 rfl (cellsOf v.root) _ (fun w0 hSw => (RV.out w0 hSw).root) Try.underlying31 rfl SZ.out) (by assumption) ?_
  simp only [List.setIfInBounds_toArray, List.set_cons_zero, List.set_cons_succ]
  refine take_at (i := 7) (v := ?_) rfl rfl (by kernel_rfl) (by kernel_rfl) (by kernel_rfl) (fun _ _ _ h => h) (Or.inl ⟨by rfl, ?_⟩) (by assumption) ?_
  rotate_left
  · intro w0 hSw; (try dsimp only at hSw); first | (go_simp; done) | (go_simp; with_reducible rfl)
  simp only [List.setIfInBounds_toArray, List.set_cons_zero, List.set_cons_succ]
  refine take_at (i := 8) rfl rfl (by kernel_rfl) (by kernel_rfl) (by kernel_rfl) (fun _ _ _ h => h) (yields_cell (b := g7) (o := 32) (by rfl) rfl rfl (fun w0 hSw => C32.out w0 hSw) (fun w0 => Try.isAgg2 w0)) (by assumption) ?_
  simp only [List.setIfInBounds_toArray, List.set_cons_zero, List.set_cons_succ]
  refine take_at (i := 9) (v := ?_) rfl rfl (by kernel_rfl) (by kernel_rfl) (by kernel_rfl) (fun _ _ _ h => h) (Or.inl ⟨by rfl, ?_⟩) (by assumption) ?_
  rotate_left
  · intro w0 hSw; (try dsimp only at hSw); first | (go_simp; done) | (go_simp; with_reducible rfl)
  simp only [List.setIfInBounds_toArray, List.set_cons_zero, List.set_cons_succ]
  refine take_at (i := 10) rfl rfl (by kernel_rfl) (by kernel_rfl) (by kernel_rfl) (fun _ _ _ h => h) (yields_cell (b := g7) (o := 33) (by rfl) rfl rfl (fun w0 hSw => C33.out w0 hSw) (fun w0 => Try.isAgg2 w0)) (by assumption) ?_
  simp only [List.setIfInBounds_toArray, List.set_cons_zero, List.set_cons_succ]
  refine take_at (i := 11) (v := ?_) rfl rfl (by kernel_rfl) (by kernel_rfl) (by kernel_rfl) (fun _ _ _ h => h) (Or.inl ⟨by rfl, ?_⟩) (by assumption) ?_
  rotate_left
  · intro w0 hSw; (try dsimp only at hSw); first | (go_simp; done) | (go_simp; with_reducible rfl)
  simp only [List.setIfInBounds_toArray, List.set_cons_zero, List.set_cons_succ]
  refine take_at (i := 12) rfl rfl (by kernel_rfl) (by kernel_rfl) (by kernel_rfl) (fun _ _ _ h => h) (yields_build10 (by rfl) rfl (vs := [(0, .agg (cellsOf v.root).toArray), (1, .int .i64 (l - a))]) (by rfl) (build_tow2 HR.out _)) (by assumption) ?_
  simp only [List.setIfInBounds_toArray, List.set_cons_zero, List.set_cons_succ]
  refine wpAnyH_ready (rs := [13]) (by kernel_rfl) (by simp) ?_
  refine AllReadyH.cons rfl (fun K hK => ?_) ?_
  · obtain ⟨w12, hr12, hA12, hg12⟩ := HP.out _ (bthen K6.out (below_drew (Below.refl _ _)))
    refine step_mapUpdate10 (by rfl) rfl (by rfl) (by rfl) (by rfl) hr12 ?_
    have HA12 := Lib.hid hA12
    have HG12 := Lib.hid hg12
    clear hr12 hA12 hg12
    refine hK.out _ _ (by (try dsimp only); exact hHeld.trans (but_of_grown HG12.out)) (fun hHeld => ?_)
    clear hK K
    refine wpAnyH_done (by kernel_rfl) ?_ _
    have c33 := C33.out w12 (by assumption)
    go_wp2_with fail
    go_ret2
    exact HA.out.wrote (bthen K6.out (below_drew (Below.refl _ _))) (.inl HG12.out) HA12.out _
  exact AllReadyH.nil
end Go.Proofs.Ytijanllppbambaa
