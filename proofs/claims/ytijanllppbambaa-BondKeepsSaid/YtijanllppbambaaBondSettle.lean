/- bond.Settle, case by case. -/
import Derived.Test.YtijanllppbambaaBondAsk
namespace Go.Proofs.Ytijanllppbambaa
open Go.RowKit Go.Maps

set_option linter.unusedSimpArgs false in
set_option maxRecDepth 100000 in
set_option maxHeartbeats 12800000 in
theorem settle_none {w : World} {pv : Value} {n id z : Int} {v : PHold} (hv : HoldIn v) (hh : HoldsIs w pv n id v false) :
    Calls Try.prog 14 #[pv, .int .i64 n, .int .i64 id, .int .i64 z] w fun e w' => e = .returned (.tuple #[.int .i64 0, .int .i64 7]) ∧ Below w.heap.size w w' := by
  have HH := Lib.hid hh
  have HV := Lib.hid hv
  clear hh
  go_enter Try.func14, Try.ntmps14
  go_wp2_with (first | (go_at_call 15; refine (HH.out _ (Below.refl _ _)).mono ?_; rintro e w5 ⟨rfl, hb5⟩; have K5 := Lib.hid hb5; clear hb5) | (refine wpList_var rfl rfl 53 rfl _ _ rfl noHold.cells.toArray Try.zeroHold rfl v.cells (fun _ => rfl) (fun _ => rfl) (PHold.len HV.out) v.one ?_; intro g7 w6 n6 h6 k6; have H6 := Lib.hid h6; have K6 := Lib.hid (bthen K5.out k6); have N6 := Lib.hid (Nat.le_trans K5.out.size n6); clear h6 k6 n6; go_frame) | fail)
  go_ret2
  exact ⟨rfl, K6.out⟩
set_option linter.unusedSimpArgs false in
set_option maxRecDepth 100000 in
set_option maxHeartbeats 12800000 in
theorem settle_wait {w : World} {pv : Value} {n id z : Int} {v : PHold} (hv : HoldIn v) (hh : HoldsIs w pv n id v true) (hp : v.proved = false) :
    Calls Try.prog 14 #[pv, .int .i64 n, .int .i64 id, .int .i64 z] w fun e w' => e = .returned (.tuple #[.int .i64 0, .int .i64 7]) ∧ Below w.heap.size w w' := by
  have HP := Lib.hid hp
  have HH := Lib.hid hh
  have HV := Lib.hid hv
  clear hp
  clear hh
  go_enter Try.func14, Try.ntmps14
  go_wp2_with (first | (go_at_call 15; refine (HH.out _ (Below.refl _ _)).mono ?_; rintro e w5 ⟨rfl, hb5⟩; have K5 := Lib.hid hb5; clear hb5) | (refine wpList_var rfl rfl 53 rfl _ _ rfl noHold.cells.toArray Try.zeroHold rfl v.cells (fun _ => rfl) (fun _ => rfl) (PHold.len HV.out) v.one ?_; intro g7 w6 n6 h6 k6; have H6 := Lib.hid h6; have K6 := Lib.hid (bthen K5.out k6); have N6 := Lib.hid (Nat.le_trans K5.out.size n6); have c40 : w6.cell? ⟨g7, 40, none⟩ = some (.bool false) := (by have h9 := (hold_at HV.out (range_of h6)).proved; rw [Nat.zero_add, HP.out] at h9; exact h9); clear h6 k6 n6; go_frame) | fail)
  go_ret2
  exact ⟨rfl, K6.out⟩
set_option linter.unusedSimpArgs false in
set_option maxRecDepth 100000 in
set_option maxHeartbeats 12800000 in
theorem settle_early {w : World} {pv : Value} {n id z : Int} {v : PHold} (hv : HoldIn v) (hh : HoldsIs w pv n id v true) (hp : v.proved = true) (hz0 : -1099511627776 ≤ z) (hz1 : z ≤ 1099511627776) (ht0 : -1099511627776 ≤ v.at9) (ht1 : v.at9 ≤ 1099511627776) (h2 : z - v.at9 < 3) :
    Calls Try.prog 14 #[pv, .int .i64 n, .int .i64 id, .int .i64 z] w fun e w' => e = .returned (.tuple #[.int .i64 0, .int .i64 17]) ∧ Below w.heap.size w w' := by
  have HP := Lib.hid hp
  obtain ⟨t, ht9⟩ : ∃ t, t = v.at9 := ⟨_, rfl⟩
  have HTT := Lib.hid ht9
  rw [← ht9] at ht0 ht1 h2
  have iw : IntKind.i64.wrap (z - t) = z - t := IntWalk.i64_in _ (by omega)
  have HH := Lib.hid hh
  have HV := Lib.hid hv
  clear hp ht9
  clear hh
  go_enter Try.func14, Try.ntmps14
  go_wp2_with (first | (go_at_call 15; refine (HH.out _ (Below.refl _ _)).mono ?_; rintro e w5 ⟨rfl, hb5⟩; have K5 := Lib.hid hb5; clear hb5) | (refine wpList_var rfl rfl 53 rfl _ _ rfl noHold.cells.toArray Try.zeroHold rfl v.cells (fun _ => rfl) (fun _ => rfl) (PHold.len HV.out) v.one ?_; intro g7 w6 n6 h6 k6; have H6 := Lib.hid h6; have K6 := Lib.hid (bthen K5.out k6); have N6 := Lib.hid (Nat.le_trans K5.out.size n6); have c40 : w6.cell? ⟨g7, 40, none⟩ = some (.bool true) := (by have h9 := (hold_at HV.out (range_of h6)).proved; rw [Nat.zero_add, HP.out] at h9; exact h9); have c41 : w6.cell? ⟨g7, 41, none⟩ = some (.int .i64 t) := (by have h9 := (hold_at HV.out (range_of h6)).at9; rw [Nat.zero_add, ← HTT.out] at h9; exact h9); clear h6 k6 n6; go_frame) | fail)
  go_ret2
  exact ⟨rfl, K6.out⟩
set_option linter.unusedSimpArgs false in
set_option maxRecDepth 100000 in
set_option maxHeartbeats 12800000 in
theorem settle_ok {B : Nat} {w : World} {pv : Value} {tb hb N : Nat} {ts : List PTE} {hs : List PHE} (h : BoardAt B w pv tb hb N ts hs) (hN : N + 1 ≤ 100) {n id z : Int} (f1 : Fits n) (f2 : Fits id) {x : PHE} (hl : lookH n id hs = some x) {y : PTE} (hy : lookT n ts = some y) (hz0 : -1099511627776 ≤ z) (hz1 : z ≤ 1099511627776) (hp : x.h.proved = true) (h2 : ¬ z - x.h.at9 < 3) :
    Calls Try.prog 14 #[pv, .int .i64 n, .int .i64 id, .int .i64 z] w fun e w' => CodeOut B w pv tb hb N (.tuple #[.int .i64 x.h.amount, .int .i64 0]) (putT n ⟨y.t.root, y.t.locked - x.h.amount, y.t.asked, y.t.at9⟩ ts) (delK hkey (n, id) hs) e w' := by
  have hh := h.holds_yes hl
  have hi := h.inv.settle hl hy
  have hx := h.inv.ha x (lookK_mem hl).1
  have hxm := h.inv.amountMax (lookK_mem hl).1
  have hyl0 := h.inv.locked0 (lookT_num hy).1
  have hylm := h.inv.lockedMax (lookT_num hy).1
  have hr0 := h.inv.tr y (lookT_num hy).1
  have hv0 := (h.inv.hin x (lookK_mem hl).1).h
  obtain ⟨v, hvx⟩ : ∃ v, v = x.h := ⟨_, rfl⟩
  obtain ⟨u, hu⟩ : ∃ u, u = y.t := ⟨_, rfl⟩
  have HLK : Hid (∀ W : World, Below w.heap.size w W → (Instr.lookup 48 (.map (some tb)) (.int .i64 n) false).run Try.prog W = .ok (.agg u.cells.toArray) W) := Lib.hid (fun W hW => by
    obtain ⟨k, _, hm⟩ := (h.below hW).mt
    have h8 := hm.get (x := ⟨n, f1⟩) (e := 67) Try.underlying48 (z := .agg noTow.cells.toArray) (by obtain ⟨ie, i1, i2, _, _⟩ := info_parts Try.zeroTow; simp [zeroValue, typeInfo, i1, i2])
    have h7 : towF ts ⟨n, f1⟩ = some (.agg u.cells.toArray) := by unfold towF; rw [hy, hu]; rfl
    rw [h7] at h8
    exact h8)
  rw [← hvx] at hh hi hx hxm hv0 hp h2 ⊢
  rw [← hu] at hi hyl0 hylm hr0 ⊢
  have hv : HoldIn v := hv0
  have HP := Lib.hid hp
  have HR := Lib.hid hr0
  obtain ⟨t, ht9⟩ : ∃ t, t = v.at9 := ⟨_, rfl⟩
  have HTT := Lib.hid ht9
  obtain ⟨a, ham⟩ : ∃ a, a = v.amount := ⟨_, rfl⟩
  obtain ⟨l, hlk⟩ : ∃ l, l = u.locked := ⟨_, rfl⟩
  have HAM := Lib.hid ham
  have HLL := Lib.hid hlk
  rw [← ham] at hi hx hxm ⊢
  rw [← hlk] at hi hyl0 hylm ⊢
  rw [← ht9] at h2 hx
  have iw : IntKind.i64.wrap (z - t) = z - t := IntWalk.i64_in _ (by omega)
  have iw2 : IntKind.i64.wrap (l - a) = l - a := IntWalk.i64_in _ (by omega)
  have HPP : Hid (∀ W : World, Below w.heap.size w W → ∃ w1, (Instr.mapUpdate 48 (.map (some tb)) (.int .i64 n) (.agg (PTow.cells ⟨u.root, l - a, u.asked, u.at9⟩).toArray)).run Try.prog W = .ok () w1 ∧ (∀ (w2 : World), Below w1.heap.size w1 w2 → ∀ ty, ∃ w', (Builtin.delete_ #[49, 76] ty #[.map (some hb), .agg #[.int .i64 n, .int .i64 id]]).run Try.prog w2 = .ok (.tuple #[]) w' ∧ (BoardAt B w' pv tb hb (N + 1) (putT n ⟨u.root, l - a, u.asked, u.at9⟩ ts) (delK hkey (n, id) hs) ∧ w2.grownBy w' (some hb))) ∧ W.grownBy w1 (some tb)) := Lib.hid (fun W hW => by
    obtain ⟨w1, k1, k2, k3⟩ := (h.below hW).pay hN f1 f2 (by rw [hl]; simp) hi
    exact ⟨w1, k1, fun w2 hW2 ty => k3 w2 ty hW2, k2⟩)
  have HH := Lib.hid hh
  have HV := Lib.hid hv
  have HA := Lib.hid h
  obtain ⟨vb, rfl, hvb⟩ := h.has
  have HVB := Lib.hid hvb
  clear h hvb hp hl hy hi hx hxm hyl0 hylm hr0 hv0 hvx hu f1 f2 hz0 hz1 hN hv ht9 ham hlk
  clear hh
  generalize putT n ⟨u.root, l - a, u.asked, u.at9⟩ ts = ts' at HPP ⊢
  generalize delK hkey (n, id) hs = hs' at HPP ⊢
  go_enter Try.func14, Try.ntmps14
  go_upto_region 8 with (first | (go_at_call 15; refine (HH.out _ (Below.refl _ _)).mono ?_; rintro e w5 ⟨rfl, hb5⟩; have K5 := Lib.hid hb5; clear hb5) | (refine wpList_var rfl rfl 53 rfl _ _ rfl noHold.cells.toArray Try.zeroHold rfl v.cells (fun _ => rfl) (fun _ => rfl) (PHold.len HV.out) v.one ?_; intro g7 w6 n6 h6 k6; have H6 := Lib.hid h6; have K6 := Lib.hid (bthen K5.out k6); have N6 := Lib.hid (Nat.le_trans K5.out.size n6); have c40 : w6.cell? ⟨g7, 40, none⟩ = some (.bool true) := (by have h9 := (hold_at HV.out (range_of h6)).proved; rw [Nat.zero_add, HP.out] at h9; exact h9); have c41 : w6.cell? ⟨g7, 41, none⟩ = some (.int .i64 t) := (by have h9 := (hold_at HV.out (range_of h6)).at9; rw [Nat.zero_add, ← HTT.out] at h9; exact h9); have c0 := cell_of_row w6 vb 0 _ _ _ (keep (bthen K5.out k6) HVB.out); clear h6 k6 n6; go_frame) | (refine wpList_look10 rfl rfl rfl rfl (HLK.out w6 K6.out) ?_; go_frame) | (refine wpList_var rfl rfl 67 rfl _ _ rfl noTow.cells.toArray Try.zeroTow rfl u.cells (fun _ => rfl) (fun _ => rfl) (PTow.len HR.out) u.one ?_; intro g9 w13 n13 h13 k13; have H13 := Lib.hid h13; have K13 := Lib.hid (bthen K6.out k13); have N13 := Lib.hid (Nat.le_trans K6.out.size n13); have H613 := Lib.hid (keep k13 H6.out); have L13 := Lib.hid (show g7 ≠ g9 by have := lt_of_block H6.out; omega); have c32 : w13.cell? ⟨g9, 32, none⟩ = some (.int .i64 l) := (by have h9 := (tow_at HR.out (range_of h13)).locked; rw [Nat.zero_add, ← HLL.out] at h9; exact h9); have c39 : w13.cell? ⟨g7, 39, none⟩ = some (.int .i64 a) := (by have h9 := (hold_at HV.out (range_of (keep k13 H6.out))).amount; rw [Nat.zero_add, ← HAM.out] at h9; exact h9); clear h13 k13 n13 c40 c41 c0; go_frame) | (refine wpList_field10 rfl 2 _ _ rfl g9 32 rfl (.int .i64 (l - a)) rfl 67 u.cells H13.out (by rw [PTow.len HR.out]; omega) (by kernel_rfl) rfl ?_; intro w14 h14 k14; have H14 : Hid (w14.heap[g9]? = some (.cells (PTow.cells ⟨u.root, l - a, u.asked, u.at9⟩).toArray 67 (0, 0))) := Lib.hid (by rw [← tow_set_locked HR.out]; exact h14); have K14 := Lib.hid (But.in K13.out k14 N13.out); have H714 := Lib.hid (k14.heap H613.out (lt_of_block H613.out) L13.out); clear h14 k14 c32 c39; go_frame) | fail)
  obtain ⟨es9, cl9, hmap9⟩ := (HA.out.below K14.out).tMap
  have hv9 := keep K14.out HVB.out
  have CB : Hid (∀ W : World, But w14.heap.size tb w14 W → W.cell? ⟨vb, 0, none⟩ = some (.map (some tb))) := Lib.hid (fun W hW => cell_of_row W vb 0 _ _ _ (hW.heap hv9 (lt_of_block hv9) (ne_of_map hmap9 hv9)))
  have RT : Hid (∀ W : World, But w14.heap.size tb w14 W → W.rangeAt g9 0 (PTow.cells ⟨u.root, l - a, u.asked, u.at9⟩)) := Lib.hid (fun W hW => by
    have h9 := hW.heap H14.out (lt_of_block H14.out) (ne_of_map hmap9 H14.out)
    exact range_of h9)
  have RH : Hid (∀ W : World, But w14.heap.size tb w14 W → W.heap[g7]? = some (.cells v.cells.toArray 53 (0, 0))) := Lib.hid (fun W hW => by
    have h9 := hW.heap H714.out (lt_of_block H714.out) (ne_of_map hmap9 H714.out)
    exact h9)
  have RB : Hid (∀ W : World, But w14.heap.size tb w14 W → W.heap[vb]? = some (.cells #[.map (some tb), .map (some hb)] 51 (0, 0))) := Lib.hid (fun W hW => by
    have h9 := hW.heap (keep K14.out HVB.out) (lt_of_block (keep K14.out HVB.out)) (ne_of_map hmap9 (keep K14.out HVB.out))
    exact h9)
  clear hmap9 hv9
  have SZ : Hid ((Try.prog.info? 67).map (·.size) = some (PTow.cells ⟨u.root, l - a, u.asked, u.at9⟩).length) := Lib.hid (tow_size (x := ⟨u.root, l - a, u.asked, u.at9⟩) HR.out)
  refine wp_region_held_drew (S := fun w' => But w14.heap.size tb w14 w') (by kernel_rfl) ((But.refl _ _ _).drew) (fun hHeld => ?_)
  refine take_at (i := 0) (v := ?_) rfl rfl (by kernel_rfl) (by kernel_rfl) (by kernel_rfl) (fun _ _ _ h => h) (Or.inl ⟨by rfl, ?_⟩) (by assumption) ?_
  rotate_left
  · intro w0 hSw; (try dsimp only at hSw); first | (go_simp; done) | (go_simp; with_reducible rfl)
  simp only [List.setIfInBounds_toArray, List.set_cons_zero, List.set_cons_succ]
  refine take_at (i := 1) (v := ?_) rfl rfl (by kernel_rfl) (by kernel_rfl) (by kernel_rfl) (fun _ _ _ h => h) (Or.inl ⟨by rfl, ?_⟩) (by assumption) ?_
  rotate_left
  · intro w0 hSw; (try dsimp only at hSw); first | (go_simp; done) | (go_simp; with_reducible rfl)
  simp only [List.setIfInBounds_toArray, List.set_cons_zero, List.set_cons_succ]
  refine take_at (i := 2) (v := ?_) rfl rfl (by kernel_rfl) (by kernel_rfl) (by kernel_rfl) (fun _ _ _ h => h) (Or.inl ⟨by rfl, ?_⟩) (by assumption) ?_
  rotate_left
  · intro w0 hSw; (try dsimp only at hSw); first | (go_simp; done) | (go_simp; with_reducible rfl)
  simp only [List.setIfInBounds_toArray, List.set_cons_zero, List.set_cons_succ]
  refine take_at (i := 3) rfl rfl (by kernel_rfl) (by kernel_rfl) (by kernel_rfl) (fun _ _ _ h => h) (yields_cell (b := vb) (o := 0) (by rfl) rfl rfl (fun w0 hSw => CB.out w0 hSw) (fun w0 => Try.isAgg48 w0)) (by assumption) ?_
  simp only [List.setIfInBounds_toArray, List.set_cons_zero, List.set_cons_succ]
  refine take_at (i := 4) (v := ?_) rfl rfl (by kernel_rfl) (by kernel_rfl) (by kernel_rfl) (fun _ _ _ h => h) (Or.inl ⟨by rfl, ?_⟩) (by assumption) ?_
  rotate_left
  · intro w0 hSw; (try dsimp only at hSw); first | (go_simp; done) | (go_simp; with_reducible rfl)
  simp only [List.setIfInBounds_toArray, List.set_cons_zero, List.set_cons_succ]
  refine take_at (i := 5) rfl rfl (by kernel_rfl) (by kernel_rfl) (by kernel_rfl) (fun _ _ _ h => h) (yieldsIf_load_mid (by rfl) _ _ rfl g9 0 rfl (PTow.cells ⟨u.root, l - a, u.asked, u.at9⟩) _ (fun w0 hSw => RT.out w0 hSw) Try.underlying67 rfl SZ.out) (by assumption) ?_
  simp only [List.setIfInBounds_toArray, List.set_cons_zero, List.set_cons_succ]
  refine wpAnyH_ready (rs := [6]) (by kernel_rfl) (by simp) ?_
  refine AllReadyH.cons rfl (fun K hK => ?_) ?_
  · obtain ⟨w12, hr12, hA12, hg12⟩ := HPP.out _ (bthen K14.out (below_drew (Below.refl _ _)))
    refine step_mapUpdate10 (by rfl) rfl (by rfl) (by rfl) (by rfl) hr12 ?_
    have HA12 := Lib.hid hA12
    have HG12 := Lib.hid hg12
    clear hr12 hA12 hg12
    refine hK.out _ _ (by (try dsimp only); exact hHeld.trans (but_of_grown HG12.out)) (fun hHeld => ?_)
    clear hK K
    refine wpAnyH_done (by kernel_rfl) ?_ _
    have hB12 : But w14.heap.size tb w14 w12 := by assumption
    have RB12 := Lib.hid (RB.out _ hB12)
    have RH12 := Lib.hid (RH.out _ hB12)
    have MB : Hid (∃ es cl, w12.heap[hb]? = some (.map es cl)) := Lib.hid (by
      obtain ⟨es, cl, hm⟩ := (HA.out.below K14.out).hMap
      exact ⟨es, cl, hB12.heap hm (lt_of_block hm) (fun e => HA.out.ne e.symm)⟩)
    have c1 := cell_of_row w12 vb 1 _ _ _ RB12.out
    clear hB12
    go_wp2_with (first | (refine wpList_buildw (by rfl) rfl (vs := [(0, .int .i64 n), (1, .int .i64 id)]) (by rfl) (build_two n id) ?_; go_frame) | (refine wpList_delete10 rfl rfl rfl rfl (HA12.out _ (Below.refl _ _)) ?_; rintro w16 ⟨hA16, hg16⟩; have HA16 := Lib.hid hA16; have HG16 := Lib.hid hg16; have c39 : w16.cell? ⟨g7, 39, none⟩ = some (.int .i64 a) := (by obtain ⟨es, cl, hm⟩ := MB.out; have h8 := (hg16.block g7 (lt_of_block RH12.out) (fun e => by have e2 := Option.some.inj e; have h7 := RH12.out; rw [e2, hm] at h7; cases h7)).trans RH12.out; have h9 := (hold_at HV.out (range_of h8)).amount; rw [Nat.zero_add, ← HAM.out] at h9; exact h9); clear hA16 hg16 c1; go_frame) | fail)
    go_ret2
    exact HA.out.wrote2 (bthen K14.out (below_drew (Below.refl _ _))) HG12.out (Below.refl _ _) HG16.out HA16.out _
  exact AllReadyH.nil
end Go.Proofs.Ytijanllppbambaa
