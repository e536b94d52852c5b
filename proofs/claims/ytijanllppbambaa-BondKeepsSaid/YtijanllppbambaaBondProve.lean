/- bond.Prove, case by case. -/
import Derived.Test.YtijanllppbambaaBondOps
namespace Go.Proofs.Ytijanllppbambaa
open Go.RowKit Go.Maps

theorem hold_set_proved {x : PHold} (hx : x.ch.ftx.length = 32) (b : Bool) : x.cells.set 40 (.bool b) = PHold.cells ⟨x.ch, x.amount, b, x.at9, x.commit⟩ := by
  unfold PHold.cells
  rw [List.set_append_right _ _ (by rw [PChan.len hx]; omega), PChan.len hx]
  rfl
theorem hold_set_at {x : PHold} (hx : x.ch.ftx.length = 32) (z : Int) : x.cells.set 41 (.int .i64 z) = PHold.cells ⟨x.ch, x.amount, x.proved, z, x.commit⟩ := by
  unfold PHold.cells
  rw [List.set_append_right _ _ (by rw [PChan.len hx]; omega), PChan.len hx]
  rfl
theorem hold_parts (x : PHold) : x.cells = (x.ch.cells ++ [.int .i64 x.amount, .bool x.proved, .int .i64 x.at9]) ++ (cellsOf x.commit ++ []) := by simp [PHold.cells]
set_option linter.unusedSimpArgs false in
set_option maxRecDepth 100000 in
set_option maxHeartbeats 12800000 in
theorem prove_none {w : World} {pv : Value} {n id z : Int} {sm : List UInt8} {v : PHold} (hv : HoldIn v) (hh : HoldsIs w pv n id v false) :
    Calls Try.prog 19 #[pv, .int .i64 n, .int .i64 id, .int .i64 z, .agg (cellsOf sm).toArray] w fun e w' => e = .returned (.int .i64 7) ∧ Below w.heap.size w w' := by
  have HH := Lib.hid hh
  have HV := Lib.hid hv
  clear hh
  go_enter Try.func19, Try.ntmps19
  go_wp2_with (first | (refine wpList_box10 rfl 31 _ rfl (cellsOf sm).toArray rfl ?_; intro g3 w3 n3 h3 k3; have H3 := Lib.hid h3; have K3 := Lib.hid k3; have N3 := Lib.hid n3; clear h3 k3 n3; go_frame) | (go_at_call 15; refine (HH.out _ K3.out).mono ?_; rintro e w5 ⟨rfl, hb5⟩; have K5 := Lib.hid (bthen K3.out hb5); have H35 := Lib.hid (keep hb5 H3.out); clear hb5) | (refine wpList_var rfl rfl 53 rfl _ _ rfl noHold.cells.toArray Try.zeroHold rfl v.cells (fun _ => rfl) (fun _ => rfl) (PHold.len HV.out) v.one ?_; intro g7 w6 n6 h6 k6; have H6 := Lib.hid h6; have K6 := Lib.hid (bthen K5.out k6); have H36 := Lib.hid (keep k6 H35.out); have N6 := Lib.hid (Nat.le_trans K5.out.size n6); have L6 := Lib.hid (show g3 ≠ g7 by have := lt_of_block H35.out; omega); clear h6 k6 n6; go_frame) | fail)
  go_ret
  exact ⟨rfl, K6.out⟩
set_option linter.unusedSimpArgs false in
set_option maxRecDepth 100000 in
set_option maxHeartbeats 12800000 in
theorem prove_proved {w : World} {pv : Value} {n id z : Int} {sm : List UInt8} {v : PHold} (hv : HoldIn v) (hh : HoldsIs w pv n id v true) (hp : v.proved = true) :
    Calls Try.prog 19 #[pv, .int .i64 n, .int .i64 id, .int .i64 z, .agg (cellsOf sm).toArray] w fun e w' => e = .returned (.int .i64 9) ∧ Below w.heap.size w w' := by
  have HP := Lib.hid hp
  have HH := Lib.hid hh
  have HV := Lib.hid hv
  clear hp
  clear hh
  go_enter Try.func19, Try.ntmps19
  go_wp2_with (first | (refine wpList_box10 rfl 31 _ rfl (cellsOf sm).toArray rfl ?_; intro g3 w3 n3 h3 k3; have H3 := Lib.hid h3; have K3 := Lib.hid k3; have N3 := Lib.hid n3; clear h3 k3 n3; go_frame) | (go_at_call 15; refine (HH.out _ K3.out).mono ?_; rintro e w5 ⟨rfl, hb5⟩; have K5 := Lib.hid (bthen K3.out hb5); have H35 := Lib.hid (keep hb5 H3.out); clear hb5) | (refine wpList_var rfl rfl 53 rfl _ _ rfl noHold.cells.toArray Try.zeroHold rfl v.cells (fun _ => rfl) (fun _ => rfl) (PHold.len HV.out) v.one ?_; intro g7 w6 n6 h6 k6; have H6 := Lib.hid h6; have K6 := Lib.hid (bthen K5.out k6); have H36 := Lib.hid (keep k6 H35.out); have N6 := Lib.hid (Nat.le_trans K5.out.size n6); have L6 := Lib.hid (show g3 ≠ g7 by have := lt_of_block H35.out; omega); have c40 : w6.cell? ⟨g7, 40, none⟩ = some (.bool true) := (by have h9 := (hold_at HV.out (range_of h6)).proved; rw [Nat.zero_add, HP.out] at h9; exact h9); clear h6 k6 n6; go_frame) | fail)
  go_ret
  exact ⟨rfl, K6.out⟩
set_option linter.unusedSimpArgs false in
set_option maxRecDepth 100000 in
set_option maxHeartbeats 12800000 in
theorem prove_ok {B : Nat} {w : World} {pv : Value} {tb hb N : Nat} {ts : List PTE} {hs : List PHE} (h : BoardAt B w pv tb hb N ts hs) (hN : N + 1 ≤ 100) {n id z : Int} {sm : List UInt8} (hs9 : sm.length = 32) (f1 : Fits n) (f2 : Fits id) {x : PHE} (hl : lookH n id hs = some x) (hz0 : -1099511627776 ≤ z) (hz1 : z ≤ 1099511627776) (hp : x.h.proved = false) :
    Calls Try.prog 19 #[pv, .int .i64 n, .int .i64 id, .int .i64 z, .agg (cellsOf sm).toArray] w fun e w' => CodeOut B w pv tb hb N (.int .i64 0) ts (setK hkey (n, id) ⟨n, ⟨x.h.ch, x.h.amount, true, z, sm⟩⟩ hs) e w' := by
  have hh := h.holds_yes hl
  have hi := h.inv.prove hl hz0 hz1 hs9
  have hid : x.h.ch.id = id := congrArg Prod.snd (lookK_mem hl).2
  have hv0 := (h.inv.hin x (lookK_mem hl).1).h
  obtain ⟨v, hvx⟩ : ∃ v, v = x.h := ⟨_, rfl⟩
  rw [← hvx] at hh hi hid hv0 hp ⊢
  have hv : HoldIn v := hv0
  have HP := Lib.hid hp
  have HS := Lib.hid hs9
  have HZ : Hid (Fits z) := Lib.hid (by constructor <;> omega)
  have HPP : Hid (∀ W : World, Below w.heap.size w W → ∃ w', (Instr.mapUpdate 49 (.map (some hb)) (.agg #[.int .i64 n, .int .i64 id]) (.agg (PHold.cells ⟨v.ch, v.amount, true, z, sm⟩).toArray)).run Try.prog W = .ok () w' ∧ BoardAt B w' pv tb hb (N + 1) ts (setK hkey (n, id) ⟨n, ⟨v.ch, v.amount, true, z, sm⟩⟩ hs) ∧ W.grownBy w' (some hb)) := Lib.hid (fun W hW => (h.below hW).setH hN f1 f2 hid (by rw [hl]; simp) hi)
  have HH := Lib.hid hh
  have HV := Lib.hid hv
  have HA := Lib.hid h
  obtain ⟨vb, rfl, hvb⟩ := h.has
  have HVB := Lib.hid hvb
  clear h hvb hp hl hi hid hv0 hvx hs9 f1 f2 hz0 hz1 hN hv
  clear hh
  generalize setK hkey (n, id) ⟨n, ⟨v.ch, v.amount, true, z, sm⟩⟩ hs = hs' at HPP ⊢
  go_enter Try.func19, Try.ntmps19
  go_upto_region 6 with (first | (refine wpList_box10 rfl 31 _ rfl (cellsOf sm).toArray rfl ?_; intro g3 w3 n3 h3 k3; have H3 := Lib.hid h3; have K3 := Lib.hid k3; have N3 := Lib.hid n3; clear h3 k3 n3; go_frame) | (go_at_call 15; refine (HH.out _ K3.out).mono ?_; rintro e w5 ⟨rfl, hb5⟩; have K5 := Lib.hid (bthen K3.out hb5); have H35 := Lib.hid (keep hb5 H3.out); clear hb5) | (refine wpList_var rfl rfl 53 rfl _ _ rfl noHold.cells.toArray Try.zeroHold rfl v.cells (fun _ => rfl) (fun _ => rfl) (PHold.len HV.out) v.one ?_; intro g7 w6 n6 h6 k6; have H6 := Lib.hid h6; have K6 := Lib.hid (bthen K5.out k6); have H36 := Lib.hid (keep k6 H35.out); have N6 := Lib.hid (Nat.le_trans K5.out.size n6); have L6 := Lib.hid (show g3 ≠ g7 by have := lt_of_block H35.out; omega); have c40 : w6.cell? ⟨g7, 40, none⟩ = some (.bool false) := (by have h9 := (hold_at HV.out (range_of h6)).proved; rw [Nat.zero_add, HP.out] at h9; exact h9); clear h6 k6 n6; go_frame) | fail)
  clear c40
  have RS : Hid (∀ W : World, But w6.heap.size g7 w6 W → W.rangeAt g3 0 (cellsOf sm)) := Lib.hid (fun W hW => range_of (hW.heap H36.out (lt_of_block H36.out) L6.out))
  have SZ := Lib.hid (sum_size HS.out)
  refine wp_region_held_drew (S := fun w' => But w6.heap.size g7 w6 w') (by kernel_rfl) ((But.refl _ _ _).drew) (fun hHeld => ?_)
  refine take_at (i := 0) (v := ?_) rfl rfl (by kernel_rfl) (by kernel_rfl) (by kernel_rfl) (fun _ _ _ h => h) (Or.inl ⟨by rfl, ?_⟩) (by assumption) ?_
  rotate_left
  · intro w0 hSw; (try dsimp only at hSw); first | (go_simp; done) | (go_simp; with_reducible rfl)
  simp only [List.setIfInBounds_toArray, List.set_cons_zero, List.set_cons_succ]
  refine take_at (i := 1) rfl rfl (by kernel_rfl) (by kernel_rfl) (by kernel_rfl) (fun _ _ _ h => h) (yieldsIf_load_mid (by rfl) _ _ rfl g3 0 rfl (cellsOf sm) _ (fun w0 hSw => RS.out w0 hSw) Try.underlying31 rfl SZ.out) (by assumption) ?_
  simp only [List.setIfInBounds_toArray, List.set_cons_zero, List.set_cons_succ]
  refine take_at (i := 2) (v := ?_) rfl rfl (by kernel_rfl) (by kernel_rfl) (by kernel_rfl) (fun _ _ _ h => h) (Or.inl ⟨by rfl, ?_⟩) (by assumption) ?_
  rotate_left
  · intro w0 hSw; (try dsimp only at hSw); first | (go_simp; done) | (go_simp; with_reducible rfl)
  simp only [List.setIfInBounds_toArray, List.set_cons_zero, List.set_cons_succ]
  refine wpAnyH_ready (rs := [3]) (by kernel_rfl) (by simp) ?_
  refine AllReadyH.cons rfl (fun K hK => ?_) ?_
  · refine step_field10 (by rfl) 4 _ _ rfl g7 40 (by rfl) (.bool true) (by rfl) 53 v.cells H6.out (by rw [PHold.len HV.out]; omega) (by kernel_rfl) rfl ?_
    intro w8 h8 k8
    have H8 : Hid (w8.heap[g7]? = some (.cells (PHold.cells ⟨v.ch, v.amount, true, v.at9, v.commit⟩).toArray 53 (0, 0))) := Lib.hid (by rw [← hold_set_proved HV.out.ch.ftx]; exact h8)
    have K8 := Lib.hid (hHeld.trans k8)
    clear h8 k8
    refine hK.out _ _ (by (try dsimp only); exact K8.out) (fun hHeld => ?_)
    clear hK K
    refine take_at (i := 4) (v := ?_) rfl rfl (by kernel_rfl) (by kernel_rfl) (by kernel_rfl) (fun _ _ _ h => h) (Or.inl ⟨by rfl, ?_⟩) (by assumption) ?_
    rotate_left
    · intro w0 hSw; (try dsimp only at hSw); first | (go_simp; done) | (go_simp; with_reducible rfl)
    simp only [List.setIfInBounds_toArray, List.set_cons_zero, List.set_cons_succ]
    refine wpAnyH_ready (rs := [5]) (by kernel_rfl) (by simp) ?_
    refine AllReadyH.cons rfl (fun K hK => ?_) ?_
    · refine step_field10 (by rfl) 3 _ _ rfl g7 41 (by rfl) (.int .i64 z) (by rfl) 53 (PHold.cells ⟨v.ch, v.amount, true, v.at9, v.commit⟩) H8.out (by rw [PHold.len (x := ⟨v.ch, v.amount, true, v.at9, v.commit⟩) ⟨HV.out.ch, HV.out.amount, HV.out.at9, HV.out.commit⟩]; omega) (by kernel_rfl) rfl ?_
      intro w9 h9 k9
      have H9 : Hid (w9.heap[g7]? = some (.cells (PHold.cells ⟨v.ch, v.amount, true, z, v.commit⟩).toArray 53 (0, 0))) := Lib.hid (by rw [← hold_set_at (x := ⟨v.ch, v.amount, true, v.at9, v.commit⟩) HV.out.ch.ftx]; exact h9)
      have K9 := Lib.hid (K8.out.trans (k9.mono K8.out.size))
      clear h9 k9
      refine hK.out _ _ (by (try dsimp only); exact K9.out) (fun hHeld => ?_)
      clear hK K
      refine take_at (i := 6) (v := ?_) rfl rfl (by kernel_rfl) (by kernel_rfl) (by kernel_rfl) (fun _ _ _ h => h) (Or.inl ⟨by rfl, ?_⟩) (by assumption) ?_
      rotate_left
      · intro w0 hSw; (try dsimp only at hSw); first | (go_simp; done) | (go_simp; with_reducible rfl)
      simp only [List.setIfInBounds_toArray, List.set_cons_zero, List.set_cons_succ]
      refine wpAnyH_ready (rs := [7]) (by kernel_rfl) (by simp) ?_
      refine AllReadyH.cons rfl (fun K hK => ?_) ?_
      · refine step_part10 (by rfl) 31 _ _ rfl g7 42 (by rfl) (cellsOf sm) (by rfl) 53 (v.ch.cells ++ [.int .i64 v.amount, .bool true, .int .i64 z]) (cellsOf v.commit) [] (by have h9 := H9.out; rw [hold_parts] at h9; exact h9) (by simp [PChan.len HV.out.ch.ftx]) (by rw [cellsOf_len, cellsOf_len, HV.out.commit, HS.out]) (sum_size HS.out) (cellsOf_one _) ?_
        intro w10 h10 k10
        have H10 : Hid (w10.heap[g7]? = some (.cells (PHold.cells ⟨v.ch, v.amount, true, z, sm⟩).toArray 53 (0, 0))) := Lib.hid (by rw [hold_parts]; exact h10)
        have K10 := Lib.hid (K9.out.trans (k10.mono K9.out.size))
        clear h10 k10
        refine hK.out _ _ (by (try dsimp only); exact K10.out) (fun hHeld => ?_)
        clear hK K
        refine wpAnyH_done (by kernel_rfl) ?_ _
        try simp only [Act.put]
        have KA := Lib.hid (But.in K6.out K10.out N6.out)
        go_upto_region 7 with (fail)
        obtain ⟨es9, cl9, hmap9⟩ := (HA.out.below KA.out).hMap
        have hv9 := keep KA.out HVB.out
        have CB : Hid (∀ W : World, But w10.heap.size hb w10 W → W.cell? ⟨vb, 1, none⟩ = some (.map (some hb))) := Lib.hid (fun W hW => cell_of_row W vb 1 _ _ _ (hW.heap hv9 (lt_of_block hv9) (ne_of_map hmap9 hv9)))
        have RT : Hid (∀ W : World, But w10.heap.size hb w10 W → W.rangeAt g7 0 (PHold.cells ⟨v.ch, v.amount, true, z, sm⟩)) := Lib.hid (fun W hW => by
          have h9 := hW.heap H10.out (lt_of_block H10.out) (ne_of_map hmap9 H10.out)
          exact range_of h9)
        clear hmap9 hv9
        have SZ2 : Hid ((Try.prog.info? 53).map (·.size) = some (PHold.cells ⟨v.ch, v.amount, true, z, sm⟩).length) := Lib.hid (hold_size (x := ⟨v.ch, v.amount, true, z, sm⟩) ⟨HV.out.ch, HV.out.amount, HZ.out, HS.out⟩)
        refine wp_region_held_drew (S := fun w' => But w10.heap.size hb w10 w') (by kernel_rfl) ((But.refl _ _ _).drew) (fun hHeld => ?_)
        refine take_at (i := 0) (v := ?_) rfl rfl (by kernel_rfl) (by kernel_rfl) (by kernel_rfl) (fun _ _ _ h => h) (Or.inl ⟨by rfl, ?_⟩) (by assumption) ?_
        rotate_left
        · intro w0 hSw; (try dsimp only at hSw); first | (go_simp; done) | (go_simp; with_reducible rfl)
        simp only [List.setIfInBounds_toArray, List.set_cons_zero, List.set_cons_succ]
        refine take_at (i := 1) (v := ?_) rfl rfl (by kernel_rfl) (by kernel_rfl) (by kernel_rfl) (fun _ _ _ h => h) (Or.inl ⟨by rfl, ?_⟩) (by assumption) ?_
        rotate_left
        · intro w0 hSw; (try dsimp only at hSw); first | (go_simp; done) | (go_simp; with_reducible rfl)
        simp only [List.setIfInBounds_toArray, List.set_cons_zero, List.set_cons_succ]
        refine take_at (i := 2) (v := ?_) rfl rfl (by kernel_rfl) (by kernel_rfl) (by kernel_rfl) (fun _ _ _ h => h) (Or.inl ⟨by rfl, ?_⟩) (by assumption) ?_
        rotate_left
        · intro w0 hSw; (try dsimp only at hSw); first | (go_simp; done) | (go_simp; with_reducible rfl)
        simp only [List.setIfInBounds_toArray, List.set_cons_zero, List.set_cons_succ]
        refine take_at (i := 3) rfl rfl (by kernel_rfl) (by kernel_rfl) (by kernel_rfl) (fun _ _ _ h => h) (yields_cell (b := vb) (o := 1) (by rfl) rfl rfl (fun w0 hSw => CB.out w0 hSw) (fun w0 => Try.isAgg49 w0)) (by assumption) ?_
        simp only [List.setIfInBounds_toArray, List.set_cons_zero, List.set_cons_succ]
        refine take_at (i := 4) (v := ?_) rfl rfl (by kernel_rfl) (by kernel_rfl) (by kernel_rfl) (fun _ _ _ h => h) (Or.inl ⟨by rfl, ?_⟩) (by assumption) ?_
        rotate_left
        · intro w0 hSw; (try dsimp only at hSw); first | (go_simp; done) | (go_simp; with_reducible rfl)
        simp only [List.setIfInBounds_toArray, List.set_cons_zero, List.set_cons_succ]
        refine take_at (i := 5) (v := ?_) rfl rfl (by kernel_rfl) (by kernel_rfl) (by kernel_rfl) (fun _ _ _ h => h) (Or.inl ⟨by rfl, ?_⟩) (by assumption) ?_
        rotate_left
        · intro w0 hSw; (try dsimp only at hSw); first | (go_simp; done) | (go_simp; with_reducible rfl)
        simp only [List.setIfInBounds_toArray, List.set_cons_zero, List.set_cons_succ]
        refine take_at (i := 6) rfl rfl (by kernel_rfl) (by kernel_rfl) (by kernel_rfl) (fun _ _ _ h => h) (yields_build10 (by rfl) rfl (vs := [(0, .int .i64 n), (1, .int .i64 id)]) (by rfl) (build_two n id)) (by assumption) ?_
        simp only [List.setIfInBounds_toArray, List.set_cons_zero, List.set_cons_succ]
        refine take_at (i := 7) rfl rfl (by kernel_rfl) (by kernel_rfl) (by kernel_rfl) (fun _ _ _ h => h) (yieldsIf_load_mid (by rfl) _ _ rfl g7 0 rfl (PHold.cells ⟨v.ch, v.amount, true, z, sm⟩) _ (fun w0 hSw => RT.out w0 hSw) Try.underlying53 rfl SZ2.out) (by assumption) ?_
        simp only [List.setIfInBounds_toArray, List.set_cons_zero, List.set_cons_succ]
        refine wpAnyH_ready (rs := [8]) (by kernel_rfl) (by simp) ?_
        refine AllReadyH.cons rfl (fun K hK => ?_) ?_
        · obtain ⟨w12, hr12, hA12, hg12⟩ := HPP.out _ (bthen KA.out (below_drew (Below.refl _ _)))
          refine step_mapUpdate10 (by rfl) rfl (by rfl) (by rfl) (by rfl) hr12 ?_
          have HA12 := Lib.hid hA12
          have HG12 := Lib.hid hg12
          clear hr12 hA12 hg12
          refine hK.out _ _ (by (try dsimp only); exact hHeld.trans (but_of_grown HG12.out)) (fun hHeld => ?_)
          clear hK K
          refine wpAnyH_done (by kernel_rfl) ?_ _
          go_wp2_with fail
          go_ret
          exact HA.out.wrote (bthen KA.out (below_drew (Below.refl _ _))) (.inr HG12.out) HA12.out _
        exact AllReadyH.nil
      exact AllReadyH.nil
    exact AllReadyH.nil
  exact AllReadyH.nil
end Go.Proofs.Ytijanllppbambaa
