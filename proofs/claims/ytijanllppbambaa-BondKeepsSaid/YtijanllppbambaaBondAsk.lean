/- bond.Ask, case by case. -/
import Derived.Test.YtijanllppbambaaBondOps
namespace Go.Proofs.Ytijanllppbambaa
open Go.RowKit Go.Maps

theorem tow_set_locked {x : PTow} (hr : x.root.length = 32) (z : Int) : x.cells.set 32 (.int .i64 z) = PTow.cells ⟨x.root, z, x.asked, x.at9⟩ := by
  unfold PTow.cells
  rw [List.set_append_right _ _ (by rw [cellsOf_len, hr]; omega), cellsOf_len, hr]
  rfl
theorem tow_set_asked {x : PTow} (hr : x.root.length = 32) (z : Int) : x.cells.set 33 (.int .i64 z) = PTow.cells ⟨x.root, x.locked, z, x.at9⟩ := by
  unfold PTow.cells
  rw [List.set_append_right _ _ (by rw [cellsOf_len, hr]; omega), cellsOf_len, hr]
  rfl
theorem tow_set_at {x : PTow} (hr : x.root.length = 32) (z : Int) : x.cells.set 34 (.int .i64 z) = PTow.cells ⟨x.root, x.locked, x.asked, z⟩ := by
  unfold PTow.cells
  rw [List.set_append_right _ _ (by rw [cellsOf_len, hr]; omega), cellsOf_len, hr]
  rfl
set_option linter.unusedSimpArgs false in
set_option maxRecDepth 100000 in
set_option maxHeartbeats 12800000 in
theorem ask_none {w : World} {pv : Value} {n m z : Int} {v : PTow} (hr : v.root.length = 32) (ht : GetIs w pv n v false) :
    Calls Try.prog 18 #[pv, .int .i64 n, .int .i64 m, .int .i64 z] w fun e w' => e = .returned (.int .i64 21) ∧ Below w.heap.size w w' := by
  have HT := Lib.hid ht
  have HR := Lib.hid hr
  clear ht
  go_enter Try.func18, Try.ntmps18
  go_wp2_with (first | (go_at_call 28; refine (HT.out _ (Below.refl _ _)).mono ?_; rintro e w5 ⟨rfl, hb5⟩; have K5 := Lib.hid hb5; clear hb5) | (refine wpList_var rfl rfl 67 rfl _ _ rfl noTow.cells.toArray Try.zeroTow rfl v.cells (fun _ => rfl) (fun _ => rfl) (PTow.len HR.out) v.one ?_; intro g7 w6 n6 h6 k6; have H6 := Lib.hid h6; have K6 := Lib.hid (bthen K5.out k6); have N6 := Lib.hid (Nat.le_trans K5.out.size n6); clear h6 k6 n6; go_frame) | fail)
  go_ret
  exact ⟨rfl, K6.out⟩
set_option linter.unusedSimpArgs false in
set_option maxRecDepth 100000 in
set_option maxHeartbeats 12800000 in
theorem ask_state {w : World} {pv : Value} {n m z : Int} {v : PTow} (hr : v.root.length = 32) (ht : GetIs w pv n v true) (h1 : 0 < v.asked) :
    Calls Try.prog 18 #[pv, .int .i64 n, .int .i64 m, .int .i64 z] w fun e w' => e = .returned (.int .i64 9) ∧ Below w.heap.size w w' := by
  obtain ⟨a, ha⟩ : ∃ a, a = v.asked := ⟨_, rfl⟩
  have HAS := Lib.hid ha
  rw [← ha] at h1
  have HT := Lib.hid ht
  have HR := Lib.hid hr
  clear ha
  clear ht
  go_enter Try.func18, Try.ntmps18
  go_wp2_with (first | (go_at_call 28; refine (HT.out _ (Below.refl _ _)).mono ?_; rintro e w5 ⟨rfl, hb5⟩; have K5 := Lib.hid hb5; clear hb5) | (refine wpList_var rfl rfl 67 rfl _ _ rfl noTow.cells.toArray Try.zeroTow rfl v.cells (fun _ => rfl) (fun _ => rfl) (PTow.len HR.out) v.one ?_; intro g7 w6 n6 h6 k6; have H6 := Lib.hid h6; have K6 := Lib.hid (bthen K5.out k6); have N6 := Lib.hid (Nat.le_trans K5.out.size n6); have c33 : w6.cell? ⟨g7, 33, none⟩ = some (.int .i64 a) := (by have h9 := (tow_at HR.out (range_of h6)).asked; rw [Nat.zero_add, ← HAS.out] at h9; exact h9); clear h6 k6 n6; go_frame) | fail)
  go_ret
  exact ⟨rfl, K6.out⟩
set_option linter.unusedSimpArgs false in
set_option maxRecDepth 100000 in
set_option maxHeartbeats 12800000 in
theorem ask_bond {w : World} {pv : Value} {n m z F : Int} {v : PTow} (hr : v.root.length = 32) (ht : GetIs w pv n v true) (hf : FreeIs w pv n F) (h1 : ¬ 0 < v.asked) (h2 : m < 1 ∨ F < m) :
    Calls Try.prog 18 #[pv, .int .i64 n, .int .i64 m, .int .i64 z] w fun e w' => e = .returned (.int .i64 20) ∧ Below w.heap.size w w' := by
  obtain ⟨a, ha⟩ : ∃ a, a = v.asked := ⟨_, rfl⟩
  have HAS := Lib.hid ha
  rw [← ha] at h1
  have HF := Lib.hid hf
  have HT := Lib.hid ht
  have HR := Lib.hid hr
  clear ha hf
  clear ht
  by_cases hm : m < 1
  · clear h2
    go_enter Try.func18, Try.ntmps18
    go_wp2_with (first | (go_at_call 28; refine (HT.out _ (Below.refl _ _)).mono ?_; rintro e w5 ⟨rfl, hb5⟩; have K5 := Lib.hid hb5; clear hb5) | (refine wpList_var rfl rfl 67 rfl _ _ rfl noTow.cells.toArray Try.zeroTow rfl v.cells (fun _ => rfl) (fun _ => rfl) (PTow.len HR.out) v.one ?_; intro g7 w6 n6 h6 k6; have H6 := Lib.hid h6; have K6 := Lib.hid (bthen K5.out k6); have N6 := Lib.hid (Nat.le_trans K5.out.size n6); have c33 : w6.cell? ⟨g7, 33, none⟩ = some (.int .i64 a) := (by have h9 := (tow_at HR.out (range_of h6)).asked; rw [Nat.zero_add, ← HAS.out] at h9; exact h9); clear h6 k6 n6; go_frame) | fail)
    go_ret
    exact ⟨rfl, K6.out⟩
  · have h3 : F < m := h2.resolve_left hm
    clear h2
    go_enter Try.func18, Try.ntmps18
    go_wp2_with (first | (go_at_call 28; refine (HT.out _ (Below.refl _ _)).mono ?_; rintro e w5 ⟨rfl, hb5⟩; have K5 := Lib.hid hb5; clear hb5) | (refine wpList_var rfl rfl 67 rfl _ _ rfl noTow.cells.toArray Try.zeroTow rfl v.cells (fun _ => rfl) (fun _ => rfl) (PTow.len HR.out) v.one ?_; intro g7 w6 n6 h6 k6; have H6 := Lib.hid h6; have K6 := Lib.hid (bthen K5.out k6); have N6 := Lib.hid (Nat.le_trans K5.out.size n6); have c33 : w6.cell? ⟨g7, 33, none⟩ = some (.int .i64 a) := (by have h9 := (tow_at HR.out (range_of h6)).asked; rw [Nat.zero_add, ← HAS.out] at h9; exact h9); clear h6 k6 n6; go_frame) | (go_at_call 20; refine (HF.out _ K6.out).mono ?_; rintro e w8 ⟨rfl, hb8⟩; have K8 := Lib.hid (bthen K6.out hb8); clear hb8) | fail)
    go_ret
    exact ⟨rfl, K8.out⟩
set_option linter.unusedSimpArgs false in
set_option maxRecDepth 100000 in
set_option maxHeartbeats 12800000 in
theorem ask_ok {B : Nat} {w : World} {pv : Value} {tb hb N : Nat} {ts : List PTE} {hs : List PHE} (h : BoardAt B w pv tb hb N ts hs) (hN : N + 1 ≤ 100) {n m z : Int} {x : PTE} (hl : lookT n ts = some x) (hz0 : -1099511627776 ≤ z) (hz1 : z ≤ 1099511627776) (h1 : ¬ 0 < x.t.asked) (h2 : ¬ (m < 1 ∨ freeB n ts hs < m)) :
    Calls Try.prog 18 #[pv, .int .i64 n, .int .i64 m, .int .i64 z] w fun e w' => CodeOut B w pv tb hb N (.int .i64 0) (putT n ⟨x.t.root, x.t.locked, m, z⟩ ts) hs e w' := by
  have hi := h.inv.ask hl hz0 hz1 h1 h2
  have hx := h.inv.teIn (lookT_num hl).1
  have fn : Fits n := by have h9 := hx.n; rw [(lookT_num hl).2] at h9; exact h9
  have ht := h.get_yes hl
  have hf := freeIs h fn
  obtain ⟨v, hv⟩ : ∃ v, v = x.t := ⟨_, rfl⟩
  rw [← hv] at h1 hi ht ⊢
  have hr : v.root.length = 32 := by rw [hv]; exact hx.t.root
  obtain ⟨F, hF⟩ : ∃ F, F = freeB n ts hs := ⟨_, rfl⟩
  rw [← hF] at hf h2
  have h3 : ¬ m < 1 := fun e => h2 (.inl e)
  have h4 : ¬ F < m := fun e => h2 (.inr e)
  have HP : Hid (∀ W : World, Below w.heap.size w W → ∃ w', (Instr.mapUpdate 48 (.map (some tb)) (.int .i64 n) (.agg (PTow.cells ⟨v.root, v.locked, m, z⟩).toArray)).run Try.prog W = .ok () w' ∧ BoardAt B w' pv tb hb (N + 1) (putT n ⟨v.root, v.locked, m, z⟩ ts) hs ∧ W.grownBy w' (some tb)) := Lib.hid (fun W hW => (h.below hW).putTow hN fn _ hi)
  obtain ⟨a, ha⟩ : ∃ a, a = v.asked := ⟨_, rfl⟩
  have HAS := Lib.hid ha
  rw [← ha] at h1
  have HF := Lib.hid hf
  have FN := Lib.hid fn
  have HT := Lib.hid ht
  have HR := Lib.hid hr
  have HA := Lib.hid h
  obtain ⟨vb, rfl, hvb⟩ := h.has
  have HVB := Lib.hid hvb
  clear h hvb hl hi hx fn hv hF hf h2 ha hz0 hz1 hN
  clear ht
  generalize putT n ⟨v.root, v.locked, m, z⟩ ts = ts' at HP ⊢
  go_enter Try.func18, Try.ntmps18
  go_upto_region 9 with (first | (go_at_call 28; refine (HT.out _ (Below.refl _ _)).mono ?_; rintro e w5 ⟨rfl, hb5⟩; have K5 := Lib.hid hb5; clear hb5) | (refine wpList_var rfl rfl 67 rfl _ _ rfl noTow.cells.toArray Try.zeroTow rfl v.cells (fun _ => rfl) (fun _ => rfl) (PTow.len HR.out) v.one ?_; intro g7 w6 n6 h6 k6; have H6 := Lib.hid h6; have K6 := Lib.hid (bthen K5.out k6); have N6 := Lib.hid (Nat.le_trans K5.out.size n6); have c33 : w6.cell? ⟨g7, 33, none⟩ = some (.int .i64 a) := (by have h9 := (tow_at HR.out (range_of h6)).asked; rw [Nat.zero_add, ← HAS.out] at h9; exact h9); clear h6 k6 n6; go_frame) | (go_at_call 20; refine (HF.out _ K6.out).mono ?_; rintro e w8 ⟨rfl, hb8⟩; have K8 := Lib.hid (bthen K6.out hb8); have H8 := Lib.hid (keep hb8 H6.out); clear hb8 c33) | (refine wpList_field10 rfl 2 _ _ rfl g7 33 rfl (.int .i64 m) rfl 67 v.cells H8.out (by rw [PTow.len HR.out]; omega) (by kernel_rfl) rfl ?_; intro w10 h10 k10; have H10 : Hid (w10.heap[g7]? = some (.cells (PTow.cells ⟨v.root, v.locked, m, v.at9⟩).toArray 67 (0, 0))) := Lib.hid (by rw [← tow_set_asked HR.out]; exact h10); have K10 := Lib.hid (But.in K8.out k10 N6.out); clear h10 k10; go_frame) | (refine wpList_field10 rfl 3 _ _ rfl g7 34 rfl (.int .i64 z) rfl 67 (PTow.cells ⟨v.root, v.locked, m, v.at9⟩) H10.out (by rw [PTow.len (x := ⟨v.root, v.locked, m, v.at9⟩) HR.out]; omega) (by kernel_rfl) rfl ?_; intro w11 h11 k11; have H11 : Hid (w11.heap[g7]? = some (.cells (PTow.cells ⟨v.root, v.locked, m, z⟩).toArray 67 (0, 0))) := Lib.hid (by rw [← tow_set_at (x := ⟨v.root, v.locked, m, v.at9⟩) HR.out]; exact h11); have K11 := Lib.hid (But.in K10.out k11 N6.out); clear h11 k11; go_frame) | fail)
  obtain ⟨es9, cl9, hmap9⟩ := (HA.out.below K11.out).tMap
  have hv9 := keep K11.out HVB.out
  have CB : Hid (∀ W : World, But w11.heap.size tb w11 W → W.cell? ⟨vb, 0, none⟩ = some (.map (some tb))) := Lib.hid (fun W hW => cell_of_row W vb 0 _ _ _ (hW.heap hv9 (lt_of_block hv9) (ne_of_map hmap9 hv9)))
  have RT : Hid (∀ W : World, But w11.heap.size tb w11 W → W.rangeAt g7 0 (PTow.cells ⟨v.root, v.locked, m, z⟩)) := Lib.hid (fun W hW => by
    have h9 := hW.heap H11.out (lt_of_block H11.out) (ne_of_map hmap9 H11.out)
    exact range_of h9)
  clear hmap9 hv9
  have SZ : Hid ((Try.prog.info? 67).map (·.size) = some (PTow.cells ⟨v.root, v.locked, m, z⟩).length) := Lib.hid (tow_size (x := ⟨v.root, v.locked, m, z⟩) HR.out)
  refine wp_region_held_drew (S := fun w' => But w11.heap.size tb w11 w') (by kernel_rfl) ((But.refl _ _ _).drew) (fun hHeld => ?_)
  refine take_at (i := 0) (v := ?_) rfl rfl (by kernel_rfl) (by kernel_rfl) (by kernel_rfl) (fun _ _ _ h => h) (Or.inl ⟨by rfl, ?_⟩) (by assumption) ?_
  rotate_left
  · intro w0 hSw; (try dsimp only at hSw); first | (go_simp; done) | (go_simp; with_reducible rfl)
  simp only [List.setIfInBounds_toArray, List.set_cons_zero, List.set_cons_succ]
  refine take_at (i := 1) (v := ?_) rfl rfl (by kernel_rfl) (by kernel_rfl) (by kernel_rfl) (fun _ _ _ h => h) (Or.inl ⟨by rfl, ?_⟩) (by assumption) ?_
  rotate_left
  · intro w0 hSw; (try dsimp only at hSw); first | (go_simp; done) | (go_simp; with_reducible rfl)
  simp only [List.setIfInBounds_toArray, List.set_cons_zero, List.set_cons_succ]
  refine take_at (i := 2) (v := ?_) rfl rfl (by kernel_rfl) (by kernel_rfl) (by kernel_rfl) (fun _ _ _ h => h) (Or.inl ⟨by rfl, ?_⟩) (by assumption) ?_
  rotate_left
  · intro w0 hSw; (try dsimp only at hSw); first | (go_simp; done) | (go_simp; with_reducible rfl)
  simp only [List.setIfInBounds_toArray, List.set_cons_zero, List.set_cons_succ]
  refine take_at (i := 3) rfl rfl (by kernel_rfl) (by kernel_rfl) (by kernel_rfl) (fun _ _ _ h => h) (yields_cell (b := vb) (o := 0) (by rfl) rfl rfl (fun w0 hSw => CB.out w0 hSw) (fun w0 => Try.isAgg48 w0)) (by assumption) ?_
  simp only [List.setIfInBounds_toArray, List.set_cons_zero, List.set_cons_succ]
  refine take_at (i := 4) (v := ?_) rfl rfl (by kernel_rfl) (by kernel_rfl) (by kernel_rfl) (fun _ _ _ h => h) (Or.inl ⟨by rfl, ?_⟩) (by assumption) ?_
  rotate_left
  · intro w0 hSw; (try dsimp only at hSw); first | (go_simp; done) | (go_simp; with_reducible rfl)
  simp only [List.setIfInBounds_toArray, List.set_cons_zero, List.set_cons_succ]
  refine take_at (i := 5) rfl rfl (by kernel_rfl) (by kernel_rfl) (by kernel_rfl) (fun _ _ _ h => h) (yieldsIf_load_mid (by rfl) _ _ rfl g7 0 rfl (PTow.cells ⟨v.root, v.locked, m, z⟩) _ (fun w0 hSw => RT.out w0 hSw) Try.underlying67 rfl SZ.out) (by assumption) ?_
  simp only [List.setIfInBounds_toArray, List.set_cons_zero, List.set_cons_succ]
  refine wpAnyH_ready (rs := [6]) (by kernel_rfl) (by simp) ?_
  refine AllReadyH.cons rfl (fun K hK => ?_) ?_
  · obtain ⟨w12, hr12, hA12, hg12⟩ := HP.out _ (bthen K11.out (below_drew (Below.refl _ _)))
    refine step_mapUpdate10 (by rfl) rfl (by rfl) (by rfl) (by rfl) hr12 ?_
    have HA12 := Lib.hid hA12
    have HG12 := Lib.hid hg12
    clear hr12 hA12 hg12
    refine hK.out _ _ (by (try dsimp only); exact hHeld.trans (but_of_grown HG12.out)) (fun hHeld => ?_)
    clear hK K
    refine wpAnyH_done (by kernel_rfl) ?_ _
    go_wp2_with fail
    go_ret
    exact HA.out.wrote (bthen K11.out (below_drew (Below.refl _ _))) (.inl HG12.out) HA12.out _
  exact AllReadyH.nil
end Go.Proofs.Ytijanllppbambaa
