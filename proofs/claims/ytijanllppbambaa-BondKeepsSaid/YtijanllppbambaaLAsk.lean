/- The law's ask: Ask, or Take. -/
import Derived.Test.YtijanllppbambaaLawCall
import Derived.Test.YtijanllppbambaaBondTake
namespace Go.Proofs.Ytijanllppbambaa
open Go.RowKit Go.Maps

set_option linter.unusedSimpArgs false in
set_option maxRecDepth 100000 in
set_option maxHeartbeats 12800000 in
theorem lask_none {B : Nat} {w : World} {p : Value} {pb N : Nat} {ts : List PTE} {hs : List PHE} {k n m z : Int} {s : List UInt8} {c : PChan} (h : PlainAt B w p pb N ts hs) (hN : N + 1 ≤ 100) (ho : CallIn ⟨k, n, m, s, c, z⟩) (hl : lookT n ts = none) :
    Calls Try.prog 25 #[p, .agg (PCall.cells ⟨k, n, m, s, c, z⟩).toArray] w fun e w' => PlainOut B w p pb N (.tuple #[.int .i64 0, .int .i64 21]) ts hs e w' := by
  have HO := Lib.hid ho
  have HA := Lib.hid h
  have HN := Lib.hid hN
  have hat := at_none h hl
  have HAT := Lib.hid hat
  clear h hN ho hl hat
  go_enter Try.func25, Try.ntmps25
  go_wp2_with (first | (refine wpList_box10 rfl 37 _ rfl (PCall.cells ⟨k, n, m, s, c, z⟩).toArray rfl ?_; intro g3 w3 n3 h3 k3; have H3 := Lib.hid h3; have K3 := Lib.hid k3; have c1 : w3.cell? ⟨g3, 1, none⟩ = some (.int .i64 n) := (by have h9 := (call_cells HO.out h3).2.1; exact h9); clear h3 k3 n3; go_frame) | (go_at_call 36; refine (HAT.out _ K3.out).mono ?_; rintro e w4 ⟨rfl, rfl⟩) | fail)
  go_ret2
  exact HA.out.same HN.out K3.out _
set_option linter.unusedSimpArgs false in
set_option maxRecDepth 100000 in
set_option maxHeartbeats 12800000 in
theorem lask_state {B : Nat} {w : World} {p : Value} {pb N : Nat} {ts : List PTE} {hs : List PHE} {k n m z : Int} {s : List UInt8} {c : PChan} (h : PlainAt B w p pb N ts hs) (hN : N + 1 ≤ 100) (ho : CallIn ⟨k, n, m, s, c, z⟩) (hk : k = 4) {x : PTE} (hl : lookT n ts = some x) (h1 : 0 < x.t.asked) :
    Calls Try.prog 25 #[p, .agg (PCall.cells ⟨k, n, m, s, c, z⟩).toArray] w fun e w' => PlainOut B w p pb N (.tuple #[.int .i64 0, .int .i64 9]) ts hs e w' := by
  have HO := Lib.hid ho
  have HA := Lib.hid h
  have HN := Lib.hid hN
  obtain ⟨j, hj, hat, hjx⟩ := at_some h hl
  have HAT := Lib.hid hat
  obtain ⟨v, hv⟩ : ∃ v, v = x.t := ⟨_, rfl⟩
  have HR : Hid (v.root.length = 32) := Lib.hid (by rw [hv]; exact h.inv.tr x (lookT_num hl).1)
  have hxin := h.inv.towIn (lookT_num hl).1
  have hxta := h.inv.ta x (lookT_num hl).1
  have hxl0 := h.inv.locked0 (lookT_num hl).1
  have hxlm := h.inv.lockedMax (lookT_num hl).1
  have hxtl := h.inv.tl x (lookT_num hl).1
  have hxh := h.inv.held0 x.n
  rw [← hv] at hxin hxta hxl0 hxlm hxtl
  obtain ⟨a1, c1', a2, c2', hp, s1, s2, o1, o2⟩ := h.read
  have hpis := h.is
  subst hpis
  have HP := Lib.hid hp
  have hn63 := s1.len63
  have hnc : (ts.length : Int) ≤ (c1' : Int) := by have h2 := s1.2.1; omega
  have hc63 : (c1' : Int) ≤ 9223372036854775807 := by have h2 := s1.2.2.1; unfold maxLen at h2; omega
  have f1 : (j : Int) < (ts.length : Int) := by omega
  have f0 : (0 : Int) ≤ (j : Int) := by omega
  have ft : ((j : Int)).toNat = j := by omega
  obtain ⟨b9, o9, e9, hlt, hcc⟩ := s1.2.2.2.2.2 (by omega)
  have rx := hcc j hj
  rw [hjx] at rx
  subst e9
  have RE : Hid (∀ W : World, Below w.heap.size w W → W.rangeAt b9 (o9 + j * 36) x.cells) := Lib.hid (fun W hW => rangeAt_below rx hlt hW)
  have RT : Hid (∀ W : World, Below w.heap.size w W → W.rangeAt b9 (o9 + j * 36 + 1) v.cells) := Lib.hid (fun W hW => by rw [hv]; exact (range_cons (RE.out W hW)).2)
  obtain ⟨L, hL⟩ : ∃ L, L = ts.length := ⟨_, rfl⟩
  rw [← hL] at HP hn63 hnc f1
  obtain ⟨a, ha⟩ : ∃ a, a = v.asked := ⟨_, rfl⟩
  obtain ⟨l, hlk⟩ : ∃ l, l = v.locked := ⟨_, rfl⟩
  obtain ⟨t, ht9⟩ : ∃ t, t = v.at9 := ⟨_, rfl⟩
  have HAS := Lib.hid ha
  have HLK := Lib.hid hlk
  have HTT := Lib.hid ht9
  have f2 : ¬ ((j : Int) < 0) := by omega
  rw [← hv, ← ha] at h1
  clear h hN ho hl hat hj hjx hv hp s1 s2 o1 o2 hlt hcc rx hL ha hlk ht9 hxin hxta hxl0 hxlm hxtl hxh
  have HK := Lib.hid hk
  clear hk
  go_enter Try.func25, Try.ntmps25
  go_wp2_with (first | (refine wpList_box10 rfl 37 _ rfl (PCall.cells ⟨k, n, m, s, c, z⟩).toArray rfl ?_; intro g3 w3 n3 h3 k3; have H3 := Lib.hid h3; have K3 := Lib.hid k3; have c0 : w3.cell? ⟨g3, 0, none⟩ = some (.int .i64 4) := (by have h9 := (call_cells HO.out h3).1; rw [HK.out] at h9; exact h9); have c1 : w3.cell? ⟨g3, 1, none⟩ = some (.int .i64 n) := (by have h9 := (call_cells HO.out h3).2.1; exact h9); have cs0 := cell_of_row w3 pb 0 _ _ _ (keep k3 HP.out); clear h3 k3 n3; go_frame) | (go_at_call 36; refine (HAT.out _ K3.out).mono ?_; rintro e w4 ⟨rfl, rfl⟩) | (refine wpList_loadw (by rfl) 67 _ rfl b9 (o9 + j * 36 + 1) rfl v.cells _ (RT.out _ K3.out) Try.underlying67 rfl (tow_size HR.out) ?_; go_frame) | (refine wpList_var rfl rfl 67 rfl _ _ rfl noTow.cells.toArray Try.zeroTow rfl v.cells (fun _ => rfl) (fun _ => rfl) (PTow.len HR.out) v.one ?_; intro g7 w6 n6 h6 k6; have H6 := Lib.hid h6; have K6 := Lib.hid (bthen K3.out k6); have N6 := Lib.hid (Nat.le_trans K3.out.size n6); have H36 := Lib.hid (keep k6 H3.out); have NE := Lib.hid (show g3 ≠ g7 by have := lt_of_block H3.out; omega); have c60 : w6.cell? ⟨g3, 0, none⟩ = some (.int .i64 4) := (by have h9 := (call_cells HO.out (keep k6 H3.out)).1; rw [HK.out] at h9; exact h9); have c33 : w6.cell? ⟨g7, 33, none⟩ = some (.int .i64 a) := (by have h9 := (tow_at HR.out (range_of h6)).asked; rw [Nat.zero_add, ← HAS.out] at h9; exact h9); clear h6 k6 n6 cs0 c0 c1; go_frame) | fail)
  go_ret2
  exact HA.out.same HN.out K6.out _
set_option linter.unusedSimpArgs false in
set_option maxRecDepth 100000 in
set_option maxHeartbeats 12800000 in
theorem lask_bond {B : Nat} {w : World} {p : Value} {pb N : Nat} {ts : List PTE} {hs : List PHE} {k n m z : Int} {s : List UInt8} {c : PChan} (h : PlainAt B w p pb N ts hs) (hN : N + 1 ≤ 100) (ho : CallIn ⟨k, n, m, s, c, z⟩) (hk : k = 4) {x : PTE} (hl : lookT n ts = some x) (h1 : ¬ 0 < x.t.asked) (h2 : m < 1 ∨ freeB n ts hs < m) :
    Calls Try.prog 25 #[p, .agg (PCall.cells ⟨k, n, m, s, c, z⟩).toArray] w fun e w' => PlainOut B w p pb N (.tuple #[.int .i64 0, .int .i64 20]) ts hs e w' := by
  have HO := Lib.hid ho
  have HA := Lib.hid h
  have HN := Lib.hid hN
  obtain ⟨j, hj, hat, hjx⟩ := at_some h hl
  have HAT := Lib.hid hat
  obtain ⟨v, hv⟩ : ∃ v, v = x.t := ⟨_, rfl⟩
  have HR : Hid (v.root.length = 32) := Lib.hid (by rw [hv]; exact h.inv.tr x (lookT_num hl).1)
  have hxin := h.inv.towIn (lookT_num hl).1
  have hxta := h.inv.ta x (lookT_num hl).1
  have hxl0 := h.inv.locked0 (lookT_num hl).1
  have hxlm := h.inv.lockedMax (lookT_num hl).1
  have hxtl := h.inv.tl x (lookT_num hl).1
  have hxh := h.inv.held0 x.n
  rw [← hv] at hxin hxta hxl0 hxlm hxtl
  obtain ⟨a1, c1', a2, c2', hp, s1, s2, o1, o2⟩ := h.read
  have hpis := h.is
  subst hpis
  have HP := Lib.hid hp
  have hn63 := s1.len63
  have hnc : (ts.length : Int) ≤ (c1' : Int) := by have h2 := s1.2.1; omega
  have hc63 : (c1' : Int) ≤ 9223372036854775807 := by have h2 := s1.2.2.1; unfold maxLen at h2; omega
  have f1 : (j : Int) < (ts.length : Int) := by omega
  have f0 : (0 : Int) ≤ (j : Int) := by omega
  have ft : ((j : Int)).toNat = j := by omega
  obtain ⟨b9, o9, e9, hlt, hcc⟩ := s1.2.2.2.2.2 (by omega)
  have rx := hcc j hj
  rw [hjx] at rx
  subst e9
  have RE : Hid (∀ W : World, Below w.heap.size w W → W.rangeAt b9 (o9 + j * 36) x.cells) := Lib.hid (fun W hW => rangeAt_below rx hlt hW)
  have RT : Hid (∀ W : World, Below w.heap.size w W → W.rangeAt b9 (o9 + j * 36 + 1) v.cells) := Lib.hid (fun W hW => by rw [hv]; exact (range_cons (RE.out W hW)).2)
  obtain ⟨L, hL⟩ : ∃ L, L = ts.length := ⟨_, rfl⟩
  rw [← hL] at HP hn63 hnc f1
  obtain ⟨a, ha⟩ : ∃ a, a = v.asked := ⟨_, rfl⟩
  obtain ⟨l, hlk⟩ : ∃ l, l = v.locked := ⟨_, rfl⟩
  obtain ⟨t, ht9⟩ : ∃ t, t = v.at9 := ⟨_, rfl⟩
  have HAS := Lib.hid ha
  have HLK := Lib.hid hlk
  have HTT := Lib.hid ht9
  have f2 : ¬ ((j : Int) < 0) := by omega
  rw [← hv, ← ha] at h1
  obtain ⟨F, hF⟩ : ∃ F, F = freeB n ts hs := ⟨_, rfl⟩
  have HLF : Hid (∀ W : World, Below w.heap.size w W → Calls Try.prog 29 #[.pointer (some ⟨pb, 0, none⟩), .int .i64 n] W fun e w' => e = .returned (.int .i64 F) ∧ Below W.heap.size W w') := Lib.hid (fun W hW => by rw [hF]; exact lfree_any (h.below hW) n)
  rw [← hF] at h2
  clear hF h hN ho hl hat hj hjx hv hp s1 s2 o1 o2 hlt hcc rx hL ha hlk ht9 hxin hxta hxl0 hxlm hxtl hxh
  have HK := Lib.hid hk
  clear hk
  go_enter Try.func25, Try.ntmps25
  go_upto_region 8 with (go_big_may; (first | (refine wpList_box10 rfl 37 _ rfl (PCall.cells ⟨k, n, m, s, c, z⟩).toArray rfl ?_; intro g3 w3 n3 h3 k3; have H3 := Lib.hid h3; have K3 := Lib.hid k3; have c0 : w3.cell? ⟨g3, 0, none⟩ = some (.int .i64 4) := (by have h9 := (call_cells HO.out h3).1; rw [HK.out] at h9; exact h9); have c1 : w3.cell? ⟨g3, 1, none⟩ = some (.int .i64 n) := (by have h9 := (call_cells HO.out h3).2.1; exact h9); have cs0 := cell_of_row w3 pb 0 _ _ _ (keep k3 HP.out); clear h3 k3 n3; go_frame) | (go_at_call 36; refine (HAT.out _ K3.out).mono ?_; rintro e w4 ⟨rfl, rfl⟩) | (refine wpList_loadw (by rfl) 67 _ rfl b9 (o9 + j * 36 + 1) rfl v.cells _ (RT.out _ K3.out) Try.underlying67 rfl (tow_size HR.out) ?_; go_frame) | (refine wpList_var rfl rfl 67 rfl _ _ rfl noTow.cells.toArray Try.zeroTow rfl v.cells (fun _ => rfl) (fun _ => rfl) (PTow.len HR.out) v.one ?_; intro g7 w6 n6 h6 k6; have H6 := Lib.hid h6; have K6 := Lib.hid (bthen K3.out k6); have N6 := Lib.hid (Nat.le_trans K3.out.size n6); have H36 := Lib.hid (keep k6 H3.out); have NE := Lib.hid (show g3 ≠ g7 by have := lt_of_block H3.out; omega); have c60 : w6.cell? ⟨g3, 0, none⟩ = some (.int .i64 4) := (by have h9 := (call_cells HO.out (keep k6 H3.out)).1; rw [HK.out] at h9; exact h9); have c33 : w6.cell? ⟨g7, 33, none⟩ = some (.int .i64 a) := (by have h9 := (tow_at HR.out (range_of h6)).asked; rw [Nat.zero_add, ← HAS.out] at h9; exact h9); clear h6 k6 n6 cs0 c0 c1; go_frame) | fail))
  clear c60 c33
  have C2 : Hid (∀ W : World, Below w6.heap.size w6 W → W.cell? ⟨g3, 2, none⟩ = some (.int .i64 m)) := Lib.hid (fun W hW => (call_cells HO.out (keep hW H36.out)).2.2.1)
  have C1 : Hid (∀ W : World, Below w6.heap.size w6 W → W.cell? ⟨g3, 1, none⟩ = some (.int .i64 n)) := Lib.hid (fun W hW => (call_cells HO.out (keep hW H36.out)).2.1)
  by_cases hm : m < 1
  · have d1 : decide (m < 1) = true := decide_eq_true hm
    clear h2 hm
    refine wp_region_held_drew (S := fun w' => Below w6.heap.size w6 w') (by kernel_rfl) (below_drew (Below.refl _ _)) (fun hHeld => ?_)
    refine take_at (i := 0) (v := ?_) rfl rfl (by kernel_rfl) (by kernel_rfl) (by kernel_rfl) (fun _ _ _ h => h) (Or.inl ⟨by rfl, ?_⟩) (by assumption) ?_
    rotate_left
    · intro w0 hSw; (try dsimp only at hSw); first | (go_simp; done) | (go_simp; with_reducible rfl)
    simp only [List.setIfInBounds_toArray, List.set_cons_zero, List.set_cons_succ]
    refine take_at (i := 1) rfl rfl (by kernel_rfl) (by kernel_rfl) (by kernel_rfl) (fun _ _ _ h => h) (yields_cell (b := g3) (o := 2) (by rfl) rfl rfl (fun w0 hSw => C2.out w0 hSw) (fun w0 => Try.isAgg2 w0)) (by assumption) ?_
    simp only [List.setIfInBounds_toArray, List.set_cons_zero, List.set_cons_succ]
    refine take_at (i := 2) (v := ?_) rfl rfl (by kernel_rfl) (by kernel_rfl) (by kernel_rfl) (fun _ _ _ h => h) (Or.inl ⟨by rfl, ?_⟩) (by assumption) ?_
    rotate_left
    · intro w0 hSw; (try dsimp only at hSw); first | (go_simp; done) | (go_simp; with_reducible rfl)
    simp only [List.setIfInBounds_toArray, List.set_cons_zero, List.set_cons_succ]
    refine take_at (i := 3) (v := ?_) rfl rfl (by kernel_rfl) (by kernel_rfl) (by kernel_rfl) (fun _ _ _ h => h) (Or.inl ⟨by rfl, ?_⟩) (by assumption) ?_
    rotate_left
    · intro w0 hSw; (try dsimp only at hSw); first | (go_simp; done) | (go_simp; with_reducible rfl)
    simp only [List.setIfInBounds_toArray, List.set_cons_zero, List.set_cons_succ]
    refine take_at (i := 4) (v := undef) rfl rfl (by kernel_rfl) (by kernel_rfl) (by kernel_rfl) (fun _ _ _ h => h) (Or.inr ⟨by rfl, rfl⟩) (by assumption) ?_
    simp only [List.setIfInBounds_toArray, List.set_cons_zero, List.set_cons_succ]
    refine take_at (i := 5) (v := undef) rfl rfl (by kernel_rfl) (by kernel_rfl) (by kernel_rfl) (fun _ _ _ h => h) (Or.inr ⟨by rfl, rfl⟩) (by assumption) ?_
    simp only [List.setIfInBounds_toArray, List.set_cons_zero, List.set_cons_succ]
    refine take_at (i := 6) (v := undef) rfl rfl (by kernel_rfl) (by kernel_rfl) (by kernel_rfl) (fun _ _ _ h => h) (Or.inr ⟨by rfl, rfl⟩) (by assumption) ?_
    simp only [List.setIfInBounds_toArray, List.set_cons_zero, List.set_cons_succ]
    refine take_at (i := 7) (v := undef) rfl rfl (by kernel_rfl) (by kernel_rfl) (by kernel_rfl) (fun _ _ _ h => h) (Or.inr ⟨by rfl, rfl⟩) (by assumption) ?_
    simp only [List.setIfInBounds_toArray, List.set_cons_zero, List.set_cons_succ]
    refine take_at (i := 8) (v := undef) rfl rfl (by kernel_rfl) (by kernel_rfl) (by kernel_rfl) (fun _ _ _ h => h) (Or.inr ⟨by rfl, rfl⟩) (by assumption) ?_
    simp only [List.setIfInBounds_toArray, List.set_cons_zero, List.set_cons_succ]
    refine take_at (i := 9) (v := undef) rfl rfl (by kernel_rfl) (by kernel_rfl) (by kernel_rfl) (fun _ _ _ h => h) (Or.inr ⟨by rfl, rfl⟩) (by assumption) ?_
    simp only [List.setIfInBounds_toArray, List.set_cons_zero, List.set_cons_succ]
    refine take_at (i := 10) (v := undef) rfl rfl (by kernel_rfl) (by kernel_rfl) (by kernel_rfl) (fun _ _ _ h => h) (Or.inr ⟨by rfl, rfl⟩) (by assumption) ?_
    simp only [List.setIfInBounds_toArray, List.set_cons_zero, List.set_cons_succ]
    refine take_at (i := 11) (v := ?_) rfl rfl (by kernel_rfl) (by kernel_rfl) (by kernel_rfl) (fun _ _ _ h => h) (Or.inl ⟨by rfl, ?_⟩) (by assumption) ?_
    rotate_left
    · intro w0 hSw; (try dsimp only at hSw); first | (go_simp; done) | (go_simp; with_reducible rfl)
    simp only [List.setIfInBounds_toArray, List.set_cons_zero, List.set_cons_succ]
    refine wpAnyH_done (by kernel_rfl) ?_ _
    go_wp2_with fail
    go_ret2
    exact HA.out.same HN.out (bthen K6.out (below_drew (Below.refl _ _))) _
  · have h3 : F < m := h2.resolve_left hm
    have d1 : decide (m < 1) = false := decide_eq_false hm
    clear h2 hm
    refine wp_region_held_drew (S := fun w' => Below w6.heap.size w6 w') (by kernel_rfl) (below_drew (Below.refl _ _)) (fun hHeld => ?_)
    refine take_at (i := 0) (v := ?_) rfl rfl (by kernel_rfl) (by kernel_rfl) (by kernel_rfl) (fun _ _ _ h => h) (Or.inl ⟨by rfl, ?_⟩) (by assumption) ?_
    rotate_left
    · intro w0 hSw; (try dsimp only at hSw); first | (go_simp; done) | (go_simp; with_reducible rfl)
    simp only [List.setIfInBounds_toArray, List.set_cons_zero, List.set_cons_succ]
    refine take_at (i := 1) rfl rfl (by kernel_rfl) (by kernel_rfl) (by kernel_rfl) (fun _ _ _ h => h) (yields_cell (b := g3) (o := 2) (by rfl) rfl rfl (fun w0 hSw => C2.out w0 hSw) (fun w0 => Try.isAgg2 w0)) (by assumption) ?_
    simp only [List.setIfInBounds_toArray, List.set_cons_zero, List.set_cons_succ]
    refine take_at (i := 2) (v := ?_) rfl rfl (by kernel_rfl) (by kernel_rfl) (by kernel_rfl) (fun _ _ _ h => h) (Or.inl ⟨by rfl, ?_⟩) (by assumption) ?_
    rotate_left
    · intro w0 hSw; (try dsimp only at hSw); first | (go_simp; done) | (go_simp; with_reducible rfl)
    simp only [List.setIfInBounds_toArray, List.set_cons_zero, List.set_cons_succ]
    refine take_at (i := 3) (v := ?_) rfl rfl (by kernel_rfl) (by kernel_rfl) (by kernel_rfl) (fun _ _ _ h => h) (Or.inl ⟨by rfl, ?_⟩) (by assumption) ?_
    rotate_left
    · intro w0 hSw; (try dsimp only at hSw); first | (go_simp; done) | (go_simp; with_reducible rfl)
    simp only [List.setIfInBounds_toArray, List.set_cons_zero, List.set_cons_succ]
    refine take_at (i := 4) (v := ?_) rfl rfl (by kernel_rfl) (by kernel_rfl) (by kernel_rfl) (fun _ _ _ h => h) (Or.inl ⟨by rfl, ?_⟩) (by assumption) ?_
    rotate_left
    · intro w0 hSw; (try dsimp only at hSw); first | (go_simp; done) | (go_simp; with_reducible rfl)
    simp only [List.setIfInBounds_toArray, List.set_cons_zero, List.set_cons_succ]
    refine take_at (i := 5) rfl rfl (by kernel_rfl) (by kernel_rfl) (by kernel_rfl) (fun _ _ _ h => h) (yields_cell (b := g3) (o := 2) (by rfl) rfl rfl (fun w0 hSw => C2.out w0 hSw) (fun w0 => Try.isAgg2 w0)) (by assumption) ?_
    simp only [List.setIfInBounds_toArray, List.set_cons_zero, List.set_cons_succ]
    refine take_at (i := 6) (v := ?_) rfl rfl (by kernel_rfl) (by kernel_rfl) (by kernel_rfl) (fun _ _ _ h => h) (Or.inl ⟨by rfl, ?_⟩) (by assumption) ?_
    rotate_left
    · intro w0 hSw; (try dsimp only at hSw); first | (go_simp; done) | (go_simp; with_reducible rfl)
    simp only [List.setIfInBounds_toArray, List.set_cons_zero, List.set_cons_succ]
    refine take_at (i := 7) (v := ?_) rfl rfl (by kernel_rfl) (by kernel_rfl) (by kernel_rfl) (fun _ _ _ h => h) (Or.inl ⟨by rfl, ?_⟩) (by assumption) ?_
    rotate_left
    · intro w0 hSw; (try dsimp only at hSw); first | (go_simp; done) | (go_simp; with_reducible rfl)
    simp only [List.setIfInBounds_toArray, List.set_cons_zero, List.set_cons_succ]
    refine take_at (i := 8) rfl rfl (by kernel_rfl) (by kernel_rfl) (by kernel_rfl) (fun _ _ _ h => h) (yields_cell (b := g3) (o := 1) (by rfl) rfl rfl (fun w0 hSw => C1.out w0 hSw) (fun w0 => Try.isAgg3 w0)) (by assumption) ?_
    simp only [List.setIfInBounds_toArray, List.set_cons_zero, List.set_cons_succ]
    refine wpAnyH_ready (rs := [9]) (by kernel_rfl) (by simp) ?_
    refine AllReadyH.cons rfl (fun K hK => ?_) ?_
    · go_simp
      refine (HLF.out _ (bthen K6.out hHeld)).mono ?_
      rintro e w9 ⟨rfl, hb9⟩
      dsimp only
      have J9 := Lib.hid (bthen hHeld hb9)
      have K9 := Lib.hid (bthen K6.out (bthen hHeld hb9))
      have H39 := Lib.hid (keep (bthen hHeld hb9) H36.out)
      have H69 := Lib.hid (keep (bthen hHeld hb9) H6.out)
      clear hb9
      refine hK.out _ _ (by (try dsimp only); exact J9.out) (fun hHeld => ?_)
      clear hK K
      refine take_at (i := 10) (v := ?_) rfl rfl (by kernel_rfl) (by kernel_rfl) (by kernel_rfl) (fun _ _ _ h => h) (Or.inl ⟨by rfl, ?_⟩) (by assumption) ?_
      rotate_left
      · intro w0 hSw; (try dsimp only at hSw); first | (go_simp; done) | (go_simp; with_reducible rfl)
      simp only [List.setIfInBounds_toArray, List.set_cons_zero, List.set_cons_succ]
      refine take_at (i := 11) (v := ?_) rfl rfl (by kernel_rfl) (by kernel_rfl) (by kernel_rfl) (fun _ _ _ h => h) (Or.inl ⟨by rfl, ?_⟩) (by assumption) ?_
      rotate_left
      · intro w0 hSw; (try dsimp only at hSw); first | (go_simp; done) | (go_simp; with_reducible rfl)
      simp only [List.setIfInBounds_toArray, List.set_cons_zero, List.set_cons_succ]
      refine wpAnyH_done (by kernel_rfl) ?_ _
      go_wp2_with fail
      go_ret2
      exact HA.out.same HN.out K9.out _
    exact AllReadyH.nil
set_option linter.unusedSimpArgs false in
set_option maxRecDepth 100000 in
set_option maxHeartbeats 12800000 in
theorem lask_ok {B : Nat} {w : World} {p : Value} {pb N : Nat} {ts : List PTE} {hs : List PHE} {k n m z : Int} {s : List UInt8} {c : PChan} (h : PlainAt B w p pb N ts hs) (hN : N + 1 ≤ 100) (ho : CallIn ⟨k, n, m, s, c, z⟩) (hk : k = 4) {x : PTE} (hl : lookT n ts = some x) (hz0 : -1099511627776 ≤ z) (hz1 : z ≤ 1099511627776) (h1 : ¬ 0 < x.t.asked) (h2 : ¬ (m < 1 ∨ freeB n ts hs < m)) :
    Calls Try.prog 25 #[p, .agg (PCall.cells ⟨k, n, m, s, c, z⟩).toArray] w fun e w' => PlainOut B w p pb N (.tuple #[.int .i64 0, .int .i64 0]) (putT n ⟨x.t.root, x.t.locked, m, z⟩ ts) hs e w' := by
  have hi := h.inv.ask hl hz0 hz1 h1 h2
  have HO := Lib.hid ho
  have HA := Lib.hid h
  have HN := Lib.hid hN
  obtain ⟨j, hj, hat, hjx⟩ := at_some h hl
  have HAT := Lib.hid hat
  obtain ⟨v, hv⟩ : ∃ v, v = x.t := ⟨_, rfl⟩
  have HR : Hid (v.root.length = 32) := Lib.hid (by rw [hv]; exact h.inv.tr x (lookT_num hl).1)
  have hxin := h.inv.towIn (lookT_num hl).1
  have hxta := h.inv.ta x (lookT_num hl).1
  have hxl0 := h.inv.locked0 (lookT_num hl).1
  have hxlm := h.inv.lockedMax (lookT_num hl).1
  have hxtl := h.inv.tl x (lookT_num hl).1
  have hxh := h.inv.held0 x.n
  rw [← hv] at hxin hxta hxl0 hxlm hxtl
  obtain ⟨a1, c1', a2, c2', hp, s1, s2, o1, o2⟩ := h.read
  have hpis := h.is
  subst hpis
  have HP := Lib.hid hp
  have hn63 := s1.len63
  have hnc : (ts.length : Int) ≤ (c1' : Int) := by have h2 := s1.2.1; omega
  have hc63 : (c1' : Int) ≤ 9223372036854775807 := by have h2 := s1.2.2.1; unfold maxLen at h2; omega
  have f1 : (j : Int) < (ts.length : Int) := by omega
  have f0 : (0 : Int) ≤ (j : Int) := by omega
  have ft : ((j : Int)).toNat = j := by omega
  obtain ⟨b9, o9, e9, hlt, hcc⟩ := s1.2.2.2.2.2 (by omega)
  have rx := hcc j hj
  rw [hjx] at rx
  subst e9
  have RE : Hid (∀ W : World, Below w.heap.size w W → W.rangeAt b9 (o9 + j * 36) x.cells) := Lib.hid (fun W hW => rangeAt_below rx hlt hW)
  have RT : Hid (∀ W : World, Below w.heap.size w W → W.rangeAt b9 (o9 + j * 36 + 1) v.cells) := Lib.hid (fun W hW => by rw [hv]; exact (range_cons (RE.out W hW)).2)
  obtain ⟨L, hL⟩ : ∃ L, L = ts.length := ⟨_, rfl⟩
  rw [← hL] at HP hn63 hnc f1
  obtain ⟨a, ha⟩ : ∃ a, a = v.asked := ⟨_, rfl⟩
  obtain ⟨l, hlk⟩ : ∃ l, l = v.locked := ⟨_, rfl⟩
  obtain ⟨t, ht9⟩ : ∃ t, t = v.at9 := ⟨_, rfl⟩
  have HAS := Lib.hid ha
  have HLK := Lib.hid hlk
  have HTT := Lib.hid ht9
  have f2 : ¬ ((j : Int) < 0) := by omega
  rw [← hv] at h1 hi ⊢
  have HCH : Hid (∀ W : World, Below w.heap.size w W → Calls Try.prog 37 #[(.pointer (some ⟨pb, 0, none⟩)), .int .i64 n, .agg (PTow.cells ⟨v.root, v.locked, m, z⟩).toArray] W fun e w' => e = .returned (.tuple #[]) ∧ PlainOut B w (.pointer (some ⟨pb, 0, none⟩)) pb N (.tuple #[.int .i64 0, .int .i64 0]) (putT n ⟨v.root, v.locked, m, z⟩ ts) hs (.returned (.tuple #[.int .i64 0, .int .i64 0])) w') := Lib.hid (fun W hW => by
    refine (change_any (n := n) (t := ⟨v.root, v.locked, m, z⟩) (h.below hW) hN ⟨HR.out, hxin.locked, ho.n, by constructor <;> (simp only; omega)⟩ hi).mono ?_
    intro e w' hout
    refine ⟨hout.1, ?_⟩
    have h7 := PlainOut.after hW h.size hout
    exact ⟨rfl, h7.2.1, h7.2.2.1, h7.2.2.2⟩)
  rw [← ha] at h1
  obtain ⟨F, hF⟩ : ∃ F, F = freeB n ts hs := ⟨_, rfl⟩
  have HLF : Hid (∀ W : World, Below w.heap.size w W → Calls Try.prog 29 #[.pointer (some ⟨pb, 0, none⟩), .int .i64 n] W fun e w' => e = .returned (.int .i64 F) ∧ Below W.heap.size W w') := Lib.hid (fun W hW => by rw [hF]; exact lfree_any (h.below hW) n)
  rw [← hF] at h2
  have d1 : decide (m < 1) = false := decide_eq_false (fun e => h2 (.inl e))
  have h4 : ¬ F < m := fun e => h2 (.inr e)
  generalize putT n ⟨v.root, v.locked, m, z⟩ ts = ts' at HCH ⊢
  clear hF hi h2 hz0 hz1 h hN ho hl hat hj hjx hv hp s1 s2 o1 o2 hlt hcc rx hL ha hlk ht9 hxin hxta hxl0 hxlm hxtl hxh
  have HK := Lib.hid hk
  clear hk
  go_enter Try.func25, Try.ntmps25
  go_upto_region 8 with (go_big_may; (first | (refine wpList_box10 rfl 37 _ rfl (PCall.cells ⟨k, n, m, s, c, z⟩).toArray rfl ?_; intro g3 w3 n3 h3 k3; have H3 := Lib.hid h3; have K3 := Lib.hid k3; have c0 : w3.cell? ⟨g3, 0, none⟩ = some (.int .i64 4) := (by have h9 := (call_cells HO.out h3).1; rw [HK.out] at h9; exact h9); have c1 : w3.cell? ⟨g3, 1, none⟩ = some (.int .i64 n) := (by have h9 := (call_cells HO.out h3).2.1; exact h9); have cs0 := cell_of_row w3 pb 0 _ _ _ (keep k3 HP.out); clear h3 k3 n3; go_frame) | (go_at_call 36; refine (HAT.out _ K3.out).mono ?_; rintro e w4 ⟨rfl, rfl⟩) | (refine wpList_loadw (by rfl) 67 _ rfl b9 (o9 + j * 36 + 1) rfl v.cells _ (RT.out _ K3.out) Try.underlying67 rfl (tow_size HR.out) ?_; go_frame) | (refine wpList_var rfl rfl 67 rfl _ _ rfl noTow.cells.toArray Try.zeroTow rfl v.cells (fun _ => rfl) (fun _ => rfl) (PTow.len HR.out) v.one ?_; intro g7 w6 n6 h6 k6; have H6 := Lib.hid h6; have K6 := Lib.hid (bthen K3.out k6); have N6 := Lib.hid (Nat.le_trans K3.out.size n6); have H36 := Lib.hid (keep k6 H3.out); have NE := Lib.hid (show g3 ≠ g7 by have := lt_of_block H3.out; omega); have c60 : w6.cell? ⟨g3, 0, none⟩ = some (.int .i64 4) := (by have h9 := (call_cells HO.out (keep k6 H3.out)).1; rw [HK.out] at h9; exact h9); have c33 : w6.cell? ⟨g7, 33, none⟩ = some (.int .i64 a) := (by have h9 := (tow_at HR.out (range_of h6)).asked; rw [Nat.zero_add, ← HAS.out] at h9; exact h9); clear h6 k6 n6 cs0 c0 c1; go_frame) | fail))
  clear c60 c33
  have C2 : Hid (∀ W : World, Below w6.heap.size w6 W → W.cell? ⟨g3, 2, none⟩ = some (.int .i64 m)) := Lib.hid (fun W hW => (call_cells HO.out (keep hW H36.out)).2.2.1)
  have C1 : Hid (∀ W : World, Below w6.heap.size w6 W → W.cell? ⟨g3, 1, none⟩ = some (.int .i64 n)) := Lib.hid (fun W hW => (call_cells HO.out (keep hW H36.out)).2.1)
  refine wp_region_held_drew (S := fun w' => Below w6.heap.size w6 w') (by kernel_rfl) (below_drew (Below.refl _ _)) (fun hHeld => ?_)
  refine take_at (i := 0) (v := ?_) rfl rfl (by kernel_rfl) (by kernel_rfl) (by kernel_rfl) (fun _ _ _ h => h) (Or.inl ⟨by rfl, ?_⟩) (by assumption) ?_
  rotate_left
  · intro w0 hSw; (try dsimp only at hSw); first | (go_simp; done) | (go_simp; with_reducible rfl)
  simp only [List.setIfInBounds_toArray, List.set_cons_zero, List.set_cons_succ]
  refine take_at (i := 1) rfl rfl (by kernel_rfl) (by kernel_rfl) (by kernel_rfl) (fun _ _ _ h => h) (yields_cell (b := g3) (o := 2) (by rfl) rfl rfl (fun w0 hSw => C2.out w0 hSw) (fun w0 => Try.isAgg2 w0)) (by assumption) ?_
  simp only [List.setIfInBounds_toArray, List.set_cons_zero, List.set_cons_succ]
  refine take_at (i := 2) (v := ?_) rfl rfl (by kernel_rfl) (by kernel_rfl) (by kernel_rfl) (fun _ _ _ h => h) (Or.inl ⟨by rfl, ?_⟩) (by assumption) ?_
  rotate_left
  · intro w0 hSw; (try dsimp only at hSw); first | (go_simp; done) | (go_simp; with_reducible rfl)
  simp only [List.setIfInBounds_toArray, List.set_cons_zero, List.set_cons_succ]
  refine take_at (i := 3) (v := ?_) rfl rfl (by kernel_rfl) (by kernel_rfl) (by kernel_rfl) (fun _ _ _ h => h) (Or.inl ⟨by rfl, ?_⟩) (by assumption) ?_
  rotate_left
  · intro w0 hSw; (try dsimp only at hSw); first | (go_simp; done) | (go_simp; with_reducible rfl)
  simp only [List.setIfInBounds_toArray, List.set_cons_zero, List.set_cons_succ]
  refine take_at (i := 4) (v := ?_) rfl rfl (by kernel_rfl) (by kernel_rfl) (by kernel_rfl) (fun _ _ _ h => h) (Or.inl ⟨by rfl, ?_⟩) (by assumption) ?_
  rotate_left
  · intro w0 hSw; (try dsimp only at hSw); first | (go_simp; done) | (go_simp; with_reducible rfl)
  simp only [List.setIfInBounds_toArray, List.set_cons_zero, List.set_cons_succ]
  refine take_at (i := 5) rfl rfl (by kernel_rfl) (by kernel_rfl) (by kernel_rfl) (fun _ _ _ h => h) (yields_cell (b := g3) (o := 2) (by rfl) rfl rfl (fun w0 hSw => C2.out w0 hSw) (fun w0 => Try.isAgg2 w0)) (by assumption) ?_
  simp only [List.setIfInBounds_toArray, List.set_cons_zero, List.set_cons_succ]
  refine take_at (i := 6) (v := ?_) rfl rfl (by kernel_rfl) (by kernel_rfl) (by kernel_rfl) (fun _ _ _ h => h) (Or.inl ⟨by rfl, ?_⟩) (by assumption) ?_
  rotate_left
  · intro w0 hSw; (try dsimp only at hSw); first | (go_simp; done) | (go_simp; with_reducible rfl)
  simp only [List.setIfInBounds_toArray, List.set_cons_zero, List.set_cons_succ]
  refine take_at (i := 7) (v := ?_) rfl rfl (by kernel_rfl) (by kernel_rfl) (by kernel_rfl) (fun _ _ _ h => h) (Or.inl ⟨by rfl, ?_⟩) (by assumption) ?_
  rotate_left
  · intro w0 hSw; (try dsimp only at hSw); first | (go_simp; done) | (go_simp; with_reducible rfl)
  simp only [List.setIfInBounds_toArray, List.set_cons_zero, List.set_cons_succ]
  refine take_at (i := 8) rfl rfl (by kernel_rfl) (by kernel_rfl) (by kernel_rfl) (fun _ _ _ h => h) (yields_cell (b := g3) (o := 1) (by rfl) rfl rfl (fun w0 hSw => C1.out w0 hSw) (fun w0 => Try.isAgg3 w0)) (by assumption) ?_
  simp only [List.setIfInBounds_toArray, List.set_cons_zero, List.set_cons_succ]
  refine wpAnyH_ready (rs := [9]) (by kernel_rfl) (by simp) ?_
  refine AllReadyH.cons rfl (fun K hK => ?_) ?_
  · go_simp
    refine (HLF.out _ (bthen K6.out hHeld)).mono ?_
    rintro e w9 ⟨rfl, hb9⟩
    dsimp only
    have J9 := Lib.hid (bthen hHeld hb9)
    have K9 := Lib.hid (bthen K6.out (bthen hHeld hb9))
    have H39 := Lib.hid (keep (bthen hHeld hb9) H36.out)
    have H69 := Lib.hid (keep (bthen hHeld hb9) H6.out)
    clear hb9
    refine hK.out _ _ (by (try dsimp only); exact J9.out) (fun hHeld => ?_)
    clear hK K
    refine take_at (i := 10) (v := ?_) rfl rfl (by kernel_rfl) (by kernel_rfl) (by kernel_rfl) (fun _ _ _ h => h) (Or.inl ⟨by rfl, ?_⟩) (by assumption) ?_
    rotate_left
    · intro w0 hSw; (try dsimp only at hSw); first | (go_simp; done) | (go_simp; with_reducible rfl)
    simp only [List.setIfInBounds_toArray, List.set_cons_zero, List.set_cons_succ]
    refine take_at (i := 11) (v := ?_) rfl rfl (by kernel_rfl) (by kernel_rfl) (by kernel_rfl) (fun _ _ _ h => h) (Or.inl ⟨by rfl, ?_⟩) (by assumption) ?_
    rotate_left
    · intro w0 hSw; (try dsimp only at hSw); first | (go_simp; done) | (go_simp; with_reducible rfl)
    simp only [List.setIfInBounds_toArray, List.set_cons_zero, List.set_cons_succ]
    refine wpAnyH_done (by kernel_rfl) ?_ _
    have c92 : w9.cell? ⟨g3, 2, none⟩ = some (.int .i64 m) := (call_cells HO.out H39.out).2.2.1
    go_wp2_with (first | (refine wpList_field10 rfl 2 _ _ rfl g7 33 rfl (.int .i64 m) rfl 67 v.cells H69.out (by rw [PTow.len HR.out]; omega) (by kernel_rfl) rfl ?_; intro w10 h10 k10; have H10 : Hid (w10.heap[g7]? = some (.cells (PTow.cells ⟨v.root, v.locked, m, v.at9⟩).toArray 67 (0, 0))) := Lib.hid (by rw [← tow_set_asked HR.out]; exact h10); have K10 := Lib.hid (But.in K9.out k10 N6.out); have H310 := Lib.hid (k10.heap H39.out (lt_of_block H39.out) NE.out); have c174 : w10.cell? ⟨g3, 74, none⟩ = some (.int .i64 z) := (call_cells HO.out (k10.heap H39.out (lt_of_block H39.out) NE.out)).2.2.2.2.2.2.2; clear h10 k10 c92; go_frame) | (refine wpList_field10 rfl 3 _ _ rfl g7 34 rfl (.int .i64 z) rfl 67 (PTow.cells ⟨v.root, v.locked, m, v.at9⟩) H10.out (by rw [PTow.len (x := ⟨v.root, v.locked, m, v.at9⟩) HR.out]; omega) (by kernel_rfl) rfl ?_; intro w11 h11 k11; have H11 : Hid (w11.heap[g7]? = some (.cells (PTow.cells ⟨v.root, v.locked, m, z⟩).toArray 67 (0, 0))) := Lib.hid (by rw [← tow_set_at (x := ⟨v.root, v.locked, m, v.at9⟩) HR.out]; exact h11); have K11 := Lib.hid (But.in K10.out k11 N6.out); have c111 : w11.cell? ⟨g3, 1, none⟩ = some (.int .i64 n) := (call_cells HO.out (k11.heap H310.out (lt_of_block H310.out) NE.out)).2.1; clear h11 k11 c174; go_frame) | (refine wpList_loadw (by rfl) 67 _ rfl g7 0 rfl (PTow.cells ⟨v.root, v.locked, m, z⟩) _ (range_of H11.out) Try.underlying67 rfl (tow_size (x := ⟨v.root, v.locked, m, z⟩) HR.out) ?_; go_frame) | (go_at_call 37; refine (HCH.out _ K11.out).mono ?_; rintro e w12 ⟨rfl, hout⟩; have HOUT := Lib.hid hout; clear hout) | fail)
    go_ret2
    exact HOUT.out
  exact AllReadyH.nil
set_option linter.unusedSimpArgs false in
set_option maxRecDepth 100000 in
set_option maxHeartbeats 12800000 in
theorem lask_zero {B : Nat} {w : World} {p : Value} {pb N : Nat} {ts : List PTE} {hs : List PHE} {k n m z : Int} {s : List UInt8} {c : PChan} (h : PlainAt B w p pb N ts hs) (hN : N + 1 ≤ 100) (ho : CallIn ⟨k, n, m, s, c, z⟩) (hk : ¬ k = 4) {x : PTE} (hl : lookT n ts = some x) (h1 : x.t.asked = 0) :
    Calls Try.prog 25 #[p, .agg (PCall.cells ⟨k, n, m, s, c, z⟩).toArray] w fun e w' => PlainOut B w p pb N (.tuple #[.int .i64 0, .int .i64 7]) ts hs e w' := by
  have HO := Lib.hid ho
  have HA := Lib.hid h
  have HN := Lib.hid hN
  obtain ⟨j, hj, hat, hjx⟩ := at_some h hl
  have HAT := Lib.hid hat
  obtain ⟨v, hv⟩ : ∃ v, v = x.t := ⟨_, rfl⟩
  have HR : Hid (v.root.length = 32) := Lib.hid (by rw [hv]; exact h.inv.tr x (lookT_num hl).1)
  have hxin := h.inv.towIn (lookT_num hl).1
  have hxta := h.inv.ta x (lookT_num hl).1
  have hxl0 := h.inv.locked0 (lookT_num hl).1
  have hxlm := h.inv.lockedMax (lookT_num hl).1
  have hxtl := h.inv.tl x (lookT_num hl).1
  have hxh := h.inv.held0 x.n
  rw [← hv] at hxin hxta hxl0 hxlm hxtl
  obtain ⟨a1, c1', a2, c2', hp, s1, s2, o1, o2⟩ := h.read
  have hpis := h.is
  subst hpis
  have HP := Lib.hid hp
  have hn63 := s1.len63
  have hnc : (ts.length : Int) ≤ (c1' : Int) := by have h2 := s1.2.1; omega
  have hc63 : (c1' : Int) ≤ 9223372036854775807 := by have h2 := s1.2.2.1; unfold maxLen at h2; omega
  have f1 : (j : Int) < (ts.length : Int) := by omega
  have f0 : (0 : Int) ≤ (j : Int) := by omega
  have ft : ((j : Int)).toNat = j := by omega
  obtain ⟨b9, o9, e9, hlt, hcc⟩ := s1.2.2.2.2.2 (by omega)
  have rx := hcc j hj
  rw [hjx] at rx
  subst e9
  have RE : Hid (∀ W : World, Below w.heap.size w W → W.rangeAt b9 (o9 + j * 36) x.cells) := Lib.hid (fun W hW => rangeAt_below rx hlt hW)
  have RT : Hid (∀ W : World, Below w.heap.size w W → W.rangeAt b9 (o9 + j * 36 + 1) v.cells) := Lib.hid (fun W hW => by rw [hv]; exact (range_cons (RE.out W hW)).2)
  obtain ⟨L, hL⟩ : ∃ L, L = ts.length := ⟨_, rfl⟩
  rw [← hL] at HP hn63 hnc f1
  obtain ⟨a, ha⟩ : ∃ a, a = v.asked := ⟨_, rfl⟩
  obtain ⟨l, hlk⟩ : ∃ l, l = v.locked := ⟨_, rfl⟩
  obtain ⟨t, ht9⟩ : ∃ t, t = v.at9 := ⟨_, rfl⟩
  have HAS := Lib.hid ha
  have HLK := Lib.hid hlk
  have HTT := Lib.hid ht9
  have f2 : ¬ ((j : Int) < 0) := by omega
  rw [← hv, ← ha] at h1
  have HA0 := Lib.hid h1
  clear h1 h hN ho hl hat hj hjx hv hp s1 s2 o1 o2 hlt hcc rx hL ha hlk ht9 hxin hxta hxl0 hxlm hxtl hxh
  go_enter Try.func25, Try.ntmps25
  go_wp2_with (first | (refine wpList_box10 rfl 37 _ rfl (PCall.cells ⟨k, n, m, s, c, z⟩).toArray rfl ?_; intro g3 w3 n3 h3 k3; have H3 := Lib.hid h3; have K3 := Lib.hid k3; have c0 : w3.cell? ⟨g3, 0, none⟩ = some (.int .i64 k) := (by have h9 := (call_cells HO.out h3).1; exact h9); have c1 : w3.cell? ⟨g3, 1, none⟩ = some (.int .i64 n) := (by have h9 := (call_cells HO.out h3).2.1; exact h9); have cs0 := cell_of_row w3 pb 0 _ _ _ (keep k3 HP.out); clear h3 k3 n3; go_frame) | (go_at_call 36; refine (HAT.out _ K3.out).mono ?_; rintro e w4 ⟨rfl, rfl⟩) | (refine wpList_loadw (by rfl) 67 _ rfl b9 (o9 + j * 36 + 1) rfl v.cells _ (RT.out _ K3.out) Try.underlying67 rfl (tow_size HR.out) ?_; go_frame) | (refine wpList_var rfl rfl 67 rfl _ _ rfl noTow.cells.toArray Try.zeroTow rfl v.cells (fun _ => rfl) (fun _ => rfl) (PTow.len HR.out) v.one ?_; intro g7 w6 n6 h6 k6; have H6 := Lib.hid h6; have K6 := Lib.hid (bthen K3.out k6); have N6 := Lib.hid (Nat.le_trans K3.out.size n6); have H36 := Lib.hid (keep k6 H3.out); have NE := Lib.hid (show g3 ≠ g7 by have := lt_of_block H3.out; omega); have c60 : w6.cell? ⟨g3, 0, none⟩ = some (.int .i64 k) := (by have h9 := (call_cells HO.out (keep k6 H3.out)).1; exact h9); have c33 : w6.cell? ⟨g7, 33, none⟩ = some (.int .i64 0) := (by have h9 := (tow_at HR.out (range_of h6)).asked; rw [Nat.zero_add, ← HAS.out, HA0.out] at h9; exact h9); clear h6 k6 n6 cs0 c0 c1; go_frame) | fail)
  go_ret2
  exact HA.out.same HN.out K6.out _
set_option linter.unusedSimpArgs false in
set_option maxRecDepth 100000 in
set_option maxHeartbeats 12800000 in
theorem lask_early {B : Nat} {w : World} {p : Value} {pb N : Nat} {ts : List PTE} {hs : List PHE} {k n m z : Int} {s : List UInt8} {c : PChan} (h : PlainAt B w p pb N ts hs) (hN : N + 1 ≤ 100) (ho : CallIn ⟨k, n, m, s, c, z⟩) (hk : ¬ k = 4) {x : PTE} (hl : lookT n ts = some x) (hz0 : -1099511627776 ≤ z) (hz1 : z ≤ 1099511627776) (h1 : ¬ x.t.asked = 0) (h2 : z - x.t.at9 < 12) :
    Calls Try.prog 25 #[p, .agg (PCall.cells ⟨k, n, m, s, c, z⟩).toArray] w fun e w' => PlainOut B w p pb N (.tuple #[.int .i64 0, .int .i64 17]) ts hs e w' := by
  have HO := Lib.hid ho
  have HA := Lib.hid h
  have HN := Lib.hid hN
  obtain ⟨j, hj, hat, hjx⟩ := at_some h hl
  have HAT := Lib.hid hat
  obtain ⟨v, hv⟩ : ∃ v, v = x.t := ⟨_, rfl⟩
  have HR : Hid (v.root.length = 32) := Lib.hid (by rw [hv]; exact h.inv.tr x (lookT_num hl).1)
  have hxin := h.inv.towIn (lookT_num hl).1
  have hxta := h.inv.ta x (lookT_num hl).1
  have hxl0 := h.inv.locked0 (lookT_num hl).1
  have hxlm := h.inv.lockedMax (lookT_num hl).1
  have hxtl := h.inv.tl x (lookT_num hl).1
  have hxh := h.inv.held0 x.n
  rw [← hv] at hxin hxta hxl0 hxlm hxtl
  obtain ⟨a1, c1', a2, c2', hp, s1, s2, o1, o2⟩ := h.read
  have hpis := h.is
  subst hpis
  have HP := Lib.hid hp
  have hn63 := s1.len63
  have hnc : (ts.length : Int) ≤ (c1' : Int) := by have h2 := s1.2.1; omega
  have hc63 : (c1' : Int) ≤ 9223372036854775807 := by have h2 := s1.2.2.1; unfold maxLen at h2; omega
  have f1 : (j : Int) < (ts.length : Int) := by omega
  have f0 : (0 : Int) ≤ (j : Int) := by omega
  have ft : ((j : Int)).toNat = j := by omega
  obtain ⟨b9, o9, e9, hlt, hcc⟩ := s1.2.2.2.2.2 (by omega)
  have rx := hcc j hj
  rw [hjx] at rx
  subst e9
  have RE : Hid (∀ W : World, Below w.heap.size w W → W.rangeAt b9 (o9 + j * 36) x.cells) := Lib.hid (fun W hW => rangeAt_below rx hlt hW)
  have RT : Hid (∀ W : World, Below w.heap.size w W → W.rangeAt b9 (o9 + j * 36 + 1) v.cells) := Lib.hid (fun W hW => by rw [hv]; exact (range_cons (RE.out W hW)).2)
  obtain ⟨L, hL⟩ : ∃ L, L = ts.length := ⟨_, rfl⟩
  rw [← hL] at HP hn63 hnc f1
  obtain ⟨a, ha⟩ : ∃ a, a = v.asked := ⟨_, rfl⟩
  obtain ⟨l, hlk⟩ : ∃ l, l = v.locked := ⟨_, rfl⟩
  obtain ⟨t, ht9⟩ : ∃ t, t = v.at9 := ⟨_, rfl⟩
  have HAS := Lib.hid ha
  have HLK := Lib.hid hlk
  have HTT := Lib.hid ht9
  have f2 : ¬ ((j : Int) < 0) := by omega
  rw [← hv, ← ha] at h1
  rw [← hv, ← ht9] at h2
  rw [← ht9] at hxta
  have iw : IntKind.i64.wrap (z - t) = z - t := IntWalk.i64_in _ (by omega)
  clear h hN ho hl hat hj hjx hv hp s1 s2 o1 o2 hlt hcc rx hL ha hlk ht9 hxin hxta hxl0 hxlm hxtl hxh
  go_enter Try.func25, Try.ntmps25
  go_wp2_with (first | (refine wpList_box10 rfl 37 _ rfl (PCall.cells ⟨k, n, m, s, c, z⟩).toArray rfl ?_; intro g3 w3 n3 h3 k3; have H3 := Lib.hid h3; have K3 := Lib.hid k3; have c0 : w3.cell? ⟨g3, 0, none⟩ = some (.int .i64 k) := (by have h9 := (call_cells HO.out h3).1; exact h9); have c1 : w3.cell? ⟨g3, 1, none⟩ = some (.int .i64 n) := (by have h9 := (call_cells HO.out h3).2.1; exact h9); have cs0 := cell_of_row w3 pb 0 _ _ _ (keep k3 HP.out); clear h3 k3 n3; go_frame) | (go_at_call 36; refine (HAT.out _ K3.out).mono ?_; rintro e w4 ⟨rfl, rfl⟩) | (refine wpList_loadw (by rfl) 67 _ rfl b9 (o9 + j * 36 + 1) rfl v.cells _ (RT.out _ K3.out) Try.underlying67 rfl (tow_size HR.out) ?_; go_frame) | (refine wpList_var rfl rfl 67 rfl _ _ rfl noTow.cells.toArray Try.zeroTow rfl v.cells (fun _ => rfl) (fun _ => rfl) (PTow.len HR.out) v.one ?_; intro g7 w6 n6 h6 k6; have H6 := Lib.hid h6; have K6 := Lib.hid (bthen K3.out k6); have N6 := Lib.hid (Nat.le_trans K3.out.size n6); have H36 := Lib.hid (keep k6 H3.out); have NE := Lib.hid (show g3 ≠ g7 by have := lt_of_block H3.out; omega); have c60 : w6.cell? ⟨g3, 0, none⟩ = some (.int .i64 k) := (by have h9 := (call_cells HO.out (keep k6 H3.out)).1; exact h9); have c33 : w6.cell? ⟨g7, 33, none⟩ = some (.int .i64 a) := (by have h9 := (tow_at HR.out (range_of h6)).asked; rw [Nat.zero_add, ← HAS.out] at h9; exact h9); have c34 : w6.cell? ⟨g7, 34, none⟩ = some (.int .i64 t) := (by have h9 := (tow_at HR.out (range_of h6)).at9; rw [Nat.zero_add, ← HTT.out] at h9; exact h9); have c74 : w6.cell? ⟨g3, 74, none⟩ = some (.int .i64 z) := (call_cells HO.out (keep k6 H3.out)).2.2.2.2.2.2.2; clear h6 k6 n6 cs0 c0 c1; go_frame) | fail)
  go_ret2
  exact HA.out.same HN.out K6.out _
set_option linter.unusedSimpArgs false in
set_option maxRecDepth 100000 in
set_option maxHeartbeats 12800000 in
theorem lask_take {B : Nat} {w : World} {p : Value} {pb N : Nat} {ts : List PTE} {hs : List PHE} {k n m z : Int} {s : List UInt8} {c : PChan} (h : PlainAt B w p pb N ts hs) (hN : N + 1 ≤ 100) (ho : CallIn ⟨k, n, m, s, c, z⟩) (hk : ¬ k = 4) {x : PTE} (hl : lookT n ts = some x) (hz0 : -1099511627776 ≤ z) (hz1 : z ≤ 1099511627776) (h1 : ¬ x.t.asked = 0) (h2 : ¬ z - x.t.at9 < 12) :
    Calls Try.prog 25 #[p, .agg (PCall.cells ⟨k, n, m, s, c, z⟩).toArray] w fun e w' => PlainOut B w p pb N (.tuple #[.int .i64 x.t.asked, .int .i64 0]) (putT n ⟨x.t.root, x.t.locked - x.t.asked, 0, 0⟩ ts) hs e w' := by
  have hi := h.inv.take hl
  have HO := Lib.hid ho
  have HA := Lib.hid h
  have HN := Lib.hid hN
  obtain ⟨j, hj, hat, hjx⟩ := at_some h hl
  have HAT := Lib.hid hat
  obtain ⟨v, hv⟩ : ∃ v, v = x.t := ⟨_, rfl⟩
  have HR : Hid (v.root.length = 32) := Lib.hid (by rw [hv]; exact h.inv.tr x (lookT_num hl).1)
  have hxin := h.inv.towIn (lookT_num hl).1
  have hxta := h.inv.ta x (lookT_num hl).1
  have hxl0 := h.inv.locked0 (lookT_num hl).1
  have hxlm := h.inv.lockedMax (lookT_num hl).1
  have hxtl := h.inv.tl x (lookT_num hl).1
  have hxh := h.inv.held0 x.n
  rw [← hv] at hxin hxta hxl0 hxlm hxtl
  obtain ⟨a1, c1', a2, c2', hp, s1, s2, o1, o2⟩ := h.read
  have hpis := h.is
  subst hpis
  have HP := Lib.hid hp
  have hn63 := s1.len63
  have hnc : (ts.length : Int) ≤ (c1' : Int) := by have h2 := s1.2.1; omega
  have hc63 : (c1' : Int) ≤ 9223372036854775807 := by have h2 := s1.2.2.1; unfold maxLen at h2; omega
  have f1 : (j : Int) < (ts.length : Int) := by omega
  have f0 : (0 : Int) ≤ (j : Int) := by omega
  have ft : ((j : Int)).toNat = j := by omega
  obtain ⟨b9, o9, e9, hlt, hcc⟩ := s1.2.2.2.2.2 (by omega)
  have rx := hcc j hj
  rw [hjx] at rx
  subst e9
  have RE : Hid (∀ W : World, Below w.heap.size w W → W.rangeAt b9 (o9 + j * 36) x.cells) := Lib.hid (fun W hW => rangeAt_below rx hlt hW)
  have RT : Hid (∀ W : World, Below w.heap.size w W → W.rangeAt b9 (o9 + j * 36 + 1) v.cells) := Lib.hid (fun W hW => by rw [hv]; exact (range_cons (RE.out W hW)).2)
  obtain ⟨L, hL⟩ : ∃ L, L = ts.length := ⟨_, rfl⟩
  rw [← hL] at HP hn63 hnc f1
  obtain ⟨a, ha⟩ : ∃ a, a = v.asked := ⟨_, rfl⟩
  obtain ⟨l, hlk⟩ : ∃ l, l = v.locked := ⟨_, rfl⟩
  obtain ⟨t, ht9⟩ : ∃ t, t = v.at9 := ⟨_, rfl⟩
  have HAS := Lib.hid ha
  have HLK := Lib.hid hlk
  have HTT := Lib.hid ht9
  have f2 : ¬ ((j : Int) < 0) := by omega
  rw [← hv] at h1 h2 hi ⊢
  rw [← ha, ← hlk] at hi ⊢
  rw [← ha] at h1 hxta hxtl
  rw [← hlk] at hxl0 hxlm hxtl
  rw [← ht9] at h2 hxta
  have HCH : Hid (∀ W : World, Below w.heap.size w W → Calls Try.prog 37 #[(.pointer (some ⟨pb, 0, none⟩)), .int .i64 n, .agg (PTow.cells ⟨v.root, l - a, 0, 0⟩).toArray] W fun e w' => e = .returned (.tuple #[]) ∧ PlainOut B w (.pointer (some ⟨pb, 0, none⟩)) pb N (.tuple #[.int .i64 a, .int .i64 0]) (putT n ⟨v.root, l - a, 0, 0⟩ ts) hs (.returned (.tuple #[.int .i64 a, .int .i64 0])) w') := Lib.hid (fun W hW => by
    refine (change_any (n := n) (t := ⟨v.root, l - a, 0, 0⟩) (h.below hW) hN ⟨HR.out, by constructor <;> (simp only; omega), by constructor <;> (simp only; decide), by constructor <;> (simp only; decide)⟩ hi).mono ?_
    intro e w' hout
    refine ⟨hout.1, ?_⟩
    have h7 := PlainOut.after hW h.size hout
    exact ⟨rfl, h7.2.1, h7.2.2.1, h7.2.2.2⟩)
  have iw : IntKind.i64.wrap (z - t) = z - t := IntWalk.i64_in _ (by omega)
  have iw2 : IntKind.i64.wrap (l - a) = l - a := IntWalk.i64_in _ (by omega)
  generalize putT n ⟨v.root, l - a, 0, 0⟩ ts = ts' at HCH ⊢
  clear hi hz0 hz1 h hN ho hl hat hj hjx hv hp s1 s2 o1 o2 hlt hcc rx hL ha hlk ht9 hxin hxta hxl0 hxlm hxtl hxh
  go_enter Try.func25, Try.ntmps25
  go_wp2_with (first | (refine wpList_box10 rfl 37 _ rfl (PCall.cells ⟨k, n, m, s, c, z⟩).toArray rfl ?_; intro g3 w3 n3 h3 k3; have H3 := Lib.hid h3; have K3 := Lib.hid k3; have c0 : w3.cell? ⟨g3, 0, none⟩ = some (.int .i64 k) := (by have h9 := (call_cells HO.out h3).1; exact h9); have c1 : w3.cell? ⟨g3, 1, none⟩ = some (.int .i64 n) := (by have h9 := (call_cells HO.out h3).2.1; exact h9); have cs0 := cell_of_row w3 pb 0 _ _ _ (keep k3 HP.out); clear h3 k3 n3; go_frame) | (go_at_call 36; refine (HAT.out _ K3.out).mono ?_; rintro e w4 ⟨rfl, rfl⟩) | (refine wpList_loadw (by rfl) 67 _ rfl b9 (o9 + j * 36 + 1) rfl v.cells _ (RT.out _ K3.out) Try.underlying67 rfl (tow_size HR.out) ?_; go_frame) | (refine wpList_var rfl rfl 67 rfl _ _ rfl noTow.cells.toArray Try.zeroTow rfl v.cells (fun _ => rfl) (fun _ => rfl) (PTow.len HR.out) v.one ?_; intro g7 w6 n6 h6 k6; have H6 := Lib.hid h6; have K6 := Lib.hid (bthen K3.out k6); have N6 := Lib.hid (Nat.le_trans K3.out.size n6); have H36 := Lib.hid (keep k6 H3.out); have NE := Lib.hid (show g3 ≠ g7 by have := lt_of_block H3.out; omega); have c60 : w6.cell? ⟨g3, 0, none⟩ = some (.int .i64 k) := (by have h9 := (call_cells HO.out (keep k6 H3.out)).1; exact h9); have c33 : w6.cell? ⟨g7, 33, none⟩ = some (.int .i64 a) := (by have h9 := (tow_at HR.out (range_of h6)).asked; rw [Nat.zero_add, ← HAS.out] at h9; exact h9); have c34 : w6.cell? ⟨g7, 34, none⟩ = some (.int .i64 t) := (by have h9 := (tow_at HR.out (range_of h6)).at9; rw [Nat.zero_add, ← HTT.out] at h9; exact h9); have c32 : w6.cell? ⟨g7, 32, none⟩ = some (.int .i64 l) := (by have h9 := (tow_at HR.out (range_of h6)).locked; rw [Nat.zero_add, ← HLK.out] at h9; exact h9); have c74 : w6.cell? ⟨g3, 74, none⟩ = some (.int .i64 z) := (call_cells HO.out (keep k6 H3.out)).2.2.2.2.2.2.2; have c61 : w6.cell? ⟨g3, 1, none⟩ = some (.int .i64 n) := (call_cells HO.out (keep k6 H3.out)).2.1; clear h6 k6 n6 cs0 c0 c1; go_frame) | (refine wpList_loadw (by rfl) 31 _ rfl g7 0 rfl (cellsOf v.root) _ ((tow_at HR.out (range_of H6.out)).root) Try.underlying31 rfl (sum_size HR.out) ?_; go_frame) | (refine wpList_buildw (by rfl) rfl (vs := [(0, .agg (cellsOf v.root).toArray), (1, .int .i64 (l - a))]) (by rfl) (build_tow2 HR.out _) ?_; go_frame) | (go_at_call 37; refine (HCH.out _ K6.out).mono ?_; rintro e w12 ⟨rfl, hout⟩; have HOUT := Lib.hid hout; clear hout) | fail)
  go_ret2
  exact HOUT.out
/-- What ask answers, and leaves. -/
def askLB (k n m z : Int) (ts : List PTE) (hs : List PHE) : Int × Int × List PTE := if k = 4 then (0, askB n m z ts hs) else takeB n z ts
theorem lask_any {B : Nat} {w : World} {p : Value} {pb N : Nat} {ts : List PTE} {hs : List PHE} {k n m z : Int} {s : List UInt8} {c : PChan} (h : PlainAt B w p pb N ts hs) (hN : N + 1 ≤ 100) (ho : CallIn ⟨k, n, m, s, c, z⟩) (hz0 : -1099511627776 ≤ z) (hz1 : z ≤ 1099511627776) : Calls Try.prog 25 #[p, .agg (PCall.cells ⟨k, n, m, s, c, z⟩).toArray] w fun e w' => PlainOut B w p pb N (.tuple #[.int .i64 (askLB k n m z ts hs).1, .int .i64 (askLB k n m z ts hs).2.1]) (askLB k n m z ts hs).2.2 hs e w' := by
  unfold askLB
  by_cases hk : k = 4
  · rw [if_pos hk]
    unfold askB
    cases hl : lookT n ts with
    | none => exact lask_none h hN ho hl
    | some x =>
      simp only
      by_cases h1 : 0 < x.t.asked
      · rw [if_pos h1]
        exact lask_state h hN ho hk hl h1
      · rw [if_neg h1]
        by_cases h2 : m < 1 ∨ freeB n ts hs < m
        · rw [if_pos h2]
          exact lask_bond h hN ho hk hl h1 h2
        · rw [if_neg h2]
          exact lask_ok h hN ho hk hl hz0 hz1 h1 h2
  · rw [if_neg hk]
    unfold takeB
    cases hl : lookT n ts with
    | none => exact lask_none h hN ho hl
    | some x =>
      simp only
      by_cases h1 : x.t.asked = 0
      · rw [if_pos h1]
        exact lask_zero h hN ho hk hl h1
      · rw [if_neg h1]
        by_cases h2 : z - x.t.at9 < 12
        · rw [if_pos h2]
          exact lask_early h hN ho hk hl hz0 hz1 h1 h2
        · rw [if_neg h2]
          exact lask_take h hN ho hk hl hz0 hz1 h1 h2
end Go.Proofs.Ytijanllppbambaa
