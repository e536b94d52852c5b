/- The law's lock, of a tower that is known. -/
import Derived.Test.YtijanllppbambaaLLock
namespace Go.Proofs.Ytijanllppbambaa
open Go.RowKit Go.Maps

set_option linter.unusedSimpArgs false in
set_option maxRecDepth 100000 in
set_option maxHeartbeats 12800000 in
theorem llock_twice {B : Nat} {w : World} {p : Value} {pb N : Nat} {ts : List PTE} {hs : List PHE} {k n m z : Int} {s : List UInt8} {c : PChan} (h : PlainAt B w p pb N ts hs) (hN : N + 1 ≤ 100) (ho : CallIn ⟨k, n, m, s, c, z⟩) (hgood : ¬ badLock n m s) {x : PTE} (hl : lookT n ts = some x) (hroot : x.t.root ≠ s) :
    Calls Try.prog 23 #[p, .agg (PCall.cells ⟨k, n, m, s, c, z⟩).toArray] w fun e w' => PlainOut B w p pb N (.int .i64 (lockB n m s ts).1) (lockB n m s ts).2 hs e w' := by
  have HO := Lib.hid ho
  have HS : Hid (s.length = 32) := Lib.hid ho.root
  have HA := Lib.hid h
  have HN := Lib.hid hN
  have hg0 := hgood
  unfold badLock at hgood
  have d1 : decide (n < 0) = false := decide_eq_false (fun e => hgood (.inl e))
  have d2 : decide (15 < n) = false := decide_eq_false (fun e => hgood (.inr (.inl e)))
  have d3 : decide (m < 1) = false := decide_eq_false (fun e => hgood (.inr (.inr (.inl e))))
  have hm1 : 1 ≤ m := Classical.byContradiction (fun e => hgood (.inr (.inr (.inl (by omega)))))
  have hn0 : 0 ≤ n := Classical.byContradiction (fun e => hgood (.inl (by omega)))
  have hn15 : n ≤ 15 := Classical.byContradiction (fun e => hgood (.inr (.inl (by omega))))
  have hq := eq_sums (r := false) HS.out zero32_len11 (by simpa using fun e => hgood (.inr (.inr (.inr e))))
  have hmm := ho.n
  obtain ⟨ans, hans⟩ : ∃ a, a = Value.int .i64 (lockB n m s ts).1 := ⟨_, rfl⟩
  obtain ⟨ts', hts⟩ : ∃ a, a = (lockB n m s ts).2 := ⟨_, rfl⟩
  rw [← hans, ← hts]
  obtain ⟨v, hv⟩ : ∃ v, v = x.t := ⟨_, rfl⟩
  rw [← hv] at hroot
  have hold : oldT n s ts = v := by unfold oldT; rw [hl, hv]
  obtain ⟨j, hj, hat, hjx⟩ := at_some h hl
  have HAT := Lib.hid hat
  have HR : Hid (v.root.length = 32) := Lib.hid (by rw [hv]; exact h.inv.tr x (lookT_num hl).1)
  obtain ⟨a1, c1', a2, c2', hp, s1, s2, _, _⟩ := h.read
  have hpis := h.is
  subst hpis
  have hn63 := s1.len63
  have hnc : (ts.length : Int) ≤ (c1' : Int) := by have h2 := s1.2.1; omega
  have hc63 : (c1' : Int) ≤ 9223372036854775807 := by have h2 := s1.2.2.1; unfold maxLen at h2; omega
  have f1 : (j : Int) < (ts.length : Int) := by omega
  have f0 : (0 : Int) ≤ (j : Int) := by omega
  have ft : ((j : Int)).toNat = j := by omega
  obtain ⟨b9, o9, e9, hlt, hcc⟩ := s1.2.2.2.2.2 (by omega)
  have rx := hcc j hj
  rw [hjx] at rx
  subst e9
  have RT : Hid (∀ W : World, Below w.heap.size w W → W.rangeAt b9 (o9 + j * 36 + 1) v.cells) := Lib.hid (fun W hW => by rw [hv]; exact (range_cons (rangeAt_below rx hlt hW)).2)
  have HP := Lib.hid hp
  obtain ⟨L, hL⟩ : ∃ L, L = ts.length := ⟨_, rfl⟩
  rw [← hL] at HP hn63 hnc f1
  have HX8 : Hid (v.root ≠ s → ∀ W : World, Below w.heap.size w W → PlainOut B w (.pointer (some ⟨pb, 0, none⟩)) pb N ans ts' hs (.returned (.int .i64 8)) W) := Lib.hid (fun e W hW => by
    rw [hans, hts]
    rw [show lockB n m s ts = (8, ts) by unfold lockB; rw [if_neg hg0, if_pos (by rw [hold]; exact e)]]
    exact h.same hN hW _)
  have hq2 := eq_sums (r := false) HR.out HS.out (by simpa using hroot)
  have hx := HX8.out hroot
  clear HX8
  clear hg0 h hN ho hgood hat hold hans hts hmm hn0 hn15 hl hv hj hjx hp s1 s2 hlt hcc rx hL hroot
  go_enter Try.func23, Try.ntmps23
  go_upto_region 4 with (first | (refine wpList_box10 rfl 37 _ rfl (PCall.cells ⟨k, n, m, s, c, z⟩).toArray rfl ?_; intro g3 w3 n3 h3 k3; have H3 := Lib.hid h3; have K3 := Lib.hid k3; have c1 : w3.cell? ⟨g3, 1, none⟩ = some (.int .i64 n) := (by have h9 := (call_cells HO.out h3).2.1; exact h9); have c2 : w3.cell? ⟨g3, 2, none⟩ = some (.int .i64 m) := (by have h9 := (call_cells HO.out h3).2.2.1; exact h9); clear h3 k3 n3; go_frame) | (go_at_call 36; refine (HAT.out _ K3.out).mono ?_; rintro e w4 ⟨rfl, rfl⟩) | (refine wpList_loadw (by rfl) 31 _ rfl g3 3 rfl (cellsOf s) _ ((call_cells HO.out H3.out).2.2.2.1) Try.underlying31 rfl (sum_size HS.out) ?_; go_frame) | (refine wpList_buildw (by rfl) rfl (vs := []) (by rfl) build_zero ?_; go_frame) | fail)
  go_upto_region 7 with (first | (refine wpList_loadw (by rfl) 31 _ rfl g3 3 rfl (cellsOf s) _ ((call_cells HO.out H3.out).2.2.2.1) Try.underlying31 rfl (sum_size HS.out) ?_; go_frame) | (refine wpList_buildw (by rfl) rfl (vs := [(0, .agg (cellsOf s).toArray)]) (by rfl) (build_tow1 HS.out) ?_; go_frame) | (refine wpList_var rfl rfl 67 rfl _ _ rfl noTow.cells.toArray Try.zeroTow rfl (PTow.cells ⟨s, 0, 0, 0⟩) (fun _ => rfl) (fun _ => rfl) (PTow.len (x := ⟨s, 0, 0, 0⟩) HS.out) (PTow.one ⟨s, 0, 0, 0⟩) ?_; intro g6 w6 n6 h6 k6; have H6 := Lib.hid h6; have K6 := Lib.hid (bthen K3.out k6); have N6 := Lib.hid (Nat.le_trans K3.out.size n6); have H36 := Lib.hid (keep k6 H3.out); have NE := Lib.hid (show g3 ≠ g6 by have := lt_of_block H3.out; omega); have c0 := cell_of_row w6 pb 0 _ _ _ (keep (bthen K3.out k6) HP.out); clear h6 k6 n6 c1 c2; go_frame) | (refine wpList_loadw (by rfl) 67 _ rfl b9 (o9 + j * 36 + 1) rfl v.cells _ (RT.out _ K6.out) Try.underlying67 rfl (tow_size HR.out) ?_; go_frame) | (refine wpList_row10 rfl 67 _ _ rfl g6 v.cells rfl rfl 67 (PTow.cells ⟨s, 0, 0, 0⟩) H6.out (tow_size HR.out) (by rw [PTow.len (x := ⟨s, 0, 0, 0⟩) HS.out, PTow.len HR.out]) v.one ?_; intro w7 h7 k7; have H7 := Lib.hid h7; have K7 := Lib.hid (But.in K6.out k7 N6.out); have H37 := Lib.hid (k7.heap H36.out (lt_of_block H36.out) NE.out); clear h7 k7 c0; go_frame) | fail)
  go_wp2_with (first | (refine wpList_loadw (by rfl) 31 _ rfl g6 0 rfl (cellsOf v.root) _ ((tow_at HR.out (range_of H7.out)).root) Try.underlying31 rfl (sum_size HR.out) ?_; go_frame) | (refine wpList_loadw (by rfl) 31 _ rfl g3 3 rfl (cellsOf s) _ ((call_cells HO.out H37.out).2.2.2.1) Try.underlying31 rfl (sum_size HS.out) ?_; go_frame) | fail)
  go_ret
  exact hx _ K7.out
set_option linter.unusedSimpArgs false in
set_option maxRecDepth 100000 in
set_option maxHeartbeats 12800000 in
theorem llock_yes {B : Nat} {w : World} {p : Value} {pb N : Nat} {ts : List PTE} {hs : List PHE} {k n m z : Int} {s : List UInt8} {c : PChan} (h : PlainAt B w p pb N ts hs) (hN : N + 1 ≤ 100) (ho : CallIn ⟨k, n, m, s, c, z⟩) (hgood : ¬ badLock n m s) {x : PTE} (hl : lookT n ts = some x) (hroot : x.t.root = s) :
    Calls Try.prog 23 #[p, .agg (PCall.cells ⟨k, n, m, s, c, z⟩).toArray] w fun e w' => PlainOut B w p pb N (.int .i64 (lockB n m s ts).1) (lockB n m s ts).2 hs e w' := by
  have HO := Lib.hid ho
  have HS : Hid (s.length = 32) := Lib.hid ho.root
  have HA := Lib.hid h
  have HN := Lib.hid hN
  have hg0 := hgood
  unfold badLock at hgood
  have d1 : decide (n < 0) = false := decide_eq_false (fun e => hgood (.inl e))
  have d2 : decide (15 < n) = false := decide_eq_false (fun e => hgood (.inr (.inl e)))
  have d3 : decide (m < 1) = false := decide_eq_false (fun e => hgood (.inr (.inr (.inl e))))
  have hm1 : 1 ≤ m := Classical.byContradiction (fun e => hgood (.inr (.inr (.inl (by omega)))))
  have hn0 : 0 ≤ n := Classical.byContradiction (fun e => hgood (.inl (by omega)))
  have hn15 : n ≤ 15 := Classical.byContradiction (fun e => hgood (.inr (.inl (by omega))))
  have hq := eq_sums (r := false) HS.out zero32_len11 (by simpa using fun e => hgood (.inr (.inr (.inr e))))
  have hmm := ho.n
  obtain ⟨ans, hans⟩ : ∃ a, a = Value.int .i64 (lockB n m s ts).1 := ⟨_, rfl⟩
  obtain ⟨ts', hts⟩ : ∃ a, a = (lockB n m s ts).2 := ⟨_, rfl⟩
  rw [← hans, ← hts]
  obtain ⟨v, hv⟩ : ∃ v, v = x.t := ⟨_, rfl⟩
  rw [← hv] at hroot
  have hold : oldT n s ts = v := by unfold oldT; rw [hl, hv]
  obtain ⟨j, hj, hat, hjx⟩ := at_some h hl
  have HAT := Lib.hid hat
  have HR : Hid (v.root.length = 32) := Lib.hid (by rw [hv]; exact h.inv.tr x (lookT_num hl).1)
  obtain ⟨a1, c1', a2, c2', hp, s1, s2, _, _⟩ := h.read
  have hpis := h.is
  subst hpis
  have hn63 := s1.len63
  have hnc : (ts.length : Int) ≤ (c1' : Int) := by have h2 := s1.2.1; omega
  have hc63 : (c1' : Int) ≤ 9223372036854775807 := by have h2 := s1.2.2.1; unfold maxLen at h2; omega
  have f1 : (j : Int) < (ts.length : Int) := by omega
  have f0 : (0 : Int) ≤ (j : Int) := by omega
  have ft : ((j : Int)).toNat = j := by omega
  obtain ⟨b9, o9, e9, hlt, hcc⟩ := s1.2.2.2.2.2 (by omega)
  have rx := hcc j hj
  rw [hjx] at rx
  subst e9
  have RT : Hid (∀ W : World, Below w.heap.size w W → W.rangeAt b9 (o9 + j * 36 + 1) v.cells) := Lib.hid (fun W hW => by rw [hv]; exact (range_cons (rangeAt_below rx hlt hW)).2)
  have HP := Lib.hid hp
  obtain ⟨L, hL⟩ : ∃ L, L = ts.length := ⟨_, rfl⟩
  rw [← hL] at HP hn63 hnc f1
  have HX8 : Hid (v.root ≠ s → ∀ W : World, Below w.heap.size w W → PlainOut B w (.pointer (some ⟨pb, 0, none⟩)) pb N ans ts' hs (.returned (.int .i64 8)) W) := Lib.hid (fun e W hW => by
    rw [hans, hts]
    rw [show lockB n m s ts = (8, ts) by unfold lockB; rw [if_neg hg0, if_pos (by rw [hold]; exact e)]]
    exact h.same hN hW _)
  clear HX8
  have hq2 := eq_sums (r := true) HR.out HS.out (by simpa using hroot)
  have HX5 : Hid (1125899906842624 < m → ∀ W : World, Below w.heap.size w W → PlainOut B w (.pointer (some ⟨pb, 0, none⟩)) pb N ans ts' hs (.returned (.int .i64 5)) W) := Lib.hid (fun e W hW => by
    rw [hans, hts]
    rw [show lockB n m s ts = (5, ts) by unfold lockB; rw [if_neg hg0, if_neg (by rw [hold]; exact fun e => e hroot), if_pos e]]
    exact h.same hN hW _)
  have HX10 : Hid (m ≤ 1125899906842624 → 1125899906842624 < totT ts + m → ∀ W : World, Below w.heap.size w W → PlainOut B w (.pointer (some ⟨pb, 0, none⟩)) pb N ans ts' hs (.returned (.int .i64 10)) W) := Lib.hid (fun e10 e2 W hW => by
    have e1 : ¬ 1125899906842624 < m := by omega
    rw [hans, hts]
    rw [show lockB n m s ts = (10, ts) by unfold lockB; rw [if_neg hg0, if_neg (by rw [hold]; exact fun e => e hroot), if_neg e1, if_pos e2]]
    exact h.same hN hW _)
  have HX0 : Hid (m ≤ 1125899906842624 → totT ts + m ≤ 1125899906842624 → ∀ W : World, Below w.heap.size w W → Calls Try.prog 37 #[.pointer (some ⟨pb, 0, none⟩), .int .i64 n, .agg (PTow.cells ⟨v.root, v.locked + m, v.asked, v.at9⟩).toArray] W fun e w' => e = .returned (.tuple #[]) ∧ PlainOut B w (.pointer (some ⟨pb, 0, none⟩)) pb N ans ts' hs (.returned (.int .i64 0)) w') := Lib.hid (fun e10 e20 W hW => by
    have e1 : ¬ 1125899906842624 < m := by omega
    have e2 : ¬ 1125899906842624 < totT ts + m := by omega
    have h9 := h.inv.lock hn0 hn15 HS.out hm1 e2
    rw [hold] at h9
    have h8 : TowIn ⟨s, v.locked + m, v.asked, v.at9⟩ := by
      have o := h.inv.old n s
      rw [hold] at o
      have := h.inv.tot
      have := h.inv.held0 n
      exact ⟨HS.out, by constructor <;> simp only <;> omega, by constructor <;> simp only <;> omega, by constructor <;> simp only <;> omega⟩
    rw [hroot]
    refine (change_any (h.below hW) hN h8 h9).mono ?_
    intro e w' hout
    refine ⟨hout.1, ?_⟩
    have h7 := PlainOut.after hW h.size hout
    rw [hans, hts]
    rw [show lockB n m s ts = (0, putT n ⟨s, v.locked + m, v.asked, v.at9⟩ ts) by unfold lockB; rw [if_neg hg0, hold, if_neg (fun e => e hroot), if_neg e1, if_neg e2]]
    exact ⟨rfl, h7.2.1, h7.2.2.1, h7.2.2.2⟩)
  have HTO : Hid (∀ W : World, Below w.heap.size w W → Calls Try.prog 27 #[.pointer (some ⟨pb, 0, none⟩)] W fun e w' => e = .returned (.int .i64 (totT ts)) ∧ W = w') := Lib.hid (fun W hW => ltotal_any (h.below hW))
  have hS0 := h.inv.tot0
  have hS1 := h.inv.tot
  have hvl : 0 ≤ v.locked ∧ v.locked ≤ 1125899906842624 := by have o := h.inv.old n s; rw [hold] at o; omega
  obtain ⟨S, hS⟩ : ∃ S, S = totT ts := ⟨_, rfl⟩
  rw [← hS] at HX10 HX0 HTO hS0 hS1
  obtain ⟨l, hlk⟩ : ∃ l, l = v.locked := ⟨_, rfl⟩
  have HLL := Lib.hid hlk
  rw [← hlk] at HX0 hvl
  have hvl0 := hvl.1
  have hvl1 := hvl.2
  have hmF := ho.n.2
  clear hl hv hroot hj hjx hp s1 s2 hlt hcc rx hL hg0 h hN ho hgood hat hold hans hts hS hlk hvl hmm hn0 hn15
  go_enter Try.func23, Try.ntmps23
  go_upto_region 4 with (first | (refine wpList_box10 rfl 37 _ rfl (PCall.cells ⟨k, n, m, s, c, z⟩).toArray rfl ?_; intro g3 w3 n3 h3 k3; have H3 := Lib.hid h3; have K3 := Lib.hid k3; have c1 : w3.cell? ⟨g3, 1, none⟩ = some (.int .i64 n) := (by have h9 := (call_cells HO.out h3).2.1; exact h9); have c2 : w3.cell? ⟨g3, 2, none⟩ = some (.int .i64 m) := (by have h9 := (call_cells HO.out h3).2.2.1; exact h9); clear h3 k3 n3; go_frame) | (go_at_call 36; refine (HAT.out _ K3.out).mono ?_; rintro e w4 ⟨rfl, rfl⟩) | (refine wpList_loadw (by rfl) 31 _ rfl g3 3 rfl (cellsOf s) _ ((call_cells HO.out H3.out).2.2.2.1) Try.underlying31 rfl (sum_size HS.out) ?_; go_frame) | (refine wpList_buildw (by rfl) rfl (vs := []) (by rfl) build_zero ?_; go_frame) | fail)
  go_upto_region 7 with (first | (refine wpList_loadw (by rfl) 31 _ rfl g3 3 rfl (cellsOf s) _ ((call_cells HO.out H3.out).2.2.2.1) Try.underlying31 rfl (sum_size HS.out) ?_; go_frame) | (refine wpList_buildw (by rfl) rfl (vs := [(0, .agg (cellsOf s).toArray)]) (by rfl) (build_tow1 HS.out) ?_; go_frame) | (refine wpList_var rfl rfl 67 rfl _ _ rfl noTow.cells.toArray Try.zeroTow rfl (PTow.cells ⟨s, 0, 0, 0⟩) (fun _ => rfl) (fun _ => rfl) (PTow.len (x := ⟨s, 0, 0, 0⟩) HS.out) (PTow.one ⟨s, 0, 0, 0⟩) ?_; intro g6 w6 n6 h6 k6; have H6 := Lib.hid h6; have K6 := Lib.hid (bthen K3.out k6); have N6 := Lib.hid (Nat.le_trans K3.out.size n6); have H36 := Lib.hid (keep k6 H3.out); have NE := Lib.hid (show g3 ≠ g6 by have := lt_of_block H3.out; omega); have c0 := cell_of_row w6 pb 0 _ _ _ (keep (bthen K3.out k6) HP.out); clear h6 k6 n6 c1 c2; go_frame) | (refine wpList_loadw (by rfl) 67 _ rfl b9 (o9 + j * 36 + 1) rfl v.cells _ (RT.out _ K6.out) Try.underlying67 rfl (tow_size HR.out) ?_; go_frame) | (refine wpList_row10 rfl 67 _ _ rfl g6 v.cells rfl rfl 67 (PTow.cells ⟨s, 0, 0, 0⟩) H6.out (tow_size HR.out) (by rw [PTow.len (x := ⟨s, 0, 0, 0⟩) HS.out, PTow.len HR.out]) v.one ?_; intro w7 h7 k7; have H7 := Lib.hid h7; have K7 := Lib.hid (But.in K6.out k7 N6.out); have H37 := Lib.hid (k7.heap H36.out (lt_of_block H36.out) NE.out); clear h7 k7 c0; go_frame) | fail)
  go_upto_region 9 with (first | (refine wpList_loadw (by rfl) 31 _ rfl g6 0 rfl (cellsOf v.root) _ ((tow_at HR.out (range_of H7.out)).root) Try.underlying31 rfl (sum_size HR.out) ?_; go_frame) | (refine wpList_loadw (by rfl) 31 _ rfl g3 3 rfl (cellsOf s) _ ((call_cells HO.out H37.out).2.2.2.1) Try.underlying31 rfl (sum_size HS.out) ?_; go_frame) | fail)
  by_cases hr5 : 1125899906842624 < m
  · have c12 := (call_cells HO.out H37.out).2.2.1
    have hx := HX5.out hr5
    clear HX5 HX10 HX0
    go_wp2_with (first | fail | fail)
    go_ret
    exact hx _ K7.out
  · have c12 := (call_cells HO.out H37.out).2.2.1
    go_upto_region 11 with (fail)
    clear c12
    have iw : IntKind.i64.wrap (S + m) = S + m := IntWalk.i64_in _ (by omega)
    have C2 : Hid (∀ W : World, Below w7.heap.size w7 W → W.cell? ⟨g3, 2, none⟩ = some (.int .i64 m)) := Lib.hid (fun W hW => (call_cells HO.out (keep hW H37.out)).2.2.1)
    refine wp_region_held_drew (S := fun w' => Below w7.heap.size w7 w') (by kernel_rfl) (below_drew (Below.refl _ _)) (fun hHeld => ?_)
    refine take_at (i := 0) (v := ?_) rfl rfl (by kernel_rfl) (by kernel_rfl) (by kernel_rfl) (fun _ _ _ h => h) (Or.inl ⟨by rfl, ?_⟩) (by assumption) ?_
    rotate_left
    · intro w0 hSw; (try dsimp only at hSw); first | (go_simp; done) | (go_simp; with_reducible rfl)
    simp only [List.setIfInBounds_toArray, List.set_cons_zero, List.set_cons_succ]
    refine take_at (i := 2) (v := ?_) rfl rfl (by kernel_rfl) (by kernel_rfl) (by kernel_rfl) (fun _ _ _ h => h) (Or.inl ⟨by rfl, ?_⟩) (by assumption) ?_
    rotate_left
    · intro w0 hSw; (try dsimp only at hSw); first | (go_simp; done) | (go_simp; with_reducible rfl)
    simp only [List.setIfInBounds_toArray, List.set_cons_zero, List.set_cons_succ]
    refine take_at (i := 3) rfl rfl (by kernel_rfl) (by kernel_rfl) (by kernel_rfl) (fun _ _ _ h => h) (yields_cell (b := g3) (o := 2) (by rfl) rfl rfl (fun w0 hSw => C2.out w0 hSw) (fun w0 => Try.isAgg2 w0)) (by assumption) ?_
    simp only [List.setIfInBounds_toArray, List.set_cons_zero, List.set_cons_succ]
    refine wpAnyH_ready (rs := [1]) (by kernel_rfl) (by simp) ?_
    refine AllReadyH.cons rfl (fun K hK => ?_) ?_
    · go_simp
      refine (HTO.out _ (bthen K7.out hHeld)).mono ?_
      rintro e w9 ⟨rfl, rfl⟩
      dsimp only
      have J9 := Lib.hid hHeld
      refine hK.out _ _ (by (try dsimp only); exact J9.out) (fun hHeld => ?_)
      clear hK K
      refine take_at (i := 4) (v := ?_) rfl rfl (by kernel_rfl) (by kernel_rfl) (by kernel_rfl) (fun _ _ _ h => h) (Or.inl ⟨by rfl, ?_⟩) (by assumption) ?_
      rotate_left
      · intro w0 hSw; (try dsimp only at hSw); first | (go_simp; done) | (go_simp; with_reducible rfl)
      simp only [List.setIfInBounds_toArray, List.set_cons_zero, List.set_cons_succ]
      refine take_at (i := 5) (v := ?_) rfl rfl (by kernel_rfl) (by kernel_rfl) (by kernel_rfl) (fun _ _ _ h => h) (Or.inl ⟨by rfl, ?_⟩) (by assumption) ?_
      rotate_left
      · intro w0 hSw; (try dsimp only at hSw); first | (go_simp; done) | (go_simp; with_reducible rfl)
      simp only [List.setIfInBounds_toArray, List.set_cons_zero, List.set_cons_succ]
      refine wpAnyH_done (by kernel_rfl) ?_ _
      by_cases hov : 1125899906842624 < S + m
      · have hx := HX10.out (by omega) hov
        clear HX5 HX10 HX0
        go_wp2_with fail
        go_ret
        exact hx _ (bthen K7.out (below_drew (Below.refl _ _)))
      · have hx := HX0.out (by omega) (by omega)
        have c10 : w7.drew.cell? ⟨g6, 32, none⟩ = some (.int .i64 l) := (by have h9 := (tow_at HR.out (range_of H7.out)).locked; rw [Nat.zero_add, ← HLL.out] at h9; exact h9)
        have c11 : w7.drew.cell? ⟨g3, 2, none⟩ = some (.int .i64 m) := (call_cells HO.out H37.out).2.2.1
        have c13 : w7.drew.cell? ⟨g3, 1, none⟩ = some (.int .i64 n) := (call_cells HO.out H37.out).2.1
        have iw2 : IntKind.i64.wrap (l + m) = l + m := IntWalk.i64_in _ (by omega)
        clear HX5 HX10 HX0
        go_wp2_with (first | (refine wpList_field10 rfl 2 _ _ rfl g6 32 rfl (.int .i64 (l + m)) rfl 67 v.cells H7.out (by rw [PTow.len HR.out]; omega) (by kernel_rfl) rfl ?_; intro w10 h10 k10; have H10 : Hid (w10.heap[g6]? = some (.cells (PTow.cells ⟨v.root, l + m, v.asked, v.at9⟩).toArray 67 (0, 0))) := Lib.hid (by rw [← tow_set_locked HR.out]; exact h10); have K10 := Lib.hid (But.in (bthen K7.out (below_drew (Below.refl _ _))) k10 N6.out); have c13 : w10.cell? ⟨g3, 1, none⟩ = some (.int .i64 n) := (call_cells HO.out (k10.heap (show w7.drew.heap[g3]? = _ from H37.out) (show g3 < w7.heap.size from lt_of_block H37.out) NE.out)).2.1; clear h10 k10 c10 c11; go_frame) | (refine wpList_loadw (by rfl) 67 _ rfl g6 0 rfl (PTow.cells ⟨v.root, l + m, v.asked, v.at9⟩) _ (range_of H10.out) Try.underlying67 rfl (tow_size (x := ⟨v.root, l + m, v.asked, v.at9⟩) HR.out) ?_; go_frame) | (go_at_call 37; refine (hx w10 K10.out).mono ?_; rintro e w11 ⟨rfl, hout⟩; have HOUT := Lib.hid hout; clear hout) | fail)
        go_ret
        exact HOUT.out
    exact AllReadyH.nil
theorem llock_any {B : Nat} {w : World} {p : Value} {pb N : Nat} {ts : List PTE} {hs : List PHE} {k n m z : Int} {s : List UInt8} {c : PChan} (h : PlainAt B w p pb N ts hs) (hN : N + 1 ≤ 100) (ho : CallIn ⟨k, n, m, s, c, z⟩) : Calls Try.prog 23 #[p, .agg (PCall.cells ⟨k, n, m, s, c, z⟩).toArray] w fun e w' => PlainOut B w p pb N (.int .i64 (lockB n m s ts).1) (lockB n m s ts).2 hs e w' := by
  by_cases hbad : badLock n m s
  · rw [show lockB n m s ts = (1, ts) by unfold lockB; rw [if_pos hbad]]
    refine (llock_bad h ho hbad).mono ?_
    rintro e w' ⟨rfl, hb⟩
    exact h.same hN hb _
  · cases hl : lookT n ts with
    | none => exact llock_no h hN ho hbad hl
    | some x =>
      by_cases hroot : x.t.root = s
      · exact llock_yes h hN ho hbad hl hroot
      · exact llock_twice h hN ho hbad hl hroot
end Go.Proofs.Ytijanllppbambaa
