/- The law's keep: a hold is put in; keep whole. -/
import Derived.Test.YtijanllppbambaaLKeep
namespace Go.Proofs.Ytijanllppbambaa
open Go.RowKit Go.Maps

theorem OwnOf.apart {α β : Type} {K : Sort8 α} {K' : Sort8 β} {t t' : TypeId} {w w' : World} {B B' : Nat} {v v' : Value} {xs : List α} {ys : List β} (h : OwnOf K t w B v xs) (h' : OwnOf K' t' w B' v' ys) (ht : t ≠ t') (hg : w.grownBy w' v'.ownBlock) : OwnOf K t w' B v xs := by
  refine ⟨⟨h.1.1, ?_⟩, h.2⟩
  rcases h.1.2 with h0 | ⟨g, cap, cur, hv, hb, hh, r⟩
  · exact .inl h0
  · exact .inr ⟨g, cap, cur, hv, hb, (hg.block g (lt_of_block hh) (fun e => h'.other hh ht e.symm)).trans hh, r⟩
theorem OwnOf.ownHe {w : World} {B : Nat} {v : Value} {xs : List PHE} (h : OwnOf heK 73 w B v xs) {g : Nat} (e : v.ownBlock = some g) : ∃ cs fr, w.heap[g]? = some (.cells cs 73 fr) := by
  rcases h.1.2 with ⟨hv, _⟩ | ⟨g', cap, cur, hv, _, hh, _⟩
  · rw [hv] at e
    cases e
  · rw [hv] at e
    simp [Value.ownBlock] at e
    subst e
    exact ⟨_, _, hh⟩
theorem PlainAt.addH {B : Nat} {w : World} {p : Value} {pb N : Nat} {ts : List PTE} {hs : List PHE} {w10 w11 w12 : World} (h : PlainAt B w p pb N ts hs) (hN : N + 1 ≤ 100) (k : Below w.heap.size w w10) {v1 v2 v3 : Value} (hp : w10.heap[pb]? = some (.cells #[v1, v2] 29 (0, 0))) (o1 : OwnOf teK 71 w10 B v1 ts) (o2 : OwnOf heK 73 w10 B v2 hs) {x : PHE} (o3 : OwnOf heK 73 w11 B v3 (hs ++ [x])) (hg : w10.grownBy w11 v2.ownBlock) (h12 : w12.heap[pb]? = some (.cells #[v1, v3] 29 (0, 0))) (k12 : But w11.heap.size pb w11 w12) (hi : Inv ts (hs ++ [x])) (ans : Value) : PlainOut B w p pb N ans ts (hs ++ [x]) (.returned ans) w12 := by
  have p11 : w11.heap[pb]? = some (.cells #[v1, v2] 29 (0, 0)) := (hg.block pb (lt_of_block hp) (fun e => o2.other hp (by decide) e.symm)).trans hp
  have o11 : OwnOf teK 71 w11 B v1 ts := o1.apart o2 (by decide) hg
  have hno : ∀ cs fr, w11.heap[pb]? ≠ some (.cells cs 71 fr) := fun cs fr e => by rw [p11] at e; cases e
  have hno2 : ∀ cs fr, w11.heap[pb]? ≠ some (.cells cs 73 fr) := fun cs fr e => by rw [p11] at e; cases e
  have hB := h.size
  have b1 : Below B w10 w11 := ⟨hg.os, hg.tape, hg.output, hg.size, fun i hi9 => hg.block i (by have := k.size; omega) (fun e => by have := (o2.lt i e.symm).1; omega)⟩
  have b2 : Below B w11 w12 := (k12.mono (Nat.le_trans hB (Nat.le_trans k.size hg.size))).below h.base
  exact ⟨rfl, ⟨h.is, h.base, ⟨v1, v3, h12, o11.but k12 hno, o3.but k12 hno2⟩, hN, by have := h.tn; omega, by have := h.hn; rw [List.length_append, List.length_singleton]; omega, hi⟩,
    ((Bar.of k).trans (Bar.grown hg (fun i e => by obtain ⟨cs, fr, hh⟩ := o2.ownHe e; rw [hh]; exact .inr (.inr ⟨cs, fr, rfl⟩)))).trans (Bar.but k12 (fun _ => .inl rfl)), ((k.mono hB).trans b1).trans b2⟩
set_option linter.unusedSimpArgs false in
set_option maxRecDepth 100000 in
set_option maxHeartbeats 12800000 in
theorem lkeep_ok {B : Nat} {w : World} {p : Value} {pb N : Nat} {ts : List PTE} {hs : List PHE} {k n m z : Int} {s : List UInt8} {c : PChan} (h : PlainAt B w p pb N ts hs) (hN : N + 1 ≤ 100) (ho : CallIn ⟨k, n, m, s, c, z⟩) (hk : ¬ k = 3) (h1 : ¬ c.cap < 1) (h2 : ¬ 1125899906842624 < c.cap) {x : PTE} (hl : lookT n ts = some x) (hly : lookH n c.id hs = none) (h3 : ¬ freeB n ts hs < c.cap) :
    Calls Try.prog 24 #[p, .agg (PCall.cells ⟨k, n, m, s, c, z⟩).toArray] w fun e w' => PlainOut B w p pb N (.int .i64 0) ts (hs ++ [⟨n, ⟨c, c.cap, false, 0, zero32⟩⟩]) e w' := by
  have HO := Lib.hid ho
  have HA := Lib.hid h
  have HN := Lib.hid hN
  obtain ⟨i, hid⟩ : ∃ i, i = c.id := ⟨_, rfl⟩
  obtain ⟨pc, hpc⟩ : ∃ i, i = c.cap := ⟨_, rfl⟩
  have HID := Lib.hid hid
  have HCP := Lib.hid hpc
  have hi := h.inv.hold (n := n) (c := c) ho.ch (show 1 ≤ c.cap by omega) (by rw [hl]; simp) hly h3
  have HC : Hid (ChanIn c) := Lib.hid ho.ch
  have hlh := lhold_none h hly
  rw [← hid] at hlh
  have HLH := Lib.hid hlh
  obtain ⟨j, hj, hat, hjx⟩ := at_some h hl
  have HAT := Lib.hid hat
  have f0 : (0 : Int) ≤ (j : Int) := by omega
  have f2 : ¬ ((j : Int) < 0) := by omega
  obtain ⟨F, hF⟩ : ∃ F, F = freeB n ts hs := ⟨_, rfl⟩
  have HLF : Hid (∀ W : World, Below w.heap.size w W → Calls Try.prog 29 #[p, .int .i64 n] W fun e w' => e = .returned (.int .i64 F) ∧ Below W.heap.size W w') := Lib.hid (fun W hW => by rw [hF]; exact lfree_any (h.below hW) n)
  obtain ⟨a1, c1', a2, c2', hp, s1, s2, o1, o2⟩ := h.read
  have hpis := h.is
  subst hpis
  have HP := Lib.hid hp
  rw [← hF] at h3
  rw [← hpc] at h1 h2 h3 hi ⊢
  have HIV := Lib.hid hi
  have HO1 := Lib.hid o1
  have HO2 := Lib.hid o2
  have hL100 : hs.length ≤ 100 := by have k1 := h.hn; have k2 := h.few; omega
  have HHI : Hid (HoldIn ⟨c, pc, false, 0, zero32⟩) := Lib.hid ⟨ho.ch, by rw [hpc]; exact ho.ch.cap, by constructor <;> (simp only; decide), rfl⟩
  have SZC := Lib.hid (chan_size ho.ch.ftx)
  clear h hN ho hlh hid hpc hat hl hly hj hjx hF hp s1 s2 o1 o2 hi
  go_enter Try.func24, Try.ntmps24
  go_upto_region 16 with (first | (refine wpList_box10 rfl 37 _ rfl (PCall.cells ⟨k, n, m, s, c, z⟩).toArray rfl ?_; intro g3 w3 n3 h3 k3; have H3 := Lib.hid h3; have K3 := Lib.hid k3; have c0 : w3.cell? ⟨g3, 0, none⟩ = some (.int .i64 k) := (by have h9 := (call_cells HO.out h3).1; exact h9); have c1 : w3.cell? ⟨g3, 1, none⟩ = some (.int .i64 n) := (by have h9 := (call_cells HO.out h3).2.1; exact h9); have c5 : w3.cell? ⟨g3, 35, none⟩ = some (.int .i64 i) := (by have h9 := (call_cells HO.out h3).2.2.2.2.2.1; rw [← HID.out] at h9; exact h9); clear h3 k3 n3; go_frame) | (go_at_call 38; refine (HLH.out _ K3.out).mono ?_; rintro e w4 ⟨rfl, rfl⟩) | (refine wpList_loadw (by rfl) 35 _ rfl g3 35 rfl c.cells _ ((call_cells HO.out H3.out).2.2.2.2.1) Try.underlying35 rfl (chan_size HC.out.ftx) ?_; go_frame) | (refine wpList_var rfl rfl 35 rfl _ _ rfl noChan.cells.toArray Try.zeroChan rfl c.cells (fun _ => rfl) (fun _ => rfl) (PChan.len HC.out.ftx) c.one ?_; intro g6 w6 n6 h6 k6; have H6 := Lib.hid h6; have K6 := Lib.hid (bthen K3.out k6); have H36 := Lib.hid (keep k6 H3.out); have ck : w6.cell? ⟨g6, 36, none⟩ = some (.int .i64 pc) := (by have h9 := chan_cap HC.out.ftx (range_of h6); rw [Nat.zero_add, ← HCP.out] at h9; exact h9); have c61 : w6.cell? ⟨g3, 1, none⟩ = some (.int .i64 n) := (call_cells HO.out (keep k6 H3.out)).2.1; clear h6 k6 n6 c0 c1 c5; go_frame) | (go_at_call 36; refine (HAT.out _ K6.out).mono ?_; rintro e w7 ⟨rfl, rfl⟩) | fail)
  have C61 : Hid (∀ W : World, Below w6.heap.size w6 W → W.cell? ⟨g3, 1, none⟩ = some (.int .i64 n)) := Lib.hid (fun W hW => (call_cells HO.out (keep hW H36.out)).2.1)
  have CK : Hid (∀ W : World, Below w6.heap.size w6 W → W.cell? ⟨g6, 36, none⟩ = some (.int .i64 pc)) := Lib.hid (fun W hW => by have h9 := chan_cap HC.out.ftx (range_of (keep hW H6.out)); rw [Nat.zero_add, ← HCP.out] at h9; exact h9)
  refine wp_region_held_drew (S := fun w' => Below w6.heap.size w6 w') (by kernel_rfl) (below_drew (Below.refl _ _)) (fun hHeld => ?_)
  refine take_at (i := 0) (v := ?_) rfl rfl (by kernel_rfl) (by kernel_rfl) (by kernel_rfl) (fun _ _ _ h => h) (Or.inl ⟨by rfl, ?_⟩) (by assumption) ?_
  rotate_left
  · intro w0 hSw; (try dsimp only at hSw); first | (go_simp; done) | (go_simp; with_reducible rfl)
  simp only [List.setIfInBounds_toArray, List.set_cons_zero, List.set_cons_succ]
  refine take_at (i := 1) (v := ?_) rfl rfl (by kernel_rfl) (by kernel_rfl) (by kernel_rfl) (fun _ _ _ h => h) (Or.inl ⟨by rfl, ?_⟩) (by assumption) ?_
  rotate_left
  · intro w0 hSw; (try dsimp only at hSw); first | (go_simp; done) | (go_simp; with_reducible rfl)
  simp only [List.setIfInBounds_toArray, List.set_cons_zero, List.set_cons_succ]
  refine take_at (i := 2) rfl rfl (by kernel_rfl) (by kernel_rfl) (by kernel_rfl) (fun _ _ _ h => h) (yields_cell (b := g3) (o := 1) (by rfl) rfl rfl (fun w0 hSw => C61.out w0 hSw) (fun w0 => Try.isAgg3 w0)) (by assumption) ?_
  simp only [List.setIfInBounds_toArray, List.set_cons_zero, List.set_cons_succ]
  refine take_at (i := 4) (v := ?_) rfl rfl (by kernel_rfl) (by kernel_rfl) (by kernel_rfl) (fun _ _ _ h => h) (Or.inl ⟨by rfl, ?_⟩) (by assumption) ?_
  rotate_left
  · intro w0 hSw; (try dsimp only at hSw); first | (go_simp; done) | (go_simp; with_reducible rfl)
  simp only [List.setIfInBounds_toArray, List.set_cons_zero, List.set_cons_succ]
  refine take_at (i := 5) rfl rfl (by kernel_rfl) (by kernel_rfl) (by kernel_rfl) (fun _ _ _ h => h) (yields_cell (b := g6) (o := 36) (by rfl) rfl rfl (fun w0 hSw => CK.out w0 hSw) (fun w0 => Try.isAgg2 w0)) (by assumption) ?_
  simp only [List.setIfInBounds_toArray, List.set_cons_zero, List.set_cons_succ]
  refine wpAnyH_ready (rs := [3]) (by kernel_rfl) (by simp) ?_
  refine AllReadyH.cons rfl (fun K hK => ?_) ?_
  · go_simp
    refine (HLF.out _ (bthen K6.out hHeld)).mono ?_
    rintro e w9 ⟨rfl, hb9⟩
    dsimp only
    have J9 := Lib.hid (bthen hHeld hb9)
    have K9 := Lib.hid (bthen K6.out (bthen hHeld hb9))
    have H39 := Lib.hid (keep (bthen hHeld hb9) H36.out)
    have H69 := Lib.hid (keep (bthen hHeld hb9) H6.out)
    clear hb9
    refine hK.out _ _ (by (try dsimp only); exact J9.out) (fun hHeld => ?_)
    clear hK K
    refine take_at (i := 6) (v := ?_) rfl rfl (by kernel_rfl) (by kernel_rfl) (by kernel_rfl) (fun _ _ _ h => h) (Or.inl ⟨by rfl, ?_⟩) (by assumption) ?_
    rotate_left
    · intro w0 hSw; (try dsimp only at hSw); first | (go_simp; done) | (go_simp; with_reducible rfl)
    simp only [List.setIfInBounds_toArray, List.set_cons_zero, List.set_cons_succ]
    refine wpAnyH_done (by kernel_rfl) ?_ _
    try simp only [Act.put]
    go_upto_region 18 with (fail)
    have CKS : Hid (∀ W : World, W.heap[g6]? = some (.cells c.cells.toArray 35 (0, 0)) → W.cell? ⟨g6, 36, none⟩ = some (.int .i64 pc)) := Lib.hid (fun W hW => by have h9 := chan_cap HC.out.ftx (range_of hW); rw [Nat.zero_add, ← HCP.out] at h9; exact h9)
    refine wp_region_held_drew (S := fun w' => w'.heap[g3]? = some (.cells (PCall.cells ⟨k, n, m, s, c, z⟩).toArray 37 (0, 0)) ∧ w'.heap[g6]? = some (.cells c.cells.toArray 35 (0, 0))) (by kernel_rfl) (⟨H39.out, H69.out⟩) (fun hHeld => ?_)
    refine take_at (i := 0) (v := ?_) rfl rfl (by kernel_rfl) (by kernel_rfl) (by kernel_rfl) (fun _ _ _ h => h) (Or.inl ⟨by rfl, ?_⟩) (by assumption) ?_
    rotate_left
    · intro w0 hSw; (try dsimp only at hSw); first | (go_simp; done) | (go_simp; with_reducible rfl)
    simp only [List.setIfInBounds_toArray, List.set_cons_zero, List.set_cons_succ]
    refine take_at (i := 1) (v := ?_) rfl rfl (by kernel_rfl) (by kernel_rfl) (by kernel_rfl) (fun _ _ _ h => h) (Or.inl ⟨by rfl, ?_⟩) (by assumption) ?_
    rotate_left
    · intro w0 hSw; (try dsimp only at hSw); first | (go_simp; done) | (go_simp; with_reducible rfl)
    simp only [List.setIfInBounds_toArray, List.set_cons_zero, List.set_cons_succ]
    refine take_at (i := 2) (v := ?_) rfl rfl (by kernel_rfl) (by kernel_rfl) (by kernel_rfl) (fun _ _ _ h => h) (Or.inl ⟨by rfl, ?_⟩) (by assumption) ?_
    rotate_left
    · intro w0 hSw; (try dsimp only at hSw); first | (go_simp; done) | (go_simp; with_reducible rfl)
    simp only [List.setIfInBounds_toArray, List.set_cons_zero, List.set_cons_succ]
    refine take_at (i := 3) (v := ?_) rfl rfl (by kernel_rfl) (by kernel_rfl) (by kernel_rfl) (fun _ _ _ h => h) (Or.inl ⟨by rfl, ?_⟩) (by assumption) ?_
    rotate_left
    · intro w0 hSw; (try dsimp only at hSw); first | (go_simp; done) | (go_simp; with_reducible rfl)
    simp only [List.setIfInBounds_toArray, List.set_cons_zero, List.set_cons_succ]
    refine take_at (i := 5) (v := ?_) rfl rfl (by kernel_rfl) (by kernel_rfl) (by kernel_rfl) (fun _ _ _ h => h) (Or.inl ⟨by rfl, ?_⟩) (by assumption) ?_
    rotate_left
    · intro w0 hSw; (try dsimp only at hSw); first | (go_simp; done) | (go_simp; with_reducible rfl)
    simp only [List.setIfInBounds_toArray, List.set_cons_zero, List.set_cons_succ]
    refine take_at (i := 6) rfl rfl (by kernel_rfl) (by kernel_rfl) (by kernel_rfl) (fun _ _ _ h => h) (yields_cell (b := g3) (o := 1) (by rfl) rfl rfl (fun w0 hSw => (call_cells HO.out hSw.1).2.1) (fun w0 => Try.isAgg3 w0)) (by assumption) ?_
    simp only [List.setIfInBounds_toArray, List.set_cons_zero, List.set_cons_succ]
    refine take_at (i := 7) rfl rfl (by kernel_rfl) (by kernel_rfl) (by kernel_rfl) (fun _ _ _ h => h) (yieldsIf_load_mid (by rfl) _ _ rfl g6 0 rfl c.cells _ (fun w0 hSw => range_of hSw.2) Try.underlying35 rfl SZC.out) (by assumption) ?_
    simp only [List.setIfInBounds_toArray, List.set_cons_zero, List.set_cons_succ]
    refine take_at (i := 8) (v := ?_) rfl rfl (by kernel_rfl) (by kernel_rfl) (by kernel_rfl) (fun _ _ _ h => h) (Or.inl ⟨by rfl, ?_⟩) (by assumption) ?_
    rotate_left
    · intro w0 hSw; (try dsimp only at hSw); first | (go_simp; done) | (go_simp; with_reducible rfl)
    simp only [List.setIfInBounds_toArray, List.set_cons_zero, List.set_cons_succ]
    refine take_at (i := 9) rfl rfl (by kernel_rfl) (by kernel_rfl) (by kernel_rfl) (fun _ _ _ h => h) (yields_cell (b := g6) (o := 36) (by rfl) rfl rfl (fun w0 hSw => CKS.out w0 hSw.2) (fun w0 => Try.isAgg2 w0)) (by assumption) ?_
    simp only [List.setIfInBounds_toArray, List.set_cons_zero, List.set_cons_succ]
    refine take_at (i := 10) rfl rfl (by kernel_rfl) (by kernel_rfl) (by kernel_rfl) (fun _ _ _ h => h) (yields_build10 (by rfl) rfl (vs := [(0, .agg c.cells.toArray), (1, .int .i64 pc)]) (by rfl) (build_hold HC.out.ftx pc)) (by assumption) ?_
    simp only [List.setIfInBounds_toArray, List.set_cons_zero, List.set_cons_succ]
    refine take_at (i := 11) rfl rfl (by kernel_rfl) (by kernel_rfl) (by kernel_rfl) (fun _ _ _ h => h) (yields_build10 (by rfl) rfl (vs := [(0, .int .i64 n), (1, .agg (PHold.cells ⟨c, pc, false, 0, zero32⟩).toArray)]) (by rfl) (build_he (n := n) (h := ⟨c, pc, false, 0, zero32⟩) HHI.out)) (by assumption) ?_
    simp only [List.setIfInBounds_toArray, List.set_cons_zero, List.set_cons_succ]
    refine wpAnyH_ready (rs := [4, 12]) (by kernel_rfl) (by simp) ?_
    refine AllReadyH.cons rfl (fun K hK => ?_) ?_
    · refine step_cell (d := 60) rfl (by rfl) 27 _ rfl pb 1 rfl (.slice a2 hs.length c2') (cell_of_row w9.drew pb 1 _ _ _ (keep (bthen K9.out (below_drew (Below.refl _ _))) HP.out)) (Try.isAgg27 _) ?_
      refine hK.out _ _ (by (try dsimp only); exact hHeld) (fun hHeld => ?_)
      clear hK K
      refine wpAnyH_ready (rs := [12]) (by kernel_rfl) (by simp) ?_
      refine AllReadyH.cons rfl (fun K hK => ?_) ?_
      · refine step_lit_of Try.heAt (d := 68) rfl (by rfl) rfl (x := ⟨n, ⟨c, pc, false, 0, zero32⟩⟩) (by rfl) (PHE.len (x := ⟨n, ⟨c, pc, false, 0, zero32⟩⟩) HHI.out) ?_
        intro g10 w10 n10 h10 k10
        have H10 := Lib.hid h10
        have J10 := Lib.hid (bthen K9.out (bthen (below_drew (Below.refl w9.heap.size w9)) k10))
        have HSX : Hid (w10.heap[g3]? = _ ∧ w10.heap[g6]? = _) := Lib.hid ⟨keep k10 hHeld.1, keep k10 hHeld.2⟩
        have HP10 := Lib.hid (keep (bthen K9.out (bthen (below_drew (Below.refl w9.heap.size w9)) k10)) HP.out)
        have O10 := Lib.hid (HO2.out.below J10.out)
        clear h10 k10 n10
        refine hK.out _ _ (by (try dsimp only); exact HSX.out) (fun hHeld => ?_)
        clear hK K
        refine wpAnyH_ready (rs := [13]) (by kernel_rfl) (by simp) ?_
        refine AllReadyH.cons rfl (fun K hK => ?_) ?_
        · refine step_append_of Try.heAt (d := 69) rfl (by rfl) _ _ rfl rfl B (.slice a2 hs.length c2') hs (by rfl) O10.out g10 ⟨n, ⟨c, pc, false, 0, zero32⟩⟩ (by rfl) H10.out (PHE.len (x := ⟨n, ⟨c, pc, false, 0, zero32⟩⟩) HHI.out) (by omega) (Nat.le_trans HA.out.size J10.out.size) ?_
          intro a11 c11 w11 ho11 hg11
          have HO11 := Lib.hid ho11
          have HG11 := Lib.hid hg11
          have HP11 : Hid (w11.heap[pb]? = _) := Lib.hid ((hg11.block pb (lt_of_block HP10.out) (fun e => O10.out.other HP10.out (by decide) e.symm)).trans HP10.out)
          have HSY : Hid (w11.heap[g3]? = _ ∧ w11.heap[g6]? = _) := Lib.hid ⟨(hg11.block g3 (lt_of_block HSX.out.1) (fun e => O10.out.other HSX.out.1 (by decide) e.symm)).trans HSX.out.1, (hg11.block g6 (lt_of_block HSX.out.2) (fun e => O10.out.other HSX.out.2 (by decide) e.symm)).trans HSX.out.2⟩
          clear ho11 hg11
          refine hK.out _ _ (by (try dsimp only); exact HSY.out) (fun hHeld => ?_)
          clear hK K
          refine take_at (i := 14) (v := ?_) rfl rfl (by kernel_rfl) (by kernel_rfl) (by kernel_rfl) (fun _ _ _ h => h) (Or.inl ⟨by rfl, ?_⟩) (by assumption) ?_
          rotate_left
          · intro w0 hSw; (try dsimp only at hSw); first | (go_simp; done) | (go_simp; with_reducible rfl)
          simp only [List.setIfInBounds_toArray, List.set_cons_zero, List.set_cons_succ]
          refine take_at (i := 15) (v := ?_) rfl rfl (by kernel_rfl) (by kernel_rfl) (by kernel_rfl) (fun _ _ _ h => h) (Or.inl ⟨by rfl, ?_⟩) (by assumption) ?_
          rotate_left
          · intro w0 hSw; (try dsimp only at hSw); first | (go_simp; done) | (go_simp; with_reducible rfl)
          simp only [List.setIfInBounds_toArray, List.set_cons_zero, List.set_cons_succ]
          refine wpAnyH_ready (rs := [16]) (by kernel_rfl) (by simp) ?_
          refine AllReadyH.cons rfl (fun K hK => ?_) ?_
          · refine step_field10 (by rfl) 27 _ _ rfl pb 1 (by rfl) (.slice a11 (hs.length + 1) c11) (by rfl) 29 [.slice a1 ts.length c1', .slice a2 hs.length c2'] HP11.out (by simp) (by kernel_rfl) rfl ?_
            intro w12 h12 k12
            have H12 := Lib.hid h12
            have K12 := Lib.hid k12
            have HSZ : Hid (w12.heap[g3]? = _ ∧ w12.heap[g6]? = _) := Lib.hid ⟨k12.heap HSY.out.1 (lt_of_block HSY.out.1) (fun e => by have h9 := HSY.out.1; rw [e, HP11.out] at h9; cases h9), k12.heap HSY.out.2 (lt_of_block HSY.out.2) (fun e => by have h9 := HSY.out.2; rw [e, HP11.out] at h9; cases h9)⟩
            clear h12 k12
            refine hK.out _ _ (by (try dsimp only); exact HSZ.out) (fun hHeld => ?_)
            clear hK K
            refine wpAnyH_done (by kernel_rfl) ?_ _
            go_wp2_with fail
            go_ret
            have hx := HA.out.addH HN.out J10.out HP10.out (HO1.out.below J10.out) O10.out HO11.out HG11.out H12.out K12.out HIV.out (.int .i64 0)
            exact hx
          exact AllReadyH.nil
        exact AllReadyH.nil
      exact AllReadyH.nil
    refine AllReadyH.cons rfl (fun K hK => ?_) ?_
    · refine step_lit_of Try.heAt (d := 68) rfl (by rfl) rfl (x := ⟨n, ⟨c, pc, false, 0, zero32⟩⟩) (by rfl) (PHE.len (x := ⟨n, ⟨c, pc, false, 0, zero32⟩⟩) HHI.out) ?_
      intro g10 w10 n10 h10 k10
      have H10 := Lib.hid h10
      have J10 := Lib.hid (bthen K9.out (bthen (below_drew (Below.refl w9.heap.size w9)) k10))
      have HSX : Hid (w10.heap[g3]? = _ ∧ w10.heap[g6]? = _) := Lib.hid ⟨keep k10 hHeld.1, keep k10 hHeld.2⟩
      have HP10 := Lib.hid (keep (bthen K9.out (bthen (below_drew (Below.refl w9.heap.size w9)) k10)) HP.out)
      have O10 := Lib.hid (HO2.out.below J10.out)
      clear h10 k10 n10
      refine hK.out _ _ (by (try dsimp only); exact HSX.out) (fun hHeld => ?_)
      clear hK K
      refine wpAnyH_ready (rs := [4]) (by kernel_rfl) (by simp) ?_
      refine AllReadyH.cons rfl (fun K hK => ?_) ?_
      · refine step_cell (d := 60) rfl (by rfl) 27 _ rfl pb 1 rfl (.slice a2 hs.length c2') (cell_of_row w10 pb 1 _ _ _ HP10.out) (Try.isAgg27 _) ?_
        refine hK.out _ _ (by (try dsimp only); exact HSX.out) (fun hHeld => ?_)
        clear hK K
        refine wpAnyH_ready (rs := [13]) (by kernel_rfl) (by simp) ?_
        refine AllReadyH.cons rfl (fun K hK => ?_) ?_
        · refine step_append_of Try.heAt (d := 69) rfl (by rfl) _ _ rfl rfl B (.slice a2 hs.length c2') hs (by rfl) O10.out g10 ⟨n, ⟨c, pc, false, 0, zero32⟩⟩ (by rfl) H10.out (PHE.len (x := ⟨n, ⟨c, pc, false, 0, zero32⟩⟩) HHI.out) (by omega) (Nat.le_trans HA.out.size J10.out.size) ?_
          intro a11 c11 w11 ho11 hg11
          have HO11 := Lib.hid ho11
          have HG11 := Lib.hid hg11
          have HP11 : Hid (w11.heap[pb]? = _) := Lib.hid ((hg11.block pb (lt_of_block HP10.out) (fun e => O10.out.other HP10.out (by decide) e.symm)).trans HP10.out)
          have HSY : Hid (w11.heap[g3]? = _ ∧ w11.heap[g6]? = _) := Lib.hid ⟨(hg11.block g3 (lt_of_block HSX.out.1) (fun e => O10.out.other HSX.out.1 (by decide) e.symm)).trans HSX.out.1, (hg11.block g6 (lt_of_block HSX.out.2) (fun e => O10.out.other HSX.out.2 (by decide) e.symm)).trans HSX.out.2⟩
          clear ho11 hg11
          refine hK.out _ _ (by (try dsimp only); exact HSY.out) (fun hHeld => ?_)
          clear hK K
          refine take_at (i := 14) (v := ?_) rfl rfl (by kernel_rfl) (by kernel_rfl) (by kernel_rfl) (fun _ _ _ h => h) (Or.inl ⟨by rfl, ?_⟩) (by assumption) ?_
          rotate_left
          · intro w0 hSw; (try dsimp only at hSw); first | (go_simp; done) | (go_simp; with_reducible rfl)
          simp only [List.setIfInBounds_toArray, List.set_cons_zero, List.set_cons_succ]
          refine take_at (i := 15) (v := ?_) rfl rfl (by kernel_rfl) (by kernel_rfl) (by kernel_rfl) (fun _ _ _ h => h) (Or.inl ⟨by rfl, ?_⟩) (by assumption) ?_
          rotate_left
          · intro w0 hSw; (try dsimp only at hSw); first | (go_simp; done) | (go_simp; with_reducible rfl)
          simp only [List.setIfInBounds_toArray, List.set_cons_zero, List.set_cons_succ]
          refine wpAnyH_ready (rs := [16]) (by kernel_rfl) (by simp) ?_
          refine AllReadyH.cons rfl (fun K hK => ?_) ?_
          · refine step_field10 (by rfl) 27 _ _ rfl pb 1 (by rfl) (.slice a11 (hs.length + 1) c11) (by rfl) 29 [.slice a1 ts.length c1', .slice a2 hs.length c2'] HP11.out (by simp) (by kernel_rfl) rfl ?_
            intro w12 h12 k12
            have H12 := Lib.hid h12
            have K12 := Lib.hid k12
            have HSZ : Hid (w12.heap[g3]? = _ ∧ w12.heap[g6]? = _) := Lib.hid ⟨k12.heap HSY.out.1 (lt_of_block HSY.out.1) (fun e => by have h9 := HSY.out.1; rw [e, HP11.out] at h9; cases h9), k12.heap HSY.out.2 (lt_of_block HSY.out.2) (fun e => by have h9 := HSY.out.2; rw [e, HP11.out] at h9; cases h9)⟩
            clear h12 k12
            refine hK.out _ _ (by (try dsimp only); exact HSZ.out) (fun hHeld => ?_)
            clear hK K
            refine wpAnyH_done (by kernel_rfl) ?_ _
            go_wp2_with fail
            go_ret
            have hx := HA.out.addH HN.out J10.out HP10.out (HO1.out.below J10.out) O10.out HO11.out HG11.out H12.out K12.out HIV.out (.int .i64 0)
            exact hx
          exact AllReadyH.nil
        exact AllReadyH.nil
      exact AllReadyH.nil
    exact AllReadyH.nil
  exact AllReadyH.nil
/-- What keep answers, and leaves. -/
def keepLB (k n : Int) (c : PChan) (ts : List PTE) (hs : List PHE) : Int × List PHE := if k = 3 then letB n c.id hs else holdB n c ts hs
theorem lkeep_any {B : Nat} {w : World} {p : Value} {pb N : Nat} {ts : List PTE} {hs : List PHE} {k n m z : Int} {s : List UInt8} {c : PChan} (h : PlainAt B w p pb N ts hs) (hN : N + 1 ≤ 100) (ho : CallIn ⟨k, n, m, s, c, z⟩) : Calls Try.prog 24 #[p, .agg (PCall.cells ⟨k, n, m, s, c, z⟩).toArray] w fun e w' => PlainOut B w p pb N (.int .i64 (keepLB k n c ts hs).1) ts (keepLB k n c ts hs).2 e w' := by
  unfold keepLB
  by_cases hk : k = 3
  · rw [if_pos hk]
    unfold letB
    cases hl : lookH n c.id hs with
    | none => exact lkeep_letNone h hN ho hk hl
    | some y =>
      simp only
      cases hp : y.h.proved with
      | true => exact lkeep_letProved h hN ho hk hl hp
      | false => exact lkeep_letOk h hN ho hk hl hp
  · rw [if_neg hk]
    unfold holdB
    by_cases hb : c.cap < 1 ∨ 1125899906842624 < c.cap
    · rw [if_pos hb]
      exact lkeep_bad h hN ho hk hb
    · rw [if_neg hb]
      have h1 : ¬ c.cap < 1 := fun e => hb (.inl e)
      have h2 : ¬ 1125899906842624 < c.cap := fun e => hb (.inr e)
      cases hl : lookT n ts with
      | none =>
        rw [if_pos rfl]
        exact lkeep_tower h hN ho hk h1 h2 hl
      | some x =>
        rw [if_neg (by simp)]
        cases hly : lookH n c.id hs with
        | some y =>
          rw [if_pos (by simp)]
          exact lkeep_twice h hN ho hk h1 h2 hl hly
        | none =>
          rw [if_neg (by simp)]
          by_cases h3 : freeB n ts hs < c.cap
          · rw [if_pos h3]
            exact lkeep_bond h hN ho hk h1 h2 hl hly h3
          · rw [if_neg h3]
            exact lkeep_ok h hN ho hk h1 h2 hl hly h3
end Go.Proofs.Ytijanllppbambaa
