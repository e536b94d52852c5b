/- bond.Hold, case by case. -/
import Derived.Test.YtijanllppbambaaBondOps
namespace Go.Proofs.Ytijanllppbambaa
open Go.RowKit Go.Maps

set_option linter.unusedSimpArgs false in
set_option maxRecDepth 100000 in
set_option maxHeartbeats 12800000 in
theorem hold_bad {w : World} {pv : Value} {n : Int} {c : PChan} {g : Bool} (hc : ChanIn c) (hg : GivenIs w pv g) (hbad : g = false ∨ c.cap < 1 ∨ 1125899906842624 < c.cap) :
    Calls Try.prog 16 #[pv, .int .i64 n, .agg c.cells.toArray] w fun e w' => e = .returned (.int .i64 1) ∧ Below w.heap.size w w' := by
  obtain ⟨p, hpc⟩ : ∃ p, p = c.cap := ⟨_, rfl⟩
  obtain ⟨i, hid⟩ : ∃ i, i = c.id := ⟨_, rfl⟩
  have HPC := Lib.hid hpc
  have HID := Lib.hid hid
  have HC := Lib.hid hc
  rw [← hpc] at hbad
  have HG := Lib.hid hg
  clear hg hc hpc hid
  go_enter Try.func16, Try.ntmps16
  cases g with
  | false =>
    clear hbad
    go_wp2_with (first | (refine wpList_box10 rfl 35 _ rfl c.cells.toArray rfl ?_; intro g3 w3 n3 h3 k3; have H3 := Lib.hid h3; have K3 := Lib.hid k3; have c36 : w3.cell? ⟨g3, 36, none⟩ = some (.int .i64 p) := (by have h9 := chan_cap HC.out.ftx (range_of h3); rw [Nat.zero_add, ← HPC.out] at h9; exact h9); clear h3 k3 n3; go_frame) | (go_at_call 30; refine (HG.out _ K3.out).mono ?_; rintro e w4 ⟨rfl, rfl⟩) | fail)
    go_ret
    exact ⟨rfl, K3.out⟩
  | true =>
    by_cases h1 : p < 1
    · clear hbad
      go_wp2_with (first | (refine wpList_box10 rfl 35 _ rfl c.cells.toArray rfl ?_; intro g3 w3 n3 h3 k3; have H3 := Lib.hid h3; have K3 := Lib.hid k3; have c36 : w3.cell? ⟨g3, 36, none⟩ = some (.int .i64 p) := (by have h9 := chan_cap HC.out.ftx (range_of h3); rw [Nat.zero_add, ← HPC.out] at h9; exact h9); clear h3 k3 n3; go_frame) | (go_at_call 30; refine (HG.out _ K3.out).mono ?_; rintro e w4 ⟨rfl, rfl⟩) | fail)
      go_ret
      exact ⟨rfl, K3.out⟩
    · have h2 : 1125899906842624 < p := (hbad.resolve_left (by simp)).resolve_left h1
      clear hbad
      go_wp2_with (first | (refine wpList_box10 rfl 35 _ rfl c.cells.toArray rfl ?_; intro g3 w3 n3 h3 k3; have H3 := Lib.hid h3; have K3 := Lib.hid k3; have c36 : w3.cell? ⟨g3, 36, none⟩ = some (.int .i64 p) := (by have h9 := chan_cap HC.out.ftx (range_of h3); rw [Nat.zero_add, ← HPC.out] at h9; exact h9); clear h3 k3 n3; go_frame) | (go_at_call 30; refine (HG.out _ K3.out).mono ?_; rintro e w4 ⟨rfl, rfl⟩) | fail)
      go_ret
      exact ⟨rfl, K3.out⟩
set_option linter.unusedSimpArgs false in
set_option maxRecDepth 100000 in
set_option maxHeartbeats 12800000 in
theorem hold_tower {w : World} {pv : Value} {n : Int} {c : PChan} {v : PTow} (hc : ChanIn c) (hg : GivenIs w pv true) (h1 : ¬ c.cap < 1) (h2 : ¬ 1125899906842624 < c.cap) (hr : v.root.length = 32) (ht : GetIs w pv n v false) :
    Calls Try.prog 16 #[pv, .int .i64 n, .agg c.cells.toArray] w fun e w' => e = .returned (.int .i64 21) ∧ Below w.heap.size w w' := by
  obtain ⟨p, hpc⟩ : ∃ p, p = c.cap := ⟨_, rfl⟩
  obtain ⟨i, hid⟩ : ∃ i, i = c.id := ⟨_, rfl⟩
  have HPC := Lib.hid hpc
  have HID := Lib.hid hid
  have HC := Lib.hid hc
  rw [← hpc] at h1 h2
  have HG := Lib.hid hg
  have HT := Lib.hid ht
  have HR := Lib.hid hr
  clear hg hc ht hpc hid
  go_enter Try.func16, Try.ntmps16
  go_wp2_with (first | (refine wpList_box10 rfl 35 _ rfl c.cells.toArray rfl ?_; intro g3 w3 n3 h3 k3; have H3 := Lib.hid h3; have K3 := Lib.hid k3; have c36 : w3.cell? ⟨g3, 36, none⟩ = some (.int .i64 p) := (by have h9 := chan_cap HC.out.ftx (range_of h3); rw [Nat.zero_add, ← HPC.out] at h9; exact h9); clear h3 k3 n3; go_frame) | (go_at_call 30; refine (HG.out _ K3.out).mono ?_; rintro e w4 ⟨rfl, rfl⟩) | (go_at_call 28; refine (HT.out _ K3.out).mono ?_; rintro e w5 ⟨rfl, hb5⟩; have K5 := Lib.hid (bthen K3.out hb5); have H35 := Lib.hid (keep hb5 H3.out); clear hb5 c36) | (refine wpList_var rfl rfl 67 rfl _ _ rfl noTow.cells.toArray Try.zeroTow rfl v.cells (fun _ => rfl) (fun _ => rfl) (PTow.len HR.out) v.one ?_; intro g6 w6 n6 h6 k6; have K6 := Lib.hid (bthen K5.out k6); have H36 := Lib.hid (keep k6 H35.out); have c30 : w6.cell? ⟨g3, 0, none⟩ = some (.int .i64 i) := (by have h9 := chan_id (range_of (keep k6 H35.out)); rw [← HID.out] at h9; exact h9); clear h6 k6 n6; go_frame) | fail)
  go_ret
  exact ⟨rfl, K6.out⟩
set_option linter.unusedSimpArgs false in
set_option maxRecDepth 100000 in
set_option maxHeartbeats 12800000 in
theorem hold_twice {w : World} {pv : Value} {n : Int} {c : PChan} {v : PTow} {q : PHold} (hc : ChanIn c) (hg : GivenIs w pv true) (h1 : ¬ c.cap < 1) (h2 : ¬ 1125899906842624 < c.cap) (hr : v.root.length = 32) (ht : GetIs w pv n v true) (hq : HoldIn q) (hh : HoldsIs w pv n c.id q true) :
    Calls Try.prog 16 #[pv, .int .i64 n, .agg c.cells.toArray] w fun e w' => e = .returned (.int .i64 8) ∧ Below w.heap.size w w' := by
  obtain ⟨p, hpc⟩ : ∃ p, p = c.cap := ⟨_, rfl⟩
  obtain ⟨i, hid⟩ : ∃ i, i = c.id := ⟨_, rfl⟩
  have HPC := Lib.hid hpc
  have HID := Lib.hid hid
  have HC := Lib.hid hc
  rw [← hpc] at h1 h2
  have HG := Lib.hid hg
  have HT := Lib.hid ht
  have HR := Lib.hid hr
  rw [← hid] at hh
  have HH := Lib.hid hh
  have HQ := Lib.hid hq
  clear hg hc ht hpc hid hh
  go_enter Try.func16, Try.ntmps16
  go_wp2_with (first | (refine wpList_box10 rfl 35 _ rfl c.cells.toArray rfl ?_; intro g3 w3 n3 h3 k3; have H3 := Lib.hid h3; have K3 := Lib.hid k3; have c36 : w3.cell? ⟨g3, 36, none⟩ = some (.int .i64 p) := (by have h9 := chan_cap HC.out.ftx (range_of h3); rw [Nat.zero_add, ← HPC.out] at h9; exact h9); clear h3 k3 n3; go_frame) | (go_at_call 30; refine (HG.out _ K3.out).mono ?_; rintro e w4 ⟨rfl, rfl⟩) | (go_at_call 28; refine (HT.out _ K3.out).mono ?_; rintro e w5 ⟨rfl, hb5⟩; have K5 := Lib.hid (bthen K3.out hb5); have H35 := Lib.hid (keep hb5 H3.out); clear hb5 c36) | (refine wpList_var rfl rfl 67 rfl _ _ rfl noTow.cells.toArray Try.zeroTow rfl v.cells (fun _ => rfl) (fun _ => rfl) (PTow.len HR.out) v.one ?_; intro g6 w6 n6 h6 k6; have K6 := Lib.hid (bthen K5.out k6); have H36 := Lib.hid (keep k6 H35.out); have c30 : w6.cell? ⟨g3, 0, none⟩ = some (.int .i64 i) := (by have h9 := chan_id (range_of (keep k6 H35.out)); rw [← HID.out] at h9; exact h9); clear h6 k6 n6; go_frame) | (go_at_call 15; refine (HH.out _ K6.out).mono ?_; rintro e w7 ⟨rfl, hb7⟩; have K7 := Lib.hid (bthen K6.out hb7); have H37 := Lib.hid (keep hb7 H36.out); clear hb7 c30) | (refine wpList_var rfl rfl 53 rfl _ _ rfl noHold.cells.toArray Try.zeroHold rfl q.cells (fun _ => rfl) (fun _ => rfl) (PHold.len HQ.out) q.one ?_; intro g8 w8 n8 h8 k8; have K8 := Lib.hid (bthen K7.out k8); have H38 := Lib.hid (keep k8 H37.out); clear h8 k8 n8; go_frame) | fail)
  go_ret
  exact ⟨rfl, K8.out⟩
set_option linter.unusedSimpArgs false in
set_option maxRecDepth 100000 in
set_option maxHeartbeats 12800000 in
theorem hold_bond {w : World} {pv : Value} {n F : Int} {c : PChan} {v : PTow} {q : PHold} (hc : ChanIn c) (hg : GivenIs w pv true) (h1 : ¬ c.cap < 1) (h2 : ¬ 1125899906842624 < c.cap) (hr : v.root.length = 32) (ht : GetIs w pv n v true) (hq : HoldIn q) (hh : HoldsIs w pv n c.id q false) (hf : FreeIs w pv n F) (h3 : F < c.cap) :
    Calls Try.prog 16 #[pv, .int .i64 n, .agg c.cells.toArray] w fun e w' => e = .returned (.int .i64 20) ∧ Below w.heap.size w w' := by
  obtain ⟨p, hpc⟩ : ∃ p, p = c.cap := ⟨_, rfl⟩
  obtain ⟨i, hid⟩ : ∃ i, i = c.id := ⟨_, rfl⟩
  have HPC := Lib.hid hpc
  have HID := Lib.hid hid
  have HC := Lib.hid hc
  rw [← hpc] at h1 h2
  have HG := Lib.hid hg
  have HT := Lib.hid ht
  have HR := Lib.hid hr
  rw [← hid] at hh
  have HH := Lib.hid hh
  have HQ := Lib.hid hq
  rw [← hpc] at h3
  have HF := Lib.hid hf
  clear hg hc ht hpc hid hh hf
  go_enter Try.func16, Try.ntmps16
  go_upto_region 9 with (first | (refine wpList_box10 rfl 35 _ rfl c.cells.toArray rfl ?_; intro g3 w3 n3 h3 k3; have H3 := Lib.hid h3; have K3 := Lib.hid k3; have c36 : w3.cell? ⟨g3, 36, none⟩ = some (.int .i64 p) := (by have h9 := chan_cap HC.out.ftx (range_of h3); rw [Nat.zero_add, ← HPC.out] at h9; exact h9); clear h3 k3 n3; go_frame) | (go_at_call 30; refine (HG.out _ K3.out).mono ?_; rintro e w4 ⟨rfl, rfl⟩) | (go_at_call 28; refine (HT.out _ K3.out).mono ?_; rintro e w5 ⟨rfl, hb5⟩; have K5 := Lib.hid (bthen K3.out hb5); have H35 := Lib.hid (keep hb5 H3.out); clear hb5 c36) | (refine wpList_var rfl rfl 67 rfl _ _ rfl noTow.cells.toArray Try.zeroTow rfl v.cells (fun _ => rfl) (fun _ => rfl) (PTow.len HR.out) v.one ?_; intro g6 w6 n6 h6 k6; have K6 := Lib.hid (bthen K5.out k6); have H36 := Lib.hid (keep k6 H35.out); have c30 : w6.cell? ⟨g3, 0, none⟩ = some (.int .i64 i) := (by have h9 := chan_id (range_of (keep k6 H35.out)); rw [← HID.out] at h9; exact h9); clear h6 k6 n6; go_frame) | (go_at_call 15; refine (HH.out _ K6.out).mono ?_; rintro e w7 ⟨rfl, hb7⟩; have K7 := Lib.hid (bthen K6.out hb7); have H37 := Lib.hid (keep hb7 H36.out); clear hb7 c30) | (refine wpList_var rfl rfl 53 rfl _ _ rfl noHold.cells.toArray Try.zeroHold rfl q.cells (fun _ => rfl) (fun _ => rfl) (PHold.len HQ.out) q.one ?_; intro g8 w8 n8 h8 k8; have K8 := Lib.hid (bthen K7.out k8); have H38 := Lib.hid (keep k8 H37.out); clear h8 k8 n8; go_frame) | fail)
  have C36 : Hid (∀ W : World, Below w8.heap.size w8 W → W.cell? ⟨g3, 36, none⟩ = some (.int .i64 p)) := Lib.hid (fun W hW => by have h9 := chan_cap HC.out.ftx (range_of (keep hW H38.out)); rw [Nat.zero_add, ← HPC.out] at h9; exact h9)
  refine wp_region_held_drew (S := fun w' => Below w8.heap.size w8 w') (by kernel_rfl) (below_drew (Below.refl _ _)) (fun hHeld => ?_)
  refine take_at (i := 0) (v := ?_) rfl rfl (by kernel_rfl) (by kernel_rfl) (by kernel_rfl) (fun _ _ _ h => h) (Or.inl ⟨by rfl, ?_⟩) (by assumption) ?_
  rotate_left
  · intro w0 hSw; (try dsimp only at hSw); first | (go_simp; done) | (go_simp; with_reducible rfl)
  simp only [List.setIfInBounds_toArray, List.set_cons_zero, List.set_cons_succ]
  refine take_at (i := 1) (v := ?_) rfl rfl (by kernel_rfl) (by kernel_rfl) (by kernel_rfl) (fun _ _ _ h => h) (Or.inl ⟨by rfl, ?_⟩) (by assumption) ?_
  rotate_left
  · intro w0 hSw; (try dsimp only at hSw); first | (go_simp; done) | (go_simp; with_reducible rfl)
  simp only [List.setIfInBounds_toArray, List.set_cons_zero, List.set_cons_succ]
  refine take_at (i := 3) (v := ?_) rfl rfl (by kernel_rfl) (by kernel_rfl) (by kernel_rfl) (fun _ _ _ h => h) (Or.inl ⟨by rfl, ?_⟩) (by assumption) ?_
  rotate_left
  · intro w0 hSw; (try dsimp only at hSw); first | (go_simp; done) | (go_simp; with_reducible rfl)
  simp only [List.setIfInBounds_toArray, List.set_cons_zero, List.set_cons_succ]
  refine take_at (i := 4) rfl rfl (by kernel_rfl) (by kernel_rfl) (by kernel_rfl) (fun _ _ _ h => h) (yields_cell (b := g3) (o := 36) (by rfl) rfl rfl (fun w0 hSw => C36.out w0 hSw) (fun w0 => Try.isAgg2 w0)) (by assumption) ?_
  simp only [List.setIfInBounds_toArray, List.set_cons_zero, List.set_cons_succ]
  refine wpAnyH_ready (rs := [2]) (by kernel_rfl) (by simp) ?_
  refine AllReadyH.cons rfl (fun K hK => ?_) ?_
  · go_simp
    refine (HF.out _ (bthen K8.out hHeld)).mono ?_
    rintro e w9 ⟨rfl, hb9⟩
    dsimp only
    have J9 := Lib.hid (bthen hHeld hb9)
    have K9 := Lib.hid (bthen K8.out (bthen hHeld hb9))
    have H39 := Lib.hid (keep (bthen hHeld hb9) H38.out)
    clear hb9
    refine hK.out _ _ (by (try dsimp only); exact J9.out) (fun hHeld => ?_)
    clear hK K
    refine take_at (i := 5) (v := ?_) rfl rfl (by kernel_rfl) (by kernel_rfl) (by kernel_rfl) (fun _ _ _ h => h) (Or.inl ⟨by rfl, ?_⟩) (by assumption) ?_
    rotate_left
    · intro w0 hSw; (try dsimp only at hSw); first | (go_simp; done) | (go_simp; with_reducible rfl)
    simp only [List.setIfInBounds_toArray, List.set_cons_zero, List.set_cons_succ]
    refine wpAnyH_done (by kernel_rfl) ?_ _
    go_wp2_with fail
    go_ret
    exact ⟨rfl, K9.out⟩
  exact AllReadyH.nil
set_option linter.unusedSimpArgs false in
set_option maxRecDepth 100000 in
set_option maxHeartbeats 12800000 in
theorem hold_ok {B : Nat} {w : World} {pv : Value} {tb hb N : Nat} {ts : List PTE} {hs : List PHE} (h : BoardAt B w pv tb hb N ts hs) (hN : N + 1 ≤ 100) {n : Int} {c : PChan} (fn : Fits n) (hc : ChanIn c) (h1 : ¬ c.cap < 1) (h2 : ¬ 1125899906842624 < c.cap) {x : PTE} (hl : lookT n ts = some x) (hn : lookH n c.id hs = none) (h3 : ¬ freeB n ts hs < c.cap) :
    Calls Try.prog 16 #[pv, .int .i64 n, .agg c.cells.toArray] w fun e w' => CodeOut B w pv tb hb N (.int .i64 0) ts (hs ++ [⟨n, ⟨c, c.cap, false, 0, zero32⟩⟩]) e w' := by
  have hi := h.inv.hold hc (by omega) (by rw [hl]; simp) hn h3
  have ht := h.get_yes hl
  have hr0 := h.inv.tr x (lookT_num hl).1
  have hh := h.holds_no fn hc.id hn
  have hf := freeIs h fn
  have hg := h.given
  obtain ⟨F, hF⟩ : ∃ F, F = freeB n ts hs := ⟨_, rfl⟩
  rw [← hF] at hf h3
  obtain ⟨v, hvx⟩ : ∃ v, v = x.t := ⟨_, rfl⟩
  rw [← hvx] at ht hr0
  have hr : v.root.length = 32 := hr0
  obtain ⟨q, hqx⟩ : ∃ q, q = noHold := ⟨_, rfl⟩
  rw [← hqx] at hh
  have hq : HoldIn q := by rw [hqx]; exact noHold_in
  obtain ⟨p, hpc⟩ : ∃ p, p = c.cap := ⟨_, rfl⟩
  obtain ⟨i, hid⟩ : ∃ i, i = c.id := ⟨_, rfl⟩
  have HPC := Lib.hid hpc
  have HID := Lib.hid hid
  have HC := Lib.hid hc
  rw [← hpc] at h1 h2
  have HG := Lib.hid hg
  have HT := Lib.hid ht
  have HR := Lib.hid hr
  rw [← hid] at hh
  have HH := Lib.hid hh
  have HQ := Lib.hid hq
  have HPP : Hid (∀ W : World, Below w.heap.size w W → ∃ w', (Instr.mapUpdate 49 (.map (some hb)) (.agg #[.int .i64 n, .int .i64 i]) (.agg (PHold.cells ⟨c, p, false, 0, zero32⟩).toArray)).run Try.prog W = .ok () w' ∧ BoardAt B w' pv tb hb (N + 1) ts (hs ++ [⟨n, ⟨c, c.cap, false, 0, zero32⟩⟩]) ∧ W.grownBy w' (some hb)) := Lib.hid (fun W hW => by rw [hpc, hid]; exact (h.below hW).addH hN (v := ⟨c, c.cap, false, 0, zero32⟩) fn hc.id hn hi)
  rw [← hpc] at h3
  have HF := Lib.hid hf
  have HA := Lib.hid h
  obtain ⟨vb, rfl, hvb⟩ := h.has
  have HVB := Lib.hid hvb
  clear h hvb hl hn hi hr0 hvx hqx fn hg hc ht hpc hid hh hf hF hr hq hN
  generalize hs ++ [⟨n, ⟨c, c.cap, false, 0, zero32⟩⟩] = hs' at HPP ⊢
  go_enter Try.func16, Try.ntmps16
  go_upto_region 9 with (first | (refine wpList_box10 rfl 35 _ rfl c.cells.toArray rfl ?_; intro g3 w3 n3 h3 k3; have H3 := Lib.hid h3; have K3 := Lib.hid k3; have c36 : w3.cell? ⟨g3, 36, none⟩ = some (.int .i64 p) := (by have h9 := chan_cap HC.out.ftx (range_of h3); rw [Nat.zero_add, ← HPC.out] at h9; exact h9); clear h3 k3 n3; go_frame) | (go_at_call 30; refine (HG.out _ K3.out).mono ?_; rintro e w4 ⟨rfl, rfl⟩) | (go_at_call 28; refine (HT.out _ K3.out).mono ?_; rintro e w5 ⟨rfl, hb5⟩; have K5 := Lib.hid (bthen K3.out hb5); have H35 := Lib.hid (keep hb5 H3.out); clear hb5 c36) | (refine wpList_var rfl rfl 67 rfl _ _ rfl noTow.cells.toArray Try.zeroTow rfl v.cells (fun _ => rfl) (fun _ => rfl) (PTow.len HR.out) v.one ?_; intro g6 w6 n6 h6 k6; have K6 := Lib.hid (bthen K5.out k6); have H36 := Lib.hid (keep k6 H35.out); have c30 : w6.cell? ⟨g3, 0, none⟩ = some (.int .i64 i) := (by have h9 := chan_id (range_of (keep k6 H35.out)); rw [← HID.out] at h9; exact h9); clear h6 k6 n6; go_frame) | (go_at_call 15; refine (HH.out _ K6.out).mono ?_; rintro e w7 ⟨rfl, hb7⟩; have K7 := Lib.hid (bthen K6.out hb7); have H37 := Lib.hid (keep hb7 H36.out); clear hb7 c30) | (refine wpList_var rfl rfl 53 rfl _ _ rfl noHold.cells.toArray Try.zeroHold rfl q.cells (fun _ => rfl) (fun _ => rfl) (PHold.len HQ.out) q.one ?_; intro g8 w8 n8 h8 k8; have K8 := Lib.hid (bthen K7.out k8); have H38 := Lib.hid (keep k8 H37.out); clear h8 k8 n8; go_frame) | fail)
  have C36 : Hid (∀ W : World, Below w8.heap.size w8 W → W.cell? ⟨g3, 36, none⟩ = some (.int .i64 p)) := Lib.hid (fun W hW => by have h9 := chan_cap HC.out.ftx (range_of (keep hW H38.out)); rw [Nat.zero_add, ← HPC.out] at h9; exact h9)
  refine wp_region_held_drew (S := fun w' => Below w8.heap.size w8 w') (by kernel_rfl) (below_drew (Below.refl _ _)) (fun hHeld => ?_)
  refine take_at (i := 0) (v := ?_) rfl rfl (by kernel_rfl) (by kernel_rfl) (by kernel_rfl) (fun _ _ _ h => h) (Or.inl ⟨by rfl, ?_⟩) (by assumption) ?_
  rotate_left
  · intro w0 hSw; (try dsimp only at hSw); first | (go_simp; done) | (go_simp; with_reducible rfl)
  simp only [List.setIfInBounds_toArray, List.set_cons_zero, List.set_cons_succ]
  refine take_at (i := 1) (v := ?_) rfl rfl (by kernel_rfl) (by kernel_rfl) (by kernel_rfl) (fun _ _ _ h => h) (Or.inl ⟨by rfl, ?_⟩) (by assumption) ?_
  rotate_left
  · intro w0 hSw; (try dsimp only at hSw); first | (go_simp; done) | (go_simp; with_reducible rfl)
  simp only [List.setIfInBounds_toArray, List.set_cons_zero, List.set_cons_succ]
  refine take_at (i := 3) (v := ?_) rfl rfl (by kernel_rfl) (by kernel_rfl) (by kernel_rfl) (fun _ _ _ h => h) (Or.inl ⟨by rfl, ?_⟩) (by assumption) ?_
  rotate_left
  · intro w0 hSw; (try dsimp only at hSw); first | (go_simp; done) | (go_simp; with_reducible rfl)
  simp only [List.setIfInBounds_toArray, List.set_cons_zero, List.set_cons_succ]
  refine take_at (i := 4) rfl rfl (by kernel_rfl) (by kernel_rfl) (by kernel_rfl) (fun _ _ _ h => h) (yields_cell (b := g3) (o := 36) (by rfl) rfl rfl (fun w0 hSw => C36.out w0 hSw) (fun w0 => Try.isAgg2 w0)) (by assumption) ?_
  simp only [List.setIfInBounds_toArray, List.set_cons_zero, List.set_cons_succ]
  refine wpAnyH_ready (rs := [2]) (by kernel_rfl) (by simp) ?_
  refine AllReadyH.cons rfl (fun K hK => ?_) ?_
  · go_simp
    refine (HF.out _ (bthen K8.out hHeld)).mono ?_
    rintro e w9 ⟨rfl, hb9⟩
    dsimp only
    have J9 := Lib.hid (bthen hHeld hb9)
    have K9 := Lib.hid (bthen K8.out (bthen hHeld hb9))
    have H39 := Lib.hid (keep (bthen hHeld hb9) H38.out)
    clear hb9
    refine hK.out _ _ (by (try dsimp only); exact J9.out) (fun hHeld => ?_)
    clear hK K
    refine take_at (i := 5) (v := ?_) rfl rfl (by kernel_rfl) (by kernel_rfl) (by kernel_rfl) (fun _ _ _ h => h) (Or.inl ⟨by rfl, ?_⟩) (by assumption) ?_
    rotate_left
    · intro w0 hSw; (try dsimp only at hSw); first | (go_simp; done) | (go_simp; with_reducible rfl)
    simp only [List.setIfInBounds_toArray, List.set_cons_zero, List.set_cons_succ]
    refine wpAnyH_done (by kernel_rfl) ?_ _
    try simp only [Act.put]
    go_upto_region 11 with (fail)
    obtain ⟨es9, cl9, hmap9⟩ := (HA.out.below K9.out).hMap
    have hv9 := keep K9.out HVB.out
    have CB : Hid (∀ W : World, But w9.heap.size hb w9 W → W.cell? ⟨vb, 1, none⟩ = some (.map (some hb))) := Lib.hid (fun W hW => cell_of_row W vb 1 _ _ _ (hW.heap hv9 (lt_of_block hv9) (ne_of_map hmap9 hv9)))
    have RC : Hid (∀ W : World, But w9.heap.size hb w9 W → W.rangeAt g3 0 c.cells) := Lib.hid (fun W hW => by
      have h9 := hW.heap H39.out (lt_of_block H39.out) (ne_of_map hmap9 H39.out)
      exact range_of h9)
    clear hmap9 hv9
    have D36 : Hid (∀ W : World, But w9.heap.size hb w9 W → W.cell? ⟨g3, 36, none⟩ = some (.int .i64 p)) := Lib.hid (fun W hW => by have h9 := chan_cap HC.out.ftx (RC.out W hW); rw [Nat.zero_add, ← HPC.out] at h9; exact h9)
    have D30 : Hid (∀ W : World, But w9.heap.size hb w9 W → W.cell? ⟨g3, 0, none⟩ = some (.int .i64 i)) := Lib.hid (fun W hW => by have h9 := chan_id (RC.out W hW); rw [← HID.out] at h9; exact h9)
    have SZ := Lib.hid (chan_size HC.out.ftx)
    refine wp_region_held_drew (S := fun w' => But w9.heap.size hb w9 w') (by kernel_rfl) ((But.refl _ _ _).drew) (fun hHeld => ?_)
    refine take_at (i := 0) (v := ?_) rfl rfl (by kernel_rfl) (by kernel_rfl) (by kernel_rfl) (fun _ _ _ h => h) (Or.inl ⟨by rfl, ?_⟩) (by assumption) ?_
    rotate_left
    · intro w0 hSw; (try dsimp only at hSw); first | (go_simp; done) | (go_simp; with_reducible rfl)
    simp only [List.setIfInBounds_toArray, List.set_cons_zero, List.set_cons_succ]
    refine take_at (i := 1) (v := ?_) rfl rfl (by kernel_rfl) (by kernel_rfl) (by kernel_rfl) (fun _ _ _ h => h) (Or.inl ⟨by rfl, ?_⟩) (by assumption) ?_
    rotate_left
    · intro w0 hSw; (try dsimp only at hSw); first | (go_simp; done) | (go_simp; with_reducible rfl)
    simp only [List.setIfInBounds_toArray, List.set_cons_zero, List.set_cons_succ]
    refine take_at (i := 2) (v := ?_) rfl rfl (by kernel_rfl) (by kernel_rfl) (by kernel_rfl) (fun _ _ _ h => h) (Or.inl ⟨by rfl, ?_⟩) (by assumption) ?_
    rotate_left
    · intro w0 hSw; (try dsimp only at hSw); first | (go_simp; done) | (go_simp; with_reducible rfl)
    simp only [List.setIfInBounds_toArray, List.set_cons_zero, List.set_cons_succ]
    refine take_at (i := 3) rfl rfl (by kernel_rfl) (by kernel_rfl) (by kernel_rfl) (fun _ _ _ h => h) (yields_cell (b := vb) (o := 1) (by rfl) rfl rfl (fun w0 hSw => CB.out w0 hSw) (fun w0 => Try.isAgg49 w0)) (by assumption) ?_
    simp only [List.setIfInBounds_toArray, List.set_cons_zero, List.set_cons_succ]
    refine take_at (i := 4) (v := ?_) rfl rfl (by kernel_rfl) (by kernel_rfl) (by kernel_rfl) (fun _ _ _ h => h) (Or.inl ⟨by rfl, ?_⟩) (by assumption) ?_
    rotate_left
    · intro w0 hSw; (try dsimp only at hSw); first | (go_simp; done) | (go_simp; with_reducible rfl)
    simp only [List.setIfInBounds_toArray, List.set_cons_zero, List.set_cons_succ]
    refine take_at (i := 5) (v := ?_) rfl rfl (by kernel_rfl) (by kernel_rfl) (by kernel_rfl) (fun _ _ _ h => h) (Or.inl ⟨by rfl, ?_⟩) (by assumption) ?_
    rotate_left
    · intro w0 hSw; (try dsimp only at hSw); first | (go_simp; done) | (go_simp; with_reducible rfl)
    simp only [List.setIfInBounds_toArray, List.set_cons_zero, List.set_cons_succ]
    refine take_at (i := 6) rfl rfl (by kernel_rfl) (by kernel_rfl) (by kernel_rfl) (fun _ _ _ h => h) (yields_cell (b := g3) (o := 0) (by rfl) rfl rfl (fun w0 hSw => D30.out w0 hSw) (fun w0 => Try.isAgg3 w0)) (by assumption) ?_
    simp only [List.setIfInBounds_toArray, List.set_cons_zero, List.set_cons_succ]
    refine take_at (i := 7) rfl rfl (by kernel_rfl) (by kernel_rfl) (by kernel_rfl) (fun _ _ _ h => h) (yields_build10 (by rfl) rfl (vs := [(0, .int .i64 n), (1, .int .i64 i)]) (by rfl) (build_two n i)) (by assumption) ?_
    simp only [List.setIfInBounds_toArray, List.set_cons_zero, List.set_cons_succ]
    refine take_at (i := 8) rfl rfl (by kernel_rfl) (by kernel_rfl) (by kernel_rfl) (fun _ _ _ h => h) (yieldsIf_load_mid (by rfl) _ _ rfl g3 0 rfl c.cells _ (fun w0 hSw => RC.out w0 hSw) Try.underlying35 rfl SZ.out) (by assumption) ?_
    simp only [List.setIfInBounds_toArray, List.set_cons_zero, List.set_cons_succ]
    refine take_at (i := 9) (v := ?_) rfl rfl (by kernel_rfl) (by kernel_rfl) (by kernel_rfl) (fun _ _ _ h => h) (Or.inl ⟨by rfl, ?_⟩) (by assumption) ?_
    rotate_left
    · intro w0 hSw; (try dsimp only at hSw); first | (go_simp; done) | (go_simp; with_reducible rfl)
    simp only [List.setIfInBounds_toArray, List.set_cons_zero, List.set_cons_succ]
    refine take_at (i := 10) rfl rfl (by kernel_rfl) (by kernel_rfl) (by kernel_rfl) (fun _ _ _ h => h) (yields_cell (b := g3) (o := 36) (by rfl) rfl rfl (fun w0 hSw => D36.out w0 hSw) (fun w0 => Try.isAgg2 w0)) (by assumption) ?_
    simp only [List.setIfInBounds_toArray, List.set_cons_zero, List.set_cons_succ]
    refine take_at (i := 11) rfl rfl (by kernel_rfl) (by kernel_rfl) (by kernel_rfl) (fun _ _ _ h => h) (yields_build10 (by rfl) rfl (vs := [(0, .agg c.cells.toArray), (1, .int .i64 p)]) (by rfl) (build_hold HC.out.ftx p)) (by assumption) ?_
    simp only [List.setIfInBounds_toArray, List.set_cons_zero, List.set_cons_succ]
    refine wpAnyH_ready (rs := [12]) (by kernel_rfl) (by simp) ?_
    refine AllReadyH.cons rfl (fun K hK => ?_) ?_
    · obtain ⟨w12, hr12, hA12, hg12⟩ := HPP.out _ (bthen K9.out (below_drew (Below.refl _ _)))
      refine step_mapUpdate10 (by rfl) rfl (by rfl) (by rfl) (by rfl) hr12 ?_
      have HA12 := Lib.hid hA12
      have HG12 := Lib.hid hg12
      clear hr12 hA12 hg12
      refine hK.out _ _ (by (try dsimp only); exact hHeld.trans (but_of_grown HG12.out)) (fun hHeld => ?_)
      clear hK K
      refine wpAnyH_done (by kernel_rfl) ?_ _
      go_wp2_with fail
      go_ret
      exact HA.out.wrote (bthen K9.out (below_drew (Below.refl _ _))) (.inr HG12.out) HA12.out _
    exact AllReadyH.nil
  exact AllReadyH.nil
end Go.Proofs.Ytijanllppbambaa
