/- Law 10: BondKeeps. -/
import Derived.Test.YtijanllppbambaaPlays10
import Derived.Test.YtijanllppbambaaKeepSums
import Derived.Test.YtijanllppbambaaBondClone
namespace Go.Proofs.Ytijanllppbambaa
open Go.RowKit Go.Maps

set_option linter.unusedSimpArgs false in
set_option maxRecDepth 100000 in
set_option maxHeartbeats 12800000 in
theorem keeps10_walk {w : World} {a : Option Addr} {l c9 : Nat} {os : List PCall} (h : SliceOf callK w a l c9 os) :
    Calls Try.prog 4 #[.slice a l c9] w fun e w' => e = .returned (.bool true) ∧ Below w.heap.size w w' := by
  have HNEW := Lib.hid (new_any w)
  have HS := Lib.hid h
  have hlc : (l : Int) ≤ (c9 : Int) := by have h2 := h.2.1; omega
  have hc63 : (c9 : Int) ≤ 9223372036854775807 := by have h2 := h.2.2.1; unfold maxLen at h2; omega
  clear h
  go_enter Try.func4, Try.ntmps4
  go_upto_region 4 with (go_big_may; first | (go_at_call 6; refine HNEW.out.mono ?_; rintro e w1 ⟨vb, tb1, hb1, rfl, hv1, hk1⟩; have HV1 := Lib.hid hv1; have HB1 := Lib.hid hk1; clear hv1 hk1 HNEW) | fail)
  go_loopw [3, 4, 5, 6] (fun pv x y i wr => ∃ (j N tb hb : Nat) (ts : List PTE) (hs : List PHE) (I O : Int), j ≤ 50 ∧ N ≤ j ∧ i = .int .i64 j ∧ x = .int .i64 I ∧ y = .int .i64 O ∧ I - O = totT ts ∧ -(1125899906842624 * (j : Int)) ≤ O ∧ O ≤ 1125899906842624 * (j : Int) ∧ BoardAt w.heap.size wr pv tb hb N ts hs ∧ Below w.heap.size w wr) (fun _ _ _ i _ => 50 - (intOf i).toNat)
  case atStart => exact ⟨0, 0, tb1, hb1, [], [], 0, 0, by omega, by omega, rfl, rfl, rfl, rfl, by omega, by omega, HV1.out, HB1.out⟩
  case round =>
    obtain ⟨j, N, tb, hb, ts, hs, I, O, hj, hN, rfl, rfl, rfl, hIO, hO0, hO1, hbd, hbr⟩ := hrel
    have HBR := Lib.hid hbr
    have HBD := Lib.hid hbd
    obtain ⟨vb9, rfl, _⟩ := hbd.has
    clear hbr hbd HV1 HB1
    by_cases hjl : j < l
    · have f1 : (j : Int) < (l : Int) := by omega
      have f0 : (0 : Int) ≤ (j : Int) := by omega
      have ft : ((j : Int)).toNat = j := by omega
      by_cases hj5 : j < 50
      · have f5 : (j : Int) < 50 := by omega
        obtain ⟨b9, o9, e9, hlt, hcc⟩ := HS.out.2.2.2.2.2 (by omega)
        have RX : Hid (∀ W : World, Below w.heap.size w W → W.rangeAt b9 (o9 + j * 75) (os.getD j callK.dflt).cells) := Lib.hid (fun W hW => rangeAt_below (hcc j hjl) hlt hW)
        have ix := HS.out.get hjl
        subst e9
        revert RX ix
        generalize os.getD j callK.dflt = x
        obtain ⟨k, n, m, s, c, z⟩ := x
        intro RX ix
        have HO : Hid (CallIn ⟨k, n, m, s, c, z⟩) := Lib.hid ix
        clear hcc ix hlt
        by_cases hz1 : z ≤ 1099511627776
        · by_cases hz0 : -1099511627776 ≤ z
          · have hg1 : ¬ 1099511627776 < z := by omega
            have hg0 : ¬ z < -1099511627776 := by omega
            by_cases h0 : k = 0
            · have hi := HBD.out.inv
              have ht0 := hi.tot0
              have ht1 := hi.tot
              have htl := tot_lock hi n m s
              obtain ⟨A, hA⟩ : ∃ A, A = (lockB n m s ts).1 := ⟨_, rfl⟩
              obtain ⟨us, hus⟩ : ∃ us, us = (lockB n m s ts).2 := ⟨_, rfl⟩
              rw [← hA, ← hus] at htl
              have HA := Lib.hid hA
              have HUS := Lib.hid hus
              clear hA hus hi
              by_cases hans : A = 0
              · subst hans
                rw [if_pos rfl] at htl
                go_wp2_with (first | (refine wpList_loadw (by rfl) 37 _ rfl b9 (o9 + j * 75) rfl (PCall.cells ⟨k, n, m, s, c, z⟩) _ (RX.out _ HBR.out) Try.underlying37 rfl (call_size HO.out) ?_; go_frame) | (refine wpList_var rfl rfl 37 rfl _ _ rfl noCall.cells.toArray zeroCall10 rfl (PCall.cells ⟨k, n, m, s, c, z⟩) (fun _ => rfl) (fun _ => rfl) (PCall.len HO.out) (PCall.one _) ?_; intro g6 w6 n6 h6 k6; have H6 := Lib.hid h6; have HB6 := Lib.hid (HBD.out.below k6); have B6 := Lib.hid (bthen HBR.out k6); have c6height := (call_at HO.out (range_of h6)).height; rw [Nat.zero_add] at c6height; clear h6 k6 n6; go_frame) | (go_at_call 10; (with_reducible refine (total_any HB6.out).mono ?_); rintro e w7 ⟨rfl, hb7⟩; have HB7 := Lib.hid (HB6.out.below hb7); have B7 := Lib.hid (bthen B6.out hb7); have H7 := Lib.hid (keep hb7 H6.out); clear hb7) | (go_at_call 11; refine (clone_any HB7.out).mono ?_; rintro e w8 ⟨vb8, tb8, hb8, rfl, hc8, k8⟩; have HC8 := Lib.hid hc8; have K8 := Lib.hid k8; have H8 := Lib.hid (keep k8 H7.out); have L7 := Lib.hid (lt_of_block H7.out); have c8kind := (call_at HO.out (range_of H8.out)).kind; (try rw [Nat.zero_add] at c8kind); have c8tower := (call_at HO.out (range_of H8.out)).tower; (try rw [Nat.zero_add] at c8tower); have c8n := (call_at HO.out (range_of H8.out)).n; (try rw [Nat.zero_add] at c8n); rw [h0] at c8kind; clear hc8 k8) | (refine wpList_loadw (by rfl) 31 _ rfl g6 3 rfl (cellsOf s) _ ((call_at HO.out (range_of H8.out)).root) Try.underlying31 rfl (sum_size HO.out.root) ?_; go_frame) | (go_at_call 12; refine (lock_code (n := n) (m := m) (s := s) HC8.out (by omega) HO.out.tower HO.out.n HO.out.root).mono ?_; rintro e w9 ⟨he, hc9, _, hb9⟩; rw [← HA.out] at he; rw [← HUS.out] at hc9; subst he; have HC9 := Lib.hid hc9; have HB9 := Lib.hid (HB7.out.below (K8.out.trans hb9)); have K9 := Lib.hid (K8.out.trans hb9); have H9 := Lib.hid (keepB hb9 L7.out H8.out); have hu0 : 0 ≤ totT us := HC9.out.inv.tot0; have hu1 : totT us ≤ 1125899906842624 := HC9.out.inv.tot; have c9n := (call_at HO.out (range_of H9.out)).n; rw [Nat.zero_add] at c9n; have iw : IntKind.i64.wrap (I + m) = I + m := IntWalk.i64_in _ (by omega); have iw2 : IntKind.i64.wrap (I + m - O) = I + m - O := IntWalk.i64_in _ (by omega); have eq9 : totT us = I + m - O := (by omega); clear hc9 hb9) | (go_at_call 10; (with_reducible refine (total_any HB9.out).mono ?_); rintro e w10 ⟨rfl, hb10⟩; have HC10 := Lib.hid (HC9.out.below hb10); have K10 := Lib.hid (bthen K9.out hb10); clear hb10) | (go_at_call 10; (with_reducible refine (total_any HC10.out).mono ?_); rintro e w11 ⟨rfl, hb11⟩; have HC11 := Lib.hid (HC10.out.below hb11); have K11 := Lib.hid (bthen K10.out hb11); clear hb11; rw [eq9]) | fail)
                go_roundw
                case rel => exact ⟨j + 1, N + 1, _, _, _, _, (I + m), O, by omega, by omega, by go_num, rfl, rfl, by omega, by omega, by omega, HC11.out.lower (Nat.le_trans B7.out.size (Nat.le_refl _)), bthen B7.out K11.out⟩
                case measure => simp [intOf]; omega
              · rw [if_neg hans] at htl
                go_wp2_with (first | (refine wpList_loadw (by rfl) 37 _ rfl b9 (o9 + j * 75) rfl (PCall.cells ⟨k, n, m, s, c, z⟩) _ (RX.out _ HBR.out) Try.underlying37 rfl (call_size HO.out) ?_; go_frame) | (refine wpList_var rfl rfl 37 rfl _ _ rfl noCall.cells.toArray zeroCall10 rfl (PCall.cells ⟨k, n, m, s, c, z⟩) (fun _ => rfl) (fun _ => rfl) (PCall.len HO.out) (PCall.one _) ?_; intro g6 w6 n6 h6 k6; have H6 := Lib.hid h6; have HB6 := Lib.hid (HBD.out.below k6); have B6 := Lib.hid (bthen HBR.out k6); have c6height := (call_at HO.out (range_of h6)).height; rw [Nat.zero_add] at c6height; clear h6 k6 n6; go_frame) | (go_at_call 10; (with_reducible refine (total_any HB6.out).mono ?_); rintro e w7 ⟨rfl, hb7⟩; have HB7 := Lib.hid (HB6.out.below hb7); have B7 := Lib.hid (bthen B6.out hb7); have H7 := Lib.hid (keep hb7 H6.out); clear hb7) | (go_at_call 11; refine (clone_any HB7.out).mono ?_; rintro e w8 ⟨vb8, tb8, hb8, rfl, hc8, k8⟩; have HC8 := Lib.hid hc8; have K8 := Lib.hid k8; have H8 := Lib.hid (keep k8 H7.out); have L7 := Lib.hid (lt_of_block H7.out); have c8kind := (call_at HO.out (range_of H8.out)).kind; (try rw [Nat.zero_add] at c8kind); have c8tower := (call_at HO.out (range_of H8.out)).tower; (try rw [Nat.zero_add] at c8tower); have c8n := (call_at HO.out (range_of H8.out)).n; (try rw [Nat.zero_add] at c8n); rw [h0] at c8kind; clear hc8 k8) | (refine wpList_loadw (by rfl) 31 _ rfl g6 3 rfl (cellsOf s) _ ((call_at HO.out (range_of H8.out)).root) Try.underlying31 rfl (sum_size HO.out.root) ?_; go_frame) | (go_at_call 12; refine (lock_code (n := n) (m := m) (s := s) HC8.out (by omega) HO.out.tower HO.out.n HO.out.root).mono ?_; rintro e w9 ⟨he, hc9, _, hb9⟩; rw [← HA.out] at he; rw [← HUS.out] at hc9; subst he; have HC9 := Lib.hid hc9; have HB9 := Lib.hid (HB7.out.below (K8.out.trans hb9)); have K9 := Lib.hid (K8.out.trans hb9); have H9 := Lib.hid (keepB hb9 L7.out H8.out); have iw2 : IntKind.i64.wrap (I - O) = I - O := IntWalk.i64_in _ (by omega); have eq9 : totT us = I - O := (by omega); clear hc9 hb9) | (go_at_call 10; (with_reducible refine (total_any HB9.out).mono ?_); rintro e w10 ⟨rfl, hb10⟩; have HC10 := Lib.hid (HC9.out.below hb10); have K10 := Lib.hid (bthen K9.out hb10); clear hb10) | (go_at_call 10; (with_reducible refine (total_any HC10.out).mono ?_); rintro e w11 ⟨rfl, hb11⟩; have HC11 := Lib.hid (HC10.out.below hb11); have K11 := Lib.hid (bthen K10.out hb11); clear hb11; rw [eq9]) | fail)
                go_roundw
                case rel => exact ⟨j + 1, N + 1, _, _, _, _, I, O, by omega, by omega, by go_num, rfl, rfl, by omega, by omega, by omega, HC11.out.lower (Nat.le_trans B7.out.size (Nat.le_refl _)), bthen B7.out K11.out⟩
                case measure => simp [intOf]; omega
            by_cases h5 : k = 5
            · have hi := HBD.out.inv
              have ht0 := hi.tot0
              have ht1 := hi.tot
              have htl := tot_take hi n z
              obtain ⟨q, hq⟩ : ∃ q, q = (takeB n z ts).1 := ⟨_, rfl⟩
              rw [← hq] at htl
              have HQ := Lib.hid hq
              clear hq hi
              go_wp2_with (first | (refine wpList_loadw (by rfl) 37 _ rfl b9 (o9 + j * 75) rfl (PCall.cells ⟨k, n, m, s, c, z⟩) _ (RX.out _ HBR.out) Try.underlying37 rfl (call_size HO.out) ?_; go_frame) | (refine wpList_var rfl rfl 37 rfl _ _ rfl noCall.cells.toArray zeroCall10 rfl (PCall.cells ⟨k, n, m, s, c, z⟩) (fun _ => rfl) (fun _ => rfl) (PCall.len HO.out) (PCall.one _) ?_; intro g6 w6 n6 h6 k6; have H6 := Lib.hid h6; have HB6 := Lib.hid (HBD.out.below k6); have B6 := Lib.hid (bthen HBR.out k6); have c6height := (call_at HO.out (range_of h6)).height; rw [Nat.zero_add] at c6height; clear h6 k6 n6; go_frame) | (go_at_call 10; (with_reducible refine (total_any HB6.out).mono ?_); rintro e w7 ⟨rfl, hb7⟩; have HB7 := Lib.hid (HB6.out.below hb7); have B7 := Lib.hid (bthen B6.out hb7); have H7 := Lib.hid (keep hb7 H6.out); clear hb7) | (go_at_call 11; refine (clone_any HB7.out).mono ?_; rintro e w8 ⟨vb8, tb8, hb8, rfl, hc8, k8⟩; have HC8 := Lib.hid hc8; have K8 := Lib.hid k8; have H8 := Lib.hid (keep k8 H7.out); have L7 := Lib.hid (lt_of_block H7.out); have c8kind := (call_at HO.out (range_of H8.out)).kind; (try rw [Nat.zero_add] at c8kind); have c8tower := (call_at HO.out (range_of H8.out)).tower; (try rw [Nat.zero_add] at c8tower); have c8height := (call_at HO.out (range_of H8.out)).height; (try rw [Nat.zero_add] at c8height); rw [h5] at c8kind; clear hc8 k8) | (go_at_call 13; refine (take_code (n := n) (z := z) HC8.out (by omega) HO.out.tower hz0 hz1).mono ?_; rintro e w9 ⟨he, hc9, _, hb9⟩; rw [← HQ.out] at he; subst he; have HC9 := Lib.hid hc9; have HB9 := Lib.hid (HB7.out.below (K8.out.trans hb9)); have K9 := Lib.hid (K8.out.trans hb9); have H9 := Lib.hid (keepB hb9 L7.out H8.out); have hu0 : 0 ≤ totT (takeB n z ts).2.2 := HC9.out.inv.tot0; have hu1 : totT (takeB n z ts).2.2 ≤ 1125899906842624 := HC9.out.inv.tot; have iw : IntKind.i64.wrap (O + q) = O + q := IntWalk.i64_in _ (by omega); have iw2 : IntKind.i64.wrap (I - (O + q)) = I - (O + q) := IntWalk.i64_in _ (by omega); clear hc9 hb9) | (go_at_call 10; (with_reducible refine (total_any HB9.out).mono ?_); rintro e w10 ⟨rfl, hb10⟩; have HC10 := Lib.hid (HC9.out.below hb10); have K10 := Lib.hid (bthen K9.out hb10); clear hb10) | (go_at_call 10; (with_reducible refine (total_any HC10.out).mono ?_); rintro e w11 ⟨rfl, hb11⟩; have HC11 := Lib.hid (HC10.out.below hb11); have K11 := Lib.hid (bthen K10.out hb11); clear hb11; rw [show totT (takeB n z ts).2.2 = I - (O + q) from (by omega)]) | fail)
              go_roundw
              case rel => exact ⟨j + 1, N + 1, _, _, _, _, I, (O + q), by omega, by omega, by go_num, rfl, rfl, by omega, by omega, by omega, HC11.out.lower (Nat.le_trans B7.out.size (Nat.le_refl _)), bthen B7.out K11.out⟩
              case measure => simp [intOf]; omega
            by_cases h7 : k = 7
            · have hi := HBD.out.inv
              have ht0 := hi.tot0
              have ht1 := hi.tot
              have htl := tot_settle hi n c.id z
              obtain ⟨q, hq⟩ : ∃ q, q = (settleB n c.id z ts hs).1 := ⟨_, rfl⟩
              rw [← hq] at htl
              have HQ := Lib.hid hq
              clear hq hi
              go_wp2_with (first | (refine wpList_loadw (by rfl) 37 _ rfl b9 (o9 + j * 75) rfl (PCall.cells ⟨k, n, m, s, c, z⟩) _ (RX.out _ HBR.out) Try.underlying37 rfl (call_size HO.out) ?_; go_frame) | (refine wpList_var rfl rfl 37 rfl _ _ rfl noCall.cells.toArray zeroCall10 rfl (PCall.cells ⟨k, n, m, s, c, z⟩) (fun _ => rfl) (fun _ => rfl) (PCall.len HO.out) (PCall.one _) ?_; intro g6 w6 n6 h6 k6; have H6 := Lib.hid h6; have HB6 := Lib.hid (HBD.out.below k6); have B6 := Lib.hid (bthen HBR.out k6); have c6height := (call_at HO.out (range_of h6)).height; rw [Nat.zero_add] at c6height; clear h6 k6 n6; go_frame) | (go_at_call 10; (with_reducible refine (total_any HB6.out).mono ?_); rintro e w7 ⟨rfl, hb7⟩; have HB7 := Lib.hid (HB6.out.below hb7); have B7 := Lib.hid (bthen B6.out hb7); have H7 := Lib.hid (keep hb7 H6.out); clear hb7) | (go_at_call 11; refine (clone_any HB7.out).mono ?_; rintro e w8 ⟨vb8, tb8, hb8, rfl, hc8, k8⟩; have HC8 := Lib.hid hc8; have K8 := Lib.hid k8; have H8 := Lib.hid (keep k8 H7.out); have L7 := Lib.hid (lt_of_block H7.out); have c8kind := (call_at HO.out (range_of H8.out)).kind; (try rw [Nat.zero_add] at c8kind); have c8tower := (call_at HO.out (range_of H8.out)).tower; (try rw [Nat.zero_add] at c8tower); have c8id := (call_at HO.out (range_of H8.out)).id; (try rw [Nat.zero_add] at c8id); have c8height := (call_at HO.out (range_of H8.out)).height; (try rw [Nat.zero_add] at c8height); rw [h7] at c8kind; clear hc8 k8) | (go_at_call 14; refine (settle_code (n := n) (id := c.id) (z := z) HC8.out (by omega) HO.out.tower HO.out.ch.id hz0 hz1).mono ?_; rintro e w9 ⟨he, hc9, _, hb9⟩; rw [← HQ.out] at he; subst he; have HC9 := Lib.hid hc9; have HB9 := Lib.hid (HB7.out.below (K8.out.trans hb9)); have K9 := Lib.hid (K8.out.trans hb9); have H9 := Lib.hid (keepB hb9 L7.out H8.out); have hu0 : 0 ≤ totT (settleB n c.id z ts hs).2.2.1 := HC9.out.inv.tot0; have hu1 : totT (settleB n c.id z ts hs).2.2.1 ≤ 1125899906842624 := HC9.out.inv.tot; have iw : IntKind.i64.wrap (O + q) = O + q := IntWalk.i64_in _ (by omega); have iw2 : IntKind.i64.wrap (I - (O + q)) = I - (O + q) := IntWalk.i64_in _ (by omega); clear hc9 hb9) | (go_at_call 10; (with_reducible refine (total_any HB9.out).mono ?_); rintro e w10 ⟨rfl, hb10⟩; have HC10 := Lib.hid (HC9.out.below hb10); have K10 := Lib.hid (bthen K9.out hb10); clear hb10) | (go_at_call 10; (with_reducible refine (total_any HC10.out).mono ?_); rintro e w11 ⟨rfl, hb11⟩; have HC11 := Lib.hid (HC10.out.below hb11); have K11 := Lib.hid (bthen K10.out hb11); clear hb11; rw [show totT (settleB n c.id z ts hs).2.2.1 = I - (O + q) from (by omega)]) | fail)
              go_roundw
              case rel => exact ⟨j + 1, N + 1, _, _, _, _, I, (O + q), by omega, by omega, by go_num, rfl, rfl, by omega, by omega, by omega, HC11.out.lower (Nat.le_trans B7.out.size (Nat.le_refl _)), bthen B7.out K11.out⟩
              case measure => simp [intOf]; omega
            · have hi := HBD.out.inv
              have ht0 := hi.tot0
              have ht1 := hi.tot
              have htl := tot_step hi h0 h5 h7 n m z s c
              clear hi
              have iw2 : IntKind.i64.wrap (I - O) = I - O := IntWalk.i64_in _ (by omega)
              go_wp2_with (first | (refine wpList_loadw (by rfl) 37 _ rfl b9 (o9 + j * 75) rfl (PCall.cells ⟨k, n, m, s, c, z⟩) _ (RX.out _ HBR.out) Try.underlying37 rfl (call_size HO.out) ?_; go_frame) | (refine wpList_var rfl rfl 37 rfl _ _ rfl noCall.cells.toArray zeroCall10 rfl (PCall.cells ⟨k, n, m, s, c, z⟩) (fun _ => rfl) (fun _ => rfl) (PCall.len HO.out) (PCall.one _) ?_; intro g6 w6 n6 h6 k6; have H6 := Lib.hid h6; have HB6 := Lib.hid (HBD.out.below k6); have B6 := Lib.hid (bthen HBR.out k6); have c6height := (call_at HO.out (range_of h6)).height; rw [Nat.zero_add] at c6height; clear h6 k6 n6; go_frame) | (go_at_call 10; (with_reducible refine (total_any HB6.out).mono ?_); rintro e w7 ⟨rfl, hb7⟩; have HB7 := Lib.hid (HB6.out.below hb7); have B7 := Lib.hid (bthen B6.out hb7); have H7 := Lib.hid (keep hb7 H6.out); clear hb7) | (go_at_call 11; refine (clone_any HB7.out).mono ?_; rintro e w8 ⟨vb8, tb8, hb8, rfl, hc8, k8⟩; have HC8 := Lib.hid hc8; have K8 := Lib.hid k8; have H8 := Lib.hid (keep k8 H7.out); have L7 := Lib.hid (lt_of_block H7.out); have c8kind := (call_at HO.out (range_of H8.out)).kind; (try rw [Nat.zero_add] at c8kind); clear hc8 k8) | (refine wpList_box10 rfl 29 _ rfl #[.slice none 0 0, .slice none 0 0] rfl ?_; intro g2 w12 n2 h2 k2; have HP12 := Lib.hid (plain_new (B := w7.heap.size) (Nat.le_trans K8.out.size n2) h2); have HC12 := Lib.hid (HC8.out.below k2); have H12 := Lib.hid (keep k2 H8.out); have K12 := Lib.hid (bthen K8.out k2); clear h2 k2 n2; go_frame) | (refine wpList_loadw (by rfl) 37 _ rfl g6 0 rfl (PCall.cells ⟨k, n, m, s, c, z⟩) _ (range_of H12.out) Try.underlying37 rfl (call_size HO.out) ?_; go_frame) | (go_at_call 7; refine (step_any (B := w7.heap.size) (w0 := w12) ⟨HC12.out, HP12.out, Bar.of (Below.refl _ _), Below.refl _ _⟩ (by omega) (by omega) HO.out hz0 hz1).mono ?_; rintro e w9 ⟨r, rfl, _, hq⟩; have HC9 := Lib.hid hq.bd; have K9 := Lib.hid (K12.out.trans hq.bel); have HB9 := Lib.hid (HB7.out.below K9.out); clear hq) | (go_at_call 10; (with_reducible refine (total_any HB9.out).mono ?_); rintro e w10 ⟨rfl, hb10⟩; have HC10 := Lib.hid (HC9.out.below hb10); have K10 := Lib.hid (bthen K9.out hb10); clear hb10) | (go_at_call 10; (with_reducible refine (total_any HC10.out).mono ?_); rintro e w11 ⟨rfl, hb11⟩; have HC11 := Lib.hid (HC10.out.below hb11); have K11 := Lib.hid (bthen K10.out hb11); clear hb11; rw [show totT (stepA k n m z s c ts hs).2.2.1 = I - O from (by omega)]) | fail)
              go_roundw
              case rel => exact ⟨j + 1, N + 1, _, _, _, _, I, O, by omega, by omega, by go_num, rfl, rfl, by omega, by omega, by omega, HC11.out.lower (Nat.le_trans B7.out.size (Nat.le_refl _)), bthen B7.out K11.out⟩
              case measure => simp [intOf]; omega

          · have hg1 : ¬ 1099511627776 < z := by omega
            have hg0 : z < -1099511627776 := by omega
            go_wp2_with (first | (refine wpList_loadw (by rfl) 37 _ rfl b9 (o9 + j * 75) rfl (PCall.cells ⟨k, n, m, s, c, z⟩) _ (RX.out _ HBR.out) Try.underlying37 rfl (call_size HO.out) ?_; go_frame) | (refine wpList_var rfl rfl 37 rfl _ _ rfl noCall.cells.toArray zeroCall10 rfl (PCall.cells ⟨k, n, m, s, c, z⟩) (fun _ => rfl) (fun _ => rfl) (PCall.len HO.out) (PCall.one _) ?_; intro g6 w6 n6 h6 k6; have H6 := Lib.hid h6; have HB6 := Lib.hid (HBD.out.below k6); have B6 := Lib.hid (bthen HBR.out k6); have c6height := (call_at HO.out (range_of h6)).height; rw [Nat.zero_add] at c6height; clear h6 k6 n6; go_frame) | fail)
            go_roundw
            case rel => exact ⟨j + 1, N, tb, hb, ts, hs, I, O, by omega, by omega, by go_num, rfl, rfl, hIO, by omega, by omega, HB6.out, B6.out⟩
            case measure => simp [intOf]; omega
        · have hg1 : 1099511627776 < z := by omega
          go_wp2_with (first | (refine wpList_loadw (by rfl) 37 _ rfl b9 (o9 + j * 75) rfl (PCall.cells ⟨k, n, m, s, c, z⟩) _ (RX.out _ HBR.out) Try.underlying37 rfl (call_size HO.out) ?_; go_frame) | (refine wpList_var rfl rfl 37 rfl _ _ rfl noCall.cells.toArray zeroCall10 rfl (PCall.cells ⟨k, n, m, s, c, z⟩) (fun _ => rfl) (fun _ => rfl) (PCall.len HO.out) (PCall.one _) ?_; intro g6 w6 n6 h6 k6; have H6 := Lib.hid h6; have HB6 := Lib.hid (HBD.out.below k6); have B6 := Lib.hid (bthen HBR.out k6); have c6height := (call_at HO.out (range_of h6)).height; rw [Nat.zero_add] at c6height; clear h6 k6 n6; go_frame) | fail)
          go_roundw
          case rel => exact ⟨j + 1, N, tb, hb, ts, hs, I, O, by omega, by omega, by go_num, rfl, rfl, hIO, by omega, by omega, HB6.out, B6.out⟩
          case measure => simp [intOf]; omega
      · have f5 : ¬ (j : Int) < 50 := by omega
        go_wp2_with (first | (go_at_call 9; refine (awake10_any _).mono ?_; rintro e w9 ⟨rfl, hb9⟩; have HB9 := Lib.hid (bthen HBR.out hb9); clear hb9) | fail)
        go_ret
        exact ⟨rfl, HB9.out⟩
    · have f1 : ¬ (j : Int) < (l : Int) := by omega
      go_wp2_with (first | (go_at_call 9; refine (awake10_any _).mono ?_; rintro e w9 ⟨rfl, hb9⟩; have HB9 := Lib.hid (bthen HBR.out hb9); clear hb9) | fail)
      go_ret
      exact ⟨rfl, HB9.out⟩
end Go.Proofs.Ytijanllppbambaa
