/- Law 10: BondPlays. -/
import Derived.Test.YtijanllppbambaaAlike10
import Derived.Test.YtijanllppbambaaAwake10
namespace Go.Proofs.Ytijanllppbambaa
open Go.RowKit Go.Maps

def noCall : PCall := ⟨0, 0, 0, zero32, noChan, 0⟩
theorem zeroCall10 : (Try.prog.info? 37).map (fun i => (i.zero, i.size, i.bytes)) = some (some (.agg noCall.cells.toArray), 75, 152) := by kernel_rfl
theorem plain_new {B : Nat} {w : World} {g : Nat} (hB : B ≤ g) (h : w.heap[g]? = some (Obj.cells #[.slice none 0 0, .slice none 0 0] 29 (0, 0))) : PlainAt B w (.pointer (some ⟨g, 0, none⟩)) g 0 [] [] :=
  ⟨rfl, hB, ⟨_, _, h, OwnOf.nil _ _ _ _, OwnOf.nil _ _ _ _⟩, by omega, by simp, by simp, Inv.nil⟩
set_option linter.unusedSimpArgs false in
set_option maxRecDepth 100000 in
set_option maxHeartbeats 12800000 in
theorem plays10_walk {w : World} {a : Option Addr} {l c9 : Nat} {os : List PCall} (h : SliceOf callK w a l c9 os) :
    Calls Try.prog 3 #[.slice a l c9] w fun e w' => e = .returned (.bool true) ∧ Below w.heap.size w w' := by
  have HNEW := Lib.hid (new_any w)
  have HS := Lib.hid h
  have hlc : (l : Int) ≤ (c9 : Int) := by have h2 := h.2.1; omega
  have hc63 : (c9 : Int) ≤ 9223372036854775807 := by have h2 := h.2.2.1; unfold maxLen at h2; omega
  clear h
  go_enter Try.func3, Try.ntmps3
  go_upto_region 4 with (go_big_may; first | (go_at_call 6; refine HNEW.out.mono ?_; rintro e w1 ⟨vb, tb, hb, rfl, hv1, hb1⟩; have HV1 := Lib.hid hv1; have HB1 := Lib.hid hb1; clear hv1 hb1 HNEW) | (refine wpList_box10 rfl 29 _ rfl #[.slice none 0 0, .slice none 0 0] rfl ?_; intro g2 w2 n2 h2 k2; have HQ2 : Hid (Sit w.heap.size w (.pointer (some ⟨vb, 0, none⟩)) tb hb (.pointer (some ⟨g2, 0, none⟩)) g2 0 0 [] [] [] [] w2) := Lib.hid ⟨HV1.out.below k2, plain_new (Nat.le_trans HB1.out.size n2) h2, Bar.of (bthen HB1.out k2), bthen HB1.out k2⟩; clear h2 k2 n2; go_frame) | fail)
  clear HV1 HB1
  go_loopw [5] (fun i wr => ∃ (j N : Nat) (ts : List PTE) (hs : List PHE), j ≤ 50 ∧ N ≤ j ∧ i = .int .i64 j ∧ Sit w.heap.size w (.pointer (some ⟨vb, 0, none⟩)) tb hb (.pointer (some ⟨g2, 0, none⟩)) g2 N N ts hs ts hs wr) (fun i _ => 50 - (intOf i).toNat)
  case atStart => exact ⟨0, 0, [], [], by omega, by omega, rfl, HQ2.out⟩
  case round =>
    obtain ⟨j, N, ts, hs, hj, hN, rfl, hq⟩ := hrel
    have HBR := Lib.hid hq.bel
    have HQ := Lib.hid hq
    clear hq HQ2
    by_cases hjl : j < l
    · have f1 : (j : Int) < (l : Int) := by omega
      have f0 : (0 : Int) ≤ (j : Int) := by omega
      have ft : ((j : Int)).toNat = j := by omega
      by_cases hj5 : j < 50
      · have f5 : (j : Int) < 50 := by omega
        obtain ⟨b9, o9, e9, hlt, hcc⟩ := HS.out.2.2.2.2.2 (by omega)
        have RX : Hid (∀ W : World, Below w.heap.size w W → W.rangeAt b9 (o9 + j * 75) (os.getD j callK.dflt).cells) := Lib.hid (fun W hW => rangeAt_below (hcc j hjl) hlt hW)
        have ix := HS.out.get hjl
        subst e9
        revert RX ix
        generalize os.getD j callK.dflt = x
        obtain ⟨k, n, m, s, c, z⟩ := x
        intro RX ix
        have HO : Hid (CallIn ⟨k, n, m, s, c, z⟩) := Lib.hid ix
        clear hcc ix hlt
        by_cases hz1 : z ≤ 1099511627776
        · by_cases hz0 : -1099511627776 ≤ z
          · have hg1 : ¬ 1099511627776 < z := by omega
            have hg0 : ¬ z < -1099511627776 := by omega
            go_upto_region 8 with (go_big_may; first | (refine wpList_loadw (by rfl) 37 _ rfl b9 (o9 + j * 75) rfl (PCall.cells ⟨k, n, m, s, c, z⟩) _ (RX.out _ HBR.out) Try.underlying37 rfl (call_size HO.out) ?_; go_frame) | (refine wpList_var rfl rfl 37 rfl _ _ rfl noCall.cells.toArray zeroCall10 rfl (PCall.cells ⟨k, n, m, s, c, z⟩) (fun _ => rfl) (fun _ => rfl) (PCall.len HO.out) (PCall.one _) ?_; intro g6 w6 n6 h6 k6; have H6 := Lib.hid h6; have HQ6 := Lib.hid (HQ.out.below k6); have B6 := Lib.hid (bthen HBR.out k6); have c74 := (call_at HO.out (range_of h6)).height; rw [Nat.zero_add] at c74; clear h6 k6 n6; go_frame) | fail)
            go_wp2_with (first | (refine wpList_loadw (by rfl) 37 _ rfl g6 0 rfl (PCall.cells ⟨k, n, m, s, c, z⟩) _ (range_of H6.out) Try.underlying37 rfl (call_size HO.out) ?_; go_frame) | (go_at_call 7; refine (step_any HQ6.out (by omega) (by omega) HO.out hz0 hz1).mono ?_; rintro e w7 ⟨r, rfl, hr, hq⟩; obtain rfl := hr rfl rfl; have HQ7 := Lib.hid hq; clear hr hq) | (go_at_call 8; refine (alike10_any HQ7.out.bd HQ7.out.pl).mono ?_; rintro e w8 ⟨rfl, hb8⟩; have HQ8 := Lib.hid (HQ7.out.below hb8); clear hb8) | fail)
            go_roundw
            case rel => exact ⟨j + 1, N + 1, _, _, by omega, by omega, by go_num, HQ8.out⟩
            case measure => simp [intOf]; omega
          · have hg1 : ¬ 1099511627776 < z := by omega
            have hg0 : z < -1099511627776 := by omega
            go_wp2_with (first | (refine wpList_loadw (by rfl) 37 _ rfl b9 (o9 + j * 75) rfl (PCall.cells ⟨k, n, m, s, c, z⟩) _ (RX.out _ HBR.out) Try.underlying37 rfl (call_size HO.out) ?_; go_frame) | (refine wpList_var rfl rfl 37 rfl _ _ rfl noCall.cells.toArray zeroCall10 rfl (PCall.cells ⟨k, n, m, s, c, z⟩) (fun _ => rfl) (fun _ => rfl) (PCall.len HO.out) (PCall.one _) ?_; intro g6 w6 n6 h6 k6; have H6 := Lib.hid h6; have HQ6 := Lib.hid (HQ.out.below k6); have B6 := Lib.hid (bthen HBR.out k6); have c74 := (call_at HO.out (range_of h6)).height; rw [Nat.zero_add] at c74; clear h6 k6 n6; go_frame) | fail)
            go_roundw
            case rel => exact ⟨j + 1, N, _, _, by omega, by omega, by go_num, HQ6.out⟩
            case measure => simp [intOf]; omega
        · have hg1 : 1099511627776 < z := by omega
          go_wp2_with (first | (refine wpList_loadw (by rfl) 37 _ rfl b9 (o9 + j * 75) rfl (PCall.cells ⟨k, n, m, s, c, z⟩) _ (RX.out _ HBR.out) Try.underlying37 rfl (call_size HO.out) ?_; go_frame) | (refine wpList_var rfl rfl 37 rfl _ _ rfl noCall.cells.toArray zeroCall10 rfl (PCall.cells ⟨k, n, m, s, c, z⟩) (fun _ => rfl) (fun _ => rfl) (PCall.len HO.out) (PCall.one _) ?_; intro g6 w6 n6 h6 k6; have H6 := Lib.hid h6; have HQ6 := Lib.hid (HQ.out.below k6); have B6 := Lib.hid (bthen HBR.out k6); have c74 := (call_at HO.out (range_of h6)).height; rw [Nat.zero_add] at c74; clear h6 k6 n6; go_frame) | fail)
          go_roundw
          case rel => exact ⟨j + 1, N, _, _, by omega, by omega, by go_num, HQ6.out⟩
          case measure => simp [intOf]; omega
      · have f5 : ¬ (j : Int) < 50 := by omega
        go_wp2_with (first | (go_at_call 9; refine (awake10_any _).mono ?_; rintro e w9 ⟨rfl, hb9⟩; have HB9 := Lib.hid (bthen HBR.out hb9); clear hb9) | fail)
        go_ret
        exact ⟨rfl, HB9.out⟩
    · have f1 : ¬ (j : Int) < (l : Int) := by omega
      go_wp2_with (first | (go_at_call 9; refine (awake10_any _).mono ?_; rintro e w9 ⟨rfl, hb9⟩; have HB9 := Lib.hid (bthen HBR.out hb9); clear hb9) | fail)
      go_ret
      exact ⟨rfl, HB9.out⟩
end Go.Proofs.Ytijanllppbambaa
