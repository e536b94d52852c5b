/- ReceiptTexts, walked. -/
import Derived.Test.YtfccmiohnjhkoaaAwake12
import Derived.Test.YtfccmiohnjhkoaaEqRec
import Derived.Test.YtfccmiohnjhkoaaMemory
import Derived.Deep.CutRange
namespace Go.Proofs.Ytfccmiohnjhkoaa
open Go.RowKit

/-- Two receipts that are unlike, or not. -/
theorem strings_ne {l m : List UInt8} (h : l ≠ m) {s t : ByteArray} (hs : (⟨l.toArray⟩ : ByteArray) = s) (ht : (⟨m.toArray⟩ : ByteArray) = t) : ¬ s.toList = t.toList := by
  rw [← hs, ← ht, ByteArray.toList_eq, ByteArray.toList_eq]
  exact h
set_option linter.unusedSimpArgs false in
set_option maxRecDepth 100000 in
set_option maxHeartbeats 6400000 in
theorem texts12_walk {w : World} {x : PRec} {a : Option Addr} {n c : Nat} {l : List UInt8} (hx : RecIn x) (h : Row w a n c l) :
    Calls Try.prog 3 #[.agg x.cells.toArray, .slice a n c] w fun e w' => e = .returned (.bool true) ∧ Below w.heap.size w w' := by
  obtain ⟨TX, hTX⟩ : ∃ r, textB x = r := ⟨_, rfl⟩
  obtain ⟨R, hR⟩ : ∃ r, recOk x = r := ⟨_, rfl⟩
  obtain ⟨X1, hX1⟩ : ∃ r, readX (textB x) = r := ⟨_, rfl⟩
  obtain ⟨E1, hE1⟩ : ∃ r, readE (textB x) = r := ⟨_, rfl⟩
  have htl := textB_len hx
  have HTL : Hid (∀ W : World, Calls Try.prog 6 #[.agg x.cells.toArray] W (TextOut W TX)) := Lib.hid fun W => by rw [← hTX]; exact text_law hx
  have HTC : Hid (∀ W : World, Calls Try.prog 7 #[.agg x.cells.toArray] W (TextOut W TX)) := Lib.hid fun W => by rw [← hTX]; exact text_any hx
  have HRL : Hid (∀ W : World, Calls Try.prog 9 #[.agg x.cells.toArray] W fun e w' => e = .returned (.bool R) ∧ Below W.heap.size W w') := Lib.hid fun W => by rw [← hR]; exact recright_law W x
  have HRC : Hid (∀ W : World, Calls Try.prog 8 #[.agg x.cells.toArray] W fun e w' => e = .returned (.bool R) ∧ Below W.heap.size W w') := Lib.hid fun W => by rw [← hR]; exact recright_any W x
  have HRD : Hid (∀ (W : World) (a : Option Addr) (n c : Nat), Row W a n c TX → Calls Try.prog 5 #[.slice a n c] W fun e w' => e = .returned (.tuple #[.agg X1.cells.toArray, .int .i64 E1]) ∧ Below W.heap.size W w') := Lib.hid fun W a n c hr => by
    rw [← hX1, ← hE1]
    rw [← hTX] at hr
    exact read_any hr (by have h9 := hr.1; omega)
  have HAW := Lib.hid awake12_any
  have HOK : Hid (R = true → E1 = 0 ∧ X1 = x) := Lib.hid fun h0 => by
    have h9 := read_back hx (by rw [hR]; exact h0)
    exact ⟨by rw [← hE1]; exact h9.1, by rw [← hX1]; exact h9.2⟩
  have HOT : Hid (∀ q : List UInt8, readE q ≠ 0 → R = true → q ≠ TX) := Lib.hid fun q h0 h1 => by rw [← hTX]; exact read_other h0 hx (by rw [hR]; exact h1)
  have HX1 : RecIn X1 := by rw [← hX1]; exact readX_in _
  have SX1 := Lib.hid (rec_size HX1)
  have SA1 := Lib.hid (rec_sizeA HX1)
  have Z1 := Lib.hid (rec_zero HX1)
  have qe := fun W : World => run_eqRecs x x hx hx W
  rw [recEq_same] at qe
  have SX := Lib.hid (rec_size hx)
  have SN := Lib.hid (rec_size noRec_in)
  obtain ⟨sx, hsx⟩ : ∃ s : ByteArray, (⟨TX.toArray⟩ : ByteArray) = s := ⟨_, rfl⟩
  have HSX := Lib.hid hsx
  have hn63 : (n : Int) ≤ 9223372036854775807 := by have h1 := h.2.1; have h2 := h.2.2.1; unfold maxLen at h2; omega
  have hc63 : (c : Int) ≤ 9223372036854775807 := by have h2 := h.2.2.1; unfold maxLen at h2; omega
  have hnc := h.2.1
  have H := Lib.hid h
  clear h hx HX1 hTX hR hX1 hE1 htl hsx
  go_enter Try.func3, Try.ntmps3
  go_upto_region 1 with (fail)
  have b1 : Below w.heap.size w (w.alloc (.cells x.cells.toArray 25)) := (Below.refl _ _).alloc (Nat.le_refl _) _
  have h1 := heap_alloc_new w (.cells x.cells.toArray 25)
  revert b1 h1
  generalize (w.alloc (.cells x.cells.toArray 25)) = w1
  obtain ⟨g, hg⟩ : ∃ g, g = w.heap.size := ⟨_, rfl⟩
  rw [← hg]
  intro b1 h1
  rw [hg] at b1
  have RX : Hid (∀ W : World, Below w1.heap.size w1 W → W.rangeAt g 0 x.cells) := Lib.hid fun W hW => range_of (keep hW h1)
  have HB1 := Lib.hid b1
  have H1 := Lib.hid (H.out.below b1)
  clear h1 b1 hg H
  go_upto_if 11 with (fail)
  go_cut [1] from 9 to 83 (fun u w' => ∃ k q, u = .slice a k c ∧ k ≤ 300 ∧ Row w1 a k c q ∧ w1 = w')
  case first =>
    by_cases hn : n ≤ 300
    · have f1 : ¬ 300 < (n : Int) := by omega
      go_wp2_with fail
      go_meet
      exact ⟨n, l, rfl, hn, H1.out, rfl⟩
    · have f1 : 300 < (n : Int) := by omega
      have f2 : 300 ≤ c := by omega
      have f3 : (300 : Int) ≤ (c : Int) := by omega
      go_wp2_with fail
      go_meet
      exact ⟨300, l.take 300, rfl, Nat.le_refl _, H1.out.take (by omega), rfl⟩
  case rest =>
    obtain ⟨k, q, rfl, hk300, hq, rfl⟩ := hcut
    have HQ := Lib.hid hq; have HQ0 := Lib.hid hq
    have hkl := hq.1
    obtain ⟨X2, hX2⟩ : ∃ r, readX q = r := ⟨_, rfl⟩
    obtain ⟨E2, hE2⟩ : ∃ r, readE q = r := ⟨_, rfl⟩
    have HXI2 : RecIn X2 := by rw [← hX2]; exact readX_in _
    have HRQ : Hid (∀ (W : World), Row W a k c q → Calls Try.prog 5 #[.slice a k c] W fun e w' => e = .returned (.tuple #[.agg X2.cells.toArray, .int .i64 E2]) ∧ Below W.heap.size W w') := Lib.hid fun W hr => by rw [← hX2, ← hE2]; exact read_any hr (by omega)
    have HN2 : Hid (E2 ≠ 0 → X2 = noRec ∧ (R = true → q ≠ TX)) := Lib.hid fun h0 => by
      have h9 : readE q ≠ 0 := by rw [hE2]; exact h0
      exact ⟨by rw [← hX2]; exact read_no h9, HOT.out q h9⟩
    have HY2 : Hid (E2 = 0 → ∀ W : World, Calls Try.prog 6 #[.agg X2.cells.toArray] W (TextOut W q)) := Lib.hid fun h0 W => by
      have h9 := text_law (w := W) HXI2
      rw [← hX2, read_ok (by rw [hE2]; exact h0)] at h9
      rw [← hX2]
      exact h9
    have HR2 : Hid (∀ W : World, Calls Try.prog 9 #[.agg X2.cells.toArray] W fun e w' => e = .returned (.bool true) ∧ Below W.heap.size W w') := Lib.hid fun W => by
      have h9 := recright_law W X2
      rw [← hX2, readX_ok] at h9
      rw [← hX2]
      exact h9
    have S2 := Lib.hid (rec_size HXI2)
    have SA2 := Lib.hid (rec_sizeA HXI2)
    have Z2 := Lib.hid (rec_zero HXI2)
    obtain ⟨sb, hsb⟩ : ∃ s : ByteArray, (⟨q.toArray⟩ : ByteArray) = s := ⟨_, rfl⟩
    have HSB := Lib.hid hsb
    have RXa := Lib.hid (RX.out _ (Below.refl _ _))
    clear hq hkl hX2 hE2 HXI2 hsb H1 hnc hn63 HOT
    go_wp2_with (first | (refine wpList_load_mid rfl 25 _ rfl g 0 rfl x.cells _ RXa.out Try.underlying25 rfl SX.out ?_) | (go_at_call 6; (with_reducible refine (HTL.out _).mono ?_); rintro e w2 ⟨a2, n2, c2, rfl, hr, _, hb⟩; have HR1 := Lib.hid hr; have HB2 := Lib.hid hb; clear hr hb) | fail)
    refine (HRD.out _ _ _ _ HR1.out).mono ?_
    rintro e w3 ⟨rfl, hb⟩
    have HB3 := Lib.hid (bthen HB2.out hb)
    clear hb HR1 HB2 HRD
    go_upto_region 4 with (first | (refine wpList_new rfl 25 rfl noRec.cells.toArray Try.infoRec ?_; intro g5 w_n hg_n h_n b_n; have HNV := Lib.hid h_n; have HNB := Lib.hid b_n; have HNG := Lib.hid hg_n; clear h_n b_n hg_n; go_frame) | (refine wpList_store_row rfl 25 _ _ rfl g5 X1.cells.toArray rfl rfl 25 noRec.cells.toArray HNV.out SA1.out Z1.out (all_oneCell_toArray (PRec.one _)) ?_) | fail)
    have h_s := setRow_heap w_n g5 noRec.cells.toArray X1.cells.toArray 25 (0, 0) HNV.out
    have b_s := But.in HNB.out (but_setRow w_n g5 X1.cells.toArray) HNG.out
    revert h_s b_s
    generalize w_n.setRow g5 X1.cells.toArray = w4
    intro h_s b_s
    have HBH := Lib.hid (bthen HB3.out b_s)
    have HV5 := Lib.hid h_s
    clear h_s b_s HNV HNB HNG HB3
    go_cut [33] from 20 to 33 (fun u w' => u = .bool false ∧ Below w4.heap.size w4 w')
    case first =>
      refine wp_region_held_drew (S := fun w' => Below (w4).heap.size w4 w') (by kernel_rfl) (below_drew (Below.refl _ _)) (fun hHeld => ?_)
      refine take_at (i := 0) rfl rfl (by kernel_rfl) (by kernel_rfl) (by kernel_rfl) (fun _ _ _ h => h) (yieldsIf_load_mid (by rfl) _ _ rfl g 0 rfl x.cells _ (fun w0 hSw => RX.out _ (bthen HBH.out hSw)) Try.underlying25 rfl SX.out) (by assumption) ?_
      simp only [List.setIfInBounds_toArray, List.set_cons_zero, List.set_cons_succ]
      refine take_at (i := 3) rfl rfl (by kernel_rfl) (by kernel_rfl) (by kernel_rfl) (fun _ _ _ h => h) (yieldsIf_load_mid (by rfl) _ _ rfl g 0 rfl x.cells _ (fun w0 hSw => RX.out _ (bthen HBH.out hSw)) Try.underlying25 rfl SX.out) (by assumption) ?_
      simp only [List.setIfInBounds_toArray, List.set_cons_zero, List.set_cons_succ]
      refine wpAnyH_ready (rs := [1]) (by kernel_rfl) (by simp) ?_
      refine AllReadyH.cons rfl (fun K hK => ?_) ?_
      · go_simp
        go_wp2_with ((go_at_call 7; (with_reducible refine (HTC.out _).mono ?_); rintro e y1 ⟨a_y1, n_y1, c_y1, rfl, hr, _, hb⟩; have HRy1 := Lib.hid hr; have HBy1 := Lib.hid hb; clear hr hb))
        refine hK.out _ _ (by (try dsimp only); exact Below.trans hHeld (HBy1.out.mono (Below.size hHeld))) (fun hHeld => ?_)
        clear hK K
        refine wpAnyH_ready (rs := [2, 4]) (by kernel_rfl) (by simp) ?_
        refine AllReadyH.cons rfl (fun K hK => ?_) ?_
        · refine step_conv (d := 22) rfl (by rfl) rfl (by rfl) HSX.out HRy1.out ?_
          refine hK.out _ _ (by (try dsimp only); exact hHeld) (fun hHeld => ?_)
          clear hK K
          refine wpAnyH_ready (rs := [4]) (by kernel_rfl) (by simp) ?_
          refine AllReadyH.cons rfl (fun K hK => ?_) ?_
          · go_simp
            go_wp2_with ((go_at_call 6; (with_reducible refine (HTL.out _).mono ?_); rintro e y4 ⟨a_y4, n_y4, c_y4, rfl, hr, _, hb⟩; have HRy4 := Lib.hid hr; have HBy4 := Lib.hid hb; clear hr hb))
            refine hK.out _ _ (by (try dsimp only); exact Below.trans hHeld (HBy4.out.mono (Below.size hHeld))) (fun hHeld => ?_)
            clear hK K
            refine wpAnyH_ready (rs := [5]) (by kernel_rfl) (by simp) ?_
            refine AllReadyH.cons rfl (fun K hK => ?_) ?_
            · refine step_conv (d := 25) rfl (by rfl) rfl (by rfl) HSX.out HRy4.out ?_
              refine hK.out _ _ (by (try dsimp only); exact hHeld) (fun hHeld => ?_)
              clear hK K
              refine take_at (i := 6) (v := .bool false) rfl rfl (by kernel_rfl) (by kernel_rfl) (by kernel_rfl) (fun _ _ _ h => h) (Or.inl ⟨by rfl, ?_⟩) (by assumption) ?_
              · intro w0 hSw; (try dsimp only at hSw); first | (go_simp; done) | (go_simp; with_reducible rfl) | (go_simp; omega)
              simp only [List.setIfInBounds_toArray, List.set_cons_zero, List.set_cons_succ]
              refine take_at (i := 7) (v := ?_) rfl rfl (by kernel_rfl) (by kernel_rfl) (by kernel_rfl) (fun _ _ _ h => h) (Or.inl ⟨by rfl, ?_⟩) (by assumption) ?_
              rotate_left
              · intro w0 hSw; (try dsimp only at hSw); first | (go_simp; done) | (go_simp; with_reducible rfl)
              simp only [List.setIfInBounds_toArray, List.set_cons_zero, List.set_cons_succ]
              refine take_at (i := 8) rfl rfl (by kernel_rfl) (by kernel_rfl) (by kernel_rfl) (fun _ _ _ h => h) (yieldsIf_load_mid (by rfl) _ _ rfl g 0 rfl x.cells _ (fun w0 hSw => RX.out _ (bthen HBH.out hSw)) Try.underlying25 rfl SX.out) (by assumption) ?_
              simp only [List.setIfInBounds_toArray, List.set_cons_zero, List.set_cons_succ]
              refine take_at (i := 10) rfl rfl (by kernel_rfl) (by kernel_rfl) (by kernel_rfl) (fun _ _ _ h => h) (yieldsIf_load_mid (by rfl) _ _ rfl g 0 rfl x.cells _ (fun w0 hSw => RX.out _ (bthen HBH.out hSw)) Try.underlying25 rfl SX.out) (by assumption) ?_
              simp only [List.setIfInBounds_toArray, List.set_cons_zero, List.set_cons_succ]
              refine wpAnyH_ready (rs := [9]) (by kernel_rfl) (by simp) ?_
              refine AllReadyH.cons rfl (fun K hK => ?_) ?_
              · go_simp
                go_wp2_with ((go_at_call 8; (with_reducible refine (HRC.out _).mono ?_); rintro e y9 ⟨rfl, hb⟩; have HBy9 := Lib.hid hb; clear hb))
                refine hK.out _ _ (by (try dsimp only); exact Below.trans hHeld (HBy9.out.mono (Below.size hHeld))) (fun hHeld => ?_)
                clear hK K
                refine wpAnyH_ready (rs := [11]) (by kernel_rfl) (by simp) ?_
                refine AllReadyH.cons rfl (fun K hK => ?_) ?_
                · go_simp
                  go_wp2_with ((go_at_call 9; (with_reducible refine (HRL.out _).mono ?_); rintro e y11 ⟨rfl, hb⟩; have HBy11 := Lib.hid hb; clear hb))
                  refine hK.out _ _ (by (try dsimp only); exact Below.trans hHeld (HBy11.out.mono (Below.size hHeld))) (fun hHeld => ?_)
                  clear hK K
                  refine take_at (i := 12) (v := .bool false) rfl rfl (by kernel_rfl) (by kernel_rfl) (by kernel_rfl) (fun _ _ _ h => h) (Or.inl ⟨by rfl, ?_⟩) (by assumption) ?_
                  · intro w0 hSw; (try dsimp only at hSw); cases R <;> (go_simp; done)
                  simp only [List.setIfInBounds_toArray, List.set_cons_zero, List.set_cons_succ]
                  refine take_at (i := 13) (v := ?_) rfl rfl (by kernel_rfl) (by kernel_rfl) (by kernel_rfl) (fun _ _ _ h => h) (Or.inl ⟨by rfl, ?_⟩) (by assumption) ?_
                  rotate_left
                  · intro w0 hSw; (try dsimp only at hSw); first | (go_simp; done) | (go_simp; with_reducible rfl)
                  simp only [List.setIfInBounds_toArray, List.set_cons_zero, List.set_cons_succ]
                  refine wpAnyH_done (by kernel_rfl) ?_ _
                  have HST := Lib.hid (show Below (w4).heap.size w4 y11 from hHeld)
                  clear hHeld
                  go_wp2_with fail
                  go_meet
                  exact ⟨rfl, HST.out⟩
                exact AllReadyH.nil
              exact AllReadyH.nil
            exact AllReadyH.nil
          exact AllReadyH.nil
        refine AllReadyH.cons rfl (fun K hK => ?_) ?_
        · go_simp
          go_wp2_with ((go_at_call 6; (with_reducible refine (HTL.out _).mono ?_); rintro e y4 ⟨a_y4, n_y4, c_y4, rfl, hr, _, hb⟩; have HRy4 := Lib.hid hr; have HBy4 := Lib.hid hb; clear hr hb))
          refine hK.out _ _ (by (try dsimp only); exact Below.trans hHeld (HBy4.out.mono (Below.size hHeld))) (fun hHeld => ?_)
          clear hK K
          refine wpAnyH_ready (rs := [2, 5]) (by kernel_rfl) (by simp) ?_
          refine AllReadyH.cons rfl (fun K hK => ?_) ?_
          · refine step_conv (d := 22) rfl (by rfl) rfl (by rfl) HSX.out (HRy1.out.below HBy4.out) ?_
            refine hK.out _ _ (by (try dsimp only); exact hHeld) (fun hHeld => ?_)
            clear hK K
            refine wpAnyH_ready (rs := [5]) (by kernel_rfl) (by simp) ?_
            refine AllReadyH.cons rfl (fun K hK => ?_) ?_
            · refine step_conv (d := 25) rfl (by rfl) rfl (by rfl) HSX.out HRy4.out ?_
              refine hK.out _ _ (by (try dsimp only); exact hHeld) (fun hHeld => ?_)
              clear hK K
              refine take_at (i := 6) (v := .bool false) rfl rfl (by kernel_rfl) (by kernel_rfl) (by kernel_rfl) (fun _ _ _ h => h) (Or.inl ⟨by rfl, ?_⟩) (by assumption) ?_
              · intro w0 hSw; (try dsimp only at hSw); first | (go_simp; done) | (go_simp; with_reducible rfl) | (go_simp; omega)
              simp only [List.setIfInBounds_toArray, List.set_cons_zero, List.set_cons_succ]
              refine take_at (i := 7) (v := ?_) rfl rfl (by kernel_rfl) (by kernel_rfl) (by kernel_rfl) (fun _ _ _ h => h) (Or.inl ⟨by rfl, ?_⟩) (by assumption) ?_
              rotate_left
              · intro w0 hSw; (try dsimp only at hSw); first | (go_simp; done) | (go_simp; with_reducible rfl)
              simp only [List.setIfInBounds_toArray, List.set_cons_zero, List.set_cons_succ]
              refine take_at (i := 8) rfl rfl (by kernel_rfl) (by kernel_rfl) (by kernel_rfl) (fun _ _ _ h => h) (yieldsIf_load_mid (by rfl) _ _ rfl g 0 rfl x.cells _ (fun w0 hSw => RX.out _ (bthen HBH.out hSw)) Try.underlying25 rfl SX.out) (by assumption) ?_
              simp only [List.setIfInBounds_toArray, List.set_cons_zero, List.set_cons_succ]
              refine take_at (i := 10) rfl rfl (by kernel_rfl) (by kernel_rfl) (by kernel_rfl) (fun _ _ _ h => h) (yieldsIf_load_mid (by rfl) _ _ rfl g 0 rfl x.cells _ (fun w0 hSw => RX.out _ (bthen HBH.out hSw)) Try.underlying25 rfl SX.out) (by assumption) ?_
              simp only [List.setIfInBounds_toArray, List.set_cons_zero, List.set_cons_succ]
              refine wpAnyH_ready (rs := [9]) (by kernel_rfl) (by simp) ?_
              refine AllReadyH.cons rfl (fun K hK => ?_) ?_
              · go_simp
                go_wp2_with ((go_at_call 8; (with_reducible refine (HRC.out _).mono ?_); rintro e y9 ⟨rfl, hb⟩; have HBy9 := Lib.hid hb; clear hb))
                refine hK.out _ _ (by (try dsimp only); exact Below.trans hHeld (HBy9.out.mono (Below.size hHeld))) (fun hHeld => ?_)
                clear hK K
                refine wpAnyH_ready (rs := [11]) (by kernel_rfl) (by simp) ?_
                refine AllReadyH.cons rfl (fun K hK => ?_) ?_
                · go_simp
                  go_wp2_with ((go_at_call 9; (with_reducible refine (HRL.out _).mono ?_); rintro e y11 ⟨rfl, hb⟩; have HBy11 := Lib.hid hb; clear hb))
                  refine hK.out _ _ (by (try dsimp only); exact Below.trans hHeld (HBy11.out.mono (Below.size hHeld))) (fun hHeld => ?_)
                  clear hK K
                  refine take_at (i := 12) (v := .bool false) rfl rfl (by kernel_rfl) (by kernel_rfl) (by kernel_rfl) (fun _ _ _ h => h) (Or.inl ⟨by rfl, ?_⟩) (by assumption) ?_
                  · intro w0 hSw; (try dsimp only at hSw); cases R <;> (go_simp; done)
                  simp only [List.setIfInBounds_toArray, List.set_cons_zero, List.set_cons_succ]
                  refine take_at (i := 13) (v := ?_) rfl rfl (by kernel_rfl) (by kernel_rfl) (by kernel_rfl) (fun _ _ _ h => h) (Or.inl ⟨by rfl, ?_⟩) (by assumption) ?_
                  rotate_left
                  · intro w0 hSw; (try dsimp only at hSw); first | (go_simp; done) | (go_simp; with_reducible rfl)
                  simp only [List.setIfInBounds_toArray, List.set_cons_zero, List.set_cons_succ]
                  refine wpAnyH_done (by kernel_rfl) ?_ _
                  have HST := Lib.hid (show Below (w4).heap.size w4 y11 from hHeld)
                  clear hHeld
                  go_wp2_with fail
                  go_meet
                  exact ⟨rfl, HST.out⟩
                exact AllReadyH.nil
              exact AllReadyH.nil
            exact AllReadyH.nil
          refine AllReadyH.cons rfl (fun K hK => ?_) ?_
          · refine step_conv (d := 25) rfl (by rfl) rfl (by rfl) HSX.out HRy4.out ?_
            refine hK.out _ _ (by (try dsimp only); exact hHeld) (fun hHeld => ?_)
            clear hK K
            refine wpAnyH_ready (rs := [2]) (by kernel_rfl) (by simp) ?_
            refine AllReadyH.cons rfl (fun K hK => ?_) ?_
            · refine step_conv (d := 22) rfl (by rfl) rfl (by rfl) HSX.out (HRy1.out.below HBy4.out) ?_
              refine hK.out _ _ (by (try dsimp only); exact hHeld) (fun hHeld => ?_)
              clear hK K
              refine take_at (i := 6) (v := .bool false) rfl rfl (by kernel_rfl) (by kernel_rfl) (by kernel_rfl) (fun _ _ _ h => h) (Or.inl ⟨by rfl, ?_⟩) (by assumption) ?_
              · intro w0 hSw; (try dsimp only at hSw); first | (go_simp; done) | (go_simp; with_reducible rfl) | (go_simp; omega)
              simp only [List.setIfInBounds_toArray, List.set_cons_zero, List.set_cons_succ]
              refine take_at (i := 7) (v := ?_) rfl rfl (by kernel_rfl) (by kernel_rfl) (by kernel_rfl) (fun _ _ _ h => h) (Or.inl ⟨by rfl, ?_⟩) (by assumption) ?_
              rotate_left
              · intro w0 hSw; (try dsimp only at hSw); first | (go_simp; done) | (go_simp; with_reducible rfl)
              simp only [List.setIfInBounds_toArray, List.set_cons_zero, List.set_cons_succ]
              refine take_at (i := 8) rfl rfl (by kernel_rfl) (by kernel_rfl) (by kernel_rfl) (fun _ _ _ h => h) (yieldsIf_load_mid (by rfl) _ _ rfl g 0 rfl x.cells _ (fun w0 hSw => RX.out _ (bthen HBH.out hSw)) Try.underlying25 rfl SX.out) (by assumption) ?_
              simp only [List.setIfInBounds_toArray, List.set_cons_zero, List.set_cons_succ]
              refine take_at (i := 10) rfl rfl (by kernel_rfl) (by kernel_rfl) (by kernel_rfl) (fun _ _ _ h => h) (yieldsIf_load_mid (by rfl) _ _ rfl g 0 rfl x.cells _ (fun w0 hSw => RX.out _ (bthen HBH.out hSw)) Try.underlying25 rfl SX.out) (by assumption) ?_
              simp only [List.setIfInBounds_toArray, List.set_cons_zero, List.set_cons_succ]
              refine wpAnyH_ready (rs := [9]) (by kernel_rfl) (by simp) ?_
              refine AllReadyH.cons rfl (fun K hK => ?_) ?_
              · go_simp
                go_wp2_with ((go_at_call 8; (with_reducible refine (HRC.out _).mono ?_); rintro e y9 ⟨rfl, hb⟩; have HBy9 := Lib.hid hb; clear hb))
                refine hK.out _ _ (by (try dsimp only); exact Below.trans hHeld (HBy9.out.mono (Below.size hHeld))) (fun hHeld => ?_)
                clear hK K
                refine wpAnyH_ready (rs := [11]) (by kernel_rfl) (by simp) ?_
                refine AllReadyH.cons rfl (fun K hK => ?_) ?_
                · go_simp
                  go_wp2_with ((go_at_call 9; (with_reducible refine (HRL.out _).mono ?_); rintro e y11 ⟨rfl, hb⟩; have HBy11 := Lib.hid hb; clear hb))
                  refine hK.out _ _ (by (try dsimp only); exact Below.trans hHeld (HBy11.out.mono (Below.size hHeld))) (fun hHeld => ?_)
                  clear hK K
                  refine take_at (i := 12) (v := .bool false) rfl rfl (by kernel_rfl) (by kernel_rfl) (by kernel_rfl) (fun _ _ _ h => h) (Or.inl ⟨by rfl, ?_⟩) (by assumption) ?_
                  · intro w0 hSw; (try dsimp only at hSw); cases R <;> (go_simp; done)
                  simp only [List.setIfInBounds_toArray, List.set_cons_zero, List.set_cons_succ]
                  refine take_at (i := 13) (v := ?_) rfl rfl (by kernel_rfl) (by kernel_rfl) (by kernel_rfl) (fun _ _ _ h => h) (Or.inl ⟨by rfl, ?_⟩) (by assumption) ?_
                  rotate_left
                  · intro w0 hSw; (try dsimp only at hSw); first | (go_simp; done) | (go_simp; with_reducible rfl)
                  simp only [List.setIfInBounds_toArray, List.set_cons_zero, List.set_cons_succ]
                  refine wpAnyH_done (by kernel_rfl) ?_ _
                  have HST := Lib.hid (show Below (w4).heap.size w4 y11 from hHeld)
                  clear hHeld
                  go_wp2_with fail
                  go_meet
                  exact ⟨rfl, HST.out⟩
                exact AllReadyH.nil
              exact AllReadyH.nil
            exact AllReadyH.nil
          exact AllReadyH.nil
        exact AllReadyH.nil
      exact AllReadyH.nil
    case rest =>
      obtain ⟨rfl, hb⟩ := hcut
      have HB5 := Lib.hid (bthen HBH.out hb)
      have R5 := Lib.hid (range_of (keep hb HV5.out)); have LT5 := Lib.hid (lt_of_block (keep hb HV5.out))
      have RXb := Lib.hid (RX.out _ HB5.out)
      have HQ5 := Lib.hid (HQ.out.below HB5.out)
      clear hb HBH HV5 RXa HTC HRC HQ
      go_upto_region 6 with (fail)
      go_cut [44] from 34 to 44 (fun u w' => u = .bool false ∧ Below w1.heap.size w1 w')
      case first =>
        cases R
        · go_wp2_with (first | (refine wpList_load_mid rfl 25 _ rfl g 0 rfl x.cells _ RXb.out Try.underlying25 rfl SX.out ?_) | fail)
          refine (HRL.out _).mono ?_
          rintro e w6 ⟨rfl, hb⟩
          have HB6 := Lib.hid (bthen HB5.out hb)
          clear hb
          go_wp2_with fail
          go_meet
          exact ⟨rfl, HB6.out⟩
        · obtain ⟨rfl, rfl⟩ := HOK.out rfl
          go_wp2_with (first | (refine wpList_load_mid rfl 25 _ rfl g 0 rfl X1.cells _ RXb.out Try.underlying25 rfl SX.out ?_) | fail)
          refine (HRL.out _).mono ?_
          rintro e w6 ⟨rfl, hb⟩
          have HB6 := Lib.hid (bthen HB5.out hb)
          have R56 := Lib.hid (rangeAt_below R5.out LT5.out hb)
          have RXc := Lib.hid (RX.out _ HB6.out)
          clear hb R5
          go_wp2_with (first | (refine wpList_mid_wanted (by rfl) 25 _ rfl g5 0 rfl X1.cells _ R56.out Try.underlying25 rfl SX.out ?_) | (refine wpList_mid_wanted (by rfl) 25 _ rfl g 0 rfl X1.cells _ RXc.out Try.underlying25 rfl SX.out ?_) | fail)
          go_meet
          exact ⟨rfl, HB6.out⟩
      case rest =>
        obtain ⟨rfl, hb⟩ := hcut
        have HQ6 := Lib.hid (HQ0.out.below hb)
        have HBG := Lib.hid hb
        clear hb HQ5 HB5 R5 RXb HOK SX1 SA1 Z1
        go_wp2_with fail
        refine (HRQ.out _ HQ6.out).mono ?_
        rintro e w7 ⟨rfl, hb⟩
        have HB7 := Lib.hid (bthen HBG.out hb)
        have HQ7a := Lib.hid (HQ6.out.below hb)
        clear hb HQ6 HBG HRQ
        go_upto_region 9 with (first | (refine wpList_new rfl 25 rfl noRec.cells.toArray Try.infoRec ?_; intro g7 w_n hg_n h_n b_n; have HNV := Lib.hid h_n; have HNB := Lib.hid b_n; have HNG := Lib.hid hg_n; clear h_n b_n hg_n; go_frame) | (refine wpList_store_row rfl 25 _ _ rfl g7 X2.cells.toArray rfl rfl 25 noRec.cells.toArray HNV.out SA2.out Z2.out (all_oneCell_toArray (PRec.one _)) ?_) | fail)
        have h_s := setRow_heap w_n g7 noRec.cells.toArray X2.cells.toArray 25 (0, 0) HNV.out
        have b_s := But.in HNB.out (but_setRow w_n g7 X2.cells.toArray) HNG.out
        revert h_s b_s
        generalize w_n.setRow g7 X2.cells.toArray = w8
        intro h_s b_s
        have HBH := Lib.hid (bthen HB7.out b_s)
        have HV8 := Lib.hid h_s
        have HQ7 := Lib.hid (HQ7a.out.below b_s)
        clear h_s b_s HNV HNB HNG HQ7a HB7
        have R7 : Hid (∀ W : World, Below w1.heap.size w1 W → Below w8.heap.size w8 W → W.rangeAt g7 0 X2.cells) := Lib.hid fun W _ hW => range_of (keep hW HV8.out)
        by_cases h0 : E2 = 0
        · subst h0
          have hb : ((0 : Int) != 0) = false := by decide
          have HT2 := Lib.hid (HY2.out rfl)
          clear HN2 HY2
          go_upto_region 11 with (fail)
          refine wp_region_held_drew (S := fun w' => Below (w8).heap.size w8 w') (by kernel_rfl) (below_drew (Below.refl _ _)) (fun hHeld => ?_)
          refine take_at (i := 0) rfl rfl (by kernel_rfl) (by kernel_rfl) (by kernel_rfl) (fun _ _ _ h => h) (yieldsIf_load_mid (by rfl) _ _ rfl g7 0 rfl X2.cells _ (fun w0 hSw => R7.out _ (bthen HBH.out hSw) hSw) Try.underlying25 rfl S2.out) (by assumption) ?_
          simp only [List.setIfInBounds_toArray, List.set_cons_zero, List.set_cons_succ]
          refine wpAnyH_ready (rs := [1]) (by kernel_rfl) (by simp) ?_
          refine AllReadyH.cons rfl (fun K hK => ?_) ?_
          · go_simp
            go_wp2_with ((go_at_call 9; (with_reducible refine (HR2.out _).mono ?_); rintro e y1 ⟨rfl, hb⟩; have HBy1 := Lib.hid hb; clear hb))
            refine hK.out _ _ (by (try dsimp only); exact Below.trans hHeld (HBy1.out.mono (Below.size hHeld))) (fun hHeld => ?_)
            clear hK K
            refine take_at (i := 2) (v := ?_) rfl rfl (by kernel_rfl) (by kernel_rfl) (by kernel_rfl) (fun _ _ _ h => h) (Or.inl ⟨by rfl, ?_⟩) (by assumption) ?_
            rotate_left
            · intro w0 hSw; (try dsimp only at hSw); first | (go_simp; done) | (go_simp; with_reducible rfl)
            simp only [List.setIfInBounds_toArray, List.set_cons_zero, List.set_cons_succ]
            refine take_at (i := 3) rfl rfl (by kernel_rfl) (by kernel_rfl) (by kernel_rfl) (fun _ _ _ h => h) (yieldsIf_load_mid (by rfl) _ _ rfl g7 0 rfl X2.cells _ (fun w0 hSw => R7.out _ (bthen HBH.out hSw) hSw) Try.underlying25 rfl S2.out) (by assumption) ?_
            simp only [List.setIfInBounds_toArray, List.set_cons_zero, List.set_cons_succ]
            refine take_at (i := 6) (v := ?_) rfl rfl (by kernel_rfl) (by kernel_rfl) (by kernel_rfl) (fun _ _ _ h => h) (Or.inl ⟨by rfl, ?_⟩) (by assumption) ?_
            rotate_left
            · intro w0 hSw; (try dsimp only at hSw); first | (go_simp; done) | (go_simp; with_reducible rfl)
            simp only [List.setIfInBounds_toArray, List.set_cons_zero, List.set_cons_succ]
            refine take_at (i := 7) rfl rfl (by kernel_rfl) (by kernel_rfl) (by kernel_rfl) (fun _ _ _ h => h) (yields_conv (by rfl) rfl (by rfl) HSB.out (fun w0 hSw => HQ7.out.below hSw)) (by assumption) ?_
            simp only [List.setIfInBounds_toArray, List.set_cons_zero, List.set_cons_succ]
            refine wpAnyH_ready (rs := [4]) (by kernel_rfl) (by simp) ?_
            refine AllReadyH.cons rfl (fun K hK => ?_) ?_
            · go_simp
              go_wp2_with ((go_at_call 6; (with_reducible refine (HT2.out _).mono ?_); rintro e y4 ⟨a_y4, n_y4, c_y4, rfl, hr, _, hb⟩; have HRy4 := Lib.hid hr; have HBy4 := Lib.hid hb; clear hr hb))
              refine hK.out _ _ (by (try dsimp only); exact Below.trans hHeld (HBy4.out.mono (Below.size hHeld))) (fun hHeld => ?_)
              clear hK K
              refine wpAnyH_ready (rs := [5]) (by kernel_rfl) (by simp) ?_
              refine AllReadyH.cons rfl (fun K hK => ?_) ?_
              · refine step_conv (d := 76) rfl (by rfl) rfl (by rfl) HSB.out HRy4.out ?_
                refine hK.out _ _ (by (try dsimp only); exact hHeld) (fun hHeld => ?_)
                clear hK K
                refine take_at (i := 8) (v := .bool true) rfl rfl (by kernel_rfl) (by kernel_rfl) (by kernel_rfl) (fun _ _ _ h => h) (Or.inl ⟨by rfl, ?_⟩) (by assumption) ?_
                · intro w0 hSw; (try dsimp only at hSw); first | (go_simp; done) | (go_simp; with_reducible rfl) | (go_simp; omega)
                simp only [List.setIfInBounds_toArray, List.set_cons_zero, List.set_cons_succ]
                refine take_at (i := 9) (v := ?_) rfl rfl (by kernel_rfl) (by kernel_rfl) (by kernel_rfl) (fun _ _ _ h => h) (Or.inl ⟨by rfl, ?_⟩) (by assumption) ?_
                rotate_left
                · intro w0 hSw; (try dsimp only at hSw); first | (go_simp; done) | (go_simp; with_reducible rfl)
                simp only [List.setIfInBounds_toArray, List.set_cons_zero, List.set_cons_succ]
                refine take_at (i := 10) (v := ?_) rfl rfl (by kernel_rfl) (by kernel_rfl) (by kernel_rfl) (fun _ _ _ h => h) (Or.inl ⟨by rfl, ?_⟩) (by assumption) ?_
                rotate_left
                · intro w0 hSw; (try dsimp only at hSw); first | (go_simp; done) | (go_simp; with_reducible rfl)
                simp only [List.setIfInBounds_toArray, List.set_cons_zero, List.set_cons_succ]
                refine wpAnyH_ready (rs := [11]) (by kernel_rfl) (by simp) ?_
                refine AllReadyH.cons rfl (fun K hK => ?_) ?_
                · go_simp
                  go_wp2_with ((go_at_call 10; (with_reducible refine (HAW.out _).mono ?_); rintro e y11 ⟨rfl, hb⟩; have HBy11 := Lib.hid hb; clear hb))
                  refine hK.out _ _ (by (try dsimp only); exact Below.trans hHeld (HBy11.out.mono (Below.size hHeld))) (fun hHeld => ?_)
                  clear hK K
                  refine take_at (i := 12) (v := ?_) rfl rfl (by kernel_rfl) (by kernel_rfl) (by kernel_rfl) (fun _ _ _ h => h) (Or.inl ⟨by rfl, ?_⟩) (by assumption) ?_
                  rotate_left
                  · intro w0 hSw; (try dsimp only at hSw); first | (go_simp; done) | (go_simp; with_reducible rfl)
                  simp only [List.setIfInBounds_toArray, List.set_cons_zero, List.set_cons_succ]
                  refine take_at (i := 13) (v := ?_) rfl rfl (by kernel_rfl) (by kernel_rfl) (by kernel_rfl) (fun _ _ _ h => h) (Or.inl ⟨by rfl, ?_⟩) (by assumption) ?_
                  rotate_left
                  · intro w0 hSw; (try dsimp only at hSw); first | (go_simp; done) | (go_simp; with_reducible rfl)
                  simp only [List.setIfInBounds_toArray, List.set_cons_zero, List.set_cons_succ]
                  refine wpAnyH_done (by kernel_rfl) ?_ _
                  have HST := Lib.hid (show Below (w8).heap.size w8 y11 from hHeld)
                  clear hHeld
                  go_wp2_with fail
                  go_ret
                  exact ⟨rfl, bthen HB1.out (bthen HBH.out HST.out)⟩
                exact AllReadyH.nil
              exact AllReadyH.nil
            exact AllReadyH.nil
          exact AllReadyH.nil
        · have hb : (E2 != 0) = true := by simpa using h0
          obtain ⟨rfl, hne⟩ := HN2.out h0
          have HNE := Lib.hid hne
          clear h0 hne HN2 HY2
          have qz := fun W : World => run_eqRecs noRec noRec noRec_in noRec_in W
          rw [recEq_same] at qz
          go_upto_region 10 with (fail)
          cases R
          · refine wp_region_held_drew (S := fun w' => Below (w8).heap.size w8 w') (by kernel_rfl) (below_drew (Below.refl _ _)) (fun hHeld => ?_)
            refine take_at (i := 0) rfl rfl (by kernel_rfl) (by kernel_rfl) (by kernel_rfl) (fun _ _ _ h => h) (yieldsIf_load_mid (by rfl) _ _ rfl g7 0 rfl noRec.cells _ (fun w0 hSw => R7.out _ (bthen HBH.out hSw) hSw) Try.underlying25 rfl SN.out) (by assumption) ?_
            simp only [List.setIfInBounds_toArray, List.set_cons_zero, List.set_cons_succ]
            refine take_at (i := 1) rfl rfl (by kernel_rfl) (by kernel_rfl) (by kernel_rfl) (fun _ _ _ h => h) (yields_build10 (by rfl) rfl (vs := []) (by rfl) build_rec0) (by assumption) ?_
            simp only [List.setIfInBounds_toArray, List.set_cons_zero, List.set_cons_succ]
            refine take_at (i := 2) (v := .bool true) rfl rfl (by kernel_rfl) (by kernel_rfl) (by kernel_rfl) (fun _ _ _ h => h) (Or.inl ⟨by rfl, ?_⟩) (by assumption) ?_
            · intro w0 hSw; (try dsimp only at hSw); first | (go_simp; done) | (go_simp; with_reducible rfl) | (go_simp; omega)
            simp only [List.setIfInBounds_toArray, List.set_cons_zero, List.set_cons_succ]
            refine take_at (i := 3) (v := ?_) rfl rfl (by kernel_rfl) (by kernel_rfl) (by kernel_rfl) (fun _ _ _ h => h) (Or.inl ⟨by rfl, ?_⟩) (by assumption) ?_
            rotate_left
            · intro w0 hSw; (try dsimp only at hSw); first | (go_simp; done) | (go_simp; with_reducible rfl)
            simp only [List.setIfInBounds_toArray, List.set_cons_zero, List.set_cons_succ]
            refine take_at (i := 4) rfl rfl (by kernel_rfl) (by kernel_rfl) (by kernel_rfl) (fun _ _ _ h => h) (yieldsIf_load_mid (by rfl) _ _ rfl g 0 rfl x.cells _ (fun w0 hSw => RX.out _ (bthen HBH.out hSw)) Try.underlying25 rfl SX.out) (by assumption) ?_
            simp only [List.setIfInBounds_toArray, List.set_cons_zero, List.set_cons_succ]
            refine wpAnyH_ready (rs := [5]) (by kernel_rfl) (by simp) ?_
            refine AllReadyH.cons rfl (fun K hK => ?_) ?_
            · go_simp
              go_wp2_with ((go_at_call 9; (with_reducible refine (HRL.out _).mono ?_); rintro e y5 ⟨rfl, hb⟩; have HBy5 := Lib.hid hb; clear hb))
              refine hK.out _ _ (by (try dsimp only); exact Below.trans hHeld (HBy5.out.mono (Below.size hHeld))) (fun hHeld => ?_)
              clear hK K
              refine take_at (i := 6) (v := ?_) rfl rfl (by kernel_rfl) (by kernel_rfl) (by kernel_rfl) (fun _ _ _ h => h) (Or.inl ⟨by rfl, ?_⟩) (by assumption) ?_
              rotate_left
              · intro w0 hSw; (try dsimp only at hSw); first | (go_simp; done) | (go_simp; with_reducible rfl)
              simp only [List.setIfInBounds_toArray, List.set_cons_zero, List.set_cons_succ]
              refine take_at (i := 7) (v := ?_) rfl rfl (by kernel_rfl) (by kernel_rfl) (by kernel_rfl) (fun _ _ _ h => h) (Or.inl ⟨by rfl, ?_⟩) (by assumption) ?_
              rotate_left
              · intro w0 hSw; (try dsimp only at hSw); first | (go_simp; done) | (go_simp; with_reducible rfl)
              simp only [List.setIfInBounds_toArray, List.set_cons_zero, List.set_cons_succ]
              refine take_at (i := 8) (v := undef) rfl rfl (by kernel_rfl) (by kernel_rfl) (by kernel_rfl) (fun _ _ _ h => h) (Or.inr ⟨by rfl, rfl⟩) (by assumption) ?_
              simp only [List.setIfInBounds_toArray, List.set_cons_zero, List.set_cons_succ]
              refine take_at (i := 9) (v := undef) rfl rfl (by kernel_rfl) (by kernel_rfl) (by kernel_rfl) (fun _ _ _ h => h) (Or.inr ⟨by rfl, rfl⟩) (by assumption) ?_
              simp only [List.setIfInBounds_toArray, List.set_cons_zero, List.set_cons_succ]
              refine take_at (i := 10) (v := undef) rfl rfl (by kernel_rfl) (by kernel_rfl) (by kernel_rfl) (fun _ _ _ h => h) (Or.inr ⟨by rfl, rfl⟩) (by assumption) ?_
              simp only [List.setIfInBounds_toArray, List.set_cons_zero, List.set_cons_succ]
              refine take_at (i := 11) (v := undef) rfl rfl (by kernel_rfl) (by kernel_rfl) (by kernel_rfl) (fun _ _ _ h => h) (Or.inr ⟨by rfl, rfl⟩) (by assumption) ?_
              simp only [List.setIfInBounds_toArray, List.set_cons_zero, List.set_cons_succ]
              refine take_at (i := 12) (v := undef) rfl rfl (by kernel_rfl) (by kernel_rfl) (by kernel_rfl) (fun _ _ _ h => h) (Or.inr ⟨by rfl, rfl⟩) (by assumption) ?_
              simp only [List.setIfInBounds_toArray, List.set_cons_zero, List.set_cons_succ]
              refine take_at (i := 13) (v := undef) rfl rfl (by kernel_rfl) (by kernel_rfl) (by kernel_rfl) (fun _ _ _ h => h) (Or.inr ⟨by rfl, rfl⟩) (by assumption) ?_
              simp only [List.setIfInBounds_toArray, List.set_cons_zero, List.set_cons_succ]
              refine take_at (i := 14) (v := ?_) rfl rfl (by kernel_rfl) (by kernel_rfl) (by kernel_rfl) (fun _ _ _ h => h) (Or.inl ⟨by rfl, ?_⟩) (by assumption) ?_
              rotate_left
              · intro w0 hSw; (try dsimp only at hSw); first | (go_simp; done) | (go_simp; with_reducible rfl)
              simp only [List.setIfInBounds_toArray, List.set_cons_zero, List.set_cons_succ]
              refine take_at (i := 15) (v := ?_) rfl rfl (by kernel_rfl) (by kernel_rfl) (by kernel_rfl) (fun _ _ _ h => h) (Or.inl ⟨by rfl, ?_⟩) (by assumption) ?_
              rotate_left
              · intro w0 hSw; (try dsimp only at hSw); first | (go_simp; done) | (go_simp; with_reducible rfl)
              simp only [List.setIfInBounds_toArray, List.set_cons_zero, List.set_cons_succ]
              refine take_at (i := 16) (v := ?_) rfl rfl (by kernel_rfl) (by kernel_rfl) (by kernel_rfl) (fun _ _ _ h => h) (Or.inl ⟨by rfl, ?_⟩) (by assumption) ?_
              rotate_left
              · intro w0 hSw; (try dsimp only at hSw); first | (go_simp; done) | (go_simp; with_reducible rfl)
              simp only [List.setIfInBounds_toArray, List.set_cons_zero, List.set_cons_succ]
              refine wpAnyH_ready (rs := [17]) (by kernel_rfl) (by simp) ?_
              refine AllReadyH.cons rfl (fun K hK => ?_) ?_
              · go_simp
                go_wp2_with ((go_at_call 10; (with_reducible refine (HAW.out _).mono ?_); rintro e y17 ⟨rfl, hb⟩; have HBy17 := Lib.hid hb; clear hb))
                refine hK.out _ _ (by (try dsimp only); exact Below.trans hHeld (HBy17.out.mono (Below.size hHeld))) (fun hHeld => ?_)
                clear hK K
                refine take_at (i := 18) (v := ?_) rfl rfl (by kernel_rfl) (by kernel_rfl) (by kernel_rfl) (fun _ _ _ h => h) (Or.inl ⟨by rfl, ?_⟩) (by assumption) ?_
                rotate_left
                · intro w0 hSw; (try dsimp only at hSw); first | (go_simp; done) | (go_simp; with_reducible rfl)
                simp only [List.setIfInBounds_toArray, List.set_cons_zero, List.set_cons_succ]
                refine take_at (i := 19) (v := ?_) rfl rfl (by kernel_rfl) (by kernel_rfl) (by kernel_rfl) (fun _ _ _ h => h) (Or.inl ⟨by rfl, ?_⟩) (by assumption) ?_
                rotate_left
                · intro w0 hSw; (try dsimp only at hSw); first | (go_simp; done) | (go_simp; with_reducible rfl)
                simp only [List.setIfInBounds_toArray, List.set_cons_zero, List.set_cons_succ]
                refine wpAnyH_done (by kernel_rfl) ?_ _
                have HST := Lib.hid (show Below (w8).heap.size w8 y17 from hHeld)
                clear hHeld
                go_wp2_with fail
                go_ret
                exact ⟨rfl, bthen HB1.out (bthen HBH.out HST.out)⟩
              exact AllReadyH.nil
            exact AllReadyH.nil
          · have hst := strings_ne (HNE.out rfl) HSB.out HSX.out
            refine wp_region_held_drew (S := fun w' => Below (w8).heap.size w8 w') (by kernel_rfl) (below_drew (Below.refl _ _)) (fun hHeld => ?_)
            refine take_at (i := 0) rfl rfl (by kernel_rfl) (by kernel_rfl) (by kernel_rfl) (fun _ _ _ h => h) (yieldsIf_load_mid (by rfl) _ _ rfl g7 0 rfl noRec.cells _ (fun w0 hSw => R7.out _ (bthen HBH.out hSw) hSw) Try.underlying25 rfl SN.out) (by assumption) ?_
            simp only [List.setIfInBounds_toArray, List.set_cons_zero, List.set_cons_succ]
            refine take_at (i := 1) rfl rfl (by kernel_rfl) (by kernel_rfl) (by kernel_rfl) (fun _ _ _ h => h) (yields_build10 (by rfl) rfl (vs := []) (by rfl) build_rec0) (by assumption) ?_
            simp only [List.setIfInBounds_toArray, List.set_cons_zero, List.set_cons_succ]
            refine take_at (i := 2) (v := .bool true) rfl rfl (by kernel_rfl) (by kernel_rfl) (by kernel_rfl) (fun _ _ _ h => h) (Or.inl ⟨by rfl, ?_⟩) (by assumption) ?_
            · intro w0 hSw; (try dsimp only at hSw); first | (go_simp; done) | (go_simp; with_reducible rfl) | (go_simp; omega)
            simp only [List.setIfInBounds_toArray, List.set_cons_zero, List.set_cons_succ]
            refine take_at (i := 3) (v := ?_) rfl rfl (by kernel_rfl) (by kernel_rfl) (by kernel_rfl) (fun _ _ _ h => h) (Or.inl ⟨by rfl, ?_⟩) (by assumption) ?_
            rotate_left
            · intro w0 hSw; (try dsimp only at hSw); first | (go_simp; done) | (go_simp; with_reducible rfl)
            simp only [List.setIfInBounds_toArray, List.set_cons_zero, List.set_cons_succ]
            refine take_at (i := 4) rfl rfl (by kernel_rfl) (by kernel_rfl) (by kernel_rfl) (fun _ _ _ h => h) (yieldsIf_load_mid (by rfl) _ _ rfl g 0 rfl x.cells _ (fun w0 hSw => RX.out _ (bthen HBH.out hSw)) Try.underlying25 rfl SX.out) (by assumption) ?_
            simp only [List.setIfInBounds_toArray, List.set_cons_zero, List.set_cons_succ]
            refine wpAnyH_ready (rs := [5]) (by kernel_rfl) (by simp) ?_
            refine AllReadyH.cons rfl (fun K hK => ?_) ?_
            · go_simp
              go_wp2_with ((go_at_call 9; (with_reducible refine (HRL.out _).mono ?_); rintro e y5 ⟨rfl, hb⟩; have HBy5 := Lib.hid hb; clear hb))
              refine hK.out _ _ (by (try dsimp only); exact Below.trans hHeld (HBy5.out.mono (Below.size hHeld))) (fun hHeld => ?_)
              clear hK K
              refine take_at (i := 6) (v := ?_) rfl rfl (by kernel_rfl) (by kernel_rfl) (by kernel_rfl) (fun _ _ _ h => h) (Or.inl ⟨by rfl, ?_⟩) (by assumption) ?_
              rotate_left
              · intro w0 hSw; (try dsimp only at hSw); first | (go_simp; done) | (go_simp; with_reducible rfl)
              simp only [List.setIfInBounds_toArray, List.set_cons_zero, List.set_cons_succ]
              refine take_at (i := 7) (v := ?_) rfl rfl (by kernel_rfl) (by kernel_rfl) (by kernel_rfl) (fun _ _ _ h => h) (Or.inl ⟨by rfl, ?_⟩) (by assumption) ?_
              rotate_left
              · intro w0 hSw; (try dsimp only at hSw); first | (go_simp; done) | (go_simp; with_reducible rfl)
              simp only [List.setIfInBounds_toArray, List.set_cons_zero, List.set_cons_succ]
              refine take_at (i := 8) (v := ?_) rfl rfl (by kernel_rfl) (by kernel_rfl) (by kernel_rfl) (fun _ _ _ h => h) (Or.inl ⟨by rfl, ?_⟩) (by assumption) ?_
              rotate_left
              · intro w0 hSw; (try dsimp only at hSw); first | (go_simp; done) | (go_simp; with_reducible rfl)
              simp only [List.setIfInBounds_toArray, List.set_cons_zero, List.set_cons_succ]
              refine take_at (i := 9) rfl rfl (by kernel_rfl) (by kernel_rfl) (by kernel_rfl) (fun _ _ _ h => h) (yields_conv (by rfl) rfl (by rfl) HSB.out (fun w0 hSw => HQ7.out.below hSw)) (by assumption) ?_
              simp only [List.setIfInBounds_toArray, List.set_cons_zero, List.set_cons_succ]
              refine take_at (i := 10) rfl rfl (by kernel_rfl) (by kernel_rfl) (by kernel_rfl) (fun _ _ _ h => h) (yieldsIf_load_mid (by rfl) _ _ rfl g 0 rfl x.cells _ (fun w0 hSw => RX.out _ (bthen HBH.out hSw)) Try.underlying25 rfl SX.out) (by assumption) ?_
              simp only [List.setIfInBounds_toArray, List.set_cons_zero, List.set_cons_succ]
              refine wpAnyH_ready (rs := [11]) (by kernel_rfl) (by simp) ?_
              refine AllReadyH.cons rfl (fun K hK => ?_) ?_
              · go_simp
                go_wp2_with ((go_at_call 6; (with_reducible refine (HTL.out _).mono ?_); rintro e y11 ⟨a_y11, n_y11, c_y11, rfl, hr, _, hb⟩; have HRy11 := Lib.hid hr; have HBy11 := Lib.hid hb; clear hr hb))
                refine hK.out _ _ (by (try dsimp only); exact Below.trans hHeld (HBy11.out.mono (Below.size hHeld))) (fun hHeld => ?_)
                clear hK K
                refine wpAnyH_ready (rs := [12]) (by kernel_rfl) (by simp) ?_
                refine AllReadyH.cons rfl (fun K hK => ?_) ?_
                · refine step_conv (d := 64) rfl (by rfl) rfl (by rfl) HSX.out HRy11.out ?_
                  refine hK.out _ _ (by (try dsimp only); exact hHeld) (fun hHeld => ?_)
                  clear hK K
                  refine take_at (i := 13) (v := .bool true) rfl rfl (by kernel_rfl) (by kernel_rfl) (by kernel_rfl) (fun _ _ _ h => h) (Or.inl ⟨by rfl, ?_⟩) (by assumption) ?_
                  · intro w0 hSw; (try dsimp only at hSw); first | (go_simp; done) | (go_simp; with_reducible rfl) | (go_simp; omega)
                  simp only [List.setIfInBounds_toArray, List.set_cons_zero, List.set_cons_succ]
                  refine take_at (i := 14) (v := ?_) rfl rfl (by kernel_rfl) (by kernel_rfl) (by kernel_rfl) (fun _ _ _ h => h) (Or.inl ⟨by rfl, ?_⟩) (by assumption) ?_
                  rotate_left
                  · intro w0 hSw; (try dsimp only at hSw); first | (go_simp; done) | (go_simp; with_reducible rfl)
                  simp only [List.setIfInBounds_toArray, List.set_cons_zero, List.set_cons_succ]
                  refine take_at (i := 15) (v := ?_) rfl rfl (by kernel_rfl) (by kernel_rfl) (by kernel_rfl) (fun _ _ _ h => h) (Or.inl ⟨by rfl, ?_⟩) (by assumption) ?_
                  rotate_left
                  · intro w0 hSw; (try dsimp only at hSw); first | (go_simp; done) | (go_simp; with_reducible rfl)
                  simp only [List.setIfInBounds_toArray, List.set_cons_zero, List.set_cons_succ]
                  refine take_at (i := 16) (v := ?_) rfl rfl (by kernel_rfl) (by kernel_rfl) (by kernel_rfl) (fun _ _ _ h => h) (Or.inl ⟨by rfl, ?_⟩) (by assumption) ?_
                  rotate_left
                  · intro w0 hSw; (try dsimp only at hSw); first | (go_simp; done) | (go_simp; with_reducible rfl)
                  simp only [List.setIfInBounds_toArray, List.set_cons_zero, List.set_cons_succ]
                  refine wpAnyH_ready (rs := [17]) (by kernel_rfl) (by simp) ?_
                  refine AllReadyH.cons rfl (fun K hK => ?_) ?_
                  · go_simp
                    go_wp2_with ((go_at_call 10; (with_reducible refine (HAW.out _).mono ?_); rintro e y17 ⟨rfl, hb⟩; have HBy17 := Lib.hid hb; clear hb))
                    refine hK.out _ _ (by (try dsimp only); exact Below.trans hHeld (HBy17.out.mono (Below.size hHeld))) (fun hHeld => ?_)
                    clear hK K
                    refine take_at (i := 18) (v := ?_) rfl rfl (by kernel_rfl) (by kernel_rfl) (by kernel_rfl) (fun _ _ _ h => h) (Or.inl ⟨by rfl, ?_⟩) (by assumption) ?_
                    rotate_left
                    · intro w0 hSw; (try dsimp only at hSw); first | (go_simp; done) | (go_simp; with_reducible rfl)
                    simp only [List.setIfInBounds_toArray, List.set_cons_zero, List.set_cons_succ]
                    refine take_at (i := 19) (v := ?_) rfl rfl (by kernel_rfl) (by kernel_rfl) (by kernel_rfl) (fun _ _ _ h => h) (Or.inl ⟨by rfl, ?_⟩) (by assumption) ?_
                    rotate_left
                    · intro w0 hSw; (try dsimp only at hSw); first | (go_simp; done) | (go_simp; with_reducible rfl)
                    simp only [List.setIfInBounds_toArray, List.set_cons_zero, List.set_cons_succ]
                    refine wpAnyH_done (by kernel_rfl) ?_ _
                    have HST := Lib.hid (show Below (w8).heap.size w8 y17 from hHeld)
                    clear hHeld
                    go_wp2_with fail
                    go_ret
                    exact ⟨rfl, bthen HB1.out (bthen HBH.out HST.out)⟩
                  exact AllReadyH.nil
                exact AllReadyH.nil
              exact AllReadyH.nil
            exact AllReadyH.nil
end Go.Proofs.Ytfccmiohnjhkoaa
