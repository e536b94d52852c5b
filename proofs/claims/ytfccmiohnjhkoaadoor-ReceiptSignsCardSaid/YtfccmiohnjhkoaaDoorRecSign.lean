/- What Sign, Verify and Good come to, of a signature that a key made. -/
import Derived.Test.YtfccmiohnjhkoaaDoorVerifyText
import Derived.Test.YtfccmiohnjhkoaaDoorMany
import Derived.Test.YtfccmiohnjhkoaaDoorRecRight
import Derived.Test.YtfccmiohnjhkoaaDoorRecPut
import Derived.Test.YtfccmiohnjhkoaaDoorWanted
namespace Go.Proofs.YtfccmiohnjhkoaaDoor
open Go.RowKit

theorem sumLenS {s : List UInt8} (h : s.length = 32) : (Tryd.prog.info? 23).map (·.size) = some (cellsOf s).length := by rw [cellsOf_len, h]; exact Tryd.size23
set_option linter.unusedSimpArgs false in
set_option maxRecDepth 100000 in
set_option maxHeartbeats 6400000 in
theorem verify12_any {w : World} {x : PRec} {r s l : List UInt8} {b : Option Addr} {m c i n : Nat} (hx : RecIn x) (hr : r.length = 32) (hi : i < n) (hn : n ≤ 64) (hs : Row w b m c (sig5 s n i l)) (hk : KsAt w) :
    Calls Tryd.prog 11 #[.agg (cellsOf r).toArray, .agg x.cells.toArray, .slice b m c] w fun e w' => e = .returned (.bool (recOk x && verdict r (textB x) s n i l)) ∧ Below w.heap.size w w' := by
  obtain ⟨R, hR⟩ : ∃ R, recOk x = R := ⟨_, rfl⟩
  obtain ⟨D, hD⟩ : ∃ D, verdict r (textB x) s n i l = D := ⟨_, rfl⟩
  obtain ⟨SB, hSB⟩ : ∃ r, sig5 s n i l = r := ⟨_, rfl⟩
  obtain ⟨TX, hTX⟩ : ∃ r, textB x = r := ⟨_, rfl⟩
  have htl := textB_len hx
  have HRC : Hid (∀ W : World, Calls Tryd.prog 16 #[.agg x.cells.toArray] W fun e w' => e = .returned (.bool R) ∧ Below W.heap.size W w') := Lib.hid fun W => by rw [← hR]; exact recright_any W x
  have HTC : Hid (∀ W : World, Calls Tryd.prog 20 #[.agg x.cells.toArray] W (TextOut W TX)) := Lib.hid fun W => by rw [← hTX]; exact text_any hx
  have HVT : Hid (∀ (W : World) (a : Option Addr) (k d : Nat), Row W a k d TX → Row W b m c SB → KsAt W → Calls Tryd.prog 12 #[.agg (cellsOf r).toArray, .slice a k d, .slice b m c] W fun e w' => e = .returned (.bool D) ∧ Below W.heap.size W w') := Lib.hid fun W a k d h1 h2 h3 => by
    rw [← hSB] at h2
    rw [← hD]
    rw [← hTX] at h1
    exact verify5_text hi hn hr h1 (by have h9 := h1.1; omega) h2 h3
  rw [hR, hD]
  rw [hSB] at hs
  have SX := Lib.hid (rec_size hx)
  have SZR := Lib.hid (sumLenS hr)
  have HS := Lib.hid hs
  have HK := Lib.hid hk
  clear hx hr hi hn hs hk hR hD hSB hTX htl
  go_enter Tryd.func11, Tryd.ntmps11
  go_upto_region 1 with (fail)
  have b1 : Below w.heap.size w ((w.alloc (.cells (cellsOf r).toArray 23)).alloc (.cells x.cells.toArray 26)) := ((Below.refl _ _).alloc (Nat.le_refl _) _).alloc (by simp) _
  have h1 : ((w.alloc (.cells (cellsOf r).toArray 23)).alloc (.cells x.cells.toArray 26)).heap[w.heap.size]? = some (.cells (cellsOf r).toArray 23 (0, 0)) := by
    rw [heap_alloc_old _ _ (by simp), heap_alloc_new]
  have h2 : ((w.alloc (.cells (cellsOf r).toArray 23)).alloc (.cells x.cells.toArray 26)).heap[w.heap.size + 1]? = some (.cells x.cells.toArray 26 (0, 0)) := heap_alloc_at _ _ _ (by simp)
  revert b1 h1 h2
  generalize ((w.alloc (.cells (cellsOf r).toArray 23)).alloc (.cells x.cells.toArray 26)) = w1
  obtain ⟨g, hg⟩ : ∃ g, g = w.heap.size := ⟨_, rfl⟩
  rw [← hg]
  intro b1 h1 h2
  rw [hg] at b1
  have HB1 := Lib.hid b1
  have RR : Hid (∀ W : World, Below w1.heap.size w1 W → W.rangeAt g 0 (cellsOf r)) := Lib.hid fun W hW => range_of (keep hW h1)
  have RX : Hid (∀ W : World, Below w1.heap.size w1 W → W.rangeAt (g + 1) 0 x.cells) := Lib.hid fun W hW => range_of (keep hW h2)
  have HS1 := Lib.hid (HS.out.below b1)
  have HK1 := Lib.hid (HK.out.below b1)
  clear b1 h1 h2 hg HS HK
  cases R
  · refine wp_region_held_drew (S := fun w' => Below w1.heap.size w1 w') (by kernel_rfl) (below_drew (Below.refl _ _)) (fun hHeld => ?_)
    refine take_at (i := 0) rfl rfl (by kernel_rfl) (by kernel_rfl) (by kernel_rfl) (fun _ _ _ h => h) (yieldsIf_load_mid (by rfl) _ _ rfl (g + 1) 0 rfl x.cells _ (fun w0 hSw => RX.out _ hSw) Tryd.underlying26 rfl SX.out) (by assumption) ?_
    simp only [List.setIfInBounds_toArray, List.set_cons_zero, List.set_cons_succ]
    refine wpAnyH_ready (rs := [1]) (by kernel_rfl) (by simp) ?_
    refine AllReadyH.cons rfl (fun K hK => ?_) ?_
    · go_simp
      go_wp2_with ((go_at_call 16; (with_reducible refine (HRC.out _).mono ?_); rintro e y1 ⟨rfl, hb⟩; have HBy1 := Lib.hid hb; clear hb))
      refine hK.out _ _ (by (try dsimp only); exact Below.trans hHeld (HBy1.out.mono (Below.size hHeld))) (fun hHeld => ?_)
      clear hK K
      refine take_at (i := 2) (v := ?_) rfl rfl (by kernel_rfl) (by kernel_rfl) (by kernel_rfl) (fun _ _ _ h => h) (Or.inl ⟨by rfl, ?_⟩) (by assumption) ?_
      rotate_left
      · intro w0 hSw; (try dsimp only at hSw); first | (go_simp; done) | (go_simp; with_reducible rfl)
      simp only [List.setIfInBounds_toArray, List.set_cons_zero, List.set_cons_succ]
      refine take_at (i := 3) (v := undef) rfl rfl (by kernel_rfl) (by kernel_rfl) (by kernel_rfl) (fun _ _ _ h => h) (Or.inr ⟨by rfl, rfl⟩) (by assumption) ?_
      simp only [List.setIfInBounds_toArray, List.set_cons_zero, List.set_cons_succ]
      refine take_at (i := 4) (v := undef) rfl rfl (by kernel_rfl) (by kernel_rfl) (by kernel_rfl) (fun _ _ _ h => h) (Or.inr ⟨by rfl, rfl⟩) (by assumption) ?_
      simp only [List.setIfInBounds_toArray, List.set_cons_zero, List.set_cons_succ]
      refine take_at (i := 5) (v := undef) rfl rfl (by kernel_rfl) (by kernel_rfl) (by kernel_rfl) (fun _ _ _ h => h) (Or.inr ⟨by rfl, rfl⟩) (by assumption) ?_
      simp only [List.setIfInBounds_toArray, List.set_cons_zero, List.set_cons_succ]
      refine take_at (i := 6) (v := undef) rfl rfl (by kernel_rfl) (by kernel_rfl) (by kernel_rfl) (fun _ _ _ h => h) (Or.inr ⟨by rfl, rfl⟩) (by assumption) ?_
      simp only [List.setIfInBounds_toArray, List.set_cons_zero, List.set_cons_succ]
      refine take_at (i := 7) (v := undef) rfl rfl (by kernel_rfl) (by kernel_rfl) (by kernel_rfl) (fun _ _ _ h => h) (Or.inr ⟨by rfl, rfl⟩) (by assumption) ?_
      simp only [List.setIfInBounds_toArray, List.set_cons_zero, List.set_cons_succ]
      refine take_at (i := 8) (v := ?_) rfl rfl (by kernel_rfl) (by kernel_rfl) (by kernel_rfl) (fun _ _ _ h => h) (Or.inl ⟨by rfl, ?_⟩) (by assumption) ?_
      rotate_left
      · intro w0 hSw; (try dsimp only at hSw); first | (go_simp; done) | (go_simp; with_reducible rfl)
      simp only [List.setIfInBounds_toArray, List.set_cons_zero, List.set_cons_succ]
      refine take_at (i := 9) (v := ?_) rfl rfl (by kernel_rfl) (by kernel_rfl) (by kernel_rfl) (fun _ _ _ h => h) (Or.inl ⟨by rfl, ?_⟩) (by assumption) ?_
      rotate_left
      · intro w0 hSw; (try dsimp only at hSw); first | (go_simp; done) | (go_simp; with_reducible rfl)
      simp only [List.setIfInBounds_toArray, List.set_cons_zero, List.set_cons_succ]
      refine wpAnyH_done (by kernel_rfl) ?_ _
      have HST := Lib.hid (show Below w1.heap.size w1 y1 from hHeld)
      clear hHeld
      go_wp2_with fail
      go_ret
      exact ⟨rfl, bthen HB1.out HST.out⟩
    exact AllReadyH.nil
  · refine wp_region_held_drew (S := fun w' => Below w1.heap.size w1 w') (by kernel_rfl) (below_drew (Below.refl _ _)) (fun hHeld => ?_)
    refine take_at (i := 0) rfl rfl (by kernel_rfl) (by kernel_rfl) (by kernel_rfl) (fun _ _ _ h => h) (yieldsIf_load_mid (by rfl) _ _ rfl (g + 1) 0 rfl x.cells _ (fun w0 hSw => RX.out _ hSw) Tryd.underlying26 rfl SX.out) (by assumption) ?_
    simp only [List.setIfInBounds_toArray, List.set_cons_zero, List.set_cons_succ]
    refine wpAnyH_ready (rs := [1]) (by kernel_rfl) (by simp) ?_
    refine AllReadyH.cons rfl (fun K hK => ?_) ?_
    · go_simp
      go_wp2_with ((go_at_call 16; (with_reducible refine (HRC.out _).mono ?_); rintro e y1 ⟨rfl, hb⟩; have HBy1 := Lib.hid hb; clear hb))
      refine hK.out _ _ (by (try dsimp only); exact Below.trans hHeld (HBy1.out.mono (Below.size hHeld))) (fun hHeld => ?_)
      clear hK K
      refine take_at (i := 2) (v := ?_) rfl rfl (by kernel_rfl) (by kernel_rfl) (by kernel_rfl) (fun _ _ _ h => h) (Or.inl ⟨by rfl, ?_⟩) (by assumption) ?_
      rotate_left
      · intro w0 hSw; (try dsimp only at hSw); first | (go_simp; done) | (go_simp; with_reducible rfl)
      simp only [List.setIfInBounds_toArray, List.set_cons_zero, List.set_cons_succ]
      refine take_at (i := 3) rfl rfl (by kernel_rfl) (by kernel_rfl) (by kernel_rfl) (fun _ _ _ h => h) (yieldsIf_load_mid (by rfl) _ _ rfl g 0 rfl (cellsOf r) _ (fun w0 hSw => RR.out _ hSw) Tryd.underlying23 rfl SZR.out) (by assumption) ?_
      simp only [List.setIfInBounds_toArray, List.set_cons_zero, List.set_cons_succ]
      refine take_at (i := 4) rfl rfl (by kernel_rfl) (by kernel_rfl) (by kernel_rfl) (fun _ _ _ h => h) (yieldsIf_load_mid (by rfl) _ _ rfl (g + 1) 0 rfl x.cells _ (fun w0 hSw => RX.out _ hSw) Tryd.underlying26 rfl SX.out) (by assumption) ?_
      simp only [List.setIfInBounds_toArray, List.set_cons_zero, List.set_cons_succ]
      refine take_at (i := 6) (v := ?_) rfl rfl (by kernel_rfl) (by kernel_rfl) (by kernel_rfl) (fun _ _ _ h => h) (Or.inl ⟨by rfl, ?_⟩) (by assumption) ?_
      rotate_left
      · intro w0 hSw; (try dsimp only at hSw); first | (go_simp; done) | (go_simp; with_reducible rfl)
      simp only [List.setIfInBounds_toArray, List.set_cons_zero, List.set_cons_succ]
      refine wpAnyH_ready (rs := [5]) (by kernel_rfl) (by simp) ?_
      refine AllReadyH.cons rfl (fun K hK => ?_) ?_
      · go_simp
        go_wp2_with ((go_at_call 20; (with_reducible refine (HTC.out _).mono ?_); rintro e y5 ⟨a_y5, n_y5, c_y5, rfl, hr, _, hb⟩; have HRy5 := Lib.hid hr; have HBy5 := Lib.hid hb; clear hr hb))
        refine hK.out _ _ (by (try dsimp only); exact Below.trans hHeld (HBy5.out.mono (Below.size hHeld))) (fun hHeld => ?_)
        clear hK K
        refine wpAnyH_ready (rs := [7]) (by kernel_rfl) (by simp) ?_
        refine AllReadyH.cons rfl (fun K hK => ?_) ?_
        · have HH7 := Lib.hid hHeld
          go_simp
          go_wp2_with ((go_at_call 12; (with_reducible refine (HVT.out _ _ _ _ HRy5.out (HS1.out.below HH7.out) (HK1.out.below HH7.out)).mono ?_); rintro e y7 ⟨rfl, hb⟩; have HBy7 := Lib.hid hb; clear hb))
          refine hK.out _ _ (by (try dsimp only); exact Below.trans hHeld (HBy7.out.mono (Below.size hHeld))) (fun hHeld => ?_)
          clear hK K
          refine take_at (i := 8) (v := ?_) rfl rfl (by kernel_rfl) (by kernel_rfl) (by kernel_rfl) (fun _ _ _ h => h) (Or.inl ⟨by rfl, ?_⟩) (by assumption) ?_
          rotate_left
          · intro w0 hSw; (try dsimp only at hSw); first | (go_simp; done) | (go_simp; with_reducible rfl)
          simp only [List.setIfInBounds_toArray, List.set_cons_zero, List.set_cons_succ]
          refine take_at (i := 9) (v := ?_) rfl rfl (by kernel_rfl) (by kernel_rfl) (by kernel_rfl) (fun _ _ _ h => h) (Or.inl ⟨by rfl, ?_⟩) (by assumption) ?_
          rotate_left
          · intro w0 hSw; (try dsimp only at hSw); first | (go_simp; done) | (go_simp; with_reducible rfl)
          simp only [List.setIfInBounds_toArray, List.set_cons_zero, List.set_cons_succ]
          refine wpAnyH_done (by kernel_rfl) ?_ _
          have HST := Lib.hid (show Below w1.heap.size w1 y7 from hHeld)
          clear hHeld
          go_wp2_with fail
          go_ret
          exact ⟨rfl, bthen HB1.out HST.out⟩
        exact AllReadyH.nil
      exact AllReadyH.nil
    exact AllReadyH.nil
set_option linter.unusedSimpArgs false in
set_option maxRecDepth 100000 in
set_option maxHeartbeats 6400000 in
theorem good12_any {w : World} {x : PRec} {r s l : List UInt8} {b : Option Addr} {m c i n : Nat} (hx : RecIn x) (hr : r.length = 32) (hi : i < n) (hn : n ≤ 64) (hs : Row w b m c (sig5 s n i l)) (hk : KsAt w) :
    Calls Tryd.prog 9 #[.agg (sigCells x b m c).toArray, .agg (cellsOf r).toArray] w fun e w' => e = .returned (.bool (recOk x && verdict r (textB x) s n i l)) ∧ Below w.heap.size w w' := by
  obtain ⟨D, hD⟩ : ∃ D, (recOk x && verdict r (textB x) s n i l) = D := ⟨_, rfl⟩
  obtain ⟨SB, hSB⟩ : ∃ r, sig5 s n i l = r := ⟨_, rfl⟩
  have HV : Hid (∀ (W : World), Row W b m c SB → KsAt W → Calls Tryd.prog 11 #[.agg (cellsOf r).toArray, .agg x.cells.toArray, .slice b m c] W fun e w' => e = .returned (.bool D) ∧ Below W.heap.size W w') := Lib.hid fun W h2 h3 => by
    rw [← hSB] at h2
    rw [← hD]
    exact verify12_any hx hr hi hn h2 h3
  rw [hD]
  rw [hSB] at hs
  have SX := Lib.hid (rec_size hx)
  have SZR := Lib.hid (sumLenS hr)
  have HX := Lib.hid hx
  have HS := Lib.hid hs
  have HK := Lib.hid hk
  clear hx hr hi hn hs hk hD hSB
  go_enter Tryd.func9, Tryd.ntmps9
  go_upto_region 1 with (fail)
  have b1 : Below w.heap.size w ((w.alloc (.cells (sigCells x b m c).toArray 38)).alloc (.cells (cellsOf r).toArray 23)) := ((Below.refl _ _).alloc (Nat.le_refl _) _).alloc (by simp) _
  have h1 : ((w.alloc (.cells (sigCells x b m c).toArray 38)).alloc (.cells (cellsOf r).toArray 23)).heap[w.heap.size]? = some (.cells (sigCells x b m c).toArray 38 (0, 0)) := by
    rw [heap_alloc_old _ _ (by simp), heap_alloc_new]
  have h2 : ((w.alloc (.cells (sigCells x b m c).toArray 38)).alloc (.cells (cellsOf r).toArray 23)).heap[w.heap.size + 1]? = some (.cells (cellsOf r).toArray 23 (0, 0)) := heap_alloc_at _ _ _ (by simp)
  revert b1 h1 h2
  generalize ((w.alloc (.cells (sigCells x b m c).toArray 38)).alloc (.cells (cellsOf r).toArray 23)) = w1
  obtain ⟨g, hg⟩ : ∃ g, g = w.heap.size := ⟨_, rfl⟩
  rw [← hg]
  intro b1 h1 h2
  rw [hg] at b1
  have HB1 := Lib.hid b1
  have RX := Lib.hid (rec_whole (range_of h1))
  have RR := Lib.hid (range_of h2)
  have k0 := rec_after HX.out (range_of h1)
  have HCL := Lib.hid (HV.out _ (HS.out.below b1) (HK.out.below b1))
  clear b1 h1 h2 hg HS HK HV
  go_wp2_with (first | (refine wpList_load_mid rfl 23 _ rfl (g + 1) 0 rfl (cellsOf r) _ RR.out Tryd.underlying23 rfl SZR.out ?_) | (refine wpList_load_mid rfl 26 _ rfl g 0 rfl x.cells _ RX.out Tryd.underlying26 rfl SX.out ?_) | fail)
  refine HCL.out.mono ?_
  rintro e w2 ⟨rfl, hb⟩
  have HB2 := Lib.hid (bthen HB1.out hb)
  clear hb
  go_wp2_with fail
  go_ret
  exact ⟨rfl, HB2.out⟩
set_option linter.unusedSimpArgs false in
set_option maxRecDepth 100000 in
set_option maxHeartbeats 6400000 in
theorem sign12_bad {w : World} {x : PRec} {k : Value} (hx : RecIn x) (ho : recOk x = false) :
    Calls Tryd.prog 6 #[k, .agg x.cells.toArray] w fun e w' => e = .returned (.tuple #[.slice none 0 0, .int .i64 1]) ∧ Below w.heap.size w w' := by
  have HRC : Hid (∀ W : World, Calls Tryd.prog 16 #[.agg x.cells.toArray] W fun e w' => e = .returned (.bool false) ∧ Below W.heap.size W w') := Lib.hid fun W => by rw [← ho]; exact recright_any W x
  have HTC : Hid (∀ W : World, Calls Tryd.prog 20 #[.agg x.cells.toArray] W (TextOut W (textB x))) := Lib.hid fun W => text_any hx
  have SX := Lib.hid (rec_size hx)
  have HTL := Lib.hid (textB_len hx)
  clear hx ho HTC HTL
  go_enter Tryd.func6, Tryd.ntmps6
  go_upto_region 1 with (fail)
  have b1 : Below w.heap.size w (w.alloc (.cells x.cells.toArray 26)) := (Below.refl _ _).alloc (Nat.le_refl _) _
  have h1 := heap_alloc_new w (.cells x.cells.toArray 26)
  revert b1 h1
  generalize (w.alloc (.cells x.cells.toArray 26)) = w1
  obtain ⟨g, hg⟩ : ∃ g, g = w.heap.size := ⟨_, rfl⟩
  rw [← hg]
  intro b1 h1
  rw [hg] at b1
  have HB1 := Lib.hid b1
  have RX : Hid (∀ W : World, Below w1.heap.size w1 W → W.rangeAt g 0 x.cells) := Lib.hid fun W hW => range_of (keep hW h1)
  have RX1 := Lib.hid (RX.out _ (Below.refl _ _))
  clear b1 h1 hg
  go_wp2_with (first | (refine wpList_load_mid rfl 26 _ rfl g 0 rfl x.cells _ RX1.out Tryd.underlying26 rfl SX.out ?_) | fail)
  refine (HRC.out _).mono ?_
  rintro e w2 ⟨rfl, hb⟩
  have HB2 := Lib.hid hb
  have RX2 := Lib.hid (RX.out _ hb)
  clear hb RX1
  go_wp2_with fail
  go_ret2
  exact ⟨rfl, bthen HB1.out HB2.out⟩
set_option linter.unusedSimpArgs false in
set_option maxRecDepth 100000 in
set_option maxHeartbeats 6400000 in
theorem sign12_used {w : World} {x : PRec} {k i : Nat} {s : List UInt8} {ls : List (List UInt8)} (hx : RecIn x) (ho : recOk x = true) (h : KeyAt w k s ls i) (hi : ls.length = i) :
    Calls Tryd.prog 6 #[.pointer (some ⟨k, 0, none⟩), .agg x.cells.toArray] w fun e w' => e = .returned (.tuple #[.slice none 0 0, .int .i64 15]) ∧ Below w.heap.size w w' := by
  have HRC : Hid (∀ W : World, Calls Tryd.prog 16 #[.agg x.cells.toArray] W fun e w' => e = .returned (.bool true) ∧ Below W.heap.size W w') := Lib.hid fun W => by rw [← ho]; exact recright_any W x
  have HTC : Hid (∀ W : World, Calls Tryd.prog 20 #[.agg x.cells.toArray] W (TextOut W (textB x))) := Lib.hid fun W => text_any hx
  have SX := Lib.hid (rec_size hx)
  have HTL := Lib.hid (textB_len hx)
  have H := Lib.hid h
  have HI := Lib.hid hi
  clear hx ho h hi HTL
  go_enter Tryd.func6, Tryd.ntmps6
  go_upto_region 1 with (fail)
  have b1 : Below w.heap.size w (w.alloc (.cells x.cells.toArray 26)) := (Below.refl _ _).alloc (Nat.le_refl _) _
  have h1 := heap_alloc_new w (.cells x.cells.toArray 26)
  revert b1 h1
  generalize (w.alloc (.cells x.cells.toArray 26)) = w1
  obtain ⟨g, hg⟩ : ∃ g, g = w.heap.size := ⟨_, rfl⟩
  rw [← hg]
  intro b1 h1
  rw [hg] at b1
  have HB1 := Lib.hid b1
  have RX : Hid (∀ W : World, Below w1.heap.size w1 W → W.rangeAt g 0 x.cells) := Lib.hid fun W hW => range_of (keep hW h1)
  have RX1 := Lib.hid (RX.out _ (Below.refl _ _))
  clear b1 h1 hg
  go_wp2_with (first | (refine wpList_load_mid rfl 26 _ rfl g 0 rfl x.cells _ RX1.out Tryd.underlying26 rfl SX.out ?_) | fail)
  refine (HRC.out _).mono ?_
  rintro e w2 ⟨rfl, hb⟩
  have HB2 := Lib.hid hb
  have RX2 := Lib.hid (RX.out _ hb)
  clear hb RX1
  go_wp2_with (first | (refine wpList_load_mid rfl 26 _ rfl g 0 rfl x.cells _ RX2.out Tryd.underlying26 rfl SX.out ?_) | fail)
  refine (HTC.out _).mono ?_
  rintro e w3 ⟨a3, n3, c3, rfl, hr, _, hb⟩
  have HB3 := Lib.hid (bthen (bthen HB1.out HB2.out) hb)
  have HR3 := Lib.hid hr
  clear hr hb HB2 RX2
  go_wp2_with fail
  refine (sign5_used (H.out.below HB3.out) HI.out).mono ?_
  rintro e w4 ⟨rfl, hb⟩
  have HB4 := Lib.hid (bthen HB3.out hb)
  clear hb
  go_wp2_with fail
  go_ret2
  exact ⟨rfl, HB4.out⟩
set_option linter.unusedSimpArgs false in
set_option maxRecDepth 100000 in
set_option maxHeartbeats 6400000 in
theorem sign12_at {w : World} {x : PRec} {k i n : Nat} {s : List UInt8} (hx : RecIn x) (ho : recOk x = true) (h : KeyAt w k s (leafKeys s n) i) (hi : i < n) (hk : KsAt w) :
    Calls Tryd.prog 6 #[.pointer (some ⟨k, 0, none⟩), .agg x.cells.toArray] w (Signed5 w k s n i (textB x)) := by
  have HRC : Hid (∀ W : World, Calls Tryd.prog 16 #[.agg x.cells.toArray] W fun e w' => e = .returned (.bool true) ∧ Below W.heap.size W w') := Lib.hid fun W => by rw [← ho]; exact recright_any W x
  have HTC : Hid (∀ W : World, Calls Tryd.prog 20 #[.agg x.cells.toArray] W (TextOut W (textB x))) := Lib.hid fun W => text_any hx
  have SX := Lib.hid (rec_size hx)
  have HTL := Lib.hid (textB_len hx)
  obtain ⟨LS, hLS⟩ : ∃ r, leafKeys s n = r := ⟨_, rfl⟩
  obtain ⟨SB, hSB⟩ : ∃ r, sig5 s n i (textB x) = r := ⟨_, rfl⟩
  have HSG : Hid (∀ (W : World) (a : Option Addr) (m c : Nat), KeyAt W k s LS i → Row W a m c (textB x) → KsAt W → Calls Tryd.prog 19 #[.pointer (some ⟨k, 0, none⟩), .slice a m c] W fun e w' => ∃ (a : Option Addr) (m c : Nat), e = .returned (.tuple #[.slice a m c, .int .i64 0]) ∧ Row w' a m c SB ∧ KeyAt w' k s LS (i + 1) ∧ But W.heap.size k W w') := Lib.hid fun W a m c h1 h2 h3 => by
    rw [← hLS] at h1
    have h9 := sign5_at h1 hi h2 (by have h8 := h2.1; have h7 := HTL.out; omega) h3
    unfold Signed5 at h9
    rw [hLS, hSB] at h9
    exact h9
  unfold Signed5
  rw [hLS, hSB]
  rw [hLS] at h
  have H := Lib.hid h
  have HK := Lib.hid hk
  clear hx ho h hi hk hLS hSB HTL
  go_enter Tryd.func6, Tryd.ntmps6
  go_upto_region 1 with (fail)
  have b1 : Below w.heap.size w (w.alloc (.cells x.cells.toArray 26)) := (Below.refl _ _).alloc (Nat.le_refl _) _
  have h1 := heap_alloc_new w (.cells x.cells.toArray 26)
  revert b1 h1
  generalize (w.alloc (.cells x.cells.toArray 26)) = w1
  obtain ⟨g, hg⟩ : ∃ g, g = w.heap.size := ⟨_, rfl⟩
  rw [← hg]
  intro b1 h1
  rw [hg] at b1
  have HB1 := Lib.hid b1
  have RX : Hid (∀ W : World, Below w1.heap.size w1 W → W.rangeAt g 0 x.cells) := Lib.hid fun W hW => range_of (keep hW h1)
  have RX1 := Lib.hid (RX.out _ (Below.refl _ _))
  clear b1 h1 hg
  go_wp2_with (first | (refine wpList_load_mid rfl 26 _ rfl g 0 rfl x.cells _ RX1.out Tryd.underlying26 rfl SX.out ?_) | fail)
  refine (HRC.out _).mono ?_
  rintro e w2 ⟨rfl, hb⟩
  have HB2 := Lib.hid hb
  have RX2 := Lib.hid (RX.out _ hb)
  clear hb RX1
  go_wp2_with (first | (refine wpList_load_mid rfl 26 _ rfl g 0 rfl x.cells _ RX2.out Tryd.underlying26 rfl SX.out ?_) | fail)
  refine (HTC.out _).mono ?_
  rintro e w3 ⟨a3, n3, c3, rfl, hr, _, hb⟩
  have HB3 := Lib.hid (bthen (bthen HB1.out HB2.out) hb)
  have HR3 := Lib.hid hr
  clear hr hb HB2 RX2
  go_wp2_with fail
  refine (HSG.out _ _ _ _ (H.out.below HB3.out) HR3.out (HK.out.below HB3.out)).mono ?_
  rintro e w4 ⟨a4, m4, c4, rfl, hr, hkey, hb⟩
  have HR4 := Lib.hid hr
  have HK4 := Lib.hid hkey
  have HB4 : Hid (But w.heap.size k w w4) := Lib.hid ((But.of HB3.out).trans (hb.mono HB3.out.size))
  clear hr hkey hb
  go_wp2_with fail
  go_ret2
  exact ⟨_, _, _, rfl, HR4.out, HK4.out, HB4.out⟩
end Go.Proofs.YtfccmiohnjhkoaaDoor
