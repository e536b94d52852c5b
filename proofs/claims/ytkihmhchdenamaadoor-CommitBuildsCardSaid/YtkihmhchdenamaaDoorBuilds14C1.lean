/- CommitBuilds, walked: the owner 1. -/
import Derived.Test.YtkihmhchdenamaaDoorAwake14
import Derived.Test.YtkihmhchdenamaaDoorComClose
import Derived.Test.YtkihmhchdenamaaDoorComRef
import Derived.Test.YtkihmhchdenamaaDoorPlain14
import Derived.Test.YtkihmhchdenamaaDoorLaw14R
import Derived.Test.YtkihmhchdenamaaDoorLaw14C
import Derived.Deep.CutRange
namespace Go.Proofs.YtkihmhchdenamaaDoor
open Go.RowKit

set_option linter.unusedSimpArgs false in
set_option maxRecDepth 100000 in
set_option maxHeartbeats 6400000 in
theorem builds14_1 {w : World} {c : PChan} {s : PState} (hc : ChanIn c) (hs : StateIn s) (hk : KsAt w) (hu : stateOk c s = true) :
    Calls Tryd.prog 3 #[.agg c.cells.toArray, .agg s.cells.toArray, .int .i64 1] w fun e w' => e = .returned (.bool true) ∧ Below w.heap.size w w' := by
  obtain ⟨R, hR⟩ : ∃ R, chanOk c = R := ⟨_, rfl⟩
  have HRC : Hid (∀ W : World, Calls Tryd.prog 6 #[.agg c.cells.toArray] W fun e w' => e = .returned (.bool R) ∧ Below W.heap.size W w') := Lib.hid fun W => by rw [← hR]; exact rightChannel_any W hc.ftx
  have HLC : Hid (∀ W : World, Calls Tryd.prog 7 #[.agg c.cells.toArray] W fun e w' => e = .returned (.bool R) ∧ Below W.heap.size W w') := Lib.hid fun W => by rw [← hR]; exact rightChannel_law W hc.ftx
  have HRS : Hid (∀ W : World, Calls Tryd.prog 8 #[.agg c.cells.toArray, .agg s.cells.toArray] W fun e w' => e = .returned (.bool true) ∧ Below W.heap.size W w') := Lib.hid fun W => by rw [← hu]; exact rightState_any W hc.ftx hs
  have HLS : Hid (∀ W : World, Calls Tryd.prog 9 #[.agg c.cells.toArray, .agg s.cells.toArray] W fun e w' => e = .returned (.bool true) ∧ Below W.heap.size W w') := Lib.hid fun W => by rw [← hu]; exact right_law hc hs
  have HAW := Lib.hid (fun (W : World) => awake14_any W)
  have HBD := Lib.hid (fun (W : World) => build14_1 (w := W) hc hs hu)
  have HCL := Lib.hid (fun (W : World) => close14_any (w := W) hc hs hu)
  have HC := Lib.hid hc
  have HS := Lib.hid hs
  have HK := Lib.hid hk
  have SZC := Lib.hid (chan_sizeA hc.ftx)
  have SZS := Lib.hid (state_sizeA hs)
  have SZCl := Lib.hid (chan_size hc.ftx)
  have SZSl := Lib.hid (state_size hs)
  have HF := Lib.hid (fine14 hu)
  clear hc hs hk hu hR
  go_enter Tryd.func3, Tryd.ntmps3
  go_upto_region 1 with (fail)
  have b1 : Below w.heap.size w ((w.alloc (.cells c.cells.toArray 27)).alloc (.cells s.cells.toArray 30)) := ((Below.refl _ _).alloc (Nat.le_refl _) _).alloc (by simp) _
  have h1 : ((w.alloc (.cells c.cells.toArray 27)).alloc (.cells s.cells.toArray 30)).heap[w.heap.size]? = some (.cells c.cells.toArray 27 (0, 0)) := by
    rw [heap_alloc_old _ _ (by simp), heap_alloc_new]
  have h2 : ((w.alloc (.cells c.cells.toArray 27)).alloc (.cells s.cells.toArray 30)).heap[w.heap.size + 1]? = some (.cells s.cells.toArray 30 (0, 0)) := heap_alloc_at _ _ _ (by simp)
  revert b1 h1 h2
  generalize ((w.alloc (.cells c.cells.toArray 27)).alloc (.cells s.cells.toArray 30)) = w1
  obtain ⟨g, hg⟩ : ∃ g, g = w.heap.size := ⟨_, rfl⟩
  rw [← hg]
  intro b1 h1 h2
  rw [hg] at b1
  have HB1 := Lib.hid b1
  have H1 := Lib.hid h1
  have H2 := Lib.hid h2
  clear b1 h1 h2 hg
  go_upto_region 2 with (first | (refine wpList_load_row rfl 27 _ rfl g rfl 27 c.cells.toArray (0, 0) _ H1.out Tryd.underlying27 rfl SZC.out ?_) | (refine wpList_load_row rfl 30 _ rfl (g + 1) rfl 30 s.cells.toArray (0, 0) _ H2.out Tryd.underlying30 rfl SZS.out ?_) | (go_at_call 4; (with_reducible refine (HBD.out _).mono ?_); rintro e w2 ⟨a0, a1, a2, a3, a4, a5, a6, rfl, ht, hb⟩; have HT2 := Lib.hid ht; have HB2 := Lib.hid (bthen HB1.out hb); have H12 := Lib.hid (keep hb H1.out); have H22 := Lib.hid (keep hb H2.out); clear ht hb) | (refine wpList_var rfl rfl 38 rfl _ _ rfl noTx.cells.toArray Tryd.zeroTx14 rfl (commitP c a0 a1 a2 a3 a4 a5 a6 c.peer c.client s.peer s.client s.h1).cells (fun _ => rfl) (fun _ => rfl) rfl (PTx.one _) ?_; intro p7 w3 hq hh hb; go_frame; have HT3 := Lib.hid (HT2.out.below hb); have HB3 := Lib.hid (bthen HB2.out hb); have H13 := Lib.hid (keep hb H12.out); have H23 := Lib.hid (keep hb H22.out); have HP73 := Lib.hid hh; clear hq hh hb) | fail)
  go_upto_region 3 with (first | (refine wpList_load_row rfl 27 _ rfl g rfl 27 c.cells.toArray (0, 0) _ H13.out Tryd.underlying27 rfl SZC.out ?_) | (refine wpList_load_row rfl 30 _ rfl (g + 1) rfl 30 s.cells.toArray (0, 0) _ H23.out Tryd.underlying30 rfl SZS.out ?_) | (go_at_call 5; (with_reducible refine (HCL.out _).mono ?_); rintro e w4 ⟨b0, b1, b2, b3, b4, b5, rfl, hu, hb⟩; have HU4 := Lib.hid hu; have HT4 := Lib.hid (HT3.out.below hb); have HB4 := Lib.hid (bthen HB3.out hb); have H14 := Lib.hid (keep hb H13.out); have H24 := Lib.hid (keep hb H23.out); have HP74 := Lib.hid (keep hb HP73.out); clear hb hu) | (refine wpList_var rfl rfl 38 rfl _ _ rfl noTx.cells.toArray Tryd.zeroTx14 rfl (peaceP c b0 b1 b2 b3 b4 b5 s.client s.peer).cells (fun _ => rfl) (fun _ => rfl) rfl (PTx.one _) ?_; intro p9 w5 hq hh hb; go_frame; have HT5 := Lib.hid (HT4.out.below hb); have HU5 := Lib.hid (HU4.out.below hb); have HB5 := Lib.hid (bthen HB4.out hb); have H15 := Lib.hid (keep hb H14.out); have H25 := Lib.hid (keep hb H24.out); have HP75 := Lib.hid (keep hb HP74.out); have HP95 := Lib.hid hh; clear hq hh hb) | fail)
  refine wp_region_held_drew (S := fun w' => Below w5.heap.size w5 w') (by kernel_rfl) (below_drew (Below.refl _ _)) (fun hHeld => ?_)
  refine take_at (i := 0) rfl rfl (by kernel_rfl) (by kernel_rfl) (by kernel_rfl) (fun _ _ _ h => h) (yieldsIf_load_mid (by rfl) _ _ rfl g 0 rfl c.cells _ (fun w0 hSw => range_of (keep hSw H15.out)) Tryd.underlying27 rfl SZCl.out) (by assumption) ?_
  simp only [List.setIfInBounds_toArray, List.set_cons_zero, List.set_cons_succ]
  refine take_at (i := 2) rfl rfl (by kernel_rfl) (by kernel_rfl) (by kernel_rfl) (fun _ _ _ h => h) (yieldsIf_load_mid (by rfl) _ _ rfl g 0 rfl c.cells _ (fun w0 hSw => range_of (keep hSw H15.out)) Tryd.underlying27 rfl SZCl.out) (by assumption) ?_
  simp only [List.setIfInBounds_toArray, List.set_cons_zero, List.set_cons_succ]
  refine wpAnyH_ready (rs := [1]) (by kernel_rfl) (by simp) ?_
  refine AllReadyH.cons rfl (fun K hK => ?_) ?_
  · have HCx := Lib.hid HRC.out
    go_simp
    go_wp2_with ((go_at_call 6; (with_reducible refine (HCx.out _).mono ?_); rintro e y1 ⟨rfl, hb⟩; have HX := Lib.hid (bthen hHeld hb); clear hb HCx))
    refine hK.out _ _ (by (try dsimp only); exact HX.out) (fun hHeld => ?_)
    clear hK K
    refine wpAnyH_ready (rs := [3]) (by kernel_rfl) (by simp) ?_
    refine AllReadyH.cons rfl (fun K hK => ?_) ?_
    · have HCx := Lib.hid HLC.out
      go_simp
      go_wp2_with ((go_at_call 7; (with_reducible refine (HCx.out _).mono ?_); rintro e y2 ⟨rfl, hb⟩; have HX := Lib.hid (bthen hHeld hb); clear hb HCx))
      refine hK.out _ _ (by (try dsimp only); exact HX.out) (fun hHeld => ?_)
      clear hK K
      refine take_at (i := 4) (v := .bool false) rfl rfl (by kernel_rfl) (by kernel_rfl) (by kernel_rfl) (fun _ _ _ h => h) (Or.inl ⟨by rfl, ?_⟩) (by assumption) ?_
      · intro w0 hSw; (try dsimp only at hSw); cases R <;> (go_simp; done)
      simp only [List.setIfInBounds_toArray, List.set_cons_zero, List.set_cons_succ]
      refine take_at (i := 5) (v := ?_) rfl rfl (by kernel_rfl) (by kernel_rfl) (by kernel_rfl) (fun _ _ _ h => h) (Or.inl ⟨by rfl, ?_⟩) (by assumption) ?_
      rotate_left
      · intro w0 hSw; (try dsimp only at hSw); first | (go_simp; done) | (go_simp; with_reducible rfl)
      simp only [List.setIfInBounds_toArray, List.set_cons_zero, List.set_cons_succ]
      refine take_at (i := 6) rfl rfl (by kernel_rfl) (by kernel_rfl) (by kernel_rfl) (fun _ _ _ h => h) (yieldsIf_load_mid (by rfl) _ _ rfl g 0 rfl c.cells _ (fun w0 hSw => range_of (keep hSw H15.out)) Tryd.underlying27 rfl SZCl.out) (by assumption) ?_
      simp only [List.setIfInBounds_toArray, List.set_cons_zero, List.set_cons_succ]
      refine take_at (i := 7) rfl rfl (by kernel_rfl) (by kernel_rfl) (by kernel_rfl) (fun _ _ _ h => h) (yieldsIf_load_mid (by rfl) _ _ rfl (g + 1) 0 rfl s.cells _ (fun w0 hSw => range_of (keep hSw H25.out)) Tryd.underlying30 rfl SZSl.out) (by assumption) ?_
      simp only [List.setIfInBounds_toArray, List.set_cons_zero, List.set_cons_succ]
      refine take_at (i := 9) rfl rfl (by kernel_rfl) (by kernel_rfl) (by kernel_rfl) (fun _ _ _ h => h) (yieldsIf_load_mid (by rfl) _ _ rfl g 0 rfl c.cells _ (fun w0 hSw => range_of (keep hSw H15.out)) Tryd.underlying27 rfl SZCl.out) (by assumption) ?_
      simp only [List.setIfInBounds_toArray, List.set_cons_zero, List.set_cons_succ]
      refine take_at (i := 10) rfl rfl (by kernel_rfl) (by kernel_rfl) (by kernel_rfl) (fun _ _ _ h => h) (yieldsIf_load_mid (by rfl) _ _ rfl (g + 1) 0 rfl s.cells _ (fun w0 hSw => range_of (keep hSw H25.out)) Tryd.underlying30 rfl SZSl.out) (by assumption) ?_
      simp only [List.setIfInBounds_toArray, List.set_cons_zero, List.set_cons_succ]
      refine wpAnyH_ready (rs := [8]) (by kernel_rfl) (by simp) ?_
      refine AllReadyH.cons rfl (fun K hK => ?_) ?_
      · have HCx := Lib.hid HRS.out
        go_simp
        go_wp2_with ((go_at_call 8; (with_reducible refine (HCx.out _).mono ?_); rintro e y3 ⟨rfl, hb⟩; have HX := Lib.hid (bthen hHeld hb); clear hb HCx))
        refine hK.out _ _ (by (try dsimp only); exact HX.out) (fun hHeld => ?_)
        clear hK K
        refine wpAnyH_ready (rs := [11]) (by kernel_rfl) (by simp) ?_
        refine AllReadyH.cons rfl (fun K hK => ?_) ?_
        · have HCx := Lib.hid HLS.out
          go_simp
          go_wp2_with ((go_at_call 9; (with_reducible refine (HCx.out _).mono ?_); rintro e y4 ⟨rfl, hb⟩; have HX := Lib.hid (bthen hHeld hb); clear hb HCx))
          refine hK.out _ _ (by (try dsimp only); exact HX.out) (fun hHeld => ?_)
          clear hK K
          refine take_at (i := 12) (v := .bool false) rfl rfl (by kernel_rfl) (by kernel_rfl) (by kernel_rfl) (fun _ _ _ h => h) (Or.inl ⟨by rfl, ?_⟩) (by assumption) ?_
          · intro w0 hSw; (try dsimp only at hSw); (go_simp; done)
          simp only [List.setIfInBounds_toArray, List.set_cons_zero, List.set_cons_succ]
          refine take_at (i := 13) (v := ?_) rfl rfl (by kernel_rfl) (by kernel_rfl) (by kernel_rfl) (fun _ _ _ h => h) (Or.inl ⟨by rfl, ?_⟩) (by assumption) ?_
          rotate_left
          · intro w0 hSw; (try dsimp only at hSw); first | (go_simp; done) | (go_simp; with_reducible rfl)
          simp only [List.setIfInBounds_toArray, List.set_cons_zero, List.set_cons_succ]
          refine wpAnyH_done (by kernel_rfl) ?_ _
          clear hHeld
          have HB6 := Lib.hid (bthen HB5.out HX.out)
          have H16 := Lib.hid (keep HX.out H15.out)
          have H26 := Lib.hid (keep HX.out H25.out)
          have HP76 := Lib.hid (keep HX.out HP75.out)
          have HP96 := Lib.hid (keep HX.out HP95.out)
          have HT6 := Lib.hid (HT5.out.below HX.out)
          have HU6 := Lib.hid (HU5.out.below HX.out)
          clear H15 H25 HP75 HP95 HRC HLC HRS HT5 HU5
          go_upto_region 7 with (first | (refine wpList_load_row rfl 27 _ rfl g rfl 27 c.cells.toArray (0, 0) _ H16.out Tryd.underlying27 rfl SZC.out ?_) | (refine wpList_load_row rfl 30 _ rfl (g + 1) rfl 30 s.cells.toArray (0, 0) _ H26.out Tryd.underlying30 rfl SZS.out ?_) | (go_at_call 9; (with_reducible refine (HLS.out _).mono ?_); rintro e w7 ⟨rfl, hb⟩; have HB7 := Lib.hid (bthen HB6.out hb); have H17 := Lib.hid (keep hb H16.out); have H27 := Lib.hid (keep hb H26.out); have HP77 := Lib.hid (keep hb HP76.out); have HP97 := Lib.hid (keep hb HP96.out); have HT7 := Lib.hid (HT6.out.below hb); have HU7 := Lib.hid (HU6.out.below hb); clear hb) | fail)
          go_cut [11] from 63 to 78 (fun u w' => ∃ (p : Nat) (q0 q1 q2 q3 q4 q5 : Option Addr), u = .pointer (some ⟨p, 0, none⟩) ∧ w'.heap[p]? = some (.cells (peaceP c q0 q1 q2 q3 q4 q5 s.client s.peer).cells.toArray 38 (0, 0)) ∧ TxIn w' (peaceP c q0 q1 q2 q3 q4 q5 s.client s.peer) ∧ Below w7.heap.size w7 w')
          case first =>
            refine wp_region_held_drew (S := fun w' => Below w7.heap.size w7 w') (by kernel_rfl) (below_drew (Below.refl _ _)) (fun hHeld => ?_)
            refine take_at (i := 0) (v := ?_) rfl rfl (by kernel_rfl) (by kernel_rfl) (by kernel_rfl) (fun _ _ _ h => h) (Or.inl ⟨by rfl, ?_⟩) (by assumption) ?_
            rotate_left
            · intro w0 hSw; (try dsimp only at hSw); first | (go_simp; done) | (go_simp; with_reducible rfl)
            simp only [List.setIfInBounds_toArray, List.set_cons_zero, List.set_cons_succ]
            refine take_at (i := 1) rfl rfl (by kernel_rfl) (by kernel_rfl) (by kernel_rfl) (fun _ _ _ h => h) (yieldsIf_load_mid (by rfl) _ _ rfl g 3 rfl (refCells c.ftx c.fat) _ (fun w0 hSw => by have h9 := (chan_at HC.out.ftx (range_of (keep hSw H17.out))).fund; rw [Nat.zero_add] at h9; exact h9) Tryd.underlying25 rfl (refSize HC.out.ftx)) (by assumption) ?_
            simp only [List.setIfInBounds_toArray, List.set_cons_zero, List.set_cons_succ]
            refine take_at (i := 2) rfl rfl (by kernel_rfl) (by kernel_rfl) (by kernel_rfl) (fun _ _ _ h => h) (yields_build10 (by rfl) rfl (vs := [(0, .agg (refCells c.ftx c.fat).toArray)]) (by rfl) (build_in14 c.fat HC.out.ftx)) (by assumption) ?_
            simp only [List.setIfInBounds_toArray, List.set_cons_zero, List.set_cons_succ]
            refine take_at (i := 4) (v := ?_) rfl rfl (by kernel_rfl) (by kernel_rfl) (by kernel_rfl) (fun _ _ _ h => h) (Or.inl ⟨by rfl, ?_⟩) (by assumption) ?_
            rotate_left
            · intro w0 hSw; (try dsimp only at hSw); first | (go_simp; done) | (go_simp; with_reducible rfl)
            simp only [List.setIfInBounds_toArray, List.set_cons_zero, List.set_cons_succ]
            refine take_at (i := 5) rfl rfl (by kernel_rfl) (by kernel_rfl) (by kernel_rfl) (fun _ _ _ h => h) (yields_cell (b := g) (o := 1) (by rfl) rfl rfl (fun w0 hSw => by have h9 := (chan_at HC.out.ftx (range_of (keep hSw H17.out))).client; rw [Nat.zero_add] at h9; exact h9) (fun w0 => Tryd.isAgg3 w0)) (by assumption) ?_
            simp only [List.setIfInBounds_toArray, List.set_cons_zero, List.set_cons_succ]
            refine take_at (i := 6) (v := ?_) rfl rfl (by kernel_rfl) (by kernel_rfl) (by kernel_rfl) (fun _ _ _ h => h) (Or.inl ⟨by rfl, ?_⟩) (by assumption) ?_
            rotate_left
            · intro w0 hSw; (try dsimp only at hSw); first | (go_simp; done) | (go_simp; with_reducible rfl)
            simp only [List.setIfInBounds_toArray, List.set_cons_zero, List.set_cons_succ]
            refine take_at (i := 7) rfl rfl (by kernel_rfl) (by kernel_rfl) (by kernel_rfl) (fun _ _ _ h => h) (yields_cell (b := (g + 1)) (o := 1) (by rfl) rfl rfl (fun w0 hSw => by have h9 := (state_at HS.out (range_of (keep hSw H27.out))).client; rw [Nat.zero_add] at h9; exact h9) (fun w0 => Tryd.isAgg2 w0)) (by assumption) ?_
            simp only [List.setIfInBounds_toArray, List.set_cons_zero, List.set_cons_succ]
            refine take_at (i := 9) (v := ?_) rfl rfl (by kernel_rfl) (by kernel_rfl) (by kernel_rfl) (fun _ _ _ h => h) (Or.inl ⟨by rfl, ?_⟩) (by assumption) ?_
            rotate_left
            · intro w0 hSw; (try dsimp only at hSw); first | (go_simp; done) | (go_simp; with_reducible rfl)
            simp only [List.setIfInBounds_toArray, List.set_cons_zero, List.set_cons_succ]
            refine take_at (i := 10) rfl rfl (by kernel_rfl) (by kernel_rfl) (by kernel_rfl) (fun _ _ _ h => h) (yields_cell (b := g) (o := 2) (by rfl) rfl rfl (fun w0 hSw => by have h9 := (chan_at HC.out.ftx (range_of (keep hSw H17.out))).peer; rw [Nat.zero_add] at h9; exact h9) (fun w0 => Tryd.isAgg3 w0)) (by assumption) ?_
            simp only [List.setIfInBounds_toArray, List.set_cons_zero, List.set_cons_succ]
            refine take_at (i := 11) (v := ?_) rfl rfl (by kernel_rfl) (by kernel_rfl) (by kernel_rfl) (fun _ _ _ h => h) (Or.inl ⟨by rfl, ?_⟩) (by assumption) ?_
            rotate_left
            · intro w0 hSw; (try dsimp only at hSw); first | (go_simp; done) | (go_simp; with_reducible rfl)
            simp only [List.setIfInBounds_toArray, List.set_cons_zero, List.set_cons_succ]
            refine take_at (i := 12) rfl rfl (by kernel_rfl) (by kernel_rfl) (by kernel_rfl) (fun _ _ _ h => h) (yields_cell (b := (g + 1)) (o := 2) (by rfl) rfl rfl (fun w0 hSw => by have h9 := (state_at HS.out (range_of (keep hSw H27.out))).peer; rw [Nat.zero_add] at h9; exact h9) (fun w0 => Tryd.isAgg2 w0)) (by assumption) ?_
            simp only [List.setIfInBounds_toArray, List.set_cons_zero, List.set_cons_succ]
            refine wpAnyH_ready (rs := [3, 8, 16]) (by kernel_rfl) (by simp) ?_
            refine AllReadyH.cons rfl (fun K hK => ?_) ?_
            · refine step_lits Tryd.inAt14 (d := 66) rfl (by rfl) rfl [fundP c] rfl (by decide) (by decide) (by intro x hx; simp at hx; subst hx; exact PIn.len HC.out.ftx) (by rfl) ?_
              intro n3 y1 hp hh hb
              have D3 : Hid (Laid14 w7.heap.size y1 n3 (insO [fundP c])) := Lib.hid ⟨Nat.le_trans (Below.size hHeld) hp, hh⟩
              have HX := Lib.hid (bthen hHeld hb)
              clear hp hh hb
              refine hK.out _ _ (by (try dsimp only); exact HX.out) (fun hHeld => ?_)
              clear hK K
              refine wpAnyH_ready (rs := [8, 16]) (by kernel_rfl) (by simp) ?_
              refine AllReadyH.cons rfl (fun K hK => ?_) ?_
              · have HCx := Lib.hid (fun (W : World) => to_at14 c.client s.client W)
                go_simp
                go_wp2_with ((go_at_call 11; (with_reducible refine (HCx.out _).mono ?_); rintro e y2 ⟨n81, n82, rfl, ha, hb⟩; have D3 := Lib.hid (D3.out.keep hb); have D8 := Lib.hid (ha.old (Below.size hHeld)); have HX := Lib.hid (bthen hHeld hb); clear ha hb HCx))
                refine hK.out _ _ (by (try dsimp only); exact HX.out) (fun hHeld => ?_)
                clear hK K
                refine wpAnyH_ready (rs := [13, 16]) (by kernel_rfl) (by simp) ?_
                refine AllReadyH.cons rfl (fun K hK => ?_) ?_
                · have HCx := Lib.hid (fun (W : World) => to_at14 c.peer s.peer W)
                  go_simp
                  go_wp2_with ((go_at_call 11; (with_reducible refine (HCx.out _).mono ?_); rintro e y3 ⟨n131, n132, rfl, ha, hb⟩; have D3 := Lib.hid (D3.out.keep hb); have D8 := Lib.hid (D8.out.keep hb); have D13 := Lib.hid (ha.old (Below.size hHeld)); have HX := Lib.hid (bthen hHeld hb); clear ha hb HCx))
                  refine hK.out _ _ (by (try dsimp only); exact HX.out) (fun hHeld => ?_)
                  clear hK K
                  refine wpAnyH_ready (rs := [14, 16]) (by kernel_rfl) (by simp) ?_
                  refine AllReadyH.cons rfl (fun K hK => ?_) ?_
                  · refine step_lits Tryd.outAt14 (d := 77) rfl (by rfl) rfl [(herP (some ⟨n82, 0, none⟩) (some ⟨n81, 0, none⟩) c.client s.client), (herP (some ⟨n132, 0, none⟩) (some ⟨n131, 0, none⟩) c.peer s.peer)] rfl (by decide) (by decide) (by intro x hx; simp at hx; rcases hx with rfl | rfl; rfl; rfl) (by rfl) ?_
                    intro n14 y4 hp hh hb
                    have D3 := Lib.hid (D3.out.keep hb)
                    have D8 := Lib.hid (D8.out.keep hb)
                    have D13 := Lib.hid (D13.out.keep hb)
                    have D14 : Hid (Laid14 w7.heap.size y4 n14 (outsO [(herP (some ⟨n82, 0, none⟩) (some ⟨n81, 0, none⟩) c.client s.client), (herP (some ⟨n132, 0, none⟩) (some ⟨n131, 0, none⟩) c.peer s.peer)])) := Lib.hid ⟨Nat.le_trans (Below.size hHeld) hp, hh⟩
                    have HX := Lib.hid (bthen hHeld hb)
                    clear hp hh hb
                    refine hK.out _ _ (by (try dsimp only); exact HX.out) (fun hHeld => ?_)
                    clear hK K
                    refine take_at (i := 15) rfl rfl (by kernel_rfl) (by kernel_rfl) (by kernel_rfl) (fun _ _ _ h => h) (yields_build10 (by rfl) rfl (vs := [(0, .slice (some ⟨n3, 0, none⟩) 1 1), (1, .slice (some ⟨n14, 0, none⟩) 2 2)]) (by rfl) (build_peace14 c n3 n81 n82 n131 n132 n14 s.client s.peer)) (by assumption) ?_
                    simp only [List.setIfInBounds_toArray, List.set_cons_zero, List.set_cons_succ]
                    refine wpAnyH_ready (rs := [16]) (by kernel_rfl) (by simp) ?_
                    refine AllReadyH.cons rfl (fun K hK => ?_) ?_
                    · refine step_alloc10 (d := 11) rfl (by rfl) 38 rfl noTx.cells.toArray Tryd.zeroTx14 ?_
                      intro v y5 hp hh hb
                      have NV3 : Hid (n3 ≠ v) := Lib.hid (by have h8 := lt_of_block D3.out.is; omega)
                      have NV8 : Hid (n81 ≠ v ∧ n82 ≠ v) := Lib.hid (by have h8 := lt_of_block D8.out.ks.is; have h7 := lt_of_block D8.out.ws.is; exact ⟨by omega, by omega⟩)
                      have NV13 : Hid (n131 ≠ v ∧ n132 ≠ v) := Lib.hid (by have h8 := lt_of_block D13.out.ks.is; have h7 := lt_of_block D13.out.ws.is; exact ⟨by omega, by omega⟩)
                      have NV14 : Hid (n14 ≠ v) := Lib.hid (by have h8 := lt_of_block D14.out.is; omega)
                      have D3 := Lib.hid (D3.out.keep hb)
                      have D8 := Lib.hid (D8.out.keep hb)
                      have D13 := Lib.hid (D13.out.keep hb)
                      have D14 := Lib.hid (D14.out.keep hb)
                      have HV := Lib.hid hh
                      have NV : Hid (w7.heap.size ≤ v) := Lib.hid (Nat.le_trans (Below.size hHeld) hp)
                      have HX := Lib.hid (bthen hHeld hb)
                      clear hp hh hb
                      refine hK.out _ _ (by (try dsimp only); exact HX.out) (fun hHeld => ?_)
                      clear hK K
                      refine wpAnyH_ready (rs := [17]) (by kernel_rfl) (by simp) ?_
                      refine AllReadyH.cons rfl (fun K hK => ?_) ?_
                      · refine step_row10 (by rfl) 38 _ _ rfl v (PTx.cells (peaceP c (some ⟨n3, 0, none⟩) (some ⟨n82, 0, none⟩) (some ⟨n81, 0, none⟩) (some ⟨n132, 0, none⟩) (some ⟨n131, 0, none⟩) (some ⟨n14, 0, none⟩) s.client s.peer)) (by rfl) (by rfl) 38 noTx.cells HV.out (tx_size zero32_len) rfl (PTx.one _) (fun y6 hh hb => ?_)
                        have HX := Lib.hid (But.in hHeld hb NV.out)
                        have D3 : Hid (Laid14 w7.heap.size y6 n3 (insO [fundP c])) := Lib.hid ⟨D3.out.new, (hb.block _ (lt_of_block D3.out.is) NV3.out).trans D3.out.is⟩
                        have DP : Hid (PeaceAt w7.heap.size y6 c s.client s.peer n81 n82 n131 n132 n14) := Lib.hid ⟨⟨⟨D8.out.ks.new, (hb.block _ (lt_of_block D8.out.ks.is) NV8.out.1).trans D8.out.ks.is⟩, ⟨D8.out.ws.new, (hb.block _ (lt_of_block D8.out.ws.is) NV8.out.2).trans D8.out.ws.is⟩⟩, ⟨⟨D13.out.ks.new, (hb.block _ (lt_of_block D13.out.ks.is) NV13.out.1).trans D13.out.ks.is⟩, ⟨D13.out.ws.new, (hb.block _ (lt_of_block D13.out.ws.is) NV13.out.2).trans D13.out.ws.is⟩⟩, ⟨D14.out.new, (hb.block _ (lt_of_block D14.out.is) NV14.out).trans D14.out.is⟩⟩
                        have HV := Lib.hid hh
                        clear hh hb
                        refine hK.out _ _ (by (try dsimp only); exact HX.out) (fun hHeld => ?_)
                        clear hK K
                        refine wpAnyH_done (by kernel_rfl) ?_ _
                        clear hHeld
                        go_wp2_with fail
                        go_meet
                        exact ⟨v, _, _, _, _, _, _, rfl, HV.out, peace_in14 D3.out DP.out HC.out HS.out.client HS.out.peer, HX.out⟩
                      exact AllReadyH.nil
                    exact AllReadyH.nil
                  refine AllReadyH.cons rfl (fun K hK => ?_) ?_
                  · refine step_alloc10 (d := 11) rfl (by rfl) 38 rfl noTx.cells.toArray Tryd.zeroTx14 ?_
                    intro v y4 hp hh hb
                    have NV3 : Hid (n3 ≠ v) := Lib.hid (by have h8 := lt_of_block D3.out.is; omega)
                    have NV8 : Hid (n81 ≠ v ∧ n82 ≠ v) := Lib.hid (by have h8 := lt_of_block D8.out.ks.is; have h7 := lt_of_block D8.out.ws.is; exact ⟨by omega, by omega⟩)
                    have NV13 : Hid (n131 ≠ v ∧ n132 ≠ v) := Lib.hid (by have h8 := lt_of_block D13.out.ks.is; have h7 := lt_of_block D13.out.ws.is; exact ⟨by omega, by omega⟩)
                    have D3 := Lib.hid (D3.out.keep hb)
                    have D8 := Lib.hid (D8.out.keep hb)
                    have D13 := Lib.hid (D13.out.keep hb)
                    have HV := Lib.hid hh
                    have NV : Hid (w7.heap.size ≤ v) := Lib.hid (Nat.le_trans (Below.size hHeld) hp)
                    have HX := Lib.hid (bthen hHeld hb)
                    clear hp hh hb
                    refine hK.out _ _ (by (try dsimp only); exact HX.out) (fun hHeld => ?_)
                    clear hK K
                    refine wpAnyH_ready (rs := [14]) (by kernel_rfl) (by simp) ?_
                    refine AllReadyH.cons rfl (fun K hK => ?_) ?_
                    · refine step_lits Tryd.outAt14 (d := 77) rfl (by rfl) rfl [(herP (some ⟨n82, 0, none⟩) (some ⟨n81, 0, none⟩) c.client s.client), (herP (some ⟨n132, 0, none⟩) (some ⟨n131, 0, none⟩) c.peer s.peer)] rfl (by decide) (by decide) (by intro x hx; simp at hx; rcases hx with rfl | rfl; rfl; rfl) (by rfl) ?_
                      intro n14 y5 hp hh hb
                      have NV14 : Hid (n14 ≠ v) := Lib.hid (by have h8 := lt_of_block HV.out; omega)
                      have D3 := Lib.hid (D3.out.keep hb)
                      have D8 := Lib.hid (D8.out.keep hb)
                      have D13 := Lib.hid (D13.out.keep hb)
                      have HV := Lib.hid (keep hb HV.out)
                      have D14 : Hid (Laid14 w7.heap.size y5 n14 (outsO [(herP (some ⟨n82, 0, none⟩) (some ⟨n81, 0, none⟩) c.client s.client), (herP (some ⟨n132, 0, none⟩) (some ⟨n131, 0, none⟩) c.peer s.peer)])) := Lib.hid ⟨Nat.le_trans (Below.size hHeld) hp, hh⟩
                      have HX := Lib.hid (bthen hHeld hb)
                      clear hp hh hb
                      refine hK.out _ _ (by (try dsimp only); exact HX.out) (fun hHeld => ?_)
                      clear hK K
                      refine take_at (i := 15) rfl rfl (by kernel_rfl) (by kernel_rfl) (by kernel_rfl) (fun _ _ _ h => h) (yields_build10 (by rfl) rfl (vs := [(0, .slice (some ⟨n3, 0, none⟩) 1 1), (1, .slice (some ⟨n14, 0, none⟩) 2 2)]) (by rfl) (build_peace14 c n3 n81 n82 n131 n132 n14 s.client s.peer)) (by assumption) ?_
                      simp only [List.setIfInBounds_toArray, List.set_cons_zero, List.set_cons_succ]
                      refine wpAnyH_ready (rs := [17]) (by kernel_rfl) (by simp) ?_
                      refine AllReadyH.cons rfl (fun K hK => ?_) ?_
                      · refine step_row10 (by rfl) 38 _ _ rfl v (PTx.cells (peaceP c (some ⟨n3, 0, none⟩) (some ⟨n82, 0, none⟩) (some ⟨n81, 0, none⟩) (some ⟨n132, 0, none⟩) (some ⟨n131, 0, none⟩) (some ⟨n14, 0, none⟩) s.client s.peer)) (by rfl) (by rfl) 38 noTx.cells HV.out (tx_size zero32_len) rfl (PTx.one _) (fun y6 hh hb => ?_)
                        have HX := Lib.hid (But.in hHeld hb NV.out)
                        have D3 : Hid (Laid14 w7.heap.size y6 n3 (insO [fundP c])) := Lib.hid ⟨D3.out.new, (hb.block _ (lt_of_block D3.out.is) NV3.out).trans D3.out.is⟩
                        have DP : Hid (PeaceAt w7.heap.size y6 c s.client s.peer n81 n82 n131 n132 n14) := Lib.hid ⟨⟨⟨D8.out.ks.new, (hb.block _ (lt_of_block D8.out.ks.is) NV8.out.1).trans D8.out.ks.is⟩, ⟨D8.out.ws.new, (hb.block _ (lt_of_block D8.out.ws.is) NV8.out.2).trans D8.out.ws.is⟩⟩, ⟨⟨D13.out.ks.new, (hb.block _ (lt_of_block D13.out.ks.is) NV13.out.1).trans D13.out.ks.is⟩, ⟨D13.out.ws.new, (hb.block _ (lt_of_block D13.out.ws.is) NV13.out.2).trans D13.out.ws.is⟩⟩, ⟨D14.out.new, (hb.block _ (lt_of_block D14.out.is) NV14.out).trans D14.out.is⟩⟩
                        have HV := Lib.hid hh
                        clear hh hb
                        refine hK.out _ _ (by (try dsimp only); exact HX.out) (fun hHeld => ?_)
                        clear hK K
                        refine wpAnyH_done (by kernel_rfl) ?_ _
                        clear hHeld
                        go_wp2_with fail
                        go_meet
                        exact ⟨v, _, _, _, _, _, _, rfl, HV.out, peace_in14 D3.out DP.out HC.out HS.out.client HS.out.peer, HX.out⟩
                      exact AllReadyH.nil
                    exact AllReadyH.nil
                  exact AllReadyH.nil
                refine AllReadyH.cons rfl (fun K hK => ?_) ?_
                · refine step_alloc10 (d := 11) rfl (by rfl) 38 rfl noTx.cells.toArray Tryd.zeroTx14 ?_
                  intro v y3 hp hh hb
                  have NV3 : Hid (n3 ≠ v) := Lib.hid (by have h8 := lt_of_block D3.out.is; omega)
                  have NV8 : Hid (n81 ≠ v ∧ n82 ≠ v) := Lib.hid (by have h8 := lt_of_block D8.out.ks.is; have h7 := lt_of_block D8.out.ws.is; exact ⟨by omega, by omega⟩)
                  have D3 := Lib.hid (D3.out.keep hb)
                  have D8 := Lib.hid (D8.out.keep hb)
                  have HV := Lib.hid hh
                  have NV : Hid (w7.heap.size ≤ v) := Lib.hid (Nat.le_trans (Below.size hHeld) hp)
                  have HX := Lib.hid (bthen hHeld hb)
                  clear hp hh hb
                  refine hK.out _ _ (by (try dsimp only); exact HX.out) (fun hHeld => ?_)
                  clear hK K
                  refine wpAnyH_ready (rs := [13]) (by kernel_rfl) (by simp) ?_
                  refine AllReadyH.cons rfl (fun K hK => ?_) ?_
                  · have HCx := Lib.hid (fun (W : World) => to_at14 c.peer s.peer W)
                    go_simp
                    go_wp2_with ((go_at_call 11; (with_reducible refine (HCx.out _).mono ?_); rintro e y4 ⟨n131, n132, rfl, ha, hb⟩; have NV13 : Hid (n131 ≠ v ∧ n132 ≠ v) := Lib.hid (by have h8 := lt_of_block HV.out; have h6 := ha.ks.new; have h7 := ha.ws.new; exact ⟨by omega, by omega⟩); have D3 := Lib.hid (D3.out.keep hb); have D8 := Lib.hid (D8.out.keep hb); have HV := Lib.hid (keep hb HV.out); have D13 := Lib.hid (ha.old (Below.size hHeld)); have HX := Lib.hid (bthen hHeld hb); clear ha hb HCx))
                    refine hK.out _ _ (by (try dsimp only); exact HX.out) (fun hHeld => ?_)
                    clear hK K
                    refine wpAnyH_ready (rs := [14]) (by kernel_rfl) (by simp) ?_
                    refine AllReadyH.cons rfl (fun K hK => ?_) ?_
                    · refine step_lits Tryd.outAt14 (d := 77) rfl (by rfl) rfl [(herP (some ⟨n82, 0, none⟩) (some ⟨n81, 0, none⟩) c.client s.client), (herP (some ⟨n132, 0, none⟩) (some ⟨n131, 0, none⟩) c.peer s.peer)] rfl (by decide) (by decide) (by intro x hx; simp at hx; rcases hx with rfl | rfl; rfl; rfl) (by rfl) ?_
                      intro n14 y5 hp hh hb
                      have NV14 : Hid (n14 ≠ v) := Lib.hid (by have h8 := lt_of_block HV.out; omega)
                      have D3 := Lib.hid (D3.out.keep hb)
                      have D8 := Lib.hid (D8.out.keep hb)
                      have D13 := Lib.hid (D13.out.keep hb)
                      have HV := Lib.hid (keep hb HV.out)
                      have D14 : Hid (Laid14 w7.heap.size y5 n14 (outsO [(herP (some ⟨n82, 0, none⟩) (some ⟨n81, 0, none⟩) c.client s.client), (herP (some ⟨n132, 0, none⟩) (some ⟨n131, 0, none⟩) c.peer s.peer)])) := Lib.hid ⟨Nat.le_trans (Below.size hHeld) hp, hh⟩
                      have HX := Lib.hid (bthen hHeld hb)
                      clear hp hh hb
                      refine hK.out _ _ (by (try dsimp only); exact HX.out) (fun hHeld => ?_)
                      clear hK K
                      refine take_at (i := 15) rfl rfl (by kernel_rfl) (by kernel_rfl) (by kernel_rfl) (fun _ _ _ h => h) (yields_build10 (by rfl) rfl (vs := [(0, .slice (some ⟨n3, 0, none⟩) 1 1), (1, .slice (some ⟨n14, 0, none⟩) 2 2)]) (by rfl) (build_peace14 c n3 n81 n82 n131 n132 n14 s.client s.peer)) (by assumption) ?_
                      simp only [List.setIfInBounds_toArray, List.set_cons_zero, List.set_cons_succ]
                      refine wpAnyH_ready (rs := [17]) (by kernel_rfl) (by simp) ?_
                      refine AllReadyH.cons rfl (fun K hK => ?_) ?_
                      · refine step_row10 (by rfl) 38 _ _ rfl v (PTx.cells (peaceP c (some ⟨n3, 0, none⟩) (some ⟨n82, 0, none⟩) (some ⟨n81, 0, none⟩) (some ⟨n132, 0, none⟩) (some ⟨n131, 0, none⟩) (some ⟨n14, 0, none⟩) s.client s.peer)) (by rfl) (by rfl) 38 noTx.cells HV.out (tx_size zero32_len) rfl (PTx.one _) (fun y6 hh hb => ?_)
                        have HX := Lib.hid (But.in hHeld hb NV.out)
                        have D3 : Hid (Laid14 w7.heap.size y6 n3 (insO [fundP c])) := Lib.hid ⟨D3.out.new, (hb.block _ (lt_of_block D3.out.is) NV3.out).trans D3.out.is⟩
                        have DP : Hid (PeaceAt w7.heap.size y6 c s.client s.peer n81 n82 n131 n132 n14) := Lib.hid ⟨⟨⟨D8.out.ks.new, (hb.block _ (lt_of_block D8.out.ks.is) NV8.out.1).trans D8.out.ks.is⟩, ⟨D8.out.ws.new, (hb.block _ (lt_of_block D8.out.ws.is) NV8.out.2).trans D8.out.ws.is⟩⟩, ⟨⟨D13.out.ks.new, (hb.block _ (lt_of_block D13.out.ks.is) NV13.out.1).trans D13.out.ks.is⟩, ⟨D13.out.ws.new, (hb.block _ (lt_of_block D13.out.ws.is) NV13.out.2).trans D13.out.ws.is⟩⟩, ⟨D14.out.new, (hb.block _ (lt_of_block D14.out.is) NV14.out).trans D14.out.is⟩⟩
                        have HV := Lib.hid hh
                        clear hh hb
                        refine hK.out _ _ (by (try dsimp only); exact HX.out) (fun hHeld => ?_)
                        clear hK K
                        refine wpAnyH_done (by kernel_rfl) ?_ _
                        clear hHeld
                        go_wp2_with fail
                        go_meet
                        exact ⟨v, _, _, _, _, _, _, rfl, HV.out, peace_in14 D3.out DP.out HC.out HS.out.client HS.out.peer, HX.out⟩
                      exact AllReadyH.nil
                    exact AllReadyH.nil
                  exact AllReadyH.nil
                exact AllReadyH.nil
              refine AllReadyH.cons rfl (fun K hK => ?_) ?_
              · refine step_alloc10 (d := 11) rfl (by rfl) 38 rfl noTx.cells.toArray Tryd.zeroTx14 ?_
                intro v y2 hp hh hb
                have NV3 : Hid (n3 ≠ v) := Lib.hid (by have h8 := lt_of_block D3.out.is; omega)
                have D3 := Lib.hid (D3.out.keep hb)
                have HV := Lib.hid hh
                have NV : Hid (w7.heap.size ≤ v) := Lib.hid (Nat.le_trans (Below.size hHeld) hp)
                have HX := Lib.hid (bthen hHeld hb)
                clear hp hh hb
                refine hK.out _ _ (by (try dsimp only); exact HX.out) (fun hHeld => ?_)
                clear hK K
                refine wpAnyH_ready (rs := [8]) (by kernel_rfl) (by simp) ?_
                refine AllReadyH.cons rfl (fun K hK => ?_) ?_
                · have HCx := Lib.hid (fun (W : World) => to_at14 c.client s.client W)
                  go_simp
                  go_wp2_with ((go_at_call 11; (with_reducible refine (HCx.out _).mono ?_); rintro e y3 ⟨n81, n82, rfl, ha, hb⟩; have NV8 : Hid (n81 ≠ v ∧ n82 ≠ v) := Lib.hid (by have h8 := lt_of_block HV.out; have h6 := ha.ks.new; have h7 := ha.ws.new; exact ⟨by omega, by omega⟩); have D3 := Lib.hid (D3.out.keep hb); have HV := Lib.hid (keep hb HV.out); have D8 := Lib.hid (ha.old (Below.size hHeld)); have HX := Lib.hid (bthen hHeld hb); clear ha hb HCx))
                  refine hK.out _ _ (by (try dsimp only); exact HX.out) (fun hHeld => ?_)
                  clear hK K
                  refine wpAnyH_ready (rs := [13]) (by kernel_rfl) (by simp) ?_
                  refine AllReadyH.cons rfl (fun K hK => ?_) ?_
                  · have HCx := Lib.hid (fun (W : World) => to_at14 c.peer s.peer W)
                    go_simp
                    go_wp2_with ((go_at_call 11; (with_reducible refine (HCx.out _).mono ?_); rintro e y4 ⟨n131, n132, rfl, ha, hb⟩; have NV13 : Hid (n131 ≠ v ∧ n132 ≠ v) := Lib.hid (by have h8 := lt_of_block HV.out; have h6 := ha.ks.new; have h7 := ha.ws.new; exact ⟨by omega, by omega⟩); have D3 := Lib.hid (D3.out.keep hb); have D8 := Lib.hid (D8.out.keep hb); have HV := Lib.hid (keep hb HV.out); have D13 := Lib.hid (ha.old (Below.size hHeld)); have HX := Lib.hid (bthen hHeld hb); clear ha hb HCx))
                    refine hK.out _ _ (by (try dsimp only); exact HX.out) (fun hHeld => ?_)
                    clear hK K
                    refine wpAnyH_ready (rs := [14]) (by kernel_rfl) (by simp) ?_
                    refine AllReadyH.cons rfl (fun K hK => ?_) ?_
                    · refine step_lits Tryd.outAt14 (d := 77) rfl (by rfl) rfl [(herP (some ⟨n82, 0, none⟩) (some ⟨n81, 0, none⟩) c.client s.client), (herP (some ⟨n132, 0, none⟩) (some ⟨n131, 0, none⟩) c.peer s.peer)] rfl (by decide) (by decide) (by intro x hx; simp at hx; rcases hx with rfl | rfl; rfl; rfl) (by rfl) ?_
                      intro n14 y5 hp hh hb
                      have NV14 : Hid (n14 ≠ v) := Lib.hid (by have h8 := lt_of_block HV.out; omega)
                      have D3 := Lib.hid (D3.out.keep hb)
                      have D8 := Lib.hid (D8.out.keep hb)
                      have D13 := Lib.hid (D13.out.keep hb)
                      have HV := Lib.hid (keep hb HV.out)
                      have D14 : Hid (Laid14 w7.heap.size y5 n14 (outsO [(herP (some ⟨n82, 0, none⟩) (some ⟨n81, 0, none⟩) c.client s.client), (herP (some ⟨n132, 0, none⟩) (some ⟨n131, 0, none⟩) c.peer s.peer)])) := Lib.hid ⟨Nat.le_trans (Below.size hHeld) hp, hh⟩
                      have HX := Lib.hid (bthen hHeld hb)
                      clear hp hh hb
                      refine hK.out _ _ (by (try dsimp only); exact HX.out) (fun hHeld => ?_)
                      clear hK K
                      refine take_at (i := 15) rfl rfl (by kernel_rfl) (by kernel_rfl) (by kernel_rfl) (fun _ _ _ h => h) (yields_build10 (by rfl) rfl (vs := [(0, .slice (some ⟨n3, 0, none⟩) 1 1), (1, .slice (some ⟨n14, 0, none⟩) 2 2)]) (by rfl) (build_peace14 c n3 n81 n82 n131 n132 n14 s.client s.peer)) (by assumption) ?_
                      simp only [List.setIfInBounds_toArray, List.set_cons_zero, List.set_cons_succ]
                      refine wpAnyH_ready (rs := [17]) (by kernel_rfl) (by simp) ?_
                      refine AllReadyH.cons rfl (fun K hK => ?_) ?_
                      · refine step_row10 (by rfl) 38 _ _ rfl v (PTx.cells (peaceP c (some ⟨n3, 0, none⟩) (some ⟨n82, 0, none⟩) (some ⟨n81, 0, none⟩) (some ⟨n132, 0, none⟩) (some ⟨n131, 0, none⟩) (some ⟨n14, 0, none⟩) s.client s.peer)) (by rfl) (by rfl) 38 noTx.cells HV.out (tx_size zero32_len) rfl (PTx.one _) (fun y6 hh hb => ?_)
                        have HX := Lib.hid (But.in hHeld hb NV.out)
                        have D3 : Hid (Laid14 w7.heap.size y6 n3 (insO [fundP c])) := Lib.hid ⟨D3.out.new, (hb.block _ (lt_of_block D3.out.is) NV3.out).trans D3.out.is⟩
                        have DP : Hid (PeaceAt w7.heap.size y6 c s.client s.peer n81 n82 n131 n132 n14) := Lib.hid ⟨⟨⟨D8.out.ks.new, (hb.block _ (lt_of_block D8.out.ks.is) NV8.out.1).trans D8.out.ks.is⟩, ⟨D8.out.ws.new, (hb.block _ (lt_of_block D8.out.ws.is) NV8.out.2).trans D8.out.ws.is⟩⟩, ⟨⟨D13.out.ks.new, (hb.block _ (lt_of_block D13.out.ks.is) NV13.out.1).trans D13.out.ks.is⟩, ⟨D13.out.ws.new, (hb.block _ (lt_of_block D13.out.ws.is) NV13.out.2).trans D13.out.ws.is⟩⟩, ⟨D14.out.new, (hb.block _ (lt_of_block D14.out.is) NV14.out).trans D14.out.is⟩⟩
                        have HV := Lib.hid hh
                        clear hh hb
                        refine hK.out _ _ (by (try dsimp only); exact HX.out) (fun hHeld => ?_)
                        clear hK K
                        refine wpAnyH_done (by kernel_rfl) ?_ _
                        clear hHeld
                        go_wp2_with fail
                        go_meet
                        exact ⟨v, _, _, _, _, _, _, rfl, HV.out, peace_in14 D3.out DP.out HC.out HS.out.client HS.out.peer, HX.out⟩
                      exact AllReadyH.nil
                    exact AllReadyH.nil
                  exact AllReadyH.nil
                exact AllReadyH.nil
              exact AllReadyH.nil
            refine AllReadyH.cons rfl (fun K hK => ?_) ?_
            · have HCx := Lib.hid (fun (W : World) => to_at14 c.client s.client W)
              go_simp
              go_wp2_with ((go_at_call 11; (with_reducible refine (HCx.out _).mono ?_); rintro e y1 ⟨n81, n82, rfl, ha, hb⟩; have D8 := Lib.hid (ha.old (Below.size hHeld)); have HX := Lib.hid (bthen hHeld hb); clear ha hb HCx))
              refine hK.out _ _ (by (try dsimp only); exact HX.out) (fun hHeld => ?_)
              clear hK K
              refine wpAnyH_ready (rs := [3, 13, 16]) (by kernel_rfl) (by simp) ?_
              refine AllReadyH.cons rfl (fun K hK => ?_) ?_
              · refine step_lits Tryd.inAt14 (d := 66) rfl (by rfl) rfl [fundP c] rfl (by decide) (by decide) (by intro x hx; simp at hx; subst hx; exact PIn.len HC.out.ftx) (by rfl) ?_
                intro n3 y2 hp hh hb
                have D8 := Lib.hid (D8.out.keep hb)
                have D3 : Hid (Laid14 w7.heap.size y2 n3 (insO [fundP c])) := Lib.hid ⟨Nat.le_trans (Below.size hHeld) hp, hh⟩
                have HX := Lib.hid (bthen hHeld hb)
                clear hp hh hb
                refine hK.out _ _ (by (try dsimp only); exact HX.out) (fun hHeld => ?_)
                clear hK K
                refine wpAnyH_ready (rs := [13, 16]) (by kernel_rfl) (by simp) ?_
                refine AllReadyH.cons rfl (fun K hK => ?_) ?_
                · have HCx := Lib.hid (fun (W : World) => to_at14 c.peer s.peer W)
                  go_simp
                  go_wp2_with ((go_at_call 11; (with_reducible refine (HCx.out _).mono ?_); rintro e y3 ⟨n131, n132, rfl, ha, hb⟩; have D8 := Lib.hid (D8.out.keep hb); have D3 := Lib.hid (D3.out.keep hb); have D13 := Lib.hid (ha.old (Below.size hHeld)); have HX := Lib.hid (bthen hHeld hb); clear ha hb HCx))
                  refine hK.out _ _ (by (try dsimp only); exact HX.out) (fun hHeld => ?_)
                  clear hK K
                  refine wpAnyH_ready (rs := [14, 16]) (by kernel_rfl) (by simp) ?_
                  refine AllReadyH.cons rfl (fun K hK => ?_) ?_
                  · refine step_lits Tryd.outAt14 (d := 77) rfl (by rfl) rfl [(herP (some ⟨n82, 0, none⟩) (some ⟨n81, 0, none⟩) c.client s.client), (herP (some ⟨n132, 0, none⟩) (some ⟨n131, 0, none⟩) c.peer s.peer)] rfl (by decide) (by decide) (by intro x hx; simp at hx; rcases hx with rfl | rfl; rfl; rfl) (by rfl) ?_
                    intro n14 y4 hp hh hb
                    have D8 := Lib.hid (D8.out.keep hb)
                    have D3 := Lib.hid (D3.out.keep hb)
                    have D13 := Lib.hid (D13.out.keep hb)
                    have D14 : Hid (Laid14 w7.heap.size y4 n14 (outsO [(herP (some ⟨n82, 0, none⟩) (some ⟨n81, 0, none⟩) c.client s.client), (herP (some ⟨n132, 0, none⟩) (some ⟨n131, 0, none⟩) c.peer s.peer)])) := Lib.hid ⟨Nat.le_trans (Below.size hHeld) hp, hh⟩
                    have HX := Lib.hid (bthen hHeld hb)
                    clear hp hh hb
                    refine hK.out _ _ (by (try dsimp only); exact HX.out) (fun hHeld => ?_)
                    clear hK K
                    refine take_at (i := 15) rfl rfl (by kernel_rfl) (by kernel_rfl) (by kernel_rfl) (fun _ _ _ h => h) (yields_build10 (by rfl) rfl (vs := [(0, .slice (some ⟨n3, 0, none⟩) 1 1), (1, .slice (some ⟨n14, 0, none⟩) 2 2)]) (by rfl) (build_peace14 c n3 n81 n82 n131 n132 n14 s.client s.peer)) (by assumption) ?_
                    simp only [List.setIfInBounds_toArray, List.set_cons_zero, List.set_cons_succ]
                    refine wpAnyH_ready (rs := [16]) (by kernel_rfl) (by simp) ?_
                    refine AllReadyH.cons rfl (fun K hK => ?_) ?_
                    · refine step_alloc10 (d := 11) rfl (by rfl) 38 rfl noTx.cells.toArray Tryd.zeroTx14 ?_
                      intro v y5 hp hh hb
                      have NV8 : Hid (n81 ≠ v ∧ n82 ≠ v) := Lib.hid (by have h8 := lt_of_block D8.out.ks.is; have h7 := lt_of_block D8.out.ws.is; exact ⟨by omega, by omega⟩)
                      have NV3 : Hid (n3 ≠ v) := Lib.hid (by have h8 := lt_of_block D3.out.is; omega)
                      have NV13 : Hid (n131 ≠ v ∧ n132 ≠ v) := Lib.hid (by have h8 := lt_of_block D13.out.ks.is; have h7 := lt_of_block D13.out.ws.is; exact ⟨by omega, by omega⟩)
                      have NV14 : Hid (n14 ≠ v) := Lib.hid (by have h8 := lt_of_block D14.out.is; omega)
                      have D8 := Lib.hid (D8.out.keep hb)
                      have D3 := Lib.hid (D3.out.keep hb)
                      have D13 := Lib.hid (D13.out.keep hb)
                      have D14 := Lib.hid (D14.out.keep hb)
                      have HV := Lib.hid hh
                      have NV : Hid (w7.heap.size ≤ v) := Lib.hid (Nat.le_trans (Below.size hHeld) hp)
                      have HX := Lib.hid (bthen hHeld hb)
                      clear hp hh hb
                      refine hK.out _ _ (by (try dsimp only); exact HX.out) (fun hHeld => ?_)
                      clear hK K
                      refine wpAnyH_ready (rs := [17]) (by kernel_rfl) (by simp) ?_
                      refine AllReadyH.cons rfl (fun K hK => ?_) ?_
                      · refine step_row10 (by rfl) 38 _ _ rfl v (PTx.cells (peaceP c (some ⟨n3, 0, none⟩) (some ⟨n82, 0, none⟩) (some ⟨n81, 0, none⟩) (some ⟨n132, 0, none⟩) (some ⟨n131, 0, none⟩) (some ⟨n14, 0, none⟩) s.client s.peer)) (by rfl) (by rfl) 38 noTx.cells HV.out (tx_size zero32_len) rfl (PTx.one _) (fun y6 hh hb => ?_)
                        have HX := Lib.hid (But.in hHeld hb NV.out)
                        have D3 : Hid (Laid14 w7.heap.size y6 n3 (insO [fundP c])) := Lib.hid ⟨D3.out.new, (hb.block _ (lt_of_block D3.out.is) NV3.out).trans D3.out.is⟩
                        have DP : Hid (PeaceAt w7.heap.size y6 c s.client s.peer n81 n82 n131 n132 n14) := Lib.hid ⟨⟨⟨D8.out.ks.new, (hb.block _ (lt_of_block D8.out.ks.is) NV8.out.1).trans D8.out.ks.is⟩, ⟨D8.out.ws.new, (hb.block _ (lt_of_block D8.out.ws.is) NV8.out.2).trans D8.out.ws.is⟩⟩, ⟨⟨D13.out.ks.new, (hb.block _ (lt_of_block D13.out.ks.is) NV13.out.1).trans D13.out.ks.is⟩, ⟨D13.out.ws.new, (hb.block _ (lt_of_block D13.out.ws.is) NV13.out.2).trans D13.out.ws.is⟩⟩, ⟨D14.out.new, (hb.block _ (lt_of_block D14.out.is) NV14.out).trans D14.out.is⟩⟩
                        have HV := Lib.hid hh
                        clear hh hb
                        refine hK.out _ _ (by (try dsimp only); exact HX.out) (fun hHeld => ?_)
                        clear hK K
                        refine wpAnyH_done (by kernel_rfl) ?_ _
                        clear hHeld
                        go_wp2_with fail
                        go_meet
                        exact ⟨v, _, _, _, _, _, _, rfl, HV.out, peace_in14 D3.out DP.out HC.out HS.out.client HS.out.peer, HX.out⟩
                      exact AllReadyH.nil
                    exact AllReadyH.nil
                  refine AllReadyH.cons rfl (fun K hK => ?_) ?_
                  · refine step_alloc10 (d := 11) rfl (by rfl) 38 rfl noTx.cells.toArray Tryd.zeroTx14 ?_
                    intro v y4 hp hh hb
                    have NV8 : Hid (n81 ≠ v ∧ n82 ≠ v) := Lib.hid (by have h8 := lt_of_block D8.out.ks.is; have h7 := lt_of_block D8.out.ws.is; exact ⟨by omega, by omega⟩)
                    have NV3 : Hid (n3 ≠ v) := Lib.hid (by have h8 := lt_of_block D3.out.is; omega)
                    have NV13 : Hid (n131 ≠ v ∧ n132 ≠ v) := Lib.hid (by have h8 := lt_of_block D13.out.ks.is; have h7 := lt_of_block D13.out.ws.is; exact ⟨by omega, by omega⟩)
                    have D8 := Lib.hid (D8.out.keep hb)
                    have D3 := Lib.hid (D3.out.keep hb)
                    have D13 := Lib.hid (D13.out.keep hb)
                    have HV := Lib.hid hh
                    have NV : Hid (w7.heap.size ≤ v) := Lib.hid (Nat.le_trans (Below.size hHeld) hp)
                    have HX := Lib.hid (bthen hHeld hb)
                    clear hp hh hb
                    refine hK.out _ _ (by (try dsimp only); exact HX.out) (fun hHeld => ?_)
                    clear hK K
                    refine wpAnyH_ready (rs := [14]) (by kernel_rfl) (by simp) ?_
                    refine AllReadyH.cons rfl (fun K hK => ?_) ?_
                    · refine step_lits Tryd.outAt14 (d := 77) rfl (by rfl) rfl [(herP (some ⟨n82, 0, none⟩) (some ⟨n81, 0, none⟩) c.client s.client), (herP (some ⟨n132, 0, none⟩) (some ⟨n131, 0, none⟩) c.peer s.peer)] rfl (by decide) (by decide) (by intro x hx; simp at hx; rcases hx with rfl | rfl; rfl; rfl) (by rfl) ?_
                      intro n14 y5 hp hh hb
                      have NV14 : Hid (n14 ≠ v) := Lib.hid (by have h8 := lt_of_block HV.out; omega)
                      have D8 := Lib.hid (D8.out.keep hb)
                      have D3 := Lib.hid (D3.out.keep hb)
                      have D13 := Lib.hid (D13.out.keep hb)
                      have HV := Lib.hid (keep hb HV.out)
                      have D14 : Hid (Laid14 w7.heap.size y5 n14 (outsO [(herP (some ⟨n82, 0, none⟩) (some ⟨n81, 0, none⟩) c.client s.client), (herP (some ⟨n132, 0, none⟩) (some ⟨n131, 0, none⟩) c.peer s.peer)])) := Lib.hid ⟨Nat.le_trans (Below.size hHeld) hp, hh⟩
                      have HX := Lib.hid (bthen hHeld hb)
                      clear hp hh hb
                      refine hK.out _ _ (by (try dsimp only); exact HX.out) (fun hHeld => ?_)
                      clear hK K
                      refine take_at (i := 15) rfl rfl (by kernel_rfl) (by kernel_rfl) (by kernel_rfl) (fun _ _ _ h => h) (yields_build10 (by rfl) rfl (vs := [(0, .slice (some ⟨n3, 0, none⟩) 1 1), (1, .slice (some ⟨n14, 0, none⟩) 2 2)]) (by rfl) (build_peace14 c n3 n81 n82 n131 n132 n14 s.client s.peer)) (by assumption) ?_
                      simp only [List.setIfInBounds_toArray, List.set_cons_zero, List.set_cons_succ]
                      refine wpAnyH_ready (rs := [17]) (by kernel_rfl) (by simp) ?_
                      refine AllReadyH.cons rfl (fun K hK => ?_) ?_
                      · refine step_row10 (by rfl) 38 _ _ rfl v (PTx.cells (peaceP c (some ⟨n3, 0, none⟩) (some ⟨n82, 0, none⟩) (some ⟨n81, 0, none⟩) (some ⟨n132, 0, none⟩) (some ⟨n131, 0, none⟩) (some ⟨n14, 0, none⟩) s.client s.peer)) (by rfl) (by rfl) 38 noTx.cells HV.out (tx_size zero32_len) rfl (PTx.one _) (fun y6 hh hb => ?_)
                        have HX := Lib.hid (But.in hHeld hb NV.out)
                        have D3 : Hid (Laid14 w7.heap.size y6 n3 (insO [fundP c])) := Lib.hid ⟨D3.out.new, (hb.block _ (lt_of_block D3.out.is) NV3.out).trans D3.out.is⟩
                        have DP : Hid (PeaceAt w7.heap.size y6 c s.client s.peer n81 n82 n131 n132 n14) := Lib.hid ⟨⟨⟨D8.out.ks.new, (hb.block _ (lt_of_block D8.out.ks.is) NV8.out.1).trans D8.out.ks.is⟩, ⟨D8.out.ws.new, (hb.block _ (lt_of_block D8.out.ws.is) NV8.out.2).trans D8.out.ws.is⟩⟩, ⟨⟨D13.out.ks.new, (hb.block _ (lt_of_block D13.out.ks.is) NV13.out.1).trans D13.out.ks.is⟩, ⟨D13.out.ws.new, (hb.block _ (lt_of_block D13.out.ws.is) NV13.out.2).trans D13.out.ws.is⟩⟩, ⟨D14.out.new, (hb.block _ (lt_of_block D14.out.is) NV14.out).trans D14.out.is⟩⟩
                        have HV := Lib.hid hh
                        clear hh hb
                        refine hK.out _ _ (by (try dsimp only); exact HX.out) (fun hHeld => ?_)
                        clear hK K
                        refine wpAnyH_done (by kernel_rfl) ?_ _
                        clear hHeld
                        go_wp2_with fail
                        go_meet
                        exact ⟨v, _, _, _, _, _, _, rfl, HV.out, peace_in14 D3.out DP.out HC.out HS.out.client HS.out.peer, HX.out⟩
                      exact AllReadyH.nil
                    exact AllReadyH.nil
                  exact AllReadyH.nil
                refine AllReadyH.cons rfl (fun K hK => ?_) ?_
                · refine step_alloc10 (d := 11) rfl (by rfl) 38 rfl noTx.cells.toArray Tryd.zeroTx14 ?_
                  intro v y3 hp hh hb
                  have NV8 : Hid (n81 ≠ v ∧ n82 ≠ v) := Lib.hid (by have h8 := lt_of_block D8.out.ks.is; have h7 := lt_of_block D8.out.ws.is; exact ⟨by omega, by omega⟩)
                  have NV3 : Hid (n3 ≠ v) := Lib.hid (by have h8 := lt_of_block D3.out.is; omega)
                  have D8 := Lib.hid (D8.out.keep hb)
                  have D3 := Lib.hid (D3.out.keep hb)
                  have HV := Lib.hid hh
                  have NV : Hid (w7.heap.size ≤ v) := Lib.hid (Nat.le_trans (Below.size hHeld) hp)
                  have HX := Lib.hid (bthen hHeld hb)
                  clear hp hh hb
                  refine hK.out _ _ (by (try dsimp only); exact HX.out) (fun hHeld => ?_)
                  clear hK K
                  refine wpAnyH_ready (rs := [13]) (by kernel_rfl) (by simp) ?_
                  refine AllReadyH.cons rfl (fun K hK => ?_) ?_
                  · have HCx := Lib.hid (fun (W : World) => to_at14 c.peer s.peer W)
                    go_simp
                    go_wp2_with ((go_at_call 11; (with_reducible refine (HCx.out _).mono ?_); rintro e y4 ⟨n131, n132, rfl, ha, hb⟩; have NV13 : Hid (n131 ≠ v ∧ n132 ≠ v) := Lib.hid (by have h8 := lt_of_block HV.out; have h6 := ha.ks.new; have h7 := ha.ws.new; exact ⟨by omega, by omega⟩); have D8 := Lib.hid (D8.out.keep hb); have D3 := Lib.hid (D3.out.keep hb); have HV := Lib.hid (keep hb HV.out); have D13 := Lib.hid (ha.old (Below.size hHeld)); have HX := Lib.hid (bthen hHeld hb); clear ha hb HCx))
                    refine hK.out _ _ (by (try dsimp only); exact HX.out) (fun hHeld => ?_)
                    clear hK K
                    refine wpAnyH_ready (rs := [14]) (by kernel_rfl) (by simp) ?_
                    refine AllReadyH.cons rfl (fun K hK => ?_) ?_
                    · refine step_lits Tryd.outAt14 (d := 77) rfl (by rfl) rfl [(herP (some ⟨n82, 0, none⟩) (some ⟨n81, 0, none⟩) c.client s.client), (herP (some ⟨n132, 0, none⟩) (some ⟨n131, 0, none⟩) c.peer s.peer)] rfl (by decide) (by decide) (by intro x hx; simp at hx; rcases hx with rfl | rfl; rfl; rfl) (by rfl) ?_
                      intro n14 y5 hp hh hb
                      have NV14 : Hid (n14 ≠ v) := Lib.hid (by have h8 := lt_of_block HV.out; omega)
                      have D8 := Lib.hid (D8.out.keep hb)
                      have D3 := Lib.hid (D3.out.keep hb)
                      have D13 := Lib.hid (D13.out.keep hb)
                      have HV := Lib.hid (keep hb HV.out)
                      have D14 : Hid (Laid14 w7.heap.size y5 n14 (outsO [(herP (some ⟨n82, 0, none⟩) (some ⟨n81, 0, none⟩) c.client s.client), (herP (some ⟨n132, 0, none⟩) (some ⟨n131, 0, none⟩) c.peer s.peer)])) := Lib.hid ⟨Nat.le_trans (Below.size hHeld) hp, hh⟩
                      have HX := Lib.hid (bthen hHeld hb)
                      clear hp hh hb
                      refine hK.out _ _ (by (try dsimp only); exact HX.out) (fun hHeld => ?_)
                      clear hK K
                      refine take_at (i := 15) rfl rfl (by kernel_rfl) (by kernel_rfl) (by kernel_rfl) (fun _ _ _ h => h) (yields_build10 (by rfl) rfl (vs := [(0, .slice (some ⟨n3, 0, none⟩) 1 1), (1, .slice (some ⟨n14, 0, none⟩) 2 2)]) (by rfl) (build_peace14 c n3 n81 n82 n131 n132 n14 s.client s.peer)) (by assumption) ?_
                      simp only [List.setIfInBounds_toArray, List.set_cons_zero, List.set_cons_succ]
                      refine wpAnyH_ready (rs := [17]) (by kernel_rfl) (by simp) ?_
                      refine AllReadyH.cons rfl (fun K hK => ?_) ?_
                      · refine step_row10 (by rfl) 38 _ _ rfl v (PTx.cells (peaceP c (some ⟨n3, 0, none⟩) (some ⟨n82, 0, none⟩) (some ⟨n81, 0, none⟩) (some ⟨n132, 0, none⟩) (some ⟨n131, 0, none⟩) (some ⟨n14, 0, none⟩) s.client s.peer)) (by rfl) (by rfl) 38 noTx.cells HV.out (tx_size zero32_len) rfl (PTx.one _) (fun y6 hh hb => ?_)
                        have HX := Lib.hid (But.in hHeld hb NV.out)
                        have D3 : Hid (Laid14 w7.heap.size y6 n3 (insO [fundP c])) := Lib.hid ⟨D3.out.new, (hb.block _ (lt_of_block D3.out.is) NV3.out).trans D3.out.is⟩
                        have DP : Hid (PeaceAt w7.heap.size y6 c s.client s.peer n81 n82 n131 n132 n14) := Lib.hid ⟨⟨⟨D8.out.ks.new, (hb.block _ (lt_of_block D8.out.ks.is) NV8.out.1).trans D8.out.ks.is⟩, ⟨D8.out.ws.new, (hb.block _ (lt_of_block D8.out.ws.is) NV8.out.2).trans D8.out.ws.is⟩⟩, ⟨⟨D13.out.ks.new, (hb.block _ (lt_of_block D13.out.ks.is) NV13.out.1).trans D13.out.ks.is⟩, ⟨D13.out.ws.new, (hb.block _ (lt_of_block D13.out.ws.is) NV13.out.2).trans D13.out.ws.is⟩⟩, ⟨D14.out.new, (hb.block _ (lt_of_block D14.out.is) NV14.out).trans D14.out.is⟩⟩
                        have HV := Lib.hid hh
                        clear hh hb
                        refine hK.out _ _ (by (try dsimp only); exact HX.out) (fun hHeld => ?_)
                        clear hK K
                        refine wpAnyH_done (by kernel_rfl) ?_ _
                        clear hHeld
                        go_wp2_with fail
                        go_meet
                        exact ⟨v, _, _, _, _, _, _, rfl, HV.out, peace_in14 D3.out DP.out HC.out HS.out.client HS.out.peer, HX.out⟩
                      exact AllReadyH.nil
                    exact AllReadyH.nil
                  exact AllReadyH.nil
                exact AllReadyH.nil
              refine AllReadyH.cons rfl (fun K hK => ?_) ?_
              · have HCx := Lib.hid (fun (W : World) => to_at14 c.peer s.peer W)
                go_simp
                go_wp2_with ((go_at_call 11; (with_reducible refine (HCx.out _).mono ?_); rintro e y2 ⟨n131, n132, rfl, ha, hb⟩; have D8 := Lib.hid (D8.out.keep hb); have D13 := Lib.hid (ha.old (Below.size hHeld)); have HX := Lib.hid (bthen hHeld hb); clear ha hb HCx))
                refine hK.out _ _ (by (try dsimp only); exact HX.out) (fun hHeld => ?_)
                clear hK K
                refine wpAnyH_ready (rs := [3, 14, 16]) (by kernel_rfl) (by simp) ?_
                refine AllReadyH.cons rfl (fun K hK => ?_) ?_
                · refine step_lits Tryd.inAt14 (d := 66) rfl (by rfl) rfl [fundP c] rfl (by decide) (by decide) (by intro x hx; simp at hx; subst hx; exact PIn.len HC.out.ftx) (by rfl) ?_
                  intro n3 y3 hp hh hb
                  have D8 := Lib.hid (D8.out.keep hb)
                  have D13 := Lib.hid (D13.out.keep hb)
                  have D3 : Hid (Laid14 w7.heap.size y3 n3 (insO [fundP c])) := Lib.hid ⟨Nat.le_trans (Below.size hHeld) hp, hh⟩
                  have HX := Lib.hid (bthen hHeld hb)
                  clear hp hh hb
                  refine hK.out _ _ (by (try dsimp only); exact HX.out) (fun hHeld => ?_)
                  clear hK K
                  refine wpAnyH_ready (rs := [14, 16]) (by kernel_rfl) (by simp) ?_
                  refine AllReadyH.cons rfl (fun K hK => ?_) ?_
                  · refine step_lits Tryd.outAt14 (d := 77) rfl (by rfl) rfl [(herP (some ⟨n82, 0, none⟩) (some ⟨n81, 0, none⟩) c.client s.client), (herP (some ⟨n132, 0, none⟩) (some ⟨n131, 0, none⟩) c.peer s.peer)] rfl (by decide) (by decide) (by intro x hx; simp at hx; rcases hx with rfl | rfl; rfl; rfl) (by rfl) ?_
                    intro n14 y4 hp hh hb
                    have D8 := Lib.hid (D8.out.keep hb)
                    have D13 := Lib.hid (D13.out.keep hb)
                    have D3 := Lib.hid (D3.out.keep hb)
                    have D14 : Hid (Laid14 w7.heap.size y4 n14 (outsO [(herP (some ⟨n82, 0, none⟩) (some ⟨n81, 0, none⟩) c.client s.client), (herP (some ⟨n132, 0, none⟩) (some ⟨n131, 0, none⟩) c.peer s.peer)])) := Lib.hid ⟨Nat.le_trans (Below.size hHeld) hp, hh⟩
                    have HX := Lib.hid (bthen hHeld hb)
                    clear hp hh hb
                    refine hK.out _ _ (by (try dsimp only); exact HX.out) (fun hHeld => ?_)
                    clear hK K
                    refine take_at (i := 15) rfl rfl (by kernel_rfl) (by kernel_rfl) (by kernel_rfl) (fun _ _ _ h => h) (yields_build10 (by rfl) rfl (vs := [(0, .slice (some ⟨n3, 0, none⟩) 1 1), (1, .slice (some ⟨n14, 0, none⟩) 2 2)]) (by rfl) (build_peace14 c n3 n81 n82 n131 n132 n14 s.client s.peer)) (by assumption) ?_
                    simp only [List.setIfInBounds_toArray, List.set_cons_zero, List.set_cons_succ]
                    refine wpAnyH_ready (rs := [16]) (by kernel_rfl) (by simp) ?_
                    refine AllReadyH.cons rfl (fun K hK => ?_) ?_
                    · refine step_alloc10 (d := 11) rfl (by rfl) 38 rfl noTx.cells.toArray Tryd.zeroTx14 ?_
                      intro v y5 hp hh hb
                      have NV8 : Hid (n81 ≠ v ∧ n82 ≠ v) := Lib.hid (by have h8 := lt_of_block D8.out.ks.is; have h7 := lt_of_block D8.out.ws.is; exact ⟨by omega, by omega⟩)
                      have NV13 : Hid (n131 ≠ v ∧ n132 ≠ v) := Lib.hid (by have h8 := lt_of_block D13.out.ks.is; have h7 := lt_of_block D13.out.ws.is; exact ⟨by omega, by omega⟩)
                      have NV3 : Hid (n3 ≠ v) := Lib.hid (by have h8 := lt_of_block D3.out.is; omega)
                      have NV14 : Hid (n14 ≠ v) := Lib.hid (by have h8 := lt_of_block D14.out.is; omega)
                      have D8 := Lib.hid (D8.out.keep hb)
                      have D13 := Lib.hid (D13.out.keep hb)
                      have D3 := Lib.hid (D3.out.keep hb)
                      have D14 := Lib.hid (D14.out.keep hb)
                      have HV := Lib.hid hh
                      have NV : Hid (w7.heap.size ≤ v) := Lib.hid (Nat.le_trans (Below.size hHeld) hp)
                      have HX := Lib.hid (bthen hHeld hb)
                      clear hp hh hb
                      refine hK.out _ _ (by (try dsimp only); exact HX.out) (fun hHeld => ?_)
                      clear hK K
                      refine wpAnyH_ready (rs := [17]) (by kernel_rfl) (by simp) ?_
                      refine AllReadyH.cons rfl (fun K hK => ?_) ?_
                      · refine step_row10 (by rfl) 38 _ _ rfl v (PTx.cells (peaceP c (some ⟨n3, 0, none⟩) (some ⟨n82, 0, none⟩) (some ⟨n81, 0, none⟩) (some ⟨n132, 0, none⟩) (some ⟨n131, 0, none⟩) (some ⟨n14, 0, none⟩) s.client s.peer)) (by rfl) (by rfl) 38 noTx.cells HV.out (tx_size zero32_len) rfl (PTx.one _) (fun y6 hh hb => ?_)
                        have HX := Lib.hid (But.in hHeld hb NV.out)
                        have D3 : Hid (Laid14 w7.heap.size y6 n3 (insO [fundP c])) := Lib.hid ⟨D3.out.new, (hb.block _ (lt_of_block D3.out.is) NV3.out).trans D3.out.is⟩
                        have DP : Hid (PeaceAt w7.heap.size y6 c s.client s.peer n81 n82 n131 n132 n14) := Lib.hid ⟨⟨⟨D8.out.ks.new, (hb.block _ (lt_of_block D8.out.ks.is) NV8.out.1).trans D8.out.ks.is⟩, ⟨D8.out.ws.new, (hb.block _ (lt_of_block D8.out.ws.is) NV8.out.2).trans D8.out.ws.is⟩⟩, ⟨⟨D13.out.ks.new, (hb.block _ (lt_of_block D13.out.ks.is) NV13.out.1).trans D13.out.ks.is⟩, ⟨D13.out.ws.new, (hb.block _ (lt_of_block D13.out.ws.is) NV13.out.2).trans D13.out.ws.is⟩⟩, ⟨D14.out.new, (hb.block _ (lt_of_block D14.out.is) NV14.out).trans D14.out.is⟩⟩
                        have HV := Lib.hid hh
                        clear hh hb
                        refine hK.out _ _ (by (try dsimp only); exact HX.out) (fun hHeld => ?_)
                        clear hK K
                        refine wpAnyH_done (by kernel_rfl) ?_ _
                        clear hHeld
                        go_wp2_with fail
                        go_meet
                        exact ⟨v, _, _, _, _, _, _, rfl, HV.out, peace_in14 D3.out DP.out HC.out HS.out.client HS.out.peer, HX.out⟩
                      exact AllReadyH.nil
                    exact AllReadyH.nil
                  refine AllReadyH.cons rfl (fun K hK => ?_) ?_
                  · refine step_alloc10 (d := 11) rfl (by rfl) 38 rfl noTx.cells.toArray Tryd.zeroTx14 ?_
                    intro v y4 hp hh hb
                    have NV8 : Hid (n81 ≠ v ∧ n82 ≠ v) := Lib.hid (by have h8 := lt_of_block D8.out.ks.is; have h7 := lt_of_block D8.out.ws.is; exact ⟨by omega, by omega⟩)
                    have NV13 : Hid (n131 ≠ v ∧ n132 ≠ v) := Lib.hid (by have h8 := lt_of_block D13.out.ks.is; have h7 := lt_of_block D13.out.ws.is; exact ⟨by omega, by omega⟩)
                    have NV3 : Hid (n3 ≠ v) := Lib.hid (by have h8 := lt_of_block D3.out.is; omega)
                    have D8 := Lib.hid (D8.out.keep hb)
                    have D13 := Lib.hid (D13.out.keep hb)
                    have D3 := Lib.hid (D3.out.keep hb)
                    have HV := Lib.hid hh
                    have NV : Hid (w7.heap.size ≤ v) := Lib.hid (Nat.le_trans (Below.size hHeld) hp)
                    have HX := Lib.hid (bthen hHeld hb)
                    clear hp hh hb
                    refine hK.out _ _ (by (try dsimp only); exact HX.out) (fun hHeld => ?_)
                    clear hK K
                    refine wpAnyH_ready (rs := [14]) (by kernel_rfl) (by simp) ?_
                    refine AllReadyH.cons rfl (fun K hK => ?_) ?_
                    · refine step_lits Tryd.outAt14 (d := 77) rfl (by rfl) rfl [(herP (some ⟨n82, 0, none⟩) (some ⟨n81, 0, none⟩) c.client s.client), (herP (some ⟨n132, 0, none⟩) (some ⟨n131, 0, none⟩) c.peer s.peer)] rfl (by decide) (by decide) (by intro x hx; simp at hx; rcases hx with rfl | rfl; rfl; rfl) (by rfl) ?_
                      intro n14 y5 hp hh hb
                      have NV14 : Hid (n14 ≠ v) := Lib.hid (by have h8 := lt_of_block HV.out; omega)
                      have D8 := Lib.hid (D8.out.keep hb)
                      have D13 := Lib.hid (D13.out.keep hb)
                      have D3 := Lib.hid (D3.out.keep hb)
                      have HV := Lib.hid (keep hb HV.out)
                      have D14 : Hid (Laid14 w7.heap.size y5 n14 (outsO [(herP (some ⟨n82, 0, none⟩) (some ⟨n81, 0, none⟩) c.client s.client), (herP (some ⟨n132, 0, none⟩) (some ⟨n131, 0, none⟩) c.peer s.peer)])) := Lib.hid ⟨Nat.le_trans (Below.size hHeld) hp, hh⟩
                      have HX := Lib.hid (bthen hHeld hb)
                      clear hp hh hb
                      refine hK.out _ _ (by (try dsimp only); exact HX.out) (fun hHeld => ?_)
                      clear hK K
                      refine take_at (i := 15) rfl rfl (by kernel_rfl) (by kernel_rfl) (by kernel_rfl) (fun _ _ _ h => h) (yields_build10 (by rfl) rfl (vs := [(0, .slice (some ⟨n3, 0, none⟩) 1 1), (1, .slice (some ⟨n14, 0, none⟩) 2 2)]) (by rfl) (build_peace14 c n3 n81 n82 n131 n132 n14 s.client s.peer)) (by assumption) ?_
                      simp only [List.setIfInBounds_toArray, List.set_cons_zero, List.set_cons_succ]
                      refine wpAnyH_ready (rs := [17]) (by kernel_rfl) (by simp) ?_
                      refine AllReadyH.cons rfl (fun K hK => ?_) ?_
                      · refine step_row10 (by rfl) 38 _ _ rfl v (PTx.cells (peaceP c (some ⟨n3, 0, none⟩) (some ⟨n82, 0, none⟩) (some ⟨n81, 0, none⟩) (some ⟨n132, 0, none⟩) (some ⟨n131, 0, none⟩) (some ⟨n14, 0, none⟩) s.client s.peer)) (by rfl) (by rfl) 38 noTx.cells HV.out (tx_size zero32_len) rfl (PTx.one _) (fun y6 hh hb => ?_)
                        have HX := Lib.hid (But.in hHeld hb NV.out)
                        have D3 : Hid (Laid14 w7.heap.size y6 n3 (insO [fundP c])) := Lib.hid ⟨D3.out.new, (hb.block _ (lt_of_block D3.out.is) NV3.out).trans D3.out.is⟩
                        have DP : Hid (PeaceAt w7.heap.size y6 c s.client s.peer n81 n82 n131 n132 n14) := Lib.hid ⟨⟨⟨D8.out.ks.new, (hb.block _ (lt_of_block D8.out.ks.is) NV8.out.1).trans D8.out.ks.is⟩, ⟨D8.out.ws.new, (hb.block _ (lt_of_block D8.out.ws.is) NV8.out.2).trans D8.out.ws.is⟩⟩, ⟨⟨D13.out.ks.new, (hb.block _ (lt_of_block D13.out.ks.is) NV13.out.1).trans D13.out.ks.is⟩, ⟨D13.out.ws.new, (hb.block _ (lt_of_block D13.out.ws.is) NV13.out.2).trans D13.out.ws.is⟩⟩, ⟨D14.out.new, (hb.block _ (lt_of_block D14.out.is) NV14.out).trans D14.out.is⟩⟩
                        have HV := Lib.hid hh
                        clear hh hb
                        refine hK.out _ _ (by (try dsimp only); exact HX.out) (fun hHeld => ?_)
                        clear hK K
                        refine wpAnyH_done (by kernel_rfl) ?_ _
                        clear hHeld
                        go_wp2_with fail
                        go_meet
                        exact ⟨v, _, _, _, _, _, _, rfl, HV.out, peace_in14 D3.out DP.out HC.out HS.out.client HS.out.peer, HX.out⟩
                      exact AllReadyH.nil
                    exact AllReadyH.nil
                  exact AllReadyH.nil
                refine AllReadyH.cons rfl (fun K hK => ?_) ?_
                · refine step_lits Tryd.outAt14 (d := 77) rfl (by rfl) rfl [(herP (some ⟨n82, 0, none⟩) (some ⟨n81, 0, none⟩) c.client s.client), (herP (some ⟨n132, 0, none⟩) (some ⟨n131, 0, none⟩) c.peer s.peer)] rfl (by decide) (by decide) (by intro x hx; simp at hx; rcases hx with rfl | rfl; rfl; rfl) (by rfl) ?_
                  intro n14 y3 hp hh hb
                  have D8 := Lib.hid (D8.out.keep hb)
                  have D13 := Lib.hid (D13.out.keep hb)
                  have D14 : Hid (Laid14 w7.heap.size y3 n14 (outsO [(herP (some ⟨n82, 0, none⟩) (some ⟨n81, 0, none⟩) c.client s.client), (herP (some ⟨n132, 0, none⟩) (some ⟨n131, 0, none⟩) c.peer s.peer)])) := Lib.hid ⟨Nat.le_trans (Below.size hHeld) hp, hh⟩
                  have HX := Lib.hid (bthen hHeld hb)
                  clear hp hh hb
                  refine hK.out _ _ (by (try dsimp only); exact HX.out) (fun hHeld => ?_)
                  clear hK K
                  refine wpAnyH_ready (rs := [3, 16]) (by kernel_rfl) (by simp) ?_
                  refine AllReadyH.cons rfl (fun K hK => ?_) ?_
                  · refine step_lits Tryd.inAt14 (d := 66) rfl (by rfl) rfl [fundP c] rfl (by decide) (by decide) (by intro x hx; simp at hx; subst hx; exact PIn.len HC.out.ftx) (by rfl) ?_
                    intro n3 y4 hp hh hb
                    have D8 := Lib.hid (D8.out.keep hb)
                    have D13 := Lib.hid (D13.out.keep hb)
                    have D14 := Lib.hid (D14.out.keep hb)
                    have D3 : Hid (Laid14 w7.heap.size y4 n3 (insO [fundP c])) := Lib.hid ⟨Nat.le_trans (Below.size hHeld) hp, hh⟩
                    have HX := Lib.hid (bthen hHeld hb)
                    clear hp hh hb
                    refine hK.out _ _ (by (try dsimp only); exact HX.out) (fun hHeld => ?_)
                    clear hK K
                    refine take_at (i := 15) rfl rfl (by kernel_rfl) (by kernel_rfl) (by kernel_rfl) (fun _ _ _ h => h) (yields_build10 (by rfl) rfl (vs := [(0, .slice (some ⟨n3, 0, none⟩) 1 1), (1, .slice (some ⟨n14, 0, none⟩) 2 2)]) (by rfl) (build_peace14 c n3 n81 n82 n131 n132 n14 s.client s.peer)) (by assumption) ?_
                    simp only [List.setIfInBounds_toArray, List.set_cons_zero, List.set_cons_succ]
                    refine wpAnyH_ready (rs := [16]) (by kernel_rfl) (by simp) ?_
                    refine AllReadyH.cons rfl (fun K hK => ?_) ?_
                    · refine step_alloc10 (d := 11) rfl (by rfl) 38 rfl noTx.cells.toArray Tryd.zeroTx14 ?_
                      intro v y5 hp hh hb
                      have NV8 : Hid (n81 ≠ v ∧ n82 ≠ v) := Lib.hid (by have h8 := lt_of_block D8.out.ks.is; have h7 := lt_of_block D8.out.ws.is; exact ⟨by omega, by omega⟩)
                      have NV13 : Hid (n131 ≠ v ∧ n132 ≠ v) := Lib.hid (by have h8 := lt_of_block D13.out.ks.is; have h7 := lt_of_block D13.out.ws.is; exact ⟨by omega, by omega⟩)
                      have NV14 : Hid (n14 ≠ v) := Lib.hid (by have h8 := lt_of_block D14.out.is; omega)
                      have NV3 : Hid (n3 ≠ v) := Lib.hid (by have h8 := lt_of_block D3.out.is; omega)
                      have D8 := Lib.hid (D8.out.keep hb)
                      have D13 := Lib.hid (D13.out.keep hb)
                      have D14 := Lib.hid (D14.out.keep hb)
                      have D3 := Lib.hid (D3.out.keep hb)
                      have HV := Lib.hid hh
                      have NV : Hid (w7.heap.size ≤ v) := Lib.hid (Nat.le_trans (Below.size hHeld) hp)
                      have HX := Lib.hid (bthen hHeld hb)
                      clear hp hh hb
                      refine hK.out _ _ (by (try dsimp only); exact HX.out) (fun hHeld => ?_)
                      clear hK K
                      refine wpAnyH_ready (rs := [17]) (by kernel_rfl) (by simp) ?_
                      refine AllReadyH.cons rfl (fun K hK => ?_) ?_
                      · refine step_row10 (by rfl) 38 _ _ rfl v (PTx.cells (peaceP c (some ⟨n3, 0, none⟩) (some ⟨n82, 0, none⟩) (some ⟨n81, 0, none⟩) (some ⟨n132, 0, none⟩) (some ⟨n131, 0, none⟩) (some ⟨n14, 0, none⟩) s.client s.peer)) (by rfl) (by rfl) 38 noTx.cells HV.out (tx_size zero32_len) rfl (PTx.one _) (fun y6 hh hb => ?_)
                        have HX := Lib.hid (But.in hHeld hb NV.out)
                        have D3 : Hid (Laid14 w7.heap.size y6 n3 (insO [fundP c])) := Lib.hid ⟨D3.out.new, (hb.block _ (lt_of_block D3.out.is) NV3.out).trans D3.out.is⟩
                        have DP : Hid (PeaceAt w7.heap.size y6 c s.client s.peer n81 n82 n131 n132 n14) := Lib.hid ⟨⟨⟨D8.out.ks.new, (hb.block _ (lt_of_block D8.out.ks.is) NV8.out.1).trans D8.out.ks.is⟩, ⟨D8.out.ws.new, (hb.block _ (lt_of_block D8.out.ws.is) NV8.out.2).trans D8.out.ws.is⟩⟩, ⟨⟨D13.out.ks.new, (hb.block _ (lt_of_block D13.out.ks.is) NV13.out.1).trans D13.out.ks.is⟩, ⟨D13.out.ws.new, (hb.block _ (lt_of_block D13.out.ws.is) NV13.out.2).trans D13.out.ws.is⟩⟩, ⟨D14.out.new, (hb.block _ (lt_of_block D14.out.is) NV14.out).trans D14.out.is⟩⟩
                        have HV := Lib.hid hh
                        clear hh hb
                        refine hK.out _ _ (by (try dsimp only); exact HX.out) (fun hHeld => ?_)
                        clear hK K
                        refine wpAnyH_done (by kernel_rfl) ?_ _
                        clear hHeld
                        go_wp2_with fail
                        go_meet
                        exact ⟨v, _, _, _, _, _, _, rfl, HV.out, peace_in14 D3.out DP.out HC.out HS.out.client HS.out.peer, HX.out⟩
                      exact AllReadyH.nil
                    exact AllReadyH.nil
                  refine AllReadyH.cons rfl (fun K hK => ?_) ?_
                  · refine step_alloc10 (d := 11) rfl (by rfl) 38 rfl noTx.cells.toArray Tryd.zeroTx14 ?_
                    intro v y4 hp hh hb
                    have NV8 : Hid (n81 ≠ v ∧ n82 ≠ v) := Lib.hid (by have h8 := lt_of_block D8.out.ks.is; have h7 := lt_of_block D8.out.ws.is; exact ⟨by omega, by omega⟩)
                    have NV13 : Hid (n131 ≠ v ∧ n132 ≠ v) := Lib.hid (by have h8 := lt_of_block D13.out.ks.is; have h7 := lt_of_block D13.out.ws.is; exact ⟨by omega, by omega⟩)
                    have NV14 : Hid (n14 ≠ v) := Lib.hid (by have h8 := lt_of_block D14.out.is; omega)
                    have D8 := Lib.hid (D8.out.keep hb)
                    have D13 := Lib.hid (D13.out.keep hb)
                    have D14 := Lib.hid (D14.out.keep hb)
                    have HV := Lib.hid hh
                    have NV : Hid (w7.heap.size ≤ v) := Lib.hid (Nat.le_trans (Below.size hHeld) hp)
                    have HX := Lib.hid (bthen hHeld hb)
                    clear hp hh hb
                    refine hK.out _ _ (by (try dsimp only); exact HX.out) (fun hHeld => ?_)
                    clear hK K
                    refine wpAnyH_ready (rs := [3]) (by kernel_rfl) (by simp) ?_
                    refine AllReadyH.cons rfl (fun K hK => ?_) ?_
                    · refine step_lits Tryd.inAt14 (d := 66) rfl (by rfl) rfl [fundP c] rfl (by decide) (by decide) (by intro x hx; simp at hx; subst hx; exact PIn.len HC.out.ftx) (by rfl) ?_
                      intro n3 y5 hp hh hb
                      have NV3 : Hid (n3 ≠ v) := Lib.hid (by have h8 := lt_of_block HV.out; omega)
                      have D8 := Lib.hid (D8.out.keep hb)
                      have D13 := Lib.hid (D13.out.keep hb)
                      have D14 := Lib.hid (D14.out.keep hb)
                      have HV := Lib.hid (keep hb HV.out)
                      have D3 : Hid (Laid14 w7.heap.size y5 n3 (insO [fundP c])) := Lib.hid ⟨Nat.le_trans (Below.size hHeld) hp, hh⟩
                      have HX := Lib.hid (bthen hHeld hb)
                      clear hp hh hb
                      refine hK.out _ _ (by (try dsimp only); exact HX.out) (fun hHeld => ?_)
                      clear hK K
                      refine take_at (i := 15) rfl rfl (by kernel_rfl) (by kernel_rfl) (by kernel_rfl) (fun _ _ _ h => h) (yields_build10 (by rfl) rfl (vs := [(0, .slice (some ⟨n3, 0, none⟩) 1 1), (1, .slice (some ⟨n14, 0, none⟩) 2 2)]) (by rfl) (build_peace14 c n3 n81 n82 n131 n132 n14 s.client s.peer)) (by assumption) ?_
                      simp only [List.setIfInBounds_toArray, List.set_cons_zero, List.set_cons_succ]
                      refine wpAnyH_ready (rs := [17]) (by kernel_rfl) (by simp) ?_
                      refine AllReadyH.cons rfl (fun K hK => ?_) ?_
                      · refine step_row10 (by rfl) 38 _ _ rfl v (PTx.cells (peaceP c (some ⟨n3, 0, none⟩) (some ⟨n82, 0, none⟩) (some ⟨n81, 0, none⟩) (some ⟨n132, 0, none⟩) (some ⟨n131, 0, none⟩) (some ⟨n14, 0, none⟩) s.client s.peer)) (by rfl) (by rfl) 38 noTx.cells HV.out (tx_size zero32_len) rfl (PTx.one _) (fun y6 hh hb => ?_)
                        have HX := Lib.hid (But.in hHeld hb NV.out)
                        have D3 : Hid (Laid14 w7.heap.size y6 n3 (insO [fundP c])) := Lib.hid ⟨D3.out.new, (hb.block _ (lt_of_block D3.out.is) NV3.out).trans D3.out.is⟩
                        have DP : Hid (PeaceAt w7.heap.size y6 c s.client s.peer n81 n82 n131 n132 n14) := Lib.hid ⟨⟨⟨D8.out.ks.new, (hb.block _ (lt_of_block D8.out.ks.is) NV8.out.1).trans D8.out.ks.is⟩, ⟨D8.out.ws.new, (hb.block _ (lt_of_block D8.out.ws.is) NV8.out.2).trans D8.out.ws.is⟩⟩, ⟨⟨D13.out.ks.new, (hb.block _ (lt_of_block D13.out.ks.is) NV13.out.1).trans D13.out.ks.is⟩, ⟨D13.out.ws.new, (hb.block _ (lt_of_block D13.out.ws.is) NV13.out.2).trans D13.out.ws.is⟩⟩, ⟨D14.out.new, (hb.block _ (lt_of_block D14.out.is) NV14.out).trans D14.out.is⟩⟩
                        have HV := Lib.hid hh
                        clear hh hb
                        refine hK.out _ _ (by (try dsimp only); exact HX.out) (fun hHeld => ?_)
                        clear hK K
                        refine wpAnyH_done (by kernel_rfl) ?_ _
                        clear hHeld
                        go_wp2_with fail
                        go_meet
                        exact ⟨v, _, _, _, _, _, _, rfl, HV.out, peace_in14 D3.out DP.out HC.out HS.out.client HS.out.peer, HX.out⟩
                      exact AllReadyH.nil
                    exact AllReadyH.nil
                  exact AllReadyH.nil
                refine AllReadyH.cons rfl (fun K hK => ?_) ?_
                · refine step_alloc10 (d := 11) rfl (by rfl) 38 rfl noTx.cells.toArray Tryd.zeroTx14 ?_
                  intro v y3 hp hh hb
                  have NV8 : Hid (n81 ≠ v ∧ n82 ≠ v) := Lib.hid (by have h8 := lt_of_block D8.out.ks.is; have h7 := lt_of_block D8.out.ws.is; exact ⟨by omega, by omega⟩)
                  have NV13 : Hid (n131 ≠ v ∧ n132 ≠ v) := Lib.hid (by have h8 := lt_of_block D13.out.ks.is; have h7 := lt_of_block D13.out.ws.is; exact ⟨by omega, by omega⟩)
                  have D8 := Lib.hid (D8.out.keep hb)
                  have D13 := Lib.hid (D13.out.keep hb)
                  have HV := Lib.hid hh
                  have NV : Hid (w7.heap.size ≤ v) := Lib.hid (Nat.le_trans (Below.size hHeld) hp)
                  have HX := Lib.hid (bthen hHeld hb)
                  clear hp hh hb
                  refine hK.out _ _ (by (try dsimp only); exact HX.out) (fun hHeld => ?_)
                  clear hK K
                  refine wpAnyH_ready (rs := [3, 14]) (by kernel_rfl) (by simp) ?_
                  refine AllReadyH.cons rfl (fun K hK => ?_) ?_
                  · refine step_lits Tryd.inAt14 (d := 66) rfl (by rfl) rfl [fundP c] rfl (by decide) (by decide) (by intro x hx; simp at hx; subst hx; exact PIn.len HC.out.ftx) (by rfl) ?_
                    intro n3 y4 hp hh hb
                    have NV3 : Hid (n3 ≠ v) := Lib.hid (by have h8 := lt_of_block HV.out; omega)
                    have D8 := Lib.hid (D8.out.keep hb)
                    have D13 := Lib.hid (D13.out.keep hb)
                    have HV := Lib.hid (keep hb HV.out)
                    have D3 : Hid (Laid14 w7.heap.size y4 n3 (insO [fundP c])) := Lib.hid ⟨Nat.le_trans (Below.size hHeld) hp, hh⟩
                    have HX := Lib.hid (bthen hHeld hb)
                    clear hp hh hb
                    refine hK.out _ _ (by (try dsimp only); exact HX.out) (fun hHeld => ?_)
                    clear hK K
                    refine wpAnyH_ready (rs := [14]) (by kernel_rfl) (by simp) ?_
                    refine AllReadyH.cons rfl (fun K hK => ?_) ?_
                    · refine step_lits Tryd.outAt14 (d := 77) rfl (by rfl) rfl [(herP (some ⟨n82, 0, none⟩) (some ⟨n81, 0, none⟩) c.client s.client), (herP (some ⟨n132, 0, none⟩) (some ⟨n131, 0, none⟩) c.peer s.peer)] rfl (by decide) (by decide) (by intro x hx; simp at hx; rcases hx with rfl | rfl; rfl; rfl) (by rfl) ?_
                      intro n14 y5 hp hh hb
                      have NV14 : Hid (n14 ≠ v) := Lib.hid (by have h8 := lt_of_block HV.out; omega)
                      have D8 := Lib.hid (D8.out.keep hb)
                      have D13 := Lib.hid (D13.out.keep hb)
                      have D3 := Lib.hid (D3.out.keep hb)
                      have HV := Lib.hid (keep hb HV.out)
                      have D14 : Hid (Laid14 w7.heap.size y5 n14 (outsO [(herP (some ⟨n82, 0, none⟩) (some ⟨n81, 0, none⟩) c.client s.client), (herP (some ⟨n132, 0, none⟩) (some ⟨n131, 0, none⟩) c.peer s.peer)])) := Lib.hid ⟨Nat.le_trans (Below.size hHeld) hp, hh⟩
                      have HX := Lib.hid (bthen hHeld hb)
                      clear hp hh hb
                      refine hK.out _ _ (by (try dsimp only); exact HX.out) (fun hHeld => ?_)
                      clear hK K
                      refine take_at (i := 15) rfl rfl (by kernel_rfl) (by kernel_rfl) (by kernel_rfl) (fun _ _ _ h => h) (yields_build10 (by rfl) rfl (vs := [(0, .slice (some ⟨n3, 0, none⟩) 1 1), (1, .slice (some ⟨n14, 0, none⟩) 2 2)]) (by rfl) (build_peace14 c n3 n81 n82 n131 n132 n14 s.client s.peer)) (by assumption) ?_
                      simp only [List.setIfInBounds_toArray, List.set_cons_zero, List.set_cons_succ]
                      refine wpAnyH_ready (rs := [17]) (by kernel_rfl) (by simp) ?_
                      refine AllReadyH.cons rfl (fun K hK => ?_) ?_
                      · refine step_row10 (by rfl) 38 _ _ rfl v (PTx.cells (peaceP c (some ⟨n3, 0, none⟩) (some ⟨n82, 0, none⟩) (some ⟨n81, 0, none⟩) (some ⟨n132, 0, none⟩) (some ⟨n131, 0, none⟩) (some ⟨n14, 0, none⟩) s.client s.peer)) (by rfl) (by rfl) 38 noTx.cells HV.out (tx_size zero32_len) rfl (PTx.one _) (fun y6 hh hb => ?_)
                        have HX := Lib.hid (But.in hHeld hb NV.out)
                        have D3 : Hid (Laid14 w7.heap.size y6 n3 (insO [fundP c])) := Lib.hid ⟨D3.out.new, (hb.block _ (lt_of_block D3.out.is) NV3.out).trans D3.out.is⟩
                        have DP : Hid (PeaceAt w7.heap.size y6 c s.client s.peer n81 n82 n131 n132 n14) := Lib.hid ⟨⟨⟨D8.out.ks.new, (hb.block _ (lt_of_block D8.out.ks.is) NV8.out.1).trans D8.out.ks.is⟩, ⟨D8.out.ws.new, (hb.block _ (lt_of_block D8.out.ws.is) NV8.out.2).trans D8.out.ws.is⟩⟩, ⟨⟨D13.out.ks.new, (hb.block _ (lt_of_block D13.out.ks.is) NV13.out.1).trans D13.out.ks.is⟩, ⟨D13.out.ws.new, (hb.block _ (lt_of_block D13.out.ws.is) NV13.out.2).trans D13.out.ws.is⟩⟩, ⟨D14.out.new, (hb.block _ (lt_of_block D14.out.is) NV14.out).trans D14.out.is⟩⟩
                        have HV := Lib.hid hh
                        clear hh hb
                        refine hK.out _ _ (by (try dsimp only); exact HX.out) (fun hHeld => ?_)
                        clear hK K
                        refine wpAnyH_done (by kernel_rfl) ?_ _
                        clear hHeld
                        go_wp2_with fail
                        go_meet
                        exact ⟨v, _, _, _, _, _, _, rfl, HV.out, peace_in14 D3.out DP.out HC.out HS.out.client HS.out.peer, HX.out⟩
                      exact AllReadyH.nil
                    exact AllReadyH.nil
                  refine AllReadyH.cons rfl (fun K hK => ?_) ?_
                  · refine step_lits Tryd.outAt14 (d := 77) rfl (by rfl) rfl [(herP (some ⟨n82, 0, none⟩) (some ⟨n81, 0, none⟩) c.client s.client), (herP (some ⟨n132, 0, none⟩) (some ⟨n131, 0, none⟩) c.peer s.peer)] rfl (by decide) (by decide) (by intro x hx; simp at hx; rcases hx with rfl | rfl; rfl; rfl) (by rfl) ?_
                    intro n14 y4 hp hh hb
                    have NV14 : Hid (n14 ≠ v) := Lib.hid (by have h8 := lt_of_block HV.out; omega)
                    have D8 := Lib.hid (D8.out.keep hb)
                    have D13 := Lib.hid (D13.out.keep hb)
                    have HV := Lib.hid (keep hb HV.out)
                    have D14 : Hid (Laid14 w7.heap.size y4 n14 (outsO [(herP (some ⟨n82, 0, none⟩) (some ⟨n81, 0, none⟩) c.client s.client), (herP (some ⟨n132, 0, none⟩) (some ⟨n131, 0, none⟩) c.peer s.peer)])) := Lib.hid ⟨Nat.le_trans (Below.size hHeld) hp, hh⟩
                    have HX := Lib.hid (bthen hHeld hb)
                    clear hp hh hb
                    refine hK.out _ _ (by (try dsimp only); exact HX.out) (fun hHeld => ?_)
                    clear hK K
                    refine wpAnyH_ready (rs := [3]) (by kernel_rfl) (by simp) ?_
                    refine AllReadyH.cons rfl (fun K hK => ?_) ?_
                    · refine step_lits Tryd.inAt14 (d := 66) rfl (by rfl) rfl [fundP c] rfl (by decide) (by decide) (by intro x hx; simp at hx; subst hx; exact PIn.len HC.out.ftx) (by rfl) ?_
                      intro n3 y5 hp hh hb
                      have NV3 : Hid (n3 ≠ v) := Lib.hid (by have h8 := lt_of_block HV.out; omega)
                      have D8 := Lib.hid (D8.out.keep hb)
                      have D13 := Lib.hid (D13.out.keep hb)
                      have D14 := Lib.hid (D14.out.keep hb)
                      have HV := Lib.hid (keep hb HV.out)
                      have D3 : Hid (Laid14 w7.heap.size y5 n3 (insO [fundP c])) := Lib.hid ⟨Nat.le_trans (Below.size hHeld) hp, hh⟩
                      have HX := Lib.hid (bthen hHeld hb)
                      clear hp hh hb
                      refine hK.out _ _ (by (try dsimp only); exact HX.out) (fun hHeld => ?_)
                      clear hK K
                      refine take_at (i := 15) rfl rfl (by kernel_rfl) (by kernel_rfl) (by kernel_rfl) (fun _ _ _ h => h) (yields_build10 (by rfl) rfl (vs := [(0, .slice (some ⟨n3, 0, none⟩) 1 1), (1, .slice (some ⟨n14, 0, none⟩) 2 2)]) (by rfl) (build_peace14 c n3 n81 n82 n131 n132 n14 s.client s.peer)) (by assumption) ?_
                      simp only [List.setIfInBounds_toArray, List.set_cons_zero, List.set_cons_succ]
                      refine wpAnyH_ready (rs := [17]) (by kernel_rfl) (by simp) ?_
                      refine AllReadyH.cons rfl (fun K hK => ?_) ?_
                      · refine step_row10 (by rfl) 38 _ _ rfl v (PTx.cells (peaceP c (some ⟨n3, 0, none⟩) (some ⟨n82, 0, none⟩) (some ⟨n81, 0, none⟩) (some ⟨n132, 0, none⟩) (some ⟨n131, 0, none⟩) (some ⟨n14, 0, none⟩) s.client s.peer)) (by rfl) (by rfl) 38 noTx.cells HV.out (tx_size zero32_len) rfl (PTx.one _) (fun y6 hh hb => ?_)
                        have HX := Lib.hid (But.in hHeld hb NV.out)
                        have D3 : Hid (Laid14 w7.heap.size y6 n3 (insO [fundP c])) := Lib.hid ⟨D3.out.new, (hb.block _ (lt_of_block D3.out.is) NV3.out).trans D3.out.is⟩
                        have DP : Hid (PeaceAt w7.heap.size y6 c s.client s.peer n81 n82 n131 n132 n14) := Lib.hid ⟨⟨⟨D8.out.ks.new, (hb.block _ (lt_of_block D8.out.ks.is) NV8.out.1).trans D8.out.ks.is⟩, ⟨D8.out.ws.new, (hb.block _ (lt_of_block D8.out.ws.is) NV8.out.2).trans D8.out.ws.is⟩⟩, ⟨⟨D13.out.ks.new, (hb.block _ (lt_of_block D13.out.ks.is) NV13.out.1).trans D13.out.ks.is⟩, ⟨D13.out.ws.new, (hb.block _ (lt_of_block D13.out.ws.is) NV13.out.2).trans D13.out.ws.is⟩⟩, ⟨D14.out.new, (hb.block _ (lt_of_block D14.out.is) NV14.out).trans D14.out.is⟩⟩
                        have HV := Lib.hid hh
                        clear hh hb
                        refine hK.out _ _ (by (try dsimp only); exact HX.out) (fun hHeld => ?_)
                        clear hK K
                        refine wpAnyH_done (by kernel_rfl) ?_ _
                        clear hHeld
                        go_wp2_with fail
                        go_meet
                        exact ⟨v, _, _, _, _, _, _, rfl, HV.out, peace_in14 D3.out DP.out HC.out HS.out.client HS.out.peer, HX.out⟩
                      exact AllReadyH.nil
                    exact AllReadyH.nil
                  exact AllReadyH.nil
                exact AllReadyH.nil
              refine AllReadyH.cons rfl (fun K hK => ?_) ?_
              · refine step_alloc10 (d := 11) rfl (by rfl) 38 rfl noTx.cells.toArray Tryd.zeroTx14 ?_
                intro v y2 hp hh hb
                have NV8 : Hid (n81 ≠ v ∧ n82 ≠ v) := Lib.hid (by have h8 := lt_of_block D8.out.ks.is; have h7 := lt_of_block D8.out.ws.is; exact ⟨by omega, by omega⟩)
                have D8 := Lib.hid (D8.out.keep hb)
                have HV := Lib.hid hh
                have NV : Hid (w7.heap.size ≤ v) := Lib.hid (Nat.le_trans (Below.size hHeld) hp)
                have HX := Lib.hid (bthen hHeld hb)
                clear hp hh hb
                refine hK.out _ _ (by (try dsimp only); exact HX.out) (fun hHeld => ?_)
                clear hK K
                refine wpAnyH_ready (rs := [3, 13]) (by kernel_rfl) (by simp) ?_
                refine AllReadyH.cons rfl (fun K hK => ?_) ?_
                · refine step_lits Tryd.inAt14 (d := 66) rfl (by rfl) rfl [fundP c] rfl (by decide) (by decide) (by intro x hx; simp at hx; subst hx; exact PIn.len HC.out.ftx) (by rfl) ?_
                  intro n3 y3 hp hh hb
                  have NV3 : Hid (n3 ≠ v) := Lib.hid (by have h8 := lt_of_block HV.out; omega)
                  have D8 := Lib.hid (D8.out.keep hb)
                  have HV := Lib.hid (keep hb HV.out)
                  have D3 : Hid (Laid14 w7.heap.size y3 n3 (insO [fundP c])) := Lib.hid ⟨Nat.le_trans (Below.size hHeld) hp, hh⟩
                  have HX := Lib.hid (bthen hHeld hb)
                  clear hp hh hb
                  refine hK.out _ _ (by (try dsimp only); exact HX.out) (fun hHeld => ?_)
                  clear hK K
                  refine wpAnyH_ready (rs := [13]) (by kernel_rfl) (by simp) ?_
                  refine AllReadyH.cons rfl (fun K hK => ?_) ?_
                  · have HCx := Lib.hid (fun (W : World) => to_at14 c.peer s.peer W)
                    go_simp
                    go_wp2_with ((go_at_call 11; (with_reducible refine (HCx.out _).mono ?_); rintro e y4 ⟨n131, n132, rfl, ha, hb⟩; have NV13 : Hid (n131 ≠ v ∧ n132 ≠ v) := Lib.hid (by have h8 := lt_of_block HV.out; have h6 := ha.ks.new; have h7 := ha.ws.new; exact ⟨by omega, by omega⟩); have D8 := Lib.hid (D8.out.keep hb); have D3 := Lib.hid (D3.out.keep hb); have HV := Lib.hid (keep hb HV.out); have D13 := Lib.hid (ha.old (Below.size hHeld)); have HX := Lib.hid (bthen hHeld hb); clear ha hb HCx))
                    refine hK.out _ _ (by (try dsimp only); exact HX.out) (fun hHeld => ?_)
                    clear hK K
                    refine wpAnyH_ready (rs := [14]) (by kernel_rfl) (by simp) ?_
                    refine AllReadyH.cons rfl (fun K hK => ?_) ?_
                    · refine step_lits Tryd.outAt14 (d := 77) rfl (by rfl) rfl [(herP (some ⟨n82, 0, none⟩) (some ⟨n81, 0, none⟩) c.client s.client), (herP (some ⟨n132, 0, none⟩) (some ⟨n131, 0, none⟩) c.peer s.peer)] rfl (by decide) (by decide) (by intro x hx; simp at hx; rcases hx with rfl | rfl; rfl; rfl) (by rfl) ?_
                      intro n14 y5 hp hh hb
                      have NV14 : Hid (n14 ≠ v) := Lib.hid (by have h8 := lt_of_block HV.out; omega)
                      have D8 := Lib.hid (D8.out.keep hb)
                      have D3 := Lib.hid (D3.out.keep hb)
                      have D13 := Lib.hid (D13.out.keep hb)
                      have HV := Lib.hid (keep hb HV.out)
                      have D14 : Hid (Laid14 w7.heap.size y5 n14 (outsO [(herP (some ⟨n82, 0, none⟩) (some ⟨n81, 0, none⟩) c.client s.client), (herP (some ⟨n132, 0, none⟩) (some ⟨n131, 0, none⟩) c.peer s.peer)])) := Lib.hid ⟨Nat.le_trans (Below.size hHeld) hp, hh⟩
                      have HX := Lib.hid (bthen hHeld hb)
                      clear hp hh hb
                      refine hK.out _ _ (by (try dsimp only); exact HX.out) (fun hHeld => ?_)
                      clear hK K
                      refine take_at (i := 15) rfl rfl (by kernel_rfl) (by kernel_rfl) (by kernel_rfl) (fun _ _ _ h => h) (yields_build10 (by rfl) rfl (vs := [(0, .slice (some ⟨n3, 0, none⟩) 1 1), (1, .slice (some ⟨n14, 0, none⟩) 2 2)]) (by rfl) (build_peace14 c n3 n81 n82 n131 n132 n14 s.client s.peer)) (by assumption) ?_
                      simp only [List.setIfInBounds_toArray, List.set_cons_zero, List.set_cons_succ]
                      refine wpAnyH_ready (rs := [17]) (by kernel_rfl) (by simp) ?_
                      refine AllReadyH.cons rfl (fun K hK => ?_) ?_
                      · refine step_row10 (by rfl) 38 _ _ rfl v (PTx.cells (peaceP c (some ⟨n3, 0, none⟩) (some ⟨n82, 0, none⟩) (some ⟨n81, 0, none⟩) (some ⟨n132, 0, none⟩) (some ⟨n131, 0, none⟩) (some ⟨n14, 0, none⟩) s.client s.peer)) (by rfl) (by rfl) 38 noTx.cells HV.out (tx_size zero32_len) rfl (PTx.one _) (fun y6 hh hb => ?_)
                        have HX := Lib.hid (But.in hHeld hb NV.out)
                        have D3 : Hid (Laid14 w7.heap.size y6 n3 (insO [fundP c])) := Lib.hid ⟨D3.out.new, (hb.block _ (lt_of_block D3.out.is) NV3.out).trans D3.out.is⟩
                        have DP : Hid (PeaceAt w7.heap.size y6 c s.client s.peer n81 n82 n131 n132 n14) := Lib.hid ⟨⟨⟨D8.out.ks.new, (hb.block _ (lt_of_block D8.out.ks.is) NV8.out.1).trans D8.out.ks.is⟩, ⟨D8.out.ws.new, (hb.block _ (lt_of_block D8.out.ws.is) NV8.out.2).trans D8.out.ws.is⟩⟩, ⟨⟨D13.out.ks.new, (hb.block _ (lt_of_block D13.out.ks.is) NV13.out.1).trans D13.out.ks.is⟩, ⟨D13.out.ws.new, (hb.block _ (lt_of_block D13.out.ws.is) NV13.out.2).trans D13.out.ws.is⟩⟩, ⟨D14.out.new, (hb.block _ (lt_of_block D14.out.is) NV14.out).trans D14.out.is⟩⟩
                        have HV := Lib.hid hh
                        clear hh hb
                        refine hK.out _ _ (by (try dsimp only); exact HX.out) (fun hHeld => ?_)
                        clear hK K
                        refine wpAnyH_done (by kernel_rfl) ?_ _
                        clear hHeld
                        go_wp2_with fail
                        go_meet
                        exact ⟨v, _, _, _, _, _, _, rfl, HV.out, peace_in14 D3.out DP.out HC.out HS.out.client HS.out.peer, HX.out⟩
                      exact AllReadyH.nil
                    exact AllReadyH.nil
                  exact AllReadyH.nil
                refine AllReadyH.cons rfl (fun K hK => ?_) ?_
                · have HCx := Lib.hid (fun (W : World) => to_at14 c.peer s.peer W)
                  go_simp
                  go_wp2_with ((go_at_call 11; (with_reducible refine (HCx.out _).mono ?_); rintro e y3 ⟨n131, n132, rfl, ha, hb⟩; have NV13 : Hid (n131 ≠ v ∧ n132 ≠ v) := Lib.hid (by have h8 := lt_of_block HV.out; have h6 := ha.ks.new; have h7 := ha.ws.new; exact ⟨by omega, by omega⟩); have D8 := Lib.hid (D8.out.keep hb); have HV := Lib.hid (keep hb HV.out); have D13 := Lib.hid (ha.old (Below.size hHeld)); have HX := Lib.hid (bthen hHeld hb); clear ha hb HCx))
                  refine hK.out _ _ (by (try dsimp only); exact HX.out) (fun hHeld => ?_)
                  clear hK K
                  refine wpAnyH_ready (rs := [3, 14]) (by kernel_rfl) (by simp) ?_
                  refine AllReadyH.cons rfl (fun K hK => ?_) ?_
                  · refine step_lits Tryd.inAt14 (d := 66) rfl (by rfl) rfl [fundP c] rfl (by decide) (by decide) (by intro x hx; simp at hx; subst hx; exact PIn.len HC.out.ftx) (by rfl) ?_
                    intro n3 y4 hp hh hb
                    have NV3 : Hid (n3 ≠ v) := Lib.hid (by have h8 := lt_of_block HV.out; omega)
                    have D8 := Lib.hid (D8.out.keep hb)
                    have D13 := Lib.hid (D13.out.keep hb)
                    have HV := Lib.hid (keep hb HV.out)
                    have D3 : Hid (Laid14 w7.heap.size y4 n3 (insO [fundP c])) := Lib.hid ⟨Nat.le_trans (Below.size hHeld) hp, hh⟩
                    have HX := Lib.hid (bthen hHeld hb)
                    clear hp hh hb
                    refine hK.out _ _ (by (try dsimp only); exact HX.out) (fun hHeld => ?_)
                    clear hK K
                    refine wpAnyH_ready (rs := [14]) (by kernel_rfl) (by simp) ?_
                    refine AllReadyH.cons rfl (fun K hK => ?_) ?_
                    · refine step_lits Tryd.outAt14 (d := 77) rfl (by rfl) rfl [(herP (some ⟨n82, 0, none⟩) (some ⟨n81, 0, none⟩) c.client s.client), (herP (some ⟨n132, 0, none⟩) (some ⟨n131, 0, none⟩) c.peer s.peer)] rfl (by decide) (by decide) (by intro x hx; simp at hx; rcases hx with rfl | rfl; rfl; rfl) (by rfl) ?_
                      intro n14 y5 hp hh hb
                      have NV14 : Hid (n14 ≠ v) := Lib.hid (by have h8 := lt_of_block HV.out; omega)
                      have D8 := Lib.hid (D8.out.keep hb)
                      have D13 := Lib.hid (D13.out.keep hb)
                      have D3 := Lib.hid (D3.out.keep hb)
                      have HV := Lib.hid (keep hb HV.out)
                      have D14 : Hid (Laid14 w7.heap.size y5 n14 (outsO [(herP (some ⟨n82, 0, none⟩) (some ⟨n81, 0, none⟩) c.client s.client), (herP (some ⟨n132, 0, none⟩) (some ⟨n131, 0, none⟩) c.peer s.peer)])) := Lib.hid ⟨Nat.le_trans (Below.size hHeld) hp, hh⟩
                      have HX := Lib.hid (bthen hHeld hb)
                      clear hp hh hb
                      refine hK.out _ _ (by (try dsimp only); exact HX.out) (fun hHeld => ?_)
                      clear hK K
                      refine take_at (i := 15) rfl rfl (by kernel_rfl) (by kernel_rfl) (by kernel_rfl) (fun _ _ _ h => h) (yields_build10 (by rfl) rfl (vs := [(0, .slice (some ⟨n3, 0, none⟩) 1 1), (1, .slice (some ⟨n14, 0, none⟩) 2 2)]) (by rfl) (build_peace14 c n3 n81 n82 n131 n132 n14 s.client s.peer)) (by assumption) ?_
                      simp only [List.setIfInBounds_toArray, List.set_cons_zero, List.set_cons_succ]
                      refine wpAnyH_ready (rs := [17]) (by kernel_rfl) (by simp) ?_
                      refine AllReadyH.cons rfl (fun K hK => ?_) ?_
                      · refine step_row10 (by rfl) 38 _ _ rfl v (PTx.cells (peaceP c (some ⟨n3, 0, none⟩) (some ⟨n82, 0, none⟩) (some ⟨n81, 0, none⟩) (some ⟨n132, 0, none⟩) (some ⟨n131, 0, none⟩) (some ⟨n14, 0, none⟩) s.client s.peer)) (by rfl) (by rfl) 38 noTx.cells HV.out (tx_size zero32_len) rfl (PTx.one _) (fun y6 hh hb => ?_)
                        have HX := Lib.hid (But.in hHeld hb NV.out)
                        have D3 : Hid (Laid14 w7.heap.size y6 n3 (insO [fundP c])) := Lib.hid ⟨D3.out.new, (hb.block _ (lt_of_block D3.out.is) NV3.out).trans D3.out.is⟩
                        have DP : Hid (PeaceAt w7.heap.size y6 c s.client s.peer n81 n82 n131 n132 n14) := Lib.hid ⟨⟨⟨D8.out.ks.new, (hb.block _ (lt_of_block D8.out.ks.is) NV8.out.1).trans D8.out.ks.is⟩, ⟨D8.out.ws.new, (hb.block _ (lt_of_block D8.out.ws.is) NV8.out.2).trans D8.out.ws.is⟩⟩, ⟨⟨D13.out.ks.new, (hb.block _ (lt_of_block D13.out.ks.is) NV13.out.1).trans D13.out.ks.is⟩, ⟨D13.out.ws.new, (hb.block _ (lt_of_block D13.out.ws.is) NV13.out.2).trans D13.out.ws.is⟩⟩, ⟨D14.out.new, (hb.block _ (lt_of_block D14.out.is) NV14.out).trans D14.out.is⟩⟩
                        have HV := Lib.hid hh
                        clear hh hb
                        refine hK.out _ _ (by (try dsimp only); exact HX.out) (fun hHeld => ?_)
                        clear hK K
                        refine wpAnyH_done (by kernel_rfl) ?_ _
                        clear hHeld
                        go_wp2_with fail
                        go_meet
                        exact ⟨v, _, _, _, _, _, _, rfl, HV.out, peace_in14 D3.out DP.out HC.out HS.out.client HS.out.peer, HX.out⟩
                      exact AllReadyH.nil
                    exact AllReadyH.nil
                  refine AllReadyH.cons rfl (fun K hK => ?_) ?_
                  · refine step_lits Tryd.outAt14 (d := 77) rfl (by rfl) rfl [(herP (some ⟨n82, 0, none⟩) (some ⟨n81, 0, none⟩) c.client s.client), (herP (some ⟨n132, 0, none⟩) (some ⟨n131, 0, none⟩) c.peer s.peer)] rfl (by decide) (by decide) (by intro x hx; simp at hx; rcases hx with rfl | rfl; rfl; rfl) (by rfl) ?_
                    intro n14 y4 hp hh hb
                    have NV14 : Hid (n14 ≠ v) := Lib.hid (by have h8 := lt_of_block HV.out; omega)
                    have D8 := Lib.hid (D8.out.keep hb)
                    have D13 := Lib.hid (D13.out.keep hb)
                    have HV := Lib.hid (keep hb HV.out)
                    have D14 : Hid (Laid14 w7.heap.size y4 n14 (outsO [(herP (some ⟨n82, 0, none⟩) (some ⟨n81, 0, none⟩) c.client s.client), (herP (some ⟨n132, 0, none⟩) (some ⟨n131, 0, none⟩) c.peer s.peer)])) := Lib.hid ⟨Nat.le_trans (Below.size hHeld) hp, hh⟩
                    have HX := Lib.hid (bthen hHeld hb)
                    clear hp hh hb
                    refine hK.out _ _ (by (try dsimp only); exact HX.out) (fun hHeld => ?_)
                    clear hK K
                    refine wpAnyH_ready (rs := [3]) (by kernel_rfl) (by simp) ?_
                    refine AllReadyH.cons rfl (fun K hK => ?_) ?_
                    · refine step_lits Tryd.inAt14 (d := 66) rfl (by rfl) rfl [fundP c] rfl (by decide) (by decide) (by intro x hx; simp at hx; subst hx; exact PIn.len HC.out.ftx) (by rfl) ?_
                      intro n3 y5 hp hh hb
                      have NV3 : Hid (n3 ≠ v) := Lib.hid (by have h8 := lt_of_block HV.out; omega)
                      have D8 := Lib.hid (D8.out.keep hb)
                      have D13 := Lib.hid (D13.out.keep hb)
                      have D14 := Lib.hid (D14.out.keep hb)
                      have HV := Lib.hid (keep hb HV.out)
                      have D3 : Hid (Laid14 w7.heap.size y5 n3 (insO [fundP c])) := Lib.hid ⟨Nat.le_trans (Below.size hHeld) hp, hh⟩
                      have HX := Lib.hid (bthen hHeld hb)
                      clear hp hh hb
                      refine hK.out _ _ (by (try dsimp only); exact HX.out) (fun hHeld => ?_)
                      clear hK K
                      refine take_at (i := 15) rfl rfl (by kernel_rfl) (by kernel_rfl) (by kernel_rfl) (fun _ _ _ h => h) (yields_build10 (by rfl) rfl (vs := [(0, .slice (some ⟨n3, 0, none⟩) 1 1), (1, .slice (some ⟨n14, 0, none⟩) 2 2)]) (by rfl) (build_peace14 c n3 n81 n82 n131 n132 n14 s.client s.peer)) (by assumption) ?_
                      simp only [List.setIfInBounds_toArray, List.set_cons_zero, List.set_cons_succ]
                      refine wpAnyH_ready (rs := [17]) (by kernel_rfl) (by simp) ?_
                      refine AllReadyH.cons rfl (fun K hK => ?_) ?_
                      · refine step_row10 (by rfl) 38 _ _ rfl v (PTx.cells (peaceP c (some ⟨n3, 0, none⟩) (some ⟨n82, 0, none⟩) (some ⟨n81, 0, none⟩) (some ⟨n132, 0, none⟩) (some ⟨n131, 0, none⟩) (some ⟨n14, 0, none⟩) s.client s.peer)) (by rfl) (by rfl) 38 noTx.cells HV.out (tx_size zero32_len) rfl (PTx.one _) (fun y6 hh hb => ?_)
                        have HX := Lib.hid (But.in hHeld hb NV.out)
                        have D3 : Hid (Laid14 w7.heap.size y6 n3 (insO [fundP c])) := Lib.hid ⟨D3.out.new, (hb.block _ (lt_of_block D3.out.is) NV3.out).trans D3.out.is⟩
                        have DP : Hid (PeaceAt w7.heap.size y6 c s.client s.peer n81 n82 n131 n132 n14) := Lib.hid ⟨⟨⟨D8.out.ks.new, (hb.block _ (lt_of_block D8.out.ks.is) NV8.out.1).trans D8.out.ks.is⟩, ⟨D8.out.ws.new, (hb.block _ (lt_of_block D8.out.ws.is) NV8.out.2).trans D8.out.ws.is⟩⟩, ⟨⟨D13.out.ks.new, (hb.block _ (lt_of_block D13.out.ks.is) NV13.out.1).trans D13.out.ks.is⟩, ⟨D13.out.ws.new, (hb.block _ (lt_of_block D13.out.ws.is) NV13.out.2).trans D13.out.ws.is⟩⟩, ⟨D14.out.new, (hb.block _ (lt_of_block D14.out.is) NV14.out).trans D14.out.is⟩⟩
                        have HV := Lib.hid hh
                        clear hh hb
                        refine hK.out _ _ (by (try dsimp only); exact HX.out) (fun hHeld => ?_)
                        clear hK K
                        refine wpAnyH_done (by kernel_rfl) ?_ _
                        clear hHeld
                        go_wp2_with fail
                        go_meet
                        exact ⟨v, _, _, _, _, _, _, rfl, HV.out, peace_in14 D3.out DP.out HC.out HS.out.client HS.out.peer, HX.out⟩
                      exact AllReadyH.nil
                    exact AllReadyH.nil
                  exact AllReadyH.nil
                exact AllReadyH.nil
              exact AllReadyH.nil
            refine AllReadyH.cons rfl (fun K hK => ?_) ?_
            · refine step_alloc10 (d := 11) rfl (by rfl) 38 rfl noTx.cells.toArray Tryd.zeroTx14 ?_
              intro v y1 hp hh hb
              have HV := Lib.hid hh
              have NV : Hid (w7.heap.size ≤ v) := Lib.hid (Nat.le_trans (Below.size hHeld) hp)
              have HX := Lib.hid (bthen hHeld hb)
              clear hp hh hb
              refine hK.out _ _ (by (try dsimp only); exact HX.out) (fun hHeld => ?_)
              clear hK K
              refine wpAnyH_ready (rs := [3, 8]) (by kernel_rfl) (by simp) ?_
              refine AllReadyH.cons rfl (fun K hK => ?_) ?_
              · refine step_lits Tryd.inAt14 (d := 66) rfl (by rfl) rfl [fundP c] rfl (by decide) (by decide) (by intro x hx; simp at hx; subst hx; exact PIn.len HC.out.ftx) (by rfl) ?_
                intro n3 y2 hp hh hb
                have NV3 : Hid (n3 ≠ v) := Lib.hid (by have h8 := lt_of_block HV.out; omega)
                have HV := Lib.hid (keep hb HV.out)
                have D3 : Hid (Laid14 w7.heap.size y2 n3 (insO [fundP c])) := Lib.hid ⟨Nat.le_trans (Below.size hHeld) hp, hh⟩
                have HX := Lib.hid (bthen hHeld hb)
                clear hp hh hb
                refine hK.out _ _ (by (try dsimp only); exact HX.out) (fun hHeld => ?_)
                clear hK K
                refine wpAnyH_ready (rs := [8]) (by kernel_rfl) (by simp) ?_
                refine AllReadyH.cons rfl (fun K hK => ?_) ?_
                · have HCx := Lib.hid (fun (W : World) => to_at14 c.client s.client W)
                  go_simp
                  go_wp2_with ((go_at_call 11; (with_reducible refine (HCx.out _).mono ?_); rintro e y3 ⟨n81, n82, rfl, ha, hb⟩; have NV8 : Hid (n81 ≠ v ∧ n82 ≠ v) := Lib.hid (by have h8 := lt_of_block HV.out; have h6 := ha.ks.new; have h7 := ha.ws.new; exact ⟨by omega, by omega⟩); have D3 := Lib.hid (D3.out.keep hb); have HV := Lib.hid (keep hb HV.out); have D8 := Lib.hid (ha.old (Below.size hHeld)); have HX := Lib.hid (bthen hHeld hb); clear ha hb HCx))
                  refine hK.out _ _ (by (try dsimp only); exact HX.out) (fun hHeld => ?_)
                  clear hK K
                  refine wpAnyH_ready (rs := [13]) (by kernel_rfl) (by simp) ?_
                  refine AllReadyH.cons rfl (fun K hK => ?_) ?_
                  · have HCx := Lib.hid (fun (W : World) => to_at14 c.peer s.peer W)
                    go_simp
                    go_wp2_with ((go_at_call 11; (with_reducible refine (HCx.out _).mono ?_); rintro e y4 ⟨n131, n132, rfl, ha, hb⟩; have NV13 : Hid (n131 ≠ v ∧ n132 ≠ v) := Lib.hid (by have h8 := lt_of_block HV.out; have h6 := ha.ks.new; have h7 := ha.ws.new; exact ⟨by omega, by omega⟩); have D3 := Lib.hid (D3.out.keep hb); have D8 := Lib.hid (D8.out.keep hb); have HV := Lib.hid (keep hb HV.out); have D13 := Lib.hid (ha.old (Below.size hHeld)); have HX := Lib.hid (bthen hHeld hb); clear ha hb HCx))
                    refine hK.out _ _ (by (try dsimp only); exact HX.out) (fun hHeld => ?_)
                    clear hK K
                    refine wpAnyH_ready (rs := [14]) (by kernel_rfl) (by simp) ?_
                    refine AllReadyH.cons rfl (fun K hK => ?_) ?_
                    · refine step_lits Tryd.outAt14 (d := 77) rfl (by rfl) rfl [(herP (some ⟨n82, 0, none⟩) (some ⟨n81, 0, none⟩) c.client s.client), (herP (some ⟨n132, 0, none⟩) (some ⟨n131, 0, none⟩) c.peer s.peer)] rfl (by decide) (by decide) (by intro x hx; simp at hx; rcases hx with rfl | rfl; rfl; rfl) (by rfl) ?_
                      intro n14 y5 hp hh hb
                      have NV14 : Hid (n14 ≠ v) := Lib.hid (by have h8 := lt_of_block HV.out; omega)
                      have D3 := Lib.hid (D3.out.keep hb)
                      have D8 := Lib.hid (D8.out.keep hb)
                      have D13 := Lib.hid (D13.out.keep hb)
                      have HV := Lib.hid (keep hb HV.out)
                      have D14 : Hid (Laid14 w7.heap.size y5 n14 (outsO [(herP (some ⟨n82, 0, none⟩) (some ⟨n81, 0, none⟩) c.client s.client), (herP (some ⟨n132, 0, none⟩) (some ⟨n131, 0, none⟩) c.peer s.peer)])) := Lib.hid ⟨Nat.le_trans (Below.size hHeld) hp, hh⟩
                      have HX := Lib.hid (bthen hHeld hb)
                      clear hp hh hb
                      refine hK.out _ _ (by (try dsimp only); exact HX.out) (fun hHeld => ?_)
                      clear hK K
                      refine take_at (i := 15) rfl rfl (by kernel_rfl) (by kernel_rfl) (by kernel_rfl) (fun _ _ _ h => h) (yields_build10 (by rfl) rfl (vs := [(0, .slice (some ⟨n3, 0, none⟩) 1 1), (1, .slice (some ⟨n14, 0, none⟩) 2 2)]) (by rfl) (build_peace14 c n3 n81 n82 n131 n132 n14 s.client s.peer)) (by assumption) ?_
                      simp only [List.setIfInBounds_toArray, List.set_cons_zero, List.set_cons_succ]
                      refine wpAnyH_ready (rs := [17]) (by kernel_rfl) (by simp) ?_
                      refine AllReadyH.cons rfl (fun K hK => ?_) ?_
                      · refine step_row10 (by rfl) 38 _ _ rfl v (PTx.cells (peaceP c (some ⟨n3, 0, none⟩) (some ⟨n82, 0, none⟩) (some ⟨n81, 0, none⟩) (some ⟨n132, 0, none⟩) (some ⟨n131, 0, none⟩) (some ⟨n14, 0, none⟩) s.client s.peer)) (by rfl) (by rfl) 38 noTx.cells HV.out (tx_size zero32_len) rfl (PTx.one _) (fun y6 hh hb => ?_)
                        have HX := Lib.hid (But.in hHeld hb NV.out)
                        have D3 : Hid (Laid14 w7.heap.size y6 n3 (insO [fundP c])) := Lib.hid ⟨D3.out.new, (hb.block _ (lt_of_block D3.out.is) NV3.out).trans D3.out.is⟩
                        have DP : Hid (PeaceAt w7.heap.size y6 c s.client s.peer n81 n82 n131 n132 n14) := Lib.hid ⟨⟨⟨D8.out.ks.new, (hb.block _ (lt_of_block D8.out.ks.is) NV8.out.1).trans D8.out.ks.is⟩, ⟨D8.out.ws.new, (hb.block _ (lt_of_block D8.out.ws.is) NV8.out.2).trans D8.out.ws.is⟩⟩, ⟨⟨D13.out.ks.new, (hb.block _ (lt_of_block D13.out.ks.is) NV13.out.1).trans D13.out.ks.is⟩, ⟨D13.out.ws.new, (hb.block _ (lt_of_block D13.out.ws.is) NV13.out.2).trans D13.out.ws.is⟩⟩, ⟨D14.out.new, (hb.block _ (lt_of_block D14.out.is) NV14.out).trans D14.out.is⟩⟩
                        have HV := Lib.hid hh
                        clear hh hb
                        refine hK.out _ _ (by (try dsimp only); exact HX.out) (fun hHeld => ?_)
                        clear hK K
                        refine wpAnyH_done (by kernel_rfl) ?_ _
                        clear hHeld
                        go_wp2_with fail
                        go_meet
                        exact ⟨v, _, _, _, _, _, _, rfl, HV.out, peace_in14 D3.out DP.out HC.out HS.out.client HS.out.peer, HX.out⟩
                      exact AllReadyH.nil
                    exact AllReadyH.nil
                  exact AllReadyH.nil
                exact AllReadyH.nil
              refine AllReadyH.cons rfl (fun K hK => ?_) ?_
              · have HCx := Lib.hid (fun (W : World) => to_at14 c.client s.client W)
                go_simp
                go_wp2_with ((go_at_call 11; (with_reducible refine (HCx.out _).mono ?_); rintro e y2 ⟨n81, n82, rfl, ha, hb⟩; have NV8 : Hid (n81 ≠ v ∧ n82 ≠ v) := Lib.hid (by have h8 := lt_of_block HV.out; have h6 := ha.ks.new; have h7 := ha.ws.new; exact ⟨by omega, by omega⟩); have HV := Lib.hid (keep hb HV.out); have D8 := Lib.hid (ha.old (Below.size hHeld)); have HX := Lib.hid (bthen hHeld hb); clear ha hb HCx))
                refine hK.out _ _ (by (try dsimp only); exact HX.out) (fun hHeld => ?_)
                clear hK K
                refine wpAnyH_ready (rs := [3, 13]) (by kernel_rfl) (by simp) ?_
                refine AllReadyH.cons rfl (fun K hK => ?_) ?_
                · refine step_lits Tryd.inAt14 (d := 66) rfl (by rfl) rfl [fundP c] rfl (by decide) (by decide) (by intro x hx; simp at hx; subst hx; exact PIn.len HC.out.ftx) (by rfl) ?_
                  intro n3 y3 hp hh hb
                  have NV3 : Hid (n3 ≠ v) := Lib.hid (by have h8 := lt_of_block HV.out; omega)
                  have D8 := Lib.hid (D8.out.keep hb)
                  have HV := Lib.hid (keep hb HV.out)
                  have D3 : Hid (Laid14 w7.heap.size y3 n3 (insO [fundP c])) := Lib.hid ⟨Nat.le_trans (Below.size hHeld) hp, hh⟩
                  have HX := Lib.hid (bthen hHeld hb)
                  clear hp hh hb
                  refine hK.out _ _ (by (try dsimp only); exact HX.out) (fun hHeld => ?_)
                  clear hK K
                  refine wpAnyH_ready (rs := [13]) (by kernel_rfl) (by simp) ?_
                  refine AllReadyH.cons rfl (fun K hK => ?_) ?_
                  · have HCx := Lib.hid (fun (W : World) => to_at14 c.peer s.peer W)
                    go_simp
                    go_wp2_with ((go_at_call 11; (with_reducible refine (HCx.out _).mono ?_); rintro e y4 ⟨n131, n132, rfl, ha, hb⟩; have NV13 : Hid (n131 ≠ v ∧ n132 ≠ v) := Lib.hid (by have h8 := lt_of_block HV.out; have h6 := ha.ks.new; have h7 := ha.ws.new; exact ⟨by omega, by omega⟩); have D8 := Lib.hid (D8.out.keep hb); have D3 := Lib.hid (D3.out.keep hb); have HV := Lib.hid (keep hb HV.out); have D13 := Lib.hid (ha.old (Below.size hHeld)); have HX := Lib.hid (bthen hHeld hb); clear ha hb HCx))
                    refine hK.out _ _ (by (try dsimp only); exact HX.out) (fun hHeld => ?_)
                    clear hK K
                    refine wpAnyH_ready (rs := [14]) (by kernel_rfl) (by simp) ?_
                    refine AllReadyH.cons rfl (fun K hK => ?_) ?_
                    · refine step_lits Tryd.outAt14 (d := 77) rfl (by rfl) rfl [(herP (some ⟨n82, 0, none⟩) (some ⟨n81, 0, none⟩) c.client s.client), (herP (some ⟨n132, 0, none⟩) (some ⟨n131, 0, none⟩) c.peer s.peer)] rfl (by decide) (by decide) (by intro x hx; simp at hx; rcases hx with rfl | rfl; rfl; rfl) (by rfl) ?_
                      intro n14 y5 hp hh hb
                      have NV14 : Hid (n14 ≠ v) := Lib.hid (by have h8 := lt_of_block HV.out; omega)
                      have D8 := Lib.hid (D8.out.keep hb)
                      have D3 := Lib.hid (D3.out.keep hb)
                      have D13 := Lib.hid (D13.out.keep hb)
                      have HV := Lib.hid (keep hb HV.out)
                      have D14 : Hid (Laid14 w7.heap.size y5 n14 (outsO [(herP (some ⟨n82, 0, none⟩) (some ⟨n81, 0, none⟩) c.client s.client), (herP (some ⟨n132, 0, none⟩) (some ⟨n131, 0, none⟩) c.peer s.peer)])) := Lib.hid ⟨Nat.le_trans (Below.size hHeld) hp, hh⟩
                      have HX := Lib.hid (bthen hHeld hb)
                      clear hp hh hb
                      refine hK.out _ _ (by (try dsimp only); exact HX.out) (fun hHeld => ?_)
                      clear hK K
                      refine take_at (i := 15) rfl rfl (by kernel_rfl) (by kernel_rfl) (by kernel_rfl) (fun _ _ _ h => h) (yields_build10 (by rfl) rfl (vs := [(0, .slice (some ⟨n3, 0, none⟩) 1 1), (1, .slice (some ⟨n14, 0, none⟩) 2 2)]) (by rfl) (build_peace14 c n3 n81 n82 n131 n132 n14 s.client s.peer)) (by assumption) ?_
                      simp only [List.setIfInBounds_toArray, List.set_cons_zero, List.set_cons_succ]
                      refine wpAnyH_ready (rs := [17]) (by kernel_rfl) (by simp) ?_
                      refine AllReadyH.cons rfl (fun K hK => ?_) ?_
                      · refine step_row10 (by rfl) 38 _ _ rfl v (PTx.cells (peaceP c (some ⟨n3, 0, none⟩) (some ⟨n82, 0, none⟩) (some ⟨n81, 0, none⟩) (some ⟨n132, 0, none⟩) (some ⟨n131, 0, none⟩) (some ⟨n14, 0, none⟩) s.client s.peer)) (by rfl) (by rfl) 38 noTx.cells HV.out (tx_size zero32_len) rfl (PTx.one _) (fun y6 hh hb => ?_)
                        have HX := Lib.hid (But.in hHeld hb NV.out)
                        have D3 : Hid (Laid14 w7.heap.size y6 n3 (insO [fundP c])) := Lib.hid ⟨D3.out.new, (hb.block _ (lt_of_block D3.out.is) NV3.out).trans D3.out.is⟩
                        have DP : Hid (PeaceAt w7.heap.size y6 c s.client s.peer n81 n82 n131 n132 n14) := Lib.hid ⟨⟨⟨D8.out.ks.new, (hb.block _ (lt_of_block D8.out.ks.is) NV8.out.1).trans D8.out.ks.is⟩, ⟨D8.out.ws.new, (hb.block _ (lt_of_block D8.out.ws.is) NV8.out.2).trans D8.out.ws.is⟩⟩, ⟨⟨D13.out.ks.new, (hb.block _ (lt_of_block D13.out.ks.is) NV13.out.1).trans D13.out.ks.is⟩, ⟨D13.out.ws.new, (hb.block _ (lt_of_block D13.out.ws.is) NV13.out.2).trans D13.out.ws.is⟩⟩, ⟨D14.out.new, (hb.block _ (lt_of_block D14.out.is) NV14.out).trans D14.out.is⟩⟩
                        have HV := Lib.hid hh
                        clear hh hb
                        refine hK.out _ _ (by (try dsimp only); exact HX.out) (fun hHeld => ?_)
                        clear hK K
                        refine wpAnyH_done (by kernel_rfl) ?_ _
                        clear hHeld
                        go_wp2_with fail
                        go_meet
                        exact ⟨v, _, _, _, _, _, _, rfl, HV.out, peace_in14 D3.out DP.out HC.out HS.out.client HS.out.peer, HX.out⟩
                      exact AllReadyH.nil
                    exact AllReadyH.nil
                  exact AllReadyH.nil
                refine AllReadyH.cons rfl (fun K hK => ?_) ?_
                · have HCx := Lib.hid (fun (W : World) => to_at14 c.peer s.peer W)
                  go_simp
                  go_wp2_with ((go_at_call 11; (with_reducible refine (HCx.out _).mono ?_); rintro e y3 ⟨n131, n132, rfl, ha, hb⟩; have NV13 : Hid (n131 ≠ v ∧ n132 ≠ v) := Lib.hid (by have h8 := lt_of_block HV.out; have h6 := ha.ks.new; have h7 := ha.ws.new; exact ⟨by omega, by omega⟩); have D8 := Lib.hid (D8.out.keep hb); have HV := Lib.hid (keep hb HV.out); have D13 := Lib.hid (ha.old (Below.size hHeld)); have HX := Lib.hid (bthen hHeld hb); clear ha hb HCx))
                  refine hK.out _ _ (by (try dsimp only); exact HX.out) (fun hHeld => ?_)
                  clear hK K
                  refine wpAnyH_ready (rs := [3, 14]) (by kernel_rfl) (by simp) ?_
                  refine AllReadyH.cons rfl (fun K hK => ?_) ?_
                  · refine step_lits Tryd.inAt14 (d := 66) rfl (by rfl) rfl [fundP c] rfl (by decide) (by decide) (by intro x hx; simp at hx; subst hx; exact PIn.len HC.out.ftx) (by rfl) ?_
                    intro n3 y4 hp hh hb
                    have NV3 : Hid (n3 ≠ v) := Lib.hid (by have h8 := lt_of_block HV.out; omega)
                    have D8 := Lib.hid (D8.out.keep hb)
                    have D13 := Lib.hid (D13.out.keep hb)
                    have HV := Lib.hid (keep hb HV.out)
                    have D3 : Hid (Laid14 w7.heap.size y4 n3 (insO [fundP c])) := Lib.hid ⟨Nat.le_trans (Below.size hHeld) hp, hh⟩
                    have HX := Lib.hid (bthen hHeld hb)
                    clear hp hh hb
                    refine hK.out _ _ (by (try dsimp only); exact HX.out) (fun hHeld => ?_)
                    clear hK K
                    refine wpAnyH_ready (rs := [14]) (by kernel_rfl) (by simp) ?_
                    refine AllReadyH.cons rfl (fun K hK => ?_) ?_
                    · refine step_lits Tryd.outAt14 (d := 77) rfl (by rfl) rfl [(herP (some ⟨n82, 0, none⟩) (some ⟨n81, 0, none⟩) c.client s.client), (herP (some ⟨n132, 0, none⟩) (some ⟨n131, 0, none⟩) c.peer s.peer)] rfl (by decide) (by decide) (by intro x hx; simp at hx; rcases hx with rfl | rfl; rfl; rfl) (by rfl) ?_
                      intro n14 y5 hp hh hb
                      have NV14 : Hid (n14 ≠ v) := Lib.hid (by have h8 := lt_of_block HV.out; omega)
                      have D8 := Lib.hid (D8.out.keep hb)
                      have D13 := Lib.hid (D13.out.keep hb)
                      have D3 := Lib.hid (D3.out.keep hb)
                      have HV := Lib.hid (keep hb HV.out)
                      have D14 : Hid (Laid14 w7.heap.size y5 n14 (outsO [(herP (some ⟨n82, 0, none⟩) (some ⟨n81, 0, none⟩) c.client s.client), (herP (some ⟨n132, 0, none⟩) (some ⟨n131, 0, none⟩) c.peer s.peer)])) := Lib.hid ⟨Nat.le_trans (Below.size hHeld) hp, hh⟩
                      have HX := Lib.hid (bthen hHeld hb)
                      clear hp hh hb
                      refine hK.out _ _ (by (try dsimp only); exact HX.out) (fun hHeld => ?_)
                      clear hK K
                      refine take_at (i := 15) rfl rfl (by kernel_rfl) (by kernel_rfl) (by kernel_rfl) (fun _ _ _ h => h) (yields_build10 (by rfl) rfl (vs := [(0, .slice (some ⟨n3, 0, none⟩) 1 1), (1, .slice (some ⟨n14, 0, none⟩) 2 2)]) (by rfl) (build_peace14 c n3 n81 n82 n131 n132 n14 s.client s.peer)) (by assumption) ?_
                      simp only [List.setIfInBounds_toArray, List.set_cons_zero, List.set_cons_succ]
                      refine wpAnyH_ready (rs := [17]) (by kernel_rfl) (by simp) ?_
                      refine AllReadyH.cons rfl (fun K hK => ?_) ?_
                      · refine step_row10 (by rfl) 38 _ _ rfl v (PTx.cells (peaceP c (some ⟨n3, 0, none⟩) (some ⟨n82, 0, none⟩) (some ⟨n81, 0, none⟩) (some ⟨n132, 0, none⟩) (some ⟨n131, 0, none⟩) (some ⟨n14, 0, none⟩) s.client s.peer)) (by rfl) (by rfl) 38 noTx.cells HV.out (tx_size zero32_len) rfl (PTx.one _) (fun y6 hh hb => ?_)
                        have HX := Lib.hid (But.in hHeld hb NV.out)
                        have D3 : Hid (Laid14 w7.heap.size y6 n3 (insO [fundP c])) := Lib.hid ⟨D3.out.new, (hb.block _ (lt_of_block D3.out.is) NV3.out).trans D3.out.is⟩
                        have DP : Hid (PeaceAt w7.heap.size y6 c s.client s.peer n81 n82 n131 n132 n14) := Lib.hid ⟨⟨⟨D8.out.ks.new, (hb.block _ (lt_of_block D8.out.ks.is) NV8.out.1).trans D8.out.ks.is⟩, ⟨D8.out.ws.new, (hb.block _ (lt_of_block D8.out.ws.is) NV8.out.2).trans D8.out.ws.is⟩⟩, ⟨⟨D13.out.ks.new, (hb.block _ (lt_of_block D13.out.ks.is) NV13.out.1).trans D13.out.ks.is⟩, ⟨D13.out.ws.new, (hb.block _ (lt_of_block D13.out.ws.is) NV13.out.2).trans D13.out.ws.is⟩⟩, ⟨D14.out.new, (hb.block _ (lt_of_block D14.out.is) NV14.out).trans D14.out.is⟩⟩
                        have HV := Lib.hid hh
                        clear hh hb
                        refine hK.out _ _ (by (try dsimp only); exact HX.out) (fun hHeld => ?_)
                        clear hK K
                        refine wpAnyH_done (by kernel_rfl) ?_ _
                        clear hHeld
                        go_wp2_with fail
                        go_meet
                        exact ⟨v, _, _, _, _, _, _, rfl, HV.out, peace_in14 D3.out DP.out HC.out HS.out.client HS.out.peer, HX.out⟩
                      exact AllReadyH.nil
                    exact AllReadyH.nil
                  refine AllReadyH.cons rfl (fun K hK => ?_) ?_
                  · refine step_lits Tryd.outAt14 (d := 77) rfl (by rfl) rfl [(herP (some ⟨n82, 0, none⟩) (some ⟨n81, 0, none⟩) c.client s.client), (herP (some ⟨n132, 0, none⟩) (some ⟨n131, 0, none⟩) c.peer s.peer)] rfl (by decide) (by decide) (by intro x hx; simp at hx; rcases hx with rfl | rfl; rfl; rfl) (by rfl) ?_
                    intro n14 y4 hp hh hb
                    have NV14 : Hid (n14 ≠ v) := Lib.hid (by have h8 := lt_of_block HV.out; omega)
                    have D8 := Lib.hid (D8.out.keep hb)
                    have D13 := Lib.hid (D13.out.keep hb)
                    have HV := Lib.hid (keep hb HV.out)
                    have D14 : Hid (Laid14 w7.heap.size y4 n14 (outsO [(herP (some ⟨n82, 0, none⟩) (some ⟨n81, 0, none⟩) c.client s.client), (herP (some ⟨n132, 0, none⟩) (some ⟨n131, 0, none⟩) c.peer s.peer)])) := Lib.hid ⟨Nat.le_trans (Below.size hHeld) hp, hh⟩
                    have HX := Lib.hid (bthen hHeld hb)
                    clear hp hh hb
                    refine hK.out _ _ (by (try dsimp only); exact HX.out) (fun hHeld => ?_)
                    clear hK K
                    refine wpAnyH_ready (rs := [3]) (by kernel_rfl) (by simp) ?_
                    refine AllReadyH.cons rfl (fun K hK => ?_) ?_
                    · refine step_lits Tryd.inAt14 (d := 66) rfl (by rfl) rfl [fundP c] rfl (by decide) (by decide) (by intro x hx; simp at hx; subst hx; exact PIn.len HC.out.ftx) (by rfl) ?_
                      intro n3 y5 hp hh hb
                      have NV3 : Hid (n3 ≠ v) := Lib.hid (by have h8 := lt_of_block HV.out; omega)
                      have D8 := Lib.hid (D8.out.keep hb)
                      have D13 := Lib.hid (D13.out.keep hb)
                      have D14 := Lib.hid (D14.out.keep hb)
                      have HV := Lib.hid (keep hb HV.out)
                      have D3 : Hid (Laid14 w7.heap.size y5 n3 (insO [fundP c])) := Lib.hid ⟨Nat.le_trans (Below.size hHeld) hp, hh⟩
                      have HX := Lib.hid (bthen hHeld hb)
                      clear hp hh hb
                      refine hK.out _ _ (by (try dsimp only); exact HX.out) (fun hHeld => ?_)
                      clear hK K
                      refine take_at (i := 15) rfl rfl (by kernel_rfl) (by kernel_rfl) (by kernel_rfl) (fun _ _ _ h => h) (yields_build10 (by rfl) rfl (vs := [(0, .slice (some ⟨n3, 0, none⟩) 1 1), (1, .slice (some ⟨n14, 0, none⟩) 2 2)]) (by rfl) (build_peace14 c n3 n81 n82 n131 n132 n14 s.client s.peer)) (by assumption) ?_
                      simp only [List.setIfInBounds_toArray, List.set_cons_zero, List.set_cons_succ]
                      refine wpAnyH_ready (rs := [17]) (by kernel_rfl) (by simp) ?_
                      refine AllReadyH.cons rfl (fun K hK => ?_) ?_
                      · refine step_row10 (by rfl) 38 _ _ rfl v (PTx.cells (peaceP c (some ⟨n3, 0, none⟩) (some ⟨n82, 0, none⟩) (some ⟨n81, 0, none⟩) (some ⟨n132, 0, none⟩) (some ⟨n131, 0, none⟩) (some ⟨n14, 0, none⟩) s.client s.peer)) (by rfl) (by rfl) 38 noTx.cells HV.out (tx_size zero32_len) rfl (PTx.one _) (fun y6 hh hb => ?_)
                        have HX := Lib.hid (But.in hHeld hb NV.out)
                        have D3 : Hid (Laid14 w7.heap.size y6 n3 (insO [fundP c])) := Lib.hid ⟨D3.out.new, (hb.block _ (lt_of_block D3.out.is) NV3.out).trans D3.out.is⟩
                        have DP : Hid (PeaceAt w7.heap.size y6 c s.client s.peer n81 n82 n131 n132 n14) := Lib.hid ⟨⟨⟨D8.out.ks.new, (hb.block _ (lt_of_block D8.out.ks.is) NV8.out.1).trans D8.out.ks.is⟩, ⟨D8.out.ws.new, (hb.block _ (lt_of_block D8.out.ws.is) NV8.out.2).trans D8.out.ws.is⟩⟩, ⟨⟨D13.out.ks.new, (hb.block _ (lt_of_block D13.out.ks.is) NV13.out.1).trans D13.out.ks.is⟩, ⟨D13.out.ws.new, (hb.block _ (lt_of_block D13.out.ws.is) NV13.out.2).trans D13.out.ws.is⟩⟩, ⟨D14.out.new, (hb.block _ (lt_of_block D14.out.is) NV14.out).trans D14.out.is⟩⟩
                        have HV := Lib.hid hh
                        clear hh hb
                        refine hK.out _ _ (by (try dsimp only); exact HX.out) (fun hHeld => ?_)
                        clear hK K
                        refine wpAnyH_done (by kernel_rfl) ?_ _
                        clear hHeld
                        go_wp2_with fail
                        go_meet
                        exact ⟨v, _, _, _, _, _, _, rfl, HV.out, peace_in14 D3.out DP.out HC.out HS.out.client HS.out.peer, HX.out⟩
                      exact AllReadyH.nil
                    exact AllReadyH.nil
                  exact AllReadyH.nil
                exact AllReadyH.nil
              exact AllReadyH.nil
            exact AllReadyH.nil
          case rest =>
            obtain ⟨v, q0, q1, q2, q3, q4, q5, rfl, hv, hq, hbc⟩ := hcut
            have HB8 := Lib.hid (bthen HB7.out hbc)
            have H18 := Lib.hid (keep hbc H17.out)
            have H28 := Lib.hid (keep hbc H27.out)
            have HP78 := Lib.hid (keep hbc HP77.out)
            have RU := Lib.hid (range_of (keep hbc HP97.out))
            have RV := Lib.hid (range_of hv)
            have HT8 := Lib.hid (HT7.out.below hbc)
            have hsame := txSame_any (HU7.out.below hbc) hq
            rw [show (txOk (peaceP c b0 b1 b2 b3 b4 b5 s.client s.peer) && (txOk (peaceP c q0 q1 q2 q3 q4 q5 s.client s.peer) && decide (txB (peaceP c b0 b1 b2 b3 b4 b5 s.client s.peer) = txB (peaceP c q0 q1 q2 q3 q4 q5 s.client s.peer)))) = true by rw [peace_ok _ _ _ _ _ _ HF.out.client HF.out.peer HF.out.mine HF.out.hers HF.out.fat, peace_ok _ _ _ _ _ _ HF.out.client HF.out.peer HF.out.mine HF.out.hers HF.out.fat, peace_bytes c b0 b1 b2 b3 b4 b5 q0 q1 q2 q3 q4 q5, decide_eq_true rfl]; rfl] at hsame
            have HSM := Lib.hid hsame
            clear hsame hbc hv hq HU7 HP97 H17 H27 HP77 HT7
            go_upto_region 10 with (first | (refine wpList_mid_wanted (by rfl) 38 _ rfl p9 0 rfl (peaceP c b0 b1 b2 b3 b4 b5 s.client s.peer).cells _ RU.out Tryd.underlying38 rfl (tx_size zero32_len) ?_) | (refine wpList_mid_wanted (by rfl) 38 _ rfl v 0 rfl (peaceP c q0 q1 q2 q3 q4 q5 s.client s.peer).cells _ RV.out Tryd.underlying38 rfl (tx_size zero32_len) ?_) | (go_at_call 12; (with_reducible refine (HSM.out).mono ?_); rintro e w9 ⟨rfl, hb⟩; have HB9 := Lib.hid (bthen HB8.out hb); have H19 := Lib.hid (keep hb H18.out); have H29 := Lib.hid (keep hb H28.out); have HP79 := Lib.hid (keep hb HP78.out); have HT9 := Lib.hid (HT8.out.below hb); clear hb) | fail)
            have hat := chan_at HC.out.ftx (range_of H19.out)
            have c1 := hat.client
            have c2 := hat.peer
            have hst := state_at HS.out (range_of H29.out)
            have s1 := hst.client
            have s2 := hst.peer
            have sh := hst.h0
            rw [Nat.zero_add] at c1 c2 s1 s2 sh
            have SH := Lib.hid sh
            clear hat hst sh
            have HLB := Lib.hid (fun (W : World) => build_law14 (w := W) (me := c.client) (other := c.peer) (mine := s.client) (hers := s.peer) HC.out HS.out.h0)
            go_upto_region 14 with (first | (refine wpList_load_row rfl 27 _ rfl g rfl 27 c.cells.toArray (0, 0) _ H19.out Tryd.underlying27 rfl SZC.out ?_) | (refine wpList_load_mid rfl 23 _ rfl (g + 1) 3 rfl (cellsOf s.h0) _ SH.out Tryd.underlying23 rfl (sumLen HS.out.h0) ?_) | (go_at_call 13; (with_reducible refine (HLB.out _).mono ?_); rintro e w10 ⟨m0, m1, m2, m3, m4, m5, m6, rfl, hi, ho, hb⟩; have HW10 := Lib.hid (commit_in14 hi ho HC.out HC.out.client HC.out.peer HS.out.client HS.out.peer HS.out.h0); have HB10 := Lib.hid (bthen HB9.out hb); have HP710 := Lib.hid (keep hb HP79.out); have H110 := Lib.hid (keep hb H19.out); have H210 := Lib.hid (keep hb H29.out); have HT10 := Lib.hid (HT9.out.below hb); clear hi ho hb) | (refine wpList_var rfl rfl 38 rfl _ _ rfl noTx.cells.toArray Tryd.zeroTx14 rfl (commitP c (some ⟨m0, 0, none⟩) (some ⟨m3, 0, none⟩) (some ⟨m1, 0, none⟩) (some ⟨m2, 0, none⟩) (some ⟨m5, 0, none⟩) (some ⟨m4, 0, none⟩) (some ⟨m6, 0, none⟩) c.client c.peer s.client s.peer s.h0).cells (fun _ => rfl) (fun _ => rfl) rfl (PTx.one _) ?_; intro p12 w11 hq hh hb; go_frame; have HW11 := Lib.hid (HW10.out.below hb); have HB11 := Lib.hid (bthen HB10.out hb); have HP711 := Lib.hid (keep hb HP710.out); have HT11 := Lib.hid (HT10.out.below hb); have H111 := Lib.hid (keep hb H110.out); have H211 := Lib.hid (keep hb H210.out); have HP12 := Lib.hid hh; have HN12 := Lib.hid hq; have HB1011 := Lib.hid hb; clear hq hh hb) | fail)
            clear c1 c2 s1 s2 SH HLB
            have hat := chan_at HC.out.ftx (range_of H111.out)
            have c1 := hat.client
            have c2 := hat.peer
            have hst := state_at HS.out (range_of H211.out)
            have s1 := hst.client
            have s2 := hst.peer
            have sh := hst.h1
            rw [Nat.zero_add] at c1 c2 s1 s2 sh
            have SH := Lib.hid sh
            clear hat hst sh
            have HLB := Lib.hid (fun (W : World) => build_law14 (w := W) (me := c.peer) (other := c.client) (mine := s.peer) (hers := s.client) HC.out HS.out.h1)
            have NE7 : Hid (p7 ≠ p12) := Lib.hid (by have h8 := lt_of_block HP710.out; have h7 := HN12.out; omega)
            have NEG : Hid (g ≠ p12) := Lib.hid (by have h8 := lt_of_block H110.out; have h7 := HN12.out; omega)
            go_upto_region 15 with (first | (refine wpList_load_row rfl 27 _ rfl g rfl 27 c.cells.toArray (0, 0) _ H111.out Tryd.underlying27 rfl SZC.out ?_) | (refine wpList_load_mid rfl 23 _ rfl (g + 1) 35 rfl (cellsOf s.h1) _ SH.out Tryd.underlying23 rfl (sumLen HS.out.h1) ?_) | (go_at_call 13; (with_reducible refine (HLB.out _).mono ?_); rintro e w12 ⟨k0, k1, k2, k3, k4, k5, k6, rfl, hi, ho, hb⟩; have HI12 := Lib.hid hi; have HO12 := Lib.hid ho; have HB12 := Lib.hid (bthen HB11.out hb); have HB112 := Lib.hid (bthen HB1011.out hb); have HP712 := Lib.hid (keep hb HP711.out); have H112 := Lib.hid (keep hb H111.out); have HP122 := Lib.hid (keep hb HP12.out); clear hi ho hb) | (refine wpList_row10 rfl 38 _ _ rfl p12 (commitP c (some ⟨k0, 0, none⟩) (some ⟨k3, 0, none⟩) (some ⟨k1, 0, none⟩) (some ⟨k2, 0, none⟩) (some ⟨k5, 0, none⟩) (some ⟨k4, 0, none⟩) (some ⟨k6, 0, none⟩) c.peer c.client s.peer s.client s.h1).cells rfl rfl 38 (commitP c (some ⟨m0, 0, none⟩) (some ⟨m3, 0, none⟩) (some ⟨m1, 0, none⟩) (some ⟨m2, 0, none⟩) (some ⟨m5, 0, none⟩) (some ⟨m4, 0, none⟩) (some ⟨m6, 0, none⟩) c.client c.peer s.client s.peer s.h0).cells HP122.out (commit_size _ _ _ _ _ _ _ _ _ _ _ _ _) rfl (PTx.one _) ?_; intro w13 hh13 hb13) | fail)
            have hrl := lt_of_block HP12.out
            have HWW := Lib.hid (commit_in14 (HI12.out.but hrl hb13) (HO12.out.but hrl hb13) HC.out HC.out.peer HC.out.client HS.out.peer HS.out.client HS.out.h1)
            have hb1013 : Below w10.heap.size w10 w13 := But.in HB112.out hb13 HN12.out
            have HTT := Lib.hid (HT10.out.below hb1013)
            have HBB := Lib.hid (bthen HB10.out hb1013)
            have HPW := Lib.hid hh13
            have HPT := Lib.hid (keep hb1013 HP710.out)
            have HCC := Lib.hid (keep hb1013 H110.out)
            clear hrl hh13 hb13 hb1013 HI12 HO12 HB12 HB112 HP712 H112 HP122 HP711 HP12 HT11 HW11 HB11 H111 H211 c1 c2 s1 s2 SH HLB
            have HOKT : Hid (txOk (commitP c a0 a1 a2 a3 a4 a5 a6 c.peer c.client s.peer s.client s.h1) = true) := Lib.hid (commit_ok _ _ _ _ _ _ _ s.h1 HF.out.peer HF.out.client HF.out.hers HF.out.mine HF.out.wait HF.out.fat)
            have HOKW : Hid (txOk (commitP c (some ⟨k0, 0, none⟩) (some ⟨k3, 0, none⟩) (some ⟨k1, 0, none⟩) (some ⟨k2, 0, none⟩) (some ⟨k5, 0, none⟩) (some ⟨k4, 0, none⟩) (some ⟨k6, 0, none⟩) c.peer c.client s.peer s.client s.h1) = true) := Lib.hid (commit_ok _ _ _ _ _ _ _ s.h1 HF.out.peer HF.out.client HF.out.hers HF.out.mine HF.out.wait HF.out.fat)
            have HSM : Hid (∀ W : World, Below w13.heap.size w13 W → Calls Tryd.prog 12 #[.agg (commitP c a0 a1 a2 a3 a4 a5 a6 c.peer c.client s.peer s.client s.h1).cells.toArray, .agg (commitP c (some ⟨k0, 0, none⟩) (some ⟨k3, 0, none⟩) (some ⟨k1, 0, none⟩) (some ⟨k2, 0, none⟩) (some ⟨k5, 0, none⟩) (some ⟨k4, 0, none⟩) (some ⟨k6, 0, none⟩) c.peer c.client s.peer s.client s.h1).cells.toArray] W fun e w' => e = .returned (.bool true) ∧ Below W.heap.size W w') := Lib.hid (fun W hW => by
              have h9 := txSame_any (HTT.out.below hW) (HWW.out.below hW)
              rw [HOKT.out, HOKW.out, commit_bytes c a0 a1 a2 a3 a4 a5 a6 (some ⟨k0, 0, none⟩) (some ⟨k3, 0, none⟩) (some ⟨k1, 0, none⟩) (some ⟨k2, 0, none⟩) (some ⟨k5, 0, none⟩) (some ⟨k4, 0, none⟩) (some ⟨k6, 0, none⟩), decide_eq_true rfl] at h9
              exact h9)
            obtain ⟨T, hT, hTl⟩ : ∃ T, txSum (commitP c a0 a1 a2 a3 a4 a5 a6 c.peer c.client s.peer s.client s.h1) = T ∧ T.length = 32 := ⟨_, rfl, txSum_len _⟩
            have hT2 : txSum (commitP c (some ⟨k0, 0, none⟩) (some ⟨k3, 0, none⟩) (some ⟨k1, 0, none⟩) (some ⟨k2, 0, none⟩) (some ⟨k5, 0, none⟩) (some ⟨k4, 0, none⟩) (some ⟨k6, 0, none⟩) c.peer c.client s.peer s.client s.h1) = T := by rw [← hT]; unfold txSum; rw [commit_front c (some ⟨k0, 0, none⟩) (some ⟨k3, 0, none⟩) (some ⟨k1, 0, none⟩) (some ⟨k2, 0, none⟩) (some ⟨k5, 0, none⟩) (some ⟨k4, 0, none⟩) (some ⟨k6, 0, none⟩) a0 a1 a2 a3 a4 a5 a6]
            have HREF : Hid (∀ W : World, Below w13.heap.size w13 W → Calls Tryd.prog 15 #[.agg (commitP c a0 a1 a2 a3 a4 a5 a6 c.peer c.client s.peer s.client s.h1).cells.toArray] W fun e w' => e = .returned (.agg (refCells T 0).toArray) ∧ Below W.heap.size W w') := Lib.hid (fun W hW => by rw [← hT]; exact ref14_any (HTT.out.below hW) (HK.out.below (bthen HBB.out hW)) (frontOk false HTT.out HOKT.out))
            have HSUM : Hid (∀ W : World, Below w13.heap.size w13 W → Calls Tryd.prog 16 #[.agg (commitP c (some ⟨k0, 0, none⟩) (some ⟨k3, 0, none⟩) (some ⟨k1, 0, none⟩) (some ⟨k2, 0, none⟩) (some ⟨k5, 0, none⟩) (some ⟨k4, 0, none⟩) (some ⟨k6, 0, none⟩) c.peer c.client s.peer s.client s.h1).cells.toArray] W fun e w' => e = .returned (.agg (cellsOf T).toArray) ∧ Below W.heap.size W w') := Lib.hid (fun W hW => by rw [← hT2]; exact txSum_any (HWW.out.below hW) (HK.out.below (bthen HBB.out hW)) (frontOk false HWW.out HOKW.out))
            have HOW : Hid (∀ W : World, Below w13.heap.size w13 W → Calls Tryd.prog 14 #[.agg c.cells.toArray, .agg (commitP c a0 a1 a2 a3 a4 a5 a6 c.peer c.client s.peer s.client s.h1).cells.toArray] W fun e w' => e = .returned (.int .i64 1) ∧ Below W.heap.size W w') := Lib.hid (fun W hW => owner14_1 HC.out (HTT.out.below hW) HF.out.h1 (by have h1 := HF.out.client; have h2 := HF.out.peer; simp [keysOk]; omega) HF.out.unlike)
            have HTL := Lib.hid hTl
            have SZT := Lib.hid hTl
            have qr : ∀ W : World, (Op.equalIn 10000 25 (.agg (refCells T 0).toArray) (.agg (refCells T 0).toArray)).run Tryd.prog W = .ok true W := fun W => by rw [run_eqRefs _ _ _ _ hTl hTl W]; simp
            clear hT hT2 hTl HOKT HOKW
            go_upto_region 15 with (fail)
            refine wp_region_held_drew (S := fun w' => Below w13.heap.size w13 w') (by kernel_rfl) (below_drew (Below.refl _ _)) (fun hHeld => ?_)
            refine take_at (i := 0) (v := ?_) rfl rfl (by kernel_rfl) (by kernel_rfl) (by kernel_rfl) (fun _ _ _ h => h) (Or.inl ⟨by rfl, ?_⟩) (by assumption) ?_
            rotate_left
            · intro w0 hSw; (try dsimp only at hSw); first | (go_simp; done) | (go_simp; with_reducible rfl)
            simp only [List.setIfInBounds_toArray, List.set_cons_zero, List.set_cons_succ]
            refine take_at (i := 1) (v := ?_) rfl rfl (by kernel_rfl) (by kernel_rfl) (by kernel_rfl) (fun _ _ _ h => h) (Or.inl ⟨by rfl, ?_⟩) (by assumption) ?_
            rotate_left
            · intro w0 hSw; (try dsimp only at hSw); first | (go_simp; done) | (go_simp; with_reducible rfl)
            simp only [List.setIfInBounds_toArray, List.set_cons_zero, List.set_cons_succ]
            refine take_at (i := 2) (v := ?_) rfl rfl (by kernel_rfl) (by kernel_rfl) (by kernel_rfl) (fun _ _ _ h => h) (Or.inl ⟨by rfl, ?_⟩) (by assumption) ?_
            rotate_left
            · intro w0 hSw; (try dsimp only at hSw); first | (go_simp; done) | (go_simp; with_reducible rfl)
            simp only [List.setIfInBounds_toArray, List.set_cons_zero, List.set_cons_succ]
            refine take_at (i := 3) rfl rfl (by kernel_rfl) (by kernel_rfl) (by kernel_rfl) (fun _ _ _ h => h) (yieldsIf_load_mid (by rfl) _ _ rfl p7 0 rfl (commitP c a0 a1 a2 a3 a4 a5 a6 c.peer c.client s.peer s.client s.h1).cells _ (fun w0 hSw => range_of (keep hSw HPT.out)) Tryd.underlying38 rfl (commit_size _ _ _ _ _ _ _ _ _ _ _ _ _)) (by assumption) ?_
            simp only [List.setIfInBounds_toArray, List.set_cons_zero, List.set_cons_succ]
            refine take_at (i := 4) rfl rfl (by kernel_rfl) (by kernel_rfl) (by kernel_rfl) (fun _ _ _ h => h) (yieldsIf_load_mid (by rfl) _ _ rfl p12 0 rfl (commitP c (some ⟨k0, 0, none⟩) (some ⟨k3, 0, none⟩) (some ⟨k1, 0, none⟩) (some ⟨k2, 0, none⟩) (some ⟨k5, 0, none⟩) (some ⟨k4, 0, none⟩) (some ⟨k6, 0, none⟩) c.peer c.client s.peer s.client s.h1).cells _ (fun w0 hSw => range_of (keep hSw HPW.out)) Tryd.underlying38 rfl (commit_size _ _ _ _ _ _ _ _ _ _ _ _ _)) (by assumption) ?_
            simp only [List.setIfInBounds_toArray, List.set_cons_zero, List.set_cons_succ]
            refine wpAnyH_ready (rs := [5]) (by kernel_rfl) (by simp) ?_
            refine AllReadyH.cons rfl (fun K hK => ?_) ?_
            · have HCx := Lib.hid (HSM.out _ hHeld)
              go_simp
              go_wp2_with ((go_at_call 12; (with_reducible refine (HCx.out).mono ?_); rintro e y1 ⟨rfl, hb⟩; have HX := Lib.hid (bthen hHeld hb); clear hb HCx))
              refine hK.out _ _ (by (try dsimp only); exact HX.out) (fun hHeld => ?_)
              clear hK K
              refine take_at (i := 6) (v := ?_) rfl rfl (by kernel_rfl) (by kernel_rfl) (by kernel_rfl) (fun _ _ _ h => h) (Or.inl ⟨by rfl, ?_⟩) (by assumption) ?_
              rotate_left
              · intro w0 hSw; (try dsimp only at hSw); first | (go_simp; done) | (go_simp; with_reducible rfl)
              simp only [List.setIfInBounds_toArray, List.set_cons_zero, List.set_cons_succ]
              refine take_at (i := 7) (v := ?_) rfl rfl (by kernel_rfl) (by kernel_rfl) (by kernel_rfl) (fun _ _ _ h => h) (Or.inl ⟨by rfl, ?_⟩) (by assumption) ?_
              rotate_left
              · intro w0 hSw; (try dsimp only at hSw); first | (go_simp; done) | (go_simp; with_reducible rfl)
              simp only [List.setIfInBounds_toArray, List.set_cons_zero, List.set_cons_succ]
              refine take_at (i := 8) rfl rfl (by kernel_rfl) (by kernel_rfl) (by kernel_rfl) (fun _ _ _ h => h) (yieldsIf_load_mid (by rfl) _ _ rfl g 0 rfl c.cells _ (fun w0 hSw => range_of (keep hSw HCC.out)) Tryd.underlying27 rfl SZCl.out) (by assumption) ?_
              simp only [List.setIfInBounds_toArray, List.set_cons_zero, List.set_cons_succ]
              refine take_at (i := 9) rfl rfl (by kernel_rfl) (by kernel_rfl) (by kernel_rfl) (fun _ _ _ h => h) (yieldsIf_load_mid (by rfl) _ _ rfl p7 0 rfl (commitP c a0 a1 a2 a3 a4 a5 a6 c.peer c.client s.peer s.client s.h1).cells _ (fun w0 hSw => range_of (keep hSw HPT.out)) Tryd.underlying38 rfl (commit_size _ _ _ _ _ _ _ _ _ _ _ _ _)) (by assumption) ?_
              simp only [List.setIfInBounds_toArray, List.set_cons_zero, List.set_cons_succ]
              refine take_at (i := 11) (v := ?_) rfl rfl (by kernel_rfl) (by kernel_rfl) (by kernel_rfl) (fun _ _ _ h => h) (Or.inl ⟨by rfl, ?_⟩) (by assumption) ?_
              rotate_left
              · intro w0 hSw; (try dsimp only at hSw); first | (go_simp; done) | (go_simp; with_reducible rfl)
              simp only [List.setIfInBounds_toArray, List.set_cons_zero, List.set_cons_succ]
              refine wpAnyH_ready (rs := [10]) (by kernel_rfl) (by simp) ?_
              refine AllReadyH.cons rfl (fun K hK => ?_) ?_
              · have HCx := Lib.hid (HOW.out _ hHeld)
                go_simp
                go_wp2_with ((go_at_call 14; (with_reducible refine (HCx.out).mono ?_); rintro e y2 ⟨rfl, hb⟩; have HX := Lib.hid (bthen hHeld hb); clear hb HCx))
                refine hK.out _ _ (by (try dsimp only); exact HX.out) (fun hHeld => ?_)
                clear hK K
                refine take_at (i := 12) (v := ?_) rfl rfl (by kernel_rfl) (by kernel_rfl) (by kernel_rfl) (fun _ _ _ h => h) (Or.inl ⟨by rfl, ?_⟩) (by assumption) ?_
                rotate_left
                · intro w0 hSw; (try dsimp only at hSw); first | (go_simp; done) | (go_simp; with_reducible rfl)
                simp only [List.setIfInBounds_toArray, List.set_cons_zero, List.set_cons_succ]
                refine take_at (i := 13) (v := ?_) rfl rfl (by kernel_rfl) (by kernel_rfl) (by kernel_rfl) (fun _ _ _ h => h) (Or.inl ⟨by rfl, ?_⟩) (by assumption) ?_
                rotate_left
                · intro w0 hSw; (try dsimp only at hSw); first | (go_simp; done) | (go_simp; with_reducible rfl)
                simp only [List.setIfInBounds_toArray, List.set_cons_zero, List.set_cons_succ]
                refine take_at (i := 14) (v := ?_) rfl rfl (by kernel_rfl) (by kernel_rfl) (by kernel_rfl) (fun _ _ _ h => h) (Or.inl ⟨by rfl, ?_⟩) (by assumption) ?_
                rotate_left
                · intro w0 hSw; (try dsimp only at hSw); first | (go_simp; done) | (go_simp; with_reducible rfl)
                simp only [List.setIfInBounds_toArray, List.set_cons_zero, List.set_cons_succ]
                refine take_at (i := 15) rfl rfl (by kernel_rfl) (by kernel_rfl) (by kernel_rfl) (fun _ _ _ h => h) (yieldsIf_load_mid (by rfl) _ _ rfl p7 0 rfl (commitP c a0 a1 a2 a3 a4 a5 a6 c.peer c.client s.peer s.client s.h1).cells _ (fun w0 hSw => range_of (keep hSw HPT.out)) Tryd.underlying38 rfl (commit_size _ _ _ _ _ _ _ _ _ _ _ _ _)) (by assumption) ?_
                simp only [List.setIfInBounds_toArray, List.set_cons_zero, List.set_cons_succ]
                refine take_at (i := 17) rfl rfl (by kernel_rfl) (by kernel_rfl) (by kernel_rfl) (fun _ _ _ h => h) (yieldsIf_load_mid (by rfl) _ _ rfl p12 0 rfl (commitP c (some ⟨k0, 0, none⟩) (some ⟨k3, 0, none⟩) (some ⟨k1, 0, none⟩) (some ⟨k2, 0, none⟩) (some ⟨k5, 0, none⟩) (some ⟨k4, 0, none⟩) (some ⟨k6, 0, none⟩) c.peer c.client s.peer s.client s.h1).cells _ (fun w0 hSw => range_of (keep hSw HPW.out)) Tryd.underlying38 rfl (commit_size _ _ _ _ _ _ _ _ _ _ _ _ _)) (by assumption) ?_
                simp only [List.setIfInBounds_toArray, List.set_cons_zero, List.set_cons_succ]
                refine wpAnyH_ready (rs := [16]) (by kernel_rfl) (by simp) ?_
                refine AllReadyH.cons rfl (fun K hK => ?_) ?_
                · have HCx := Lib.hid (HREF.out _ hHeld)
                  go_simp
                  go_wp2_with ((go_at_call 15; (with_reducible refine (HCx.out).mono ?_); rintro e y3 ⟨rfl, hb⟩; have HX := Lib.hid (bthen hHeld hb); clear hb HCx))
                  refine hK.out _ _ (by (try dsimp only); exact HX.out) (fun hHeld => ?_)
                  clear hK K
                  refine wpAnyH_ready (rs := [18]) (by kernel_rfl) (by simp) ?_
                  refine AllReadyH.cons rfl (fun K hK => ?_) ?_
                  · have HCx := Lib.hid (HSUM.out _ hHeld)
                    go_simp
                    go_wp2_with ((go_at_call 16; (with_reducible refine (HCx.out).mono ?_); rintro e y4 ⟨rfl, hb⟩; have HX := Lib.hid (bthen hHeld hb); clear hb HCx))
                    refine hK.out _ _ (by (try dsimp only); exact HX.out) (fun hHeld => ?_)
                    clear hK K
                    refine take_at (i := 19) rfl rfl (by kernel_rfl) (by kernel_rfl) (by kernel_rfl) (fun _ _ _ h => h) (yields_build10 (by rfl) rfl (vs := [(0, .agg (cellsOf T).toArray)]) (by rfl) (build_ref1_14 HTL.out)) (by assumption) ?_
                    simp only [List.setIfInBounds_toArray, List.set_cons_zero, List.set_cons_succ]
                    refine take_at (i := 20) (v := .bool true) rfl rfl (by kernel_rfl) (by kernel_rfl) (by kernel_rfl) (fun _ _ _ h => h) (Or.inl ⟨by rfl, ?_⟩) (by assumption) ?_
                    · intro w0 hSw; (try dsimp only at hSw); first | (go_simp; done) | (go_simp; with_reducible rfl) | (go_simp; omega)
                    simp only [List.setIfInBounds_toArray, List.set_cons_zero, List.set_cons_succ]
                    refine take_at (i := 21) (v := ?_) rfl rfl (by kernel_rfl) (by kernel_rfl) (by kernel_rfl) (fun _ _ _ h => h) (Or.inl ⟨by rfl, ?_⟩) (by assumption) ?_
                    rotate_left
                    · intro w0 hSw; (try dsimp only at hSw); first | (go_simp; done) | (go_simp; with_reducible rfl)
                    simp only [List.setIfInBounds_toArray, List.set_cons_zero, List.set_cons_succ]
                    refine take_at (i := 22) (v := ?_) rfl rfl (by kernel_rfl) (by kernel_rfl) (by kernel_rfl) (fun _ _ _ h => h) (Or.inl ⟨by rfl, ?_⟩) (by assumption) ?_
                    rotate_left
                    · intro w0 hSw; (try dsimp only at hSw); first | (go_simp; done) | (go_simp; with_reducible rfl)
                    simp only [List.setIfInBounds_toArray, List.set_cons_zero, List.set_cons_succ]
                    refine wpAnyH_ready (rs := [23]) (by kernel_rfl) (by simp) ?_
                    refine AllReadyH.cons rfl (fun K hK => ?_) ?_
                    · have HCx := Lib.hid (HAW.out y4)
                      go_simp
                      go_wp2_with ((go_at_call 10; (with_reducible refine (HCx.out).mono ?_); rintro e y5 ⟨rfl, hb⟩; have HX := Lib.hid (bthen hHeld hb); clear hb HCx))
                      refine hK.out _ _ (by (try dsimp only); exact HX.out) (fun hHeld => ?_)
                      clear hK K
                      refine take_at (i := 24) (v := ?_) rfl rfl (by kernel_rfl) (by kernel_rfl) (by kernel_rfl) (fun _ _ _ h => h) (Or.inl ⟨by rfl, ?_⟩) (by assumption) ?_
                      rotate_left
                      · intro w0 hSw; (try dsimp only at hSw); first | (go_simp; done) | (go_simp; with_reducible rfl)
                      simp only [List.setIfInBounds_toArray, List.set_cons_zero, List.set_cons_succ]
                      refine take_at (i := 25) (v := ?_) rfl rfl (by kernel_rfl) (by kernel_rfl) (by kernel_rfl) (fun _ _ _ h => h) (Or.inl ⟨by rfl, ?_⟩) (by assumption) ?_
                      rotate_left
                      · intro w0 hSw; (try dsimp only at hSw); first | (go_simp; done) | (go_simp; with_reducible rfl)
                      simp only [List.setIfInBounds_toArray, List.set_cons_zero, List.set_cons_succ]
                      refine wpAnyH_done (by kernel_rfl) ?_ _
                      clear hHeld
                      have HFIN := Lib.hid (bthen HBB.out HX.out)
                      go_wp2_with fail
                      go_ret
                      exact ⟨rfl, HFIN.out⟩
                    exact AllReadyH.nil
                  exact AllReadyH.nil
                exact AllReadyH.nil
              exact AllReadyH.nil
            exact AllReadyH.nil
        exact AllReadyH.nil
      exact AllReadyH.nil
    exact AllReadyH.nil
  exact AllReadyH.nil
end Go.Proofs.YtkihmhchdenamaaDoor
