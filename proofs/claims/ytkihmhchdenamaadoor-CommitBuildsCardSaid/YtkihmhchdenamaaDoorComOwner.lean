/- What the code's Owner comes to, of a commitment. -/
import Derived.Test.YtkihmhchdenamaaDoorComHas
import Derived.Test.YtkihmhchdenamaaDoorTxOk
namespace Go.Proofs.YtkihmhchdenamaaDoor
open Go.RowKit

theorem index_pair14 (z : Int) (hz : z = 0 ∨ z = 1) (W : World) : (Instr.index 72 (.agg #[.int .i64 0, .int .i64 1]) (.int .i64 z)).run Tryd.prog W = .ok (.int .i64 z) W := by rcases hz with rfl | rfl <;> kernel_rfl
set_option linter.unusedSimpArgs false in
set_option maxRecDepth 100000 in
set_option maxHeartbeats 6400000 in
theorem owner14_0 {w : World} {c : PChan} {a0 a1 a2 a3 a4 a5 a6 : Option Addr} {mine hers : Int} {h : List UInt8} (hc : ChanIn c) (ht : TxIn w (commitP c a0 a1 a2 a3 a4 a5 a6 c.client c.peer mine hers h)) (hz : h ≠ zero32) (hk : keysOk c = true) :
    Calls Tryd.prog 14 #[.agg c.cells.toArray, .agg (commitP c a0 a1 a2 a3 a4 a5 a6 c.client c.peer mine hers h).cells.toArray] w fun e w' => e = .returned (.int .i64 0) ∧ Below w.heap.size w w' := by
  have HKC : Hid (∀ W : World, Calls Tryd.prog 21 #[.agg c.cells.toArray] W fun e w' => e = .returned (.bool true) ∧ Below W.heap.size W w') := Lib.hid fun W => by rw [← hk]; exact rightKeys_any W hc.ftx
  have HV0 : Hid (alikeOs [twoO mine a1 2 ⟨a2, 1, 1, [c.client], zero32, 0, c.wait⟩ ⟨a3, 1, 1, [c.peer], h, 0, 0⟩, herP a4 a5 c.peer hers] [ownP c none none none c.client c.peer mine h, herP none none c.peer hers] = true) := Lib.hid (by simp [alikeOs, alikeO, twoO, ownP, herP, alikeWs, alikeW])
  have HC := Lib.hid hc
  have HZ := Lib.hid hz
  have HOS : Hid (SliceOf outK w a6 2 2 [twoO mine a1 2 ⟨a2, 1, 1, [c.client], zero32, 0, c.wait⟩ ⟨a3, 1, 1, [c.peer], h, 0, 0⟩, herP a4 a5 c.peer hers]) := Lib.hid ht.outs
  have SZCl := Lib.hid (chan_size hc.ftx)
  have SZC := Lib.hid (chan_sizeA hc.ftx)
  have SZR : Hid ((Tryd.prog.info? 25).map (·.size) = some (refCells c.ftx c.fat).length) := Lib.hid (refSize hc.ftx)
  have qr : ∀ W : World, (Op.equalIn 10000 25 (.agg (refCells c.ftx c.fat).toArray) (.agg (refCells c.ftx c.fat).toArray)).run Tryd.prog W = .ok true W := fun W => by rw [run_eqRefs _ _ _ _ hc.ftx hc.ftx W]; simp
  obtain ⟨b, o, ea, hlt, hcells⟩ := (show SliceOf inK w a0 1 1 [fundP c] from ht.ins).2.2.2.2.2 (by omega)
  have ri : w.rangeAt b o (refCells c.ftx c.fat) := by have h9 := hcells 0 (by omega); rw [Nat.zero_mul] at h9; exact in_ref h9
  have HEA := Lib.hid ea
  have HLT := Lib.hid hlt
  have RI' := Lib.hid ri
  clear hk ht hz hc hcells ea hlt ri
  go_enter Tryd.func14, Tryd.ntmps14
  go_upto_region 1 with (fail)
  have b1 : Below w.heap.size w ((w.alloc (.cells c.cells.toArray 27)).alloc (.cells (commitP c a0 a1 a2 a3 a4 a5 a6 c.client c.peer mine hers h).cells.toArray 38)) := ((Below.refl _ _).alloc (Nat.le_refl _) _).alloc (by simp) _
  have h1 : ((w.alloc (.cells c.cells.toArray 27)).alloc (.cells (commitP c a0 a1 a2 a3 a4 a5 a6 c.client c.peer mine hers h).cells.toArray 38)).heap[w.heap.size]? = some (.cells c.cells.toArray 27 (0, 0)) := by
    rw [heap_alloc_old _ _ (by simp), heap_alloc_new]
  have h2 : ((w.alloc (.cells c.cells.toArray 27)).alloc (.cells (commitP c a0 a1 a2 a3 a4 a5 a6 c.client c.peer mine hers h).cells.toArray 38)).heap[w.heap.size + 1]? = some (.cells (commitP c a0 a1 a2 a3 a4 a5 a6 c.client c.peer mine hers h).cells.toArray 38 (0, 0)) := heap_alloc_at _ _ _ (by simp)
  revert b1 h1 h2
  generalize ((w.alloc (.cells c.cells.toArray 27)).alloc (.cells (commitP c a0 a1 a2 a3 a4 a5 a6 c.client c.peer mine hers h).cells.toArray 38)) = w1
  obtain ⟨g, hg⟩ : ∃ g, g = w.heap.size := ⟨_, rfl⟩
  rw [← hg]
  intro b1 h1 h2
  rw [hg] at b1
  have HB1 := Lib.hid b1
  have H1 := Lib.hid h1
  have HGT := Lib.hid (lt_of_block h2)
  have ci := (range_cons (range_of h2)).1
  rw [show ((commitP c a0 a1 a2 a3 a4 a5 a6 c.client c.peer mine hers h).ia) = some ⟨b, o, none⟩ from HEA.out] at ci
  have co := (range_cons (range_cons (range_of h2)).2).1
  have ck := (range_cons (range_cons (range_cons (range_of h2)).2).2).1
  rw [Nat.zero_add] at co ck
  have CI : Hid (w1.cell? ⟨g + 1, 0, none⟩ = some (.slice (some ⟨b, o, none⟩) 1 1)) := Lib.hid ci
  have CO : Hid (w1.cell? ⟨g + 1, 1, none⟩ = some (.slice a6 2 2)) := Lib.hid co
  have CK : Hid (w1.cell? ⟨g + 1, 2, none⟩ = some (.int .i64 0)) := Lib.hid ck
  have RI := Lib.hid (rangeAt_below RI'.out HLT.out b1)
  have HBI := Lib.hid (Nat.lt_of_lt_of_le HLT.out b1.size)
  obtain ⟨Y, hY⟩ : ∃ Y, (commitP c a0 a1 a2 a3 a4 a5 a6 c.client c.peer mine hers h).cells.toArray = Y := ⟨_, rfl⟩
  rw [hY]
  clear hY b1 h1 h2 hg ci co ck RI' HLT HEA
  refine wp_region_held_drew (S := fun w' => Below w1.heap.size w1 w') (by kernel_rfl) (below_drew (Below.refl _ _)) (fun hHeld => ?_)
  refine take_at (i := 0) rfl rfl (by kernel_rfl) (by kernel_rfl) (by kernel_rfl) (fun _ _ _ h => h) (yieldsIf_load_mid (by rfl) _ _ rfl g 0 rfl c.cells _ (fun w0 hSw => range_of (keep hSw H1.out)) Tryd.underlying27 rfl SZCl.out) (by assumption) ?_
  simp only [List.setIfInBounds_toArray, List.set_cons_zero, List.set_cons_succ]
  refine wpAnyH_ready (rs := [1]) (by kernel_rfl) (by simp) ?_
  refine AllReadyH.cons rfl (fun K hK => ?_) ?_
  · have HC1 := Lib.hid HKC.out
    go_simp
    go_wp2_with ((go_at_call 21; (with_reducible refine (HC1.out _).mono ?_); rintro e w2 ⟨rfl, hb⟩; have HB12 := Lib.hid (bthen hHeld hb); clear hb HC1))
    refine hK.out _ _ (by (try dsimp only); exact HB12.out) (fun hHeld => ?_)
    clear hK K
    refine take_at (i := 2) (v := ?_) rfl rfl (by kernel_rfl) (by kernel_rfl) (by kernel_rfl) (fun _ _ _ h => h) (Or.inl ⟨by rfl, ?_⟩) (by assumption) ?_
    rotate_left
    · intro w0 hSw; (try dsimp only at hSw); first | (go_simp; done) | (go_simp; with_reducible rfl)
    simp only [List.setIfInBounds_toArray, List.set_cons_zero, List.set_cons_succ]
    refine take_at (i := 3) (v := ?_) rfl rfl (by kernel_rfl) (by kernel_rfl) (by kernel_rfl) (fun _ _ _ h => h) (Or.inl ⟨by rfl, ?_⟩) (by assumption) ?_
    rotate_left
    · intro w0 hSw; (try dsimp only at hSw); first | (go_simp; done) | (go_simp; with_reducible rfl)
    simp only [List.setIfInBounds_toArray, List.set_cons_zero, List.set_cons_succ]
    refine take_at (i := 4) (v := ?_) rfl rfl (by kernel_rfl) (by kernel_rfl) (by kernel_rfl) (fun _ _ _ h => h) (Or.inl ⟨by rfl, ?_⟩) (by assumption) ?_
    rotate_left
    · intro w0 hSw; (try dsimp only at hSw); first | (go_simp; done) | (go_simp; with_reducible rfl)
    simp only [List.setIfInBounds_toArray, List.set_cons_zero, List.set_cons_succ]
    refine take_at (i := 5) (v := ?_) rfl rfl (by kernel_rfl) (by kernel_rfl) (by kernel_rfl) (fun _ _ _ h => h) (Or.inl ⟨by rfl, ?_⟩) (by assumption) ?_
    rotate_left
    · intro w0 hSw; (try dsimp only at hSw); first | (go_simp; done) | (go_simp; with_reducible rfl)
    simp only [List.setIfInBounds_toArray, List.set_cons_zero, List.set_cons_succ]
    refine take_at (i := 6) rfl rfl (by kernel_rfl) (by kernel_rfl) (by kernel_rfl) (fun _ _ _ h => h) (yields_cell (b := (g + 1)) (o := 2) (by rfl) rfl rfl (fun w0 hSw => (Below.cell hSw (p := ⟨g + 1, 2, none⟩) HGT.out).trans CK.out) (fun w0 => Tryd.isAgg3 w0)) (by assumption) ?_
    simp only [List.setIfInBounds_toArray, List.set_cons_zero, List.set_cons_succ]
    refine take_at (i := 7) (v := .bool false) rfl rfl (by kernel_rfl) (by kernel_rfl) (by kernel_rfl) (fun _ _ _ h => h) (Or.inl ⟨by rfl, ?_⟩) (by assumption) ?_
    · intro w0 hSw; (try dsimp only at hSw); first | (go_simp; done) | (go_simp; with_reducible rfl) | (go_simp; omega)
    simp only [List.setIfInBounds_toArray, List.set_cons_zero, List.set_cons_succ]
    refine take_at (i := 8) (v := ?_) rfl rfl (by kernel_rfl) (by kernel_rfl) (by kernel_rfl) (fun _ _ _ h => h) (Or.inl ⟨by rfl, ?_⟩) (by assumption) ?_
    rotate_left
    · intro w0 hSw; (try dsimp only at hSw); first | (go_simp; done) | (go_simp; with_reducible rfl)
    simp only [List.setIfInBounds_toArray, List.set_cons_zero, List.set_cons_succ]
    refine take_at (i := 9) (v := ?_) rfl rfl (by kernel_rfl) (by kernel_rfl) (by kernel_rfl) (fun _ _ _ h => h) (Or.inl ⟨by rfl, ?_⟩) (by assumption) ?_
    rotate_left
    · intro w0 hSw; (try dsimp only at hSw); first | (go_simp; done) | (go_simp; with_reducible rfl)
    simp only [List.setIfInBounds_toArray, List.set_cons_zero, List.set_cons_succ]
    refine take_at (i := 10) (v := ?_) rfl rfl (by kernel_rfl) (by kernel_rfl) (by kernel_rfl) (fun _ _ _ h => h) (Or.inl ⟨by rfl, ?_⟩) (by assumption) ?_
    rotate_left
    · intro w0 hSw; (try dsimp only at hSw); first | (go_simp; done) | (go_simp; with_reducible rfl)
    simp only [List.setIfInBounds_toArray, List.set_cons_zero, List.set_cons_succ]
    refine take_at (i := 11) rfl rfl (by kernel_rfl) (by kernel_rfl) (by kernel_rfl) (fun _ _ _ h => h) (yields_cell (b := (g + 1)) (o := 0) (by rfl) rfl rfl (fun w0 hSw => (Below.cell hSw (p := ⟨g + 1, 0, none⟩) HGT.out).trans CI.out) (fun w0 => Tryd.isAgg31 w0)) (by assumption) ?_
    simp only [List.setIfInBounds_toArray, List.set_cons_zero, List.set_cons_succ]
    refine take_at (i := 12) (v := ?_) rfl rfl (by kernel_rfl) (by kernel_rfl) (by kernel_rfl) (fun _ _ _ h => h) (Or.inl ⟨by rfl, ?_⟩) (by assumption) ?_
    rotate_left
    · intro w0 hSw; (try dsimp only at hSw); first | (go_simp; done) | (go_simp; with_reducible rfl)
    simp only [List.setIfInBounds_toArray, List.set_cons_zero, List.set_cons_succ]
    refine take_at (i := 13) (v := .bool false) rfl rfl (by kernel_rfl) (by kernel_rfl) (by kernel_rfl) (fun _ _ _ h => h) (Or.inl ⟨by rfl, ?_⟩) (by assumption) ?_
    · intro w0 hSw; (try dsimp only at hSw); first | (go_simp; done) | (go_simp; with_reducible rfl) | (go_simp; omega)
    simp only [List.setIfInBounds_toArray, List.set_cons_zero, List.set_cons_succ]
    refine take_at (i := 14) (v := ?_) rfl rfl (by kernel_rfl) (by kernel_rfl) (by kernel_rfl) (fun _ _ _ h => h) (Or.inl ⟨by rfl, ?_⟩) (by assumption) ?_
    rotate_left
    · intro w0 hSw; (try dsimp only at hSw); first | (go_simp; done) | (go_simp; with_reducible rfl)
    simp only [List.setIfInBounds_toArray, List.set_cons_zero, List.set_cons_succ]
    refine take_at (i := 15) (v := ?_) rfl rfl (by kernel_rfl) (by kernel_rfl) (by kernel_rfl) (fun _ _ _ h => h) (Or.inl ⟨by rfl, ?_⟩) (by assumption) ?_
    rotate_left
    · intro w0 hSw; (try dsimp only at hSw); first | (go_simp; done) | (go_simp; with_reducible rfl)
    simp only [List.setIfInBounds_toArray, List.set_cons_zero, List.set_cons_succ]
    refine take_at (i := 16) (v := ?_) rfl rfl (by kernel_rfl) (by kernel_rfl) (by kernel_rfl) (fun _ _ _ h => h) (Or.inl ⟨by rfl, ?_⟩) (by assumption) ?_
    rotate_left
    · intro w0 hSw; (try dsimp only at hSw); first | (go_simp; done) | (go_simp; with_reducible rfl)
    simp only [List.setIfInBounds_toArray, List.set_cons_zero, List.set_cons_succ]
    refine take_at (i := 17) rfl rfl (by kernel_rfl) (by kernel_rfl) (by kernel_rfl) (fun _ _ _ h => h) (yields_cell (b := (g + 1)) (o := 0) (by rfl) rfl rfl (fun w0 hSw => (Below.cell hSw (p := ⟨g + 1, 0, none⟩) HGT.out).trans CI.out) (fun w0 => Tryd.isAgg31 w0)) (by assumption) ?_
    simp only [List.setIfInBounds_toArray, List.set_cons_zero, List.set_cons_succ]
    refine take_at (i := 18) (v := ?_) rfl rfl (by kernel_rfl) (by kernel_rfl) (by kernel_rfl) (fun _ _ _ h => h) (Or.inl ⟨by rfl, ?_⟩) (by assumption) ?_
    rotate_left
    · intro w0 hSw; (try dsimp only at hSw); first | (go_simp; done) | (go_simp; with_reducible rfl)
    simp only [List.setIfInBounds_toArray, List.set_cons_zero, List.set_cons_succ]
    refine take_at (i := 19) (v := ?_) rfl rfl (by kernel_rfl) (by kernel_rfl) (by kernel_rfl) (fun _ _ _ h => h) (Or.inl ⟨by rfl, ?_⟩) (by assumption) ?_
    rotate_left
    · intro w0 hSw; (try dsimp only at hSw); first | (go_simp; done) | (go_simp; with_reducible rfl)
    simp only [List.setIfInBounds_toArray, List.set_cons_zero, List.set_cons_succ]
    refine take_at (i := 20) rfl rfl (by kernel_rfl) (by kernel_rfl) (by kernel_rfl) (fun _ _ _ h => h) (yieldsIf_load_mid (by rfl) _ _ rfl b o rfl (refCells c.ftx c.fat) _ (fun w0 hSw => rangeAt_below RI.out HBI.out hSw) Tryd.underlying25 rfl SZR.out) (by assumption) ?_
    simp only [List.setIfInBounds_toArray, List.set_cons_zero, List.set_cons_succ]
    refine take_at (i := 21) (v := ?_) rfl rfl (by kernel_rfl) (by kernel_rfl) (by kernel_rfl) (fun _ _ _ h => h) (Or.inl ⟨by rfl, ?_⟩) (by assumption) ?_
    rotate_left
    · intro w0 hSw; (try dsimp only at hSw); first | (go_simp; done) | (go_simp; with_reducible rfl)
    simp only [List.setIfInBounds_toArray, List.set_cons_zero, List.set_cons_succ]
    refine take_at (i := 22) rfl rfl (by kernel_rfl) (by kernel_rfl) (by kernel_rfl) (fun _ _ _ h => h) (yieldsIf_load_mid (by rfl) _ _ rfl g 3 rfl (refCells c.ftx c.fat) _ (fun w0 hSw => by have h9 := (chan_at HC.out.ftx (range_of (keep hSw H1.out))).fund; rw [Nat.zero_add] at h9; exact h9) Tryd.underlying25 rfl SZR.out) (by assumption) ?_
    simp only [List.setIfInBounds_toArray, List.set_cons_zero, List.set_cons_succ]
    refine take_at (i := 23) (v := .bool false) rfl rfl (by kernel_rfl) (by kernel_rfl) (by kernel_rfl) (fun _ _ _ h => h) (Or.inl ⟨by rfl, ?_⟩) (by assumption) ?_
    · intro w0 hSw; (try dsimp only at hSw); first | (go_simp; done) | (go_simp; with_reducible rfl) | (go_simp; omega)
    simp only [List.setIfInBounds_toArray, List.set_cons_zero, List.set_cons_succ]
    refine take_at (i := 24) (v := ?_) rfl rfl (by kernel_rfl) (by kernel_rfl) (by kernel_rfl) (fun _ _ _ h => h) (Or.inl ⟨by rfl, ?_⟩) (by assumption) ?_
    rotate_left
    · intro w0 hSw; (try dsimp only at hSw); first | (go_simp; done) | (go_simp; with_reducible rfl)
    simp only [List.setIfInBounds_toArray, List.set_cons_zero, List.set_cons_succ]
    refine wpAnyH_done (by kernel_rfl) ?_ _
    clear hHeld
    have HB2 := Lib.hid (bthen HB1.out HB12.out)
    have H12 := Lib.hid (keep HB12.out H1.out)
    have HGT2 := Lib.hid (Nat.lt_of_lt_of_le HGT.out HB12.out.size)
    have CO2 := Lib.hid ((Below.cell HB12.out (p := ⟨g + 1, 1, none⟩) HGT.out).trans CO.out)
    have HH0 : Hid (∀ W : World, Below w2.heap.size w2 W → Calls Tryd.prog 28 #[.agg c.cells.toArray, .slice a6 2 2, .int .i64 0] W fun e w' => e = .returned (.bool true) ∧ Below W.heap.size W w') := Lib.hid (fun W hW => by rw [← HV0.out]; exact has0_any HC.out (HOS.out.below (bthen HB2.out hW)) HZ.out)
    go_upto_region 4 with (first | (refine wpList_build10 rfl rfl (vs := [(0, .int .i64 0), (1, .int .i64 1)]) rfl (build_pair14 _ _) ?_; go_frame) | fail)
    go_loopw [33] (fun i wr => i = .int .i64 0 ∧ Below w2.heap.size w2 wr) (fun i _ => 2 - (intOf i).toNat)
    case atStart => exact ⟨rfl, Below.refl _ _⟩
    case round =>
      obtain ⟨rfl, hbr⟩ := hrel
      have HBR := Lib.hid hbr
      clear hbr
      have HR1 := Lib.hid (keep HBR.out H12.out)
      have co := (Below.cell HBR.out (p := ⟨g + 1, 1, none⟩) HGT2.out).trans CO2.out
      have iw := index_pair14 0 (by omega)
      go_wp2_with (first | (refine wpList_load_row rfl 27 _ rfl g rfl 27 c.cells.toArray (0, 0) _ HR1.out Tryd.underlying27 rfl SZC.out ?_) | (go_at_call 28; (with_reducible refine (HH0.out _ HBR.out).mono ?_); rintro e w3 ⟨rfl, hb⟩; have HB3 := Lib.hid (bthen HBR.out hb); clear hb) | fail)
      go_ret
      exact ⟨rfl, bthen HB2.out HB3.out⟩
  exact AllReadyH.nil
set_option linter.unusedSimpArgs false in
set_option maxRecDepth 100000 in
set_option maxHeartbeats 6400000 in
theorem owner14_1 {w : World} {c : PChan} {a0 a1 a2 a3 a4 a5 a6 : Option Addr} {mine hers : Int} {h : List UInt8} (hc : ChanIn c) (ht : TxIn w (commitP c a0 a1 a2 a3 a4 a5 a6 c.peer c.client mine hers h)) (hz : h ≠ zero32) (hk : keysOk c = true) (hu : c.client ≠ c.peer) :
    Calls Tryd.prog 14 #[.agg c.cells.toArray, .agg (commitP c a0 a1 a2 a3 a4 a5 a6 c.peer c.client mine hers h).cells.toArray] w fun e w' => e = .returned (.int .i64 1) ∧ Below w.heap.size w w' := by
  have HKC : Hid (∀ W : World, Calls Tryd.prog 21 #[.agg c.cells.toArray] W fun e w' => e = .returned (.bool true) ∧ Below W.heap.size W w') := Lib.hid fun W => by rw [← hk]; exact rightKeys_any W hc.ftx
  have HV0 : Hid (alikeOs [twoO mine a1 2 ⟨a2, 1, 1, [c.peer], zero32, 0, c.wait⟩ ⟨a3, 1, 1, [c.client], h, 0, 0⟩, herP a4 a5 c.client hers] [ownP c none none none c.client c.peer mine h, herP none none c.peer hers] = false) := Lib.hid (by simp [alikeOs, alikeO, twoO, ownP, herP, alikeWs, alikeW, hu, Ne.symm hu])
  have HV1 : Hid (alikeOs [twoO mine a1 2 ⟨a2, 1, 1, [c.peer], zero32, 0, c.wait⟩ ⟨a3, 1, 1, [c.client], h, 0, 0⟩, herP a4 a5 c.client hers] [ownP c none none none c.peer c.client mine h, herP none none c.client hers] = true) := Lib.hid (by simp [alikeOs, alikeO, twoO, ownP, herP, alikeWs, alikeW])
  have HC := Lib.hid hc
  have HZ := Lib.hid hz
  have HOS : Hid (SliceOf outK w a6 2 2 [twoO mine a1 2 ⟨a2, 1, 1, [c.peer], zero32, 0, c.wait⟩ ⟨a3, 1, 1, [c.client], h, 0, 0⟩, herP a4 a5 c.client hers]) := Lib.hid ht.outs
  have SZCl := Lib.hid (chan_size hc.ftx)
  have SZC := Lib.hid (chan_sizeA hc.ftx)
  have SZR : Hid ((Tryd.prog.info? 25).map (·.size) = some (refCells c.ftx c.fat).length) := Lib.hid (refSize hc.ftx)
  have qr : ∀ W : World, (Op.equalIn 10000 25 (.agg (refCells c.ftx c.fat).toArray) (.agg (refCells c.ftx c.fat).toArray)).run Tryd.prog W = .ok true W := fun W => by rw [run_eqRefs _ _ _ _ hc.ftx hc.ftx W]; simp
  obtain ⟨b, o, ea, hlt, hcells⟩ := (show SliceOf inK w a0 1 1 [fundP c] from ht.ins).2.2.2.2.2 (by omega)
  have ri : w.rangeAt b o (refCells c.ftx c.fat) := by have h9 := hcells 0 (by omega); rw [Nat.zero_mul] at h9; exact in_ref h9
  have HEA := Lib.hid ea
  have HLT := Lib.hid hlt
  have RI' := Lib.hid ri
  clear hk ht hz hc hcells ea hlt ri
  go_enter Tryd.func14, Tryd.ntmps14
  go_upto_region 1 with (fail)
  have b1 : Below w.heap.size w ((w.alloc (.cells c.cells.toArray 27)).alloc (.cells (commitP c a0 a1 a2 a3 a4 a5 a6 c.peer c.client mine hers h).cells.toArray 38)) := ((Below.refl _ _).alloc (Nat.le_refl _) _).alloc (by simp) _
  have h1 : ((w.alloc (.cells c.cells.toArray 27)).alloc (.cells (commitP c a0 a1 a2 a3 a4 a5 a6 c.peer c.client mine hers h).cells.toArray 38)).heap[w.heap.size]? = some (.cells c.cells.toArray 27 (0, 0)) := by
    rw [heap_alloc_old _ _ (by simp), heap_alloc_new]
  have h2 : ((w.alloc (.cells c.cells.toArray 27)).alloc (.cells (commitP c a0 a1 a2 a3 a4 a5 a6 c.peer c.client mine hers h).cells.toArray 38)).heap[w.heap.size + 1]? = some (.cells (commitP c a0 a1 a2 a3 a4 a5 a6 c.peer c.client mine hers h).cells.toArray 38 (0, 0)) := heap_alloc_at _ _ _ (by simp)
  revert b1 h1 h2
  generalize ((w.alloc (.cells c.cells.toArray 27)).alloc (.cells (commitP c a0 a1 a2 a3 a4 a5 a6 c.peer c.client mine hers h).cells.toArray 38)) = w1
  obtain ⟨g, hg⟩ : ∃ g, g = w.heap.size := ⟨_, rfl⟩
  rw [← hg]
  intro b1 h1 h2
  rw [hg] at b1
  have HB1 := Lib.hid b1
  have H1 := Lib.hid h1
  have HGT := Lib.hid (lt_of_block h2)
  have ci := (range_cons (range_of h2)).1
  rw [show ((commitP c a0 a1 a2 a3 a4 a5 a6 c.peer c.client mine hers h).ia) = some ⟨b, o, none⟩ from HEA.out] at ci
  have co := (range_cons (range_cons (range_of h2)).2).1
  have ck := (range_cons (range_cons (range_cons (range_of h2)).2).2).1
  rw [Nat.zero_add] at co ck
  have CI : Hid (w1.cell? ⟨g + 1, 0, none⟩ = some (.slice (some ⟨b, o, none⟩) 1 1)) := Lib.hid ci
  have CO : Hid (w1.cell? ⟨g + 1, 1, none⟩ = some (.slice a6 2 2)) := Lib.hid co
  have CK : Hid (w1.cell? ⟨g + 1, 2, none⟩ = some (.int .i64 0)) := Lib.hid ck
  have RI := Lib.hid (rangeAt_below RI'.out HLT.out b1)
  have HBI := Lib.hid (Nat.lt_of_lt_of_le HLT.out b1.size)
  obtain ⟨Y, hY⟩ : ∃ Y, (commitP c a0 a1 a2 a3 a4 a5 a6 c.peer c.client mine hers h).cells.toArray = Y := ⟨_, rfl⟩
  rw [hY]
  clear hY b1 h1 h2 hg ci co ck RI' HLT HEA
  refine wp_region_held_drew (S := fun w' => Below w1.heap.size w1 w') (by kernel_rfl) (below_drew (Below.refl _ _)) (fun hHeld => ?_)
  refine take_at (i := 0) rfl rfl (by kernel_rfl) (by kernel_rfl) (by kernel_rfl) (fun _ _ _ h => h) (yieldsIf_load_mid (by rfl) _ _ rfl g 0 rfl c.cells _ (fun w0 hSw => range_of (keep hSw H1.out)) Tryd.underlying27 rfl SZCl.out) (by assumption) ?_
  simp only [List.setIfInBounds_toArray, List.set_cons_zero, List.set_cons_succ]
  refine wpAnyH_ready (rs := [1]) (by kernel_rfl) (by simp) ?_
  refine AllReadyH.cons rfl (fun K hK => ?_) ?_
  · have HC1 := Lib.hid HKC.out
    go_simp
    go_wp2_with ((go_at_call 21; (with_reducible refine (HC1.out _).mono ?_); rintro e w2 ⟨rfl, hb⟩; have HB12 := Lib.hid (bthen hHeld hb); clear hb HC1))
    refine hK.out _ _ (by (try dsimp only); exact HB12.out) (fun hHeld => ?_)
    clear hK K
    refine take_at (i := 2) (v := ?_) rfl rfl (by kernel_rfl) (by kernel_rfl) (by kernel_rfl) (fun _ _ _ h => h) (Or.inl ⟨by rfl, ?_⟩) (by assumption) ?_
    rotate_left
    · intro w0 hSw; (try dsimp only at hSw); first | (go_simp; done) | (go_simp; with_reducible rfl)
    simp only [List.setIfInBounds_toArray, List.set_cons_zero, List.set_cons_succ]
    refine take_at (i := 3) (v := ?_) rfl rfl (by kernel_rfl) (by kernel_rfl) (by kernel_rfl) (fun _ _ _ h => h) (Or.inl ⟨by rfl, ?_⟩) (by assumption) ?_
    rotate_left
    · intro w0 hSw; (try dsimp only at hSw); first | (go_simp; done) | (go_simp; with_reducible rfl)
    simp only [List.setIfInBounds_toArray, List.set_cons_zero, List.set_cons_succ]
    refine take_at (i := 4) (v := ?_) rfl rfl (by kernel_rfl) (by kernel_rfl) (by kernel_rfl) (fun _ _ _ h => h) (Or.inl ⟨by rfl, ?_⟩) (by assumption) ?_
    rotate_left
    · intro w0 hSw; (try dsimp only at hSw); first | (go_simp; done) | (go_simp; with_reducible rfl)
    simp only [List.setIfInBounds_toArray, List.set_cons_zero, List.set_cons_succ]
    refine take_at (i := 5) (v := ?_) rfl rfl (by kernel_rfl) (by kernel_rfl) (by kernel_rfl) (fun _ _ _ h => h) (Or.inl ⟨by rfl, ?_⟩) (by assumption) ?_
    rotate_left
    · intro w0 hSw; (try dsimp only at hSw); first | (go_simp; done) | (go_simp; with_reducible rfl)
    simp only [List.setIfInBounds_toArray, List.set_cons_zero, List.set_cons_succ]
    refine take_at (i := 6) rfl rfl (by kernel_rfl) (by kernel_rfl) (by kernel_rfl) (fun _ _ _ h => h) (yields_cell (b := (g + 1)) (o := 2) (by rfl) rfl rfl (fun w0 hSw => (Below.cell hSw (p := ⟨g + 1, 2, none⟩) HGT.out).trans CK.out) (fun w0 => Tryd.isAgg3 w0)) (by assumption) ?_
    simp only [List.setIfInBounds_toArray, List.set_cons_zero, List.set_cons_succ]
    refine take_at (i := 7) (v := .bool false) rfl rfl (by kernel_rfl) (by kernel_rfl) (by kernel_rfl) (fun _ _ _ h => h) (Or.inl ⟨by rfl, ?_⟩) (by assumption) ?_
    · intro w0 hSw; (try dsimp only at hSw); first | (go_simp; done) | (go_simp; with_reducible rfl) | (go_simp; omega)
    simp only [List.setIfInBounds_toArray, List.set_cons_zero, List.set_cons_succ]
    refine take_at (i := 8) (v := ?_) rfl rfl (by kernel_rfl) (by kernel_rfl) (by kernel_rfl) (fun _ _ _ h => h) (Or.inl ⟨by rfl, ?_⟩) (by assumption) ?_
    rotate_left
    · intro w0 hSw; (try dsimp only at hSw); first | (go_simp; done) | (go_simp; with_reducible rfl)
    simp only [List.setIfInBounds_toArray, List.set_cons_zero, List.set_cons_succ]
    refine take_at (i := 9) (v := ?_) rfl rfl (by kernel_rfl) (by kernel_rfl) (by kernel_rfl) (fun _ _ _ h => h) (Or.inl ⟨by rfl, ?_⟩) (by assumption) ?_
    rotate_left
    · intro w0 hSw; (try dsimp only at hSw); first | (go_simp; done) | (go_simp; with_reducible rfl)
    simp only [List.setIfInBounds_toArray, List.set_cons_zero, List.set_cons_succ]
    refine take_at (i := 10) (v := ?_) rfl rfl (by kernel_rfl) (by kernel_rfl) (by kernel_rfl) (fun _ _ _ h => h) (Or.inl ⟨by rfl, ?_⟩) (by assumption) ?_
    rotate_left
    · intro w0 hSw; (try dsimp only at hSw); first | (go_simp; done) | (go_simp; with_reducible rfl)
    simp only [List.setIfInBounds_toArray, List.set_cons_zero, List.set_cons_succ]
    refine take_at (i := 11) rfl rfl (by kernel_rfl) (by kernel_rfl) (by kernel_rfl) (fun _ _ _ h => h) (yields_cell (b := (g + 1)) (o := 0) (by rfl) rfl rfl (fun w0 hSw => (Below.cell hSw (p := ⟨g + 1, 0, none⟩) HGT.out).trans CI.out) (fun w0 => Tryd.isAgg31 w0)) (by assumption) ?_
    simp only [List.setIfInBounds_toArray, List.set_cons_zero, List.set_cons_succ]
    refine take_at (i := 12) (v := ?_) rfl rfl (by kernel_rfl) (by kernel_rfl) (by kernel_rfl) (fun _ _ _ h => h) (Or.inl ⟨by rfl, ?_⟩) (by assumption) ?_
    rotate_left
    · intro w0 hSw; (try dsimp only at hSw); first | (go_simp; done) | (go_simp; with_reducible rfl)
    simp only [List.setIfInBounds_toArray, List.set_cons_zero, List.set_cons_succ]
    refine take_at (i := 13) (v := .bool false) rfl rfl (by kernel_rfl) (by kernel_rfl) (by kernel_rfl) (fun _ _ _ h => h) (Or.inl ⟨by rfl, ?_⟩) (by assumption) ?_
    · intro w0 hSw; (try dsimp only at hSw); first | (go_simp; done) | (go_simp; with_reducible rfl) | (go_simp; omega)
    simp only [List.setIfInBounds_toArray, List.set_cons_zero, List.set_cons_succ]
    refine take_at (i := 14) (v := ?_) rfl rfl (by kernel_rfl) (by kernel_rfl) (by kernel_rfl) (fun _ _ _ h => h) (Or.inl ⟨by rfl, ?_⟩) (by assumption) ?_
    rotate_left
    · intro w0 hSw; (try dsimp only at hSw); first | (go_simp; done) | (go_simp; with_reducible rfl)
    simp only [List.setIfInBounds_toArray, List.set_cons_zero, List.set_cons_succ]
    refine take_at (i := 15) (v := ?_) rfl rfl (by kernel_rfl) (by kernel_rfl) (by kernel_rfl) (fun _ _ _ h => h) (Or.inl ⟨by rfl, ?_⟩) (by assumption) ?_
    rotate_left
    · intro w0 hSw; (try dsimp only at hSw); first | (go_simp; done) | (go_simp; with_reducible rfl)
    simp only [List.setIfInBounds_toArray, List.set_cons_zero, List.set_cons_succ]
    refine take_at (i := 16) (v := ?_) rfl rfl (by kernel_rfl) (by kernel_rfl) (by kernel_rfl) (fun _ _ _ h => h) (Or.inl ⟨by rfl, ?_⟩) (by assumption) ?_
    rotate_left
    · intro w0 hSw; (try dsimp only at hSw); first | (go_simp; done) | (go_simp; with_reducible rfl)
    simp only [List.setIfInBounds_toArray, List.set_cons_zero, List.set_cons_succ]
    refine take_at (i := 17) rfl rfl (by kernel_rfl) (by kernel_rfl) (by kernel_rfl) (fun _ _ _ h => h) (yields_cell (b := (g + 1)) (o := 0) (by rfl) rfl rfl (fun w0 hSw => (Below.cell hSw (p := ⟨g + 1, 0, none⟩) HGT.out).trans CI.out) (fun w0 => Tryd.isAgg31 w0)) (by assumption) ?_
    simp only [List.setIfInBounds_toArray, List.set_cons_zero, List.set_cons_succ]
    refine take_at (i := 18) (v := ?_) rfl rfl (by kernel_rfl) (by kernel_rfl) (by kernel_rfl) (fun _ _ _ h => h) (Or.inl ⟨by rfl, ?_⟩) (by assumption) ?_
    rotate_left
    · intro w0 hSw; (try dsimp only at hSw); first | (go_simp; done) | (go_simp; with_reducible rfl)
    simp only [List.setIfInBounds_toArray, List.set_cons_zero, List.set_cons_succ]
    refine take_at (i := 19) (v := ?_) rfl rfl (by kernel_rfl) (by kernel_rfl) (by kernel_rfl) (fun _ _ _ h => h) (Or.inl ⟨by rfl, ?_⟩) (by assumption) ?_
    rotate_left
    · intro w0 hSw; (try dsimp only at hSw); first | (go_simp; done) | (go_simp; with_reducible rfl)
    simp only [List.setIfInBounds_toArray, List.set_cons_zero, List.set_cons_succ]
    refine take_at (i := 20) rfl rfl (by kernel_rfl) (by kernel_rfl) (by kernel_rfl) (fun _ _ _ h => h) (yieldsIf_load_mid (by rfl) _ _ rfl b o rfl (refCells c.ftx c.fat) _ (fun w0 hSw => rangeAt_below RI.out HBI.out hSw) Tryd.underlying25 rfl SZR.out) (by assumption) ?_
    simp only [List.setIfInBounds_toArray, List.set_cons_zero, List.set_cons_succ]
    refine take_at (i := 21) (v := ?_) rfl rfl (by kernel_rfl) (by kernel_rfl) (by kernel_rfl) (fun _ _ _ h => h) (Or.inl ⟨by rfl, ?_⟩) (by assumption) ?_
    rotate_left
    · intro w0 hSw; (try dsimp only at hSw); first | (go_simp; done) | (go_simp; with_reducible rfl)
    simp only [List.setIfInBounds_toArray, List.set_cons_zero, List.set_cons_succ]
    refine take_at (i := 22) rfl rfl (by kernel_rfl) (by kernel_rfl) (by kernel_rfl) (fun _ _ _ h => h) (yieldsIf_load_mid (by rfl) _ _ rfl g 3 rfl (refCells c.ftx c.fat) _ (fun w0 hSw => by have h9 := (chan_at HC.out.ftx (range_of (keep hSw H1.out))).fund; rw [Nat.zero_add] at h9; exact h9) Tryd.underlying25 rfl SZR.out) (by assumption) ?_
    simp only [List.setIfInBounds_toArray, List.set_cons_zero, List.set_cons_succ]
    refine take_at (i := 23) (v := .bool false) rfl rfl (by kernel_rfl) (by kernel_rfl) (by kernel_rfl) (fun _ _ _ h => h) (Or.inl ⟨by rfl, ?_⟩) (by assumption) ?_
    · intro w0 hSw; (try dsimp only at hSw); first | (go_simp; done) | (go_simp; with_reducible rfl) | (go_simp; omega)
    simp only [List.setIfInBounds_toArray, List.set_cons_zero, List.set_cons_succ]
    refine take_at (i := 24) (v := ?_) rfl rfl (by kernel_rfl) (by kernel_rfl) (by kernel_rfl) (fun _ _ _ h => h) (Or.inl ⟨by rfl, ?_⟩) (by assumption) ?_
    rotate_left
    · intro w0 hSw; (try dsimp only at hSw); first | (go_simp; done) | (go_simp; with_reducible rfl)
    simp only [List.setIfInBounds_toArray, List.set_cons_zero, List.set_cons_succ]
    refine wpAnyH_done (by kernel_rfl) ?_ _
    clear hHeld
    have HB2 := Lib.hid (bthen HB1.out HB12.out)
    have H12 := Lib.hid (keep HB12.out H1.out)
    have HGT2 := Lib.hid (Nat.lt_of_lt_of_le HGT.out HB12.out.size)
    have CO2 := Lib.hid ((Below.cell HB12.out (p := ⟨g + 1, 1, none⟩) HGT.out).trans CO.out)
    have HH0 : Hid (∀ W : World, Below w2.heap.size w2 W → Calls Tryd.prog 28 #[.agg c.cells.toArray, .slice a6 2 2, .int .i64 0] W fun e w' => e = .returned (.bool false) ∧ Below W.heap.size W w') := Lib.hid (fun W hW => by rw [← HV0.out]; exact has0_any HC.out (HOS.out.below (bthen HB2.out hW)) HZ.out)
    have HH1 : Hid (∀ W : World, Below w2.heap.size w2 W → Calls Tryd.prog 28 #[.agg c.cells.toArray, .slice a6 2 2, .int .i64 1] W fun e w' => e = .returned (.bool true) ∧ Below W.heap.size W w') := Lib.hid (fun W hW => by rw [← HV1.out]; exact has1_any HC.out (HOS.out.below (bthen HB2.out hW)) HZ.out)
    go_upto_region 4 with (first | (refine wpList_build10 rfl rfl (vs := [(0, .int .i64 0), (1, .int .i64 1)]) rfl (build_pair14 _ _) ?_; go_frame) | fail)
    go_loopw [33] (fun i wr => ∃ j : Nat, j ≤ 1 ∧ i = .int .i64 j ∧ Below w2.heap.size w2 wr) (fun i _ => 2 - (intOf i).toNat)
    case atStart => exact ⟨0, by omega, rfl, Below.refl _ _⟩
    case round =>
      obtain ⟨j, hj, rfl, hbr⟩ := hrel
      have HBR := Lib.hid hbr
      clear hbr
      have HR1 := Lib.hid (keep HBR.out H12.out)
      have co := (Below.cell HBR.out (p := ⟨g + 1, 1, none⟩) HGT2.out).trans CO2.out
      rcases (show j = 0 ∨ j = 1 by omega) with rfl | rfl
      · have iw := index_pair14 0 (by omega)
        go_wp2_with (first | (refine wpList_load_row rfl 27 _ rfl g rfl 27 c.cells.toArray (0, 0) _ HR1.out Tryd.underlying27 rfl SZC.out ?_) | (go_at_call 28; (with_reducible refine (HH0.out _ HBR.out).mono ?_); rintro e w3 ⟨rfl, hb⟩; have HB3 := Lib.hid (bthen HBR.out hb); clear hb) | fail)
        go_roundw
        case rel => exact ⟨1, by omega, rfl, HB3.out⟩
        case measure => simp [intOf]; try omega
      · have iw := index_pair14 1 (by omega)
        go_wp2_with (first | (refine wpList_load_row rfl 27 _ rfl g rfl 27 c.cells.toArray (0, 0) _ HR1.out Tryd.underlying27 rfl SZC.out ?_) | (go_at_call 28; (with_reducible refine (HH1.out _ HBR.out).mono ?_); rintro e w3 ⟨rfl, hb⟩; have HB3 := Lib.hid (bthen HBR.out hb); clear hb) | fail)
        go_ret
        exact ⟨rfl, bthen HB2.out HB3.out⟩
  exact AllReadyH.nil
end Go.Proofs.YtkihmhchdenamaaDoor
