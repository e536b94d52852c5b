/- What the code's hasOuts comes to. -/
import Derived.Test.YtkihmhchdenamaaDoorComOuts
import Derived.Test.YtkihmhchdenamaaDoorComState
import Derived.Test.YtkihmhchdenamaaDoorOutsSame
namespace Go.Proofs.YtkihmhchdenamaaDoor
open Go.RowKit

/-- A first out of two ways. -/
def twoO (m0 : Int) (wa : Option Addr) (wc : Nat) (u0 u1 : PWay) : POut := ⟨m0, wa, 2, wc, [u0, u1]⟩
theorem alikeWs_one (xs : List PWay) (y z : PWay) (h : ∀ x, alikeW x y = alikeW x z) : alikeWs xs [y] = alikeWs xs [z] := by
  cases xs with
  | nil => rfl
  | cons x xs =>
    show (alikeW x y && alikeWs xs []) = (alikeW x z && alikeWs xs [])
    rw [h]
/-- Where the wanted ones lie makes no difference. -/
theorem outs_alike (c : PChan) (m0 : Int) (wa : Option Addr) (wc : Nat) (u0 u1 : PWay) (x1 : POut) (a1 a2 a3 a4 a5 : Option Addr) (me other : Int) (h : List UInt8) :
    alikeOs [twoO m0 wa wc u0 u1, x1] [ownP c a1 a2 a3 me other m0 h, herP a4 a5 other x1.m] = alikeOs [twoO m0 wa wc u0 u1, x1] [ownP c none none none me other m0 h, herP none none other x1.m] := by
  have e : alikeWs x1.ws [⟨a5, 1, 1, [other], zero32, 0, 0⟩] = alikeWs x1.ws [⟨none, 1, 1, [other], zero32, 0, 0⟩] := alikeWs_one _ _ _ (fun _ => rfl)
  show (alikeO (twoO m0 wa wc u0 u1) (ownP c none none none me other m0 h) && ((decide (x1.m = x1.m) && alikeWs x1.ws [⟨a5, 1, 1, [other], zero32, 0, 0⟩]) && true)) = _
  rw [e]
  rfl
set_option linter.unusedSimpArgs false in
set_option maxRecDepth 100000 in
set_option maxHeartbeats 6400000 in
theorem has0_any {w : World} {c : PChan} {a : Option Addr} {cc : Nat} {m0 : Int} {wa : Option Addr} {wc : Nat} {u0 u1 : PWay} {x1 : POut} (hc : ChanIn c) (hl : SliceOf outK w a 2 cc [(twoO m0 wa wc u0 u1), x1]) (hz : u1.h ≠ zero32) :
    Calls Tryd.prog 28 #[.agg c.cells.toArray, .slice a 2 cc, .int .i64 0] w fun e w' => e = .returned (.bool (alikeOs [(twoO m0 wa wc u0 u1), x1] [ownP c none none none c.client c.peer m0 u1.h, herP none none c.peer x1.m])) ∧ Below w.heap.size w w' := by
  have i0 : OutIn w (twoO m0 wa wc u0 u1) := hl.2.2.2.2.1 _ (by simp)
  have i1 : OutIn w x1 := hl.2.2.2.2.1 _ (by simp)
  have hwi : WayIn w u1 := i0.ws.2.2.2.2.1 _ (by simp [twoO])
  have HC := Lib.hid hc
  have HFM := Lib.hid hc.client
  have HFO := Lib.hid hc.peer
  have HF0 : Hid (Fits m0) := Lib.hid i0.m
  have HF1 := Lib.hid i1.m
  have HHL := Lib.hid hwi.sum
  have HZ := Lib.hid hz
  have SZCl := Lib.hid (chan_size hc.ftx)
  have SZH : Hid ((Tryd.prog.info? 23).map (·.size) = some (cellsOf u1.h).length) := Lib.hid (by rw [cellsOf_len, hwi.sum]; exact Tryd.size23)
  have AZH := Lib.hid (size_of hwi.sum)
  have CLH : Hid ((cellsOf u1.h).length = 32) := Lib.hid (by rw [cellsOf_len, hwi.sum])
  obtain ⟨b, o, rfl, hlt, hcells⟩ := hl.2.2.2.2.2 (by omega)
  have r0 : w.rangeAt b o (POut.cells (twoO m0 wa wc u0 u1)) := by have h9 := hcells 0 (by omega); rw [Nat.zero_mul] at h9; exact h9
  have r1 : w.rangeAt b (o + 2) x1.cells := by have h9 := hcells 1 (by omega); exact h9
  obtain ⟨b2, o2, ew, hlt2, hcells2⟩ := i0.ws.2.2.2.2.2 (by show 0 < 2; omega)
  replace ew : wa = some ⟨b2, o2, none⟩ := ew
  have r2 : w.rangeAt b2 (o2 + 35) u1.cells := by have h9 := hcells2 1 (by show 1 < 2; omega); exact h9
  have cw := (range_cons (range_cons r0).2).1
  have cm0 := (range_cons r0).1
  have cm1 := (range_cons r1).1
  replace cw : w.cell? ⟨b, o + 1, none⟩ = some (.slice wa 2 wc) := cw
  replace cm0 : w.cell? ⟨b, o, none⟩ = some (.int .i64 m0) := cm0
  have rh : w.rangeAt b2 (o2 + 36) (cellsOf u1.h) := (range_append (range_cons r2).2).1
  have HL := Lib.hid hl
  have HLT := Lib.hid hlt
  have HLT2 := Lib.hid hlt2
  have CW := Lib.hid cw
  have CM0' := Lib.hid cm0
  have CM1' := Lib.hid cm1
  have RH' := Lib.hid rh
  have HEW := Lib.hid ew
  clear i0 i1 hwi r0 r1 r2 hcells hcells2 hlt hlt2 cw cm0 cm1 rh hl hz hc ew
  go_enter Tryd.func28, Tryd.ntmps28
  go_upto_region 1 with (fail)
  have b1 : Below w.heap.size w (w.alloc (.cells c.cells.toArray 27)) := (Below.refl _ _).alloc (Nat.le_refl _) _
  have h1 := heap_alloc_new w (.cells c.cells.toArray 27)
  revert b1 h1
  generalize (w.alloc (.cells c.cells.toArray 27)) = w1
  obtain ⟨g, hg⟩ : ∃ g, g = w.heap.size := ⟨_, rfl⟩
  rw [← hg]
  intro b1 h1
  rw [hg] at b1
  have HB := Lib.hid b1
  have H1 := Lib.hid h1
  have cw := (Below.cell b1 (p := ⟨b, o + 1, none⟩) HLT.out).trans CW.out
  rw [HEW.out] at cw
  have RH1 := Lib.hid (rangeAt_below RH'.out HLT2.out b1)
  clear h1 b1 hg
  go_upto_region 4 with (first | (refine wpList_load_mid rfl 23 _ rfl b2 (o2 + 36) rfl (cellsOf u1.h) _ RH1.out Tryd.underlying23 rfl SZH.out ?_) | (refine wpList_var rfl rfl 23 rfl _ _ rfl (cellsOf zero32).toArray sum_zero14 rfl (cellsOf u1.h) (fun _ => rfl) (fun _ => rfl) CLH.out (cellsOf_one u1.h) ?_; intro p w2 hq hh hb; go_frame; have HB2 := Lib.hid (bthen HB.out hb); have HP2 := Lib.hid hh; have H12 := Lib.hid (keep hb H1.out); clear hq hh hb) | fail)
  have HL2 := Lib.hid (HL.out.below HB2.out)
  have HBL := Lib.hid (Nat.lt_of_lt_of_le HLT.out HB2.out.size)
  have CM0 := Lib.hid ((Below.cell HB2.out (p := ⟨b, o, none⟩) HLT.out).trans CM0'.out)
  have CM1 := Lib.hid ((Below.cell HB2.out (p := ⟨b, o + 2, none⟩) HLT.out).trans CM1'.out)
  clear cw RH1 CM0' CM1' RH' HEW CW
  refine wp_region_held_drew (S := fun w' => Below w2.heap.size w2 w') (by kernel_rfl) (below_drew (Below.refl _ _)) (fun hHeld => ?_)
  refine take_at (i := 0) rfl rfl (by kernel_rfl) (by kernel_rfl) (by kernel_rfl) (fun _ _ _ h => h) (yieldsIf_load_mid (by rfl) _ _ rfl g 0 rfl c.cells _ (fun w0 hSw => range_of (keep hSw H12.out)) Tryd.underlying27 rfl SZCl.out) (by assumption) ?_
  simp only [List.setIfInBounds_toArray, List.set_cons_zero, List.set_cons_succ]
  refine take_at (i := 1) (v := ?_) rfl rfl (by kernel_rfl) (by kernel_rfl) (by kernel_rfl) (fun _ _ _ h => h) (Or.inl ⟨by rfl, ?_⟩) (by assumption) ?_
  rotate_left
  · intro w0 hSw; (try dsimp only at hSw); first | (go_simp; done) | (go_simp; with_reducible rfl)
  simp only [List.setIfInBounds_toArray, List.set_cons_zero, List.set_cons_succ]
  refine take_at (i := 2) (v := ?_) rfl rfl (by kernel_rfl) (by kernel_rfl) (by kernel_rfl) (fun _ _ _ h => h) (Or.inl ⟨by rfl, ?_⟩) (by assumption) ?_
  rotate_left
  · intro w0 hSw; (try dsimp only at hSw); first | (go_simp; done) | (go_simp; with_reducible rfl)
  simp only [List.setIfInBounds_toArray, List.set_cons_zero, List.set_cons_succ]
  refine take_at (i := 3) (v := ?_) rfl rfl (by kernel_rfl) (by kernel_rfl) (by kernel_rfl) (fun _ _ _ h => h) (Or.inl ⟨by rfl, ?_⟩) (by assumption) ?_
  rotate_left
  · intro w0 hSw; (try dsimp only at hSw); first | (go_simp; done) | (go_simp; with_reducible rfl)
  simp only [List.setIfInBounds_toArray, List.set_cons_zero, List.set_cons_succ]
  refine take_at (i := 4) (v := ?_) rfl rfl (by kernel_rfl) (by kernel_rfl) (by kernel_rfl) (fun _ _ _ h => h) (Or.inl ⟨by rfl, ?_⟩) (by assumption) ?_
  rotate_left
  · intro w0 hSw; (try dsimp only at hSw); first | (go_simp; done) | (go_simp; with_reducible rfl)
  simp only [List.setIfInBounds_toArray, List.set_cons_zero, List.set_cons_succ]
  refine take_at (i := 5) rfl rfl (by kernel_rfl) (by kernel_rfl) (by kernel_rfl) (fun _ _ _ h => h) (yields_cell (b := b) (o := o) (by rfl) rfl rfl (fun w0 hSw => (Below.cell hSw (p := ⟨b, o, none⟩) HBL.out).trans CM0.out) (fun w0 => Tryd.isAgg2 w0)) (by assumption) ?_
  simp only [List.setIfInBounds_toArray, List.set_cons_zero, List.set_cons_succ]
  refine take_at (i := 6) (v := ?_) rfl rfl (by kernel_rfl) (by kernel_rfl) (by kernel_rfl) (fun _ _ _ h => h) (Or.inl ⟨by rfl, ?_⟩) (by assumption) ?_
  rotate_left
  · intro w0 hSw; (try dsimp only at hSw); first | (go_simp; done) | (go_simp; with_reducible rfl)
  simp only [List.setIfInBounds_toArray, List.set_cons_zero, List.set_cons_succ]
  refine take_at (i := 7) (v := ?_) rfl rfl (by kernel_rfl) (by kernel_rfl) (by kernel_rfl) (fun _ _ _ h => h) (Or.inl ⟨by rfl, ?_⟩) (by assumption) ?_
  rotate_left
  · intro w0 hSw; (try dsimp only at hSw); first | (go_simp; done) | (go_simp; with_reducible rfl)
  simp only [List.setIfInBounds_toArray, List.set_cons_zero, List.set_cons_succ]
  refine take_at (i := 8) (v := ?_) rfl rfl (by kernel_rfl) (by kernel_rfl) (by kernel_rfl) (fun _ _ _ h => h) (Or.inl ⟨by rfl, ?_⟩) (by assumption) ?_
  rotate_left
  · intro w0 hSw; (try dsimp only at hSw); first | (go_simp; done) | (go_simp; with_reducible rfl)
  simp only [List.setIfInBounds_toArray, List.set_cons_zero, List.set_cons_succ]
  refine take_at (i := 9) rfl rfl (by kernel_rfl) (by kernel_rfl) (by kernel_rfl) (fun _ _ _ h => h) (yields_cell (b := b) (o := (o + 2)) (by rfl) rfl rfl (fun w0 hSw => (Below.cell hSw (p := ⟨b, (o + 2), none⟩) HBL.out).trans CM1.out) (fun w0 => Tryd.isAgg2 w0)) (by assumption) ?_
  simp only [List.setIfInBounds_toArray, List.set_cons_zero, List.set_cons_succ]
  refine take_at (i := 10) rfl rfl (by kernel_rfl) (by kernel_rfl) (by kernel_rfl) (fun _ _ _ h => h) (yieldsIf_load_mid (by rfl) _ _ rfl p 0 rfl (cellsOf u1.h) _ (fun w0 hSw => range_of (keep hSw HP2.out)) Tryd.underlying23 rfl SZH.out) (by assumption) ?_
  simp only [List.setIfInBounds_toArray, List.set_cons_zero, List.set_cons_succ]
  refine wpAnyH_ready (rs := [11]) (by kernel_rfl) (by simp) ?_
  refine AllReadyH.cons rfl (fun K hK => ?_) ?_
  · have HC11 := Lib.hid (fun (W : World) => outs0_any (w := W) (own := m0) (rest := x1.m) HC.out HHL.out)
    go_simp
    go_wp2_with ((go_at_call 17; (with_reducible refine (HC11.out _).mono ?_); rintro e w3 ⟨p1, p2, p3, p4, p5, p6, rfl, ho, hb⟩; have HB23 := Lib.hid (bthen hHeld hb); have HO := Lib.hid ho; clear ho hb HC11))
    refine hK.out _ _ (by (try dsimp only); exact HB23.out) (fun hHeld => ?_)
    clear hK K
    refine take_at (i := 12) (v := ?_) rfl rfl (by kernel_rfl) (by kernel_rfl) (by kernel_rfl) (fun _ _ _ h => h) (Or.inl ⟨by rfl, ?_⟩) (by assumption) ?_
    rotate_left
    · intro w0 hSw; (try dsimp only at hSw); first | (go_simp; done) | (go_simp; with_reducible rfl)
    simp only [List.setIfInBounds_toArray, List.set_cons_zero, List.set_cons_succ]
    refine wpAnyH_done (by kernel_rfl) ?_ _
    clear hHeld
    have HB3 := Lib.hid (bthen HB2.out HB23.out)
    have HP3 := Lib.hid (keep HB23.out HP2.out)
    have HEQ := Lib.hid (equalOuts_any (HL2.out.below HB23.out) (HO.out.slice HC.out HFM.out HFO.out HF0.out HF1.out HHL.out))
    rw [outs_alike] at HEQ
    have qz : ∀ W : World, (Op.equalIn 10000 23 (.agg (cellsOf u1.h).toArray) (.agg (cellsOf zero32).toArray)).run Tryd.prog W = .ok false W := fun W => by rw [run_eqSums _ _ HHL.out rfl W, decide_eq_false HZ.out]
    go_wp2_with (first | (refine wpList_load_row rfl 23 _ rfl p rfl 23 (cellsOf u1.h).toArray (0, 0) _ HP3.out Tryd.underlying23 rfl AZH.out ?_) | (refine wpList_build10 rfl rfl (vs := []) rfl build_zero14 ?_; go_frame) | (go_at_call 36; (with_reducible refine (HEQ.out).mono ?_); rintro e w4 ⟨rfl, hb⟩; have HB4 := Lib.hid (bthen HB3.out hb); clear hb) | fail)
    go_ret
    exact ⟨rfl, HB4.out⟩
  exact AllReadyH.nil
set_option linter.unusedSimpArgs false in
set_option maxRecDepth 100000 in
set_option maxHeartbeats 6400000 in
theorem has1_any {w : World} {c : PChan} {a : Option Addr} {cc : Nat} {m0 : Int} {wa : Option Addr} {wc : Nat} {u0 u1 : PWay} {x1 : POut} (hc : ChanIn c) (hl : SliceOf outK w a 2 cc [(twoO m0 wa wc u0 u1), x1]) (hz : u1.h ≠ zero32) :
    Calls Tryd.prog 28 #[.agg c.cells.toArray, .slice a 2 cc, .int .i64 1] w fun e w' => e = .returned (.bool (alikeOs [(twoO m0 wa wc u0 u1), x1] [ownP c none none none c.peer c.client m0 u1.h, herP none none c.client x1.m])) ∧ Below w.heap.size w w' := by
  have i0 : OutIn w (twoO m0 wa wc u0 u1) := hl.2.2.2.2.1 _ (by simp)
  have i1 : OutIn w x1 := hl.2.2.2.2.1 _ (by simp)
  have hwi : WayIn w u1 := i0.ws.2.2.2.2.1 _ (by simp [twoO])
  have HC := Lib.hid hc
  have HFM := Lib.hid hc.peer
  have HFO := Lib.hid hc.client
  have HF0 : Hid (Fits m0) := Lib.hid i0.m
  have HF1 := Lib.hid i1.m
  have HHL := Lib.hid hwi.sum
  have HZ := Lib.hid hz
  have SZCl := Lib.hid (chan_size hc.ftx)
  have SZH : Hid ((Tryd.prog.info? 23).map (·.size) = some (cellsOf u1.h).length) := Lib.hid (by rw [cellsOf_len, hwi.sum]; exact Tryd.size23)
  have AZH := Lib.hid (size_of hwi.sum)
  have CLH : Hid ((cellsOf u1.h).length = 32) := Lib.hid (by rw [cellsOf_len, hwi.sum])
  obtain ⟨b, o, rfl, hlt, hcells⟩ := hl.2.2.2.2.2 (by omega)
  have r0 : w.rangeAt b o (POut.cells (twoO m0 wa wc u0 u1)) := by have h9 := hcells 0 (by omega); rw [Nat.zero_mul] at h9; exact h9
  have r1 : w.rangeAt b (o + 2) x1.cells := by have h9 := hcells 1 (by omega); exact h9
  obtain ⟨b2, o2, ew, hlt2, hcells2⟩ := i0.ws.2.2.2.2.2 (by show 0 < 2; omega)
  replace ew : wa = some ⟨b2, o2, none⟩ := ew
  have r2 : w.rangeAt b2 (o2 + 35) u1.cells := by have h9 := hcells2 1 (by show 1 < 2; omega); exact h9
  have cw := (range_cons (range_cons r0).2).1
  have cm0 := (range_cons r0).1
  have cm1 := (range_cons r1).1
  replace cw : w.cell? ⟨b, o + 1, none⟩ = some (.slice wa 2 wc) := cw
  replace cm0 : w.cell? ⟨b, o, none⟩ = some (.int .i64 m0) := cm0
  have rh : w.rangeAt b2 (o2 + 36) (cellsOf u1.h) := (range_append (range_cons r2).2).1
  have HL := Lib.hid hl
  have HLT := Lib.hid hlt
  have HLT2 := Lib.hid hlt2
  have CW := Lib.hid cw
  have CM0' := Lib.hid cm0
  have CM1' := Lib.hid cm1
  have RH' := Lib.hid rh
  have HEW := Lib.hid ew
  clear i0 i1 hwi r0 r1 r2 hcells hcells2 hlt hlt2 cw cm0 cm1 rh hl hz hc ew
  go_enter Tryd.func28, Tryd.ntmps28
  go_upto_region 1 with (fail)
  have b1 : Below w.heap.size w (w.alloc (.cells c.cells.toArray 27)) := (Below.refl _ _).alloc (Nat.le_refl _) _
  have h1 := heap_alloc_new w (.cells c.cells.toArray 27)
  revert b1 h1
  generalize (w.alloc (.cells c.cells.toArray 27)) = w1
  obtain ⟨g, hg⟩ : ∃ g, g = w.heap.size := ⟨_, rfl⟩
  rw [← hg]
  intro b1 h1
  rw [hg] at b1
  have HB := Lib.hid b1
  have H1 := Lib.hid h1
  have cw := (Below.cell b1 (p := ⟨b, o + 1, none⟩) HLT.out).trans CW.out
  rw [HEW.out] at cw
  have RH1 := Lib.hid (rangeAt_below RH'.out HLT2.out b1)
  clear h1 b1 hg
  go_upto_region 4 with (first | (refine wpList_load_mid rfl 23 _ rfl b2 (o2 + 36) rfl (cellsOf u1.h) _ RH1.out Tryd.underlying23 rfl SZH.out ?_) | (refine wpList_var rfl rfl 23 rfl _ _ rfl (cellsOf zero32).toArray sum_zero14 rfl (cellsOf u1.h) (fun _ => rfl) (fun _ => rfl) CLH.out (cellsOf_one u1.h) ?_; intro p w2 hq hh hb; go_frame; have HB2 := Lib.hid (bthen HB.out hb); have HP2 := Lib.hid hh; have H12 := Lib.hid (keep hb H1.out); clear hq hh hb) | fail)
  have HL2 := Lib.hid (HL.out.below HB2.out)
  have HBL := Lib.hid (Nat.lt_of_lt_of_le HLT.out HB2.out.size)
  have CM0 := Lib.hid ((Below.cell HB2.out (p := ⟨b, o, none⟩) HLT.out).trans CM0'.out)
  have CM1 := Lib.hid ((Below.cell HB2.out (p := ⟨b, o + 2, none⟩) HLT.out).trans CM1'.out)
  clear cw RH1 CM0' CM1' RH' HEW CW
  refine wp_region_held_drew (S := fun w' => Below w2.heap.size w2 w') (by kernel_rfl) (below_drew (Below.refl _ _)) (fun hHeld => ?_)
  refine take_at (i := 0) rfl rfl (by kernel_rfl) (by kernel_rfl) (by kernel_rfl) (fun _ _ _ h => h) (yieldsIf_load_mid (by rfl) _ _ rfl g 0 rfl c.cells _ (fun w0 hSw => range_of (keep hSw H12.out)) Tryd.underlying27 rfl SZCl.out) (by assumption) ?_
  simp only [List.setIfInBounds_toArray, List.set_cons_zero, List.set_cons_succ]
  refine take_at (i := 1) (v := ?_) rfl rfl (by kernel_rfl) (by kernel_rfl) (by kernel_rfl) (fun _ _ _ h => h) (Or.inl ⟨by rfl, ?_⟩) (by assumption) ?_
  rotate_left
  · intro w0 hSw; (try dsimp only at hSw); first | (go_simp; done) | (go_simp; with_reducible rfl)
  simp only [List.setIfInBounds_toArray, List.set_cons_zero, List.set_cons_succ]
  refine take_at (i := 2) (v := ?_) rfl rfl (by kernel_rfl) (by kernel_rfl) (by kernel_rfl) (fun _ _ _ h => h) (Or.inl ⟨by rfl, ?_⟩) (by assumption) ?_
  rotate_left
  · intro w0 hSw; (try dsimp only at hSw); first | (go_simp; done) | (go_simp; with_reducible rfl)
  simp only [List.setIfInBounds_toArray, List.set_cons_zero, List.set_cons_succ]
  refine take_at (i := 3) (v := ?_) rfl rfl (by kernel_rfl) (by kernel_rfl) (by kernel_rfl) (fun _ _ _ h => h) (Or.inl ⟨by rfl, ?_⟩) (by assumption) ?_
  rotate_left
  · intro w0 hSw; (try dsimp only at hSw); first | (go_simp; done) | (go_simp; with_reducible rfl)
  simp only [List.setIfInBounds_toArray, List.set_cons_zero, List.set_cons_succ]
  refine take_at (i := 4) (v := ?_) rfl rfl (by kernel_rfl) (by kernel_rfl) (by kernel_rfl) (fun _ _ _ h => h) (Or.inl ⟨by rfl, ?_⟩) (by assumption) ?_
  rotate_left
  · intro w0 hSw; (try dsimp only at hSw); first | (go_simp; done) | (go_simp; with_reducible rfl)
  simp only [List.setIfInBounds_toArray, List.set_cons_zero, List.set_cons_succ]
  refine take_at (i := 5) rfl rfl (by kernel_rfl) (by kernel_rfl) (by kernel_rfl) (fun _ _ _ h => h) (yields_cell (b := b) (o := o) (by rfl) rfl rfl (fun w0 hSw => (Below.cell hSw (p := ⟨b, o, none⟩) HBL.out).trans CM0.out) (fun w0 => Tryd.isAgg2 w0)) (by assumption) ?_
  simp only [List.setIfInBounds_toArray, List.set_cons_zero, List.set_cons_succ]
  refine take_at (i := 6) (v := ?_) rfl rfl (by kernel_rfl) (by kernel_rfl) (by kernel_rfl) (fun _ _ _ h => h) (Or.inl ⟨by rfl, ?_⟩) (by assumption) ?_
  rotate_left
  · intro w0 hSw; (try dsimp only at hSw); first | (go_simp; done) | (go_simp; with_reducible rfl)
  simp only [List.setIfInBounds_toArray, List.set_cons_zero, List.set_cons_succ]
  refine take_at (i := 7) (v := ?_) rfl rfl (by kernel_rfl) (by kernel_rfl) (by kernel_rfl) (fun _ _ _ h => h) (Or.inl ⟨by rfl, ?_⟩) (by assumption) ?_
  rotate_left
  · intro w0 hSw; (try dsimp only at hSw); first | (go_simp; done) | (go_simp; with_reducible rfl)
  simp only [List.setIfInBounds_toArray, List.set_cons_zero, List.set_cons_succ]
  refine take_at (i := 8) (v := ?_) rfl rfl (by kernel_rfl) (by kernel_rfl) (by kernel_rfl) (fun _ _ _ h => h) (Or.inl ⟨by rfl, ?_⟩) (by assumption) ?_
  rotate_left
  · intro w0 hSw; (try dsimp only at hSw); first | (go_simp; done) | (go_simp; with_reducible rfl)
  simp only [List.setIfInBounds_toArray, List.set_cons_zero, List.set_cons_succ]
  refine take_at (i := 9) rfl rfl (by kernel_rfl) (by kernel_rfl) (by kernel_rfl) (fun _ _ _ h => h) (yields_cell (b := b) (o := (o + 2)) (by rfl) rfl rfl (fun w0 hSw => (Below.cell hSw (p := ⟨b, (o + 2), none⟩) HBL.out).trans CM1.out) (fun w0 => Tryd.isAgg2 w0)) (by assumption) ?_
  simp only [List.setIfInBounds_toArray, List.set_cons_zero, List.set_cons_succ]
  refine take_at (i := 10) rfl rfl (by kernel_rfl) (by kernel_rfl) (by kernel_rfl) (fun _ _ _ h => h) (yieldsIf_load_mid (by rfl) _ _ rfl p 0 rfl (cellsOf u1.h) _ (fun w0 hSw => range_of (keep hSw HP2.out)) Tryd.underlying23 rfl SZH.out) (by assumption) ?_
  simp only [List.setIfInBounds_toArray, List.set_cons_zero, List.set_cons_succ]
  refine wpAnyH_ready (rs := [11]) (by kernel_rfl) (by simp) ?_
  refine AllReadyH.cons rfl (fun K hK => ?_) ?_
  · have HC11 := Lib.hid (fun (W : World) => outs1_any (w := W) (own := m0) (rest := x1.m) HC.out HHL.out)
    go_simp
    go_wp2_with ((go_at_call 17; (with_reducible refine (HC11.out _).mono ?_); rintro e w3 ⟨p1, p2, p3, p4, p5, p6, rfl, ho, hb⟩; have HB23 := Lib.hid (bthen hHeld hb); have HO := Lib.hid ho; clear ho hb HC11))
    refine hK.out _ _ (by (try dsimp only); exact HB23.out) (fun hHeld => ?_)
    clear hK K
    refine take_at (i := 12) (v := ?_) rfl rfl (by kernel_rfl) (by kernel_rfl) (by kernel_rfl) (fun _ _ _ h => h) (Or.inl ⟨by rfl, ?_⟩) (by assumption) ?_
    rotate_left
    · intro w0 hSw; (try dsimp only at hSw); first | (go_simp; done) | (go_simp; with_reducible rfl)
    simp only [List.setIfInBounds_toArray, List.set_cons_zero, List.set_cons_succ]
    refine wpAnyH_done (by kernel_rfl) ?_ _
    clear hHeld
    have HB3 := Lib.hid (bthen HB2.out HB23.out)
    have HP3 := Lib.hid (keep HB23.out HP2.out)
    have HEQ := Lib.hid (equalOuts_any (HL2.out.below HB23.out) (HO.out.slice HC.out HFM.out HFO.out HF0.out HF1.out HHL.out))
    rw [outs_alike] at HEQ
    have qz : ∀ W : World, (Op.equalIn 10000 23 (.agg (cellsOf u1.h).toArray) (.agg (cellsOf zero32).toArray)).run Tryd.prog W = .ok false W := fun W => by rw [run_eqSums _ _ HHL.out rfl W, decide_eq_false HZ.out]
    go_wp2_with (first | (refine wpList_load_row rfl 23 _ rfl p rfl 23 (cellsOf u1.h).toArray (0, 0) _ HP3.out Tryd.underlying23 rfl AZH.out ?_) | (refine wpList_build10 rfl rfl (vs := []) rfl build_zero14 ?_; go_frame) | (go_at_call 36; (with_reducible refine (HEQ.out).mono ?_); rintro e w4 ⟨rfl, hb⟩; have HB4 := Lib.hid (bthen HB3.out hb); clear hb) | fail)
    go_ret
    exact ⟨rfl, HB4.out⟩
  exact AllReadyH.nil
end Go.Proofs.YtkihmhchdenamaaDoor
