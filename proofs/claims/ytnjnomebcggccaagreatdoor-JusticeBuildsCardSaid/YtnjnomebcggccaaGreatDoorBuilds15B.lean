/- JusticeBuilds, walked: what is built. -/
import Derived.Test.YtnjnomebcggccaaGreatDoorBuilds15K
namespace Go.Proofs.YtnjnomebcggccaaGreatDoor
open Go.RowKit

set_option linter.unusedSimpArgs false in
set_option maxRecDepth 100000 in
set_option maxHeartbeats 6400000 in
theorem builds15_ok {w : World} {c : PChan} {t : PTx} {pre : List UInt8} {z r f : Int} {m k : Int} {b o b2 o2 wk : Nat} {u0 u1 : PWay} {x1 : POut} (hc : ChanIn c) (ht : TxIn w t) (hpl : pre.length = 32) (hrf : Fits r) (hff : Fits f) (hk : KsAt w) (hst : smallT t = true) (hcl : 0 ≤ c.client ∧ c.client ≤ 255 ∧ 0 ≤ c.peer ∧ c.peer ≤ 255) (hO : ownerP c t ≠ -1) (z0 : -1 ≤ z) (z1 : z ≤ 15) (hp : PartAt w t m k b o b2 o2 wk u0 u1 x1) (hh : shownSum pre = u1.h) (hsh : sharesOk m (askP z r) f = true) :
    Calls Tryz.prog 3 #[.agg c.cells.toArray, .agg t.cells.toArray, .agg (cellsOf pre).toArray, .int .i64 z, .agg #[.int .i64 r, .int .i64 f]] w fun e w' => e = .returned (.bool true) ∧ Below w.heap.size w w' := by
  have SZCl := Lib.hid (chan_size hc.ftx)
  have HAW := Lib.hid (fun (W : World) => awake15_of shares_code key_code W)
  have HC := Lib.hid hc
  have HT := Lib.hid ht
  have SZC := Lib.hid (chan_sizeA hc.ftx)
  have SZT := Lib.hid (tx_sizeA ht.op.root)
  have SZTl := Lib.hid (tx_size ht.op.root)
  have SZPA := Lib.hid (size_of hpl)
  have HPL := Lib.hid hpl
  have HK := Lib.hid hk
  have HRF := Lib.hid hrf
  have HFF := Lib.hid hff
  have HFT := Lib.hid (small_front15 ht hst).1
  have ea1 : decide (255 < c.client) = false := decide_eq_false (by omega)
  have ea2 : decide (c.client < 0) = false := decide_eq_false (by omega)
  have ea3 : decide (255 < c.peer) = false := decide_eq_false (by omega)
  have ea4 : decide (c.peer < 0) = false := decide_eq_false (by omega)
  have HP := Lib.hid hp
  have HZ0 := Lib.hid z0
  have HZ1 := Lib.hid z1
  have HH := Lib.hid hh
  have HON := Lib.hid hO
  have HSHV := Lib.hid hsh
  have HSM : Hid (∀ W : World, Below w.heap.size w W → Calls Tryz.prog 4 #[.agg t.cells.toArray] W fun e w' => e = .returned (.int .i64 0) ∧ Below W.heap.size W w') := Lib.hid (fun W hW => by have h9 := small8_law (HT.out.below hW); rw [hst] at h9; exact h9)
  clear hc ht hk hpl hrf hff hst hcl hp hh z0 z1 hsh
  go_enter Tryz.func3, Tryz.ntmps3
  go_upto_region 1 with (fail)
  obtain ⟨w1, g1, g2, g3, hw1, hg1, hg2, hg3, hb1, h1, h2, h3, h4⟩ := four_boxes15 w c.cells.toArray t.cells.toArray (cellsOf pre).toArray #[.int .i64 r, .int .i64 f] 27 35 23 37
  rw [← hw1, ← hg3, ← hg2, ← hg1]
  have hn3 : w.heap.size ≤ g3 := by omega
  obtain ⟨g, hg⟩ : ∃ g, g = w.heap.size := ⟨_, rfl⟩
  rw [← hg] at h1 ⊢
  have HB1 := Lib.hid hb1
  have H1 := Lib.hid h1
  have H2 := Lib.hid h2
  have H3 := Lib.hid h3
  have H4 : Hid (w1.heap[g3]? = some (.cells (([.int .i64 r, .int .i64 f] : List Value)).toArray 37 (0, 0))) := Lib.hid h4
  have HN3 := Lib.hid hn3
  have HST := Lib.hid (fun (W : World) (hW : Below w1.heap.size w1 W) => HSM.out W (bthen HB1.out hW))
  clear hw1 hg1 hg2 hg3 hb1 h1 h2 h3 h4 hg hn3 HSM
  have HBD : Hid (∀ W : World, Below w1.heap.size w1 W → Calls Tryz.prog 6 #[.agg c.cells.toArray, .agg t.cells.toArray, .agg (cellsOf pre).toArray, .int .i64 z, .agg #[.int .i64 r, .int .i64 f]] W fun e w' => ∃ y : PTx, e = .returned (.tuple #[.agg y.cells.toArray, .int .i64 0]) ∧ TxIn w' y ∧ NewTx W.heap.size y ∧ y.strip = (signedP (takeS (txSum t) pre (sharedP k z m (askP z r) f)) k (txSum (takeS (txSum t) pre (sharedP k z m (askP z r) f)))).strip ∧ Below W.heap.size W w') := Lib.hid fun W hW => (build15_at HC.out (HT.out.below (bthen HB1.out hW)) (HK.out.below (bthen HB1.out hW)) HFT.out HPL.out HRF.out HFF.out (HP.out.below (bthen HB1.out hW)) hO HZ0.out HZ1.out).mono fun e w9 ⟨h8, h9⟩ => by
    unfold builtR at h8
    rw [if_pos HH.out, HSHV.out] at h8
    obtain ⟨y, h1, h2, h3, h4⟩ := h8
    exact ⟨y, h1, h2, h3, h4, h9⟩
  obtain ⟨O, hOv⟩ : ∃ O, ownerP c t = O := ⟨_, rfl⟩
  have HOW : Hid (∀ W : World, Below w1.heap.size w1 W → Calls Tryz.prog 7 #[.agg c.cells.toArray, .agg t.cells.toArray] W fun e w' => e = .returned (.int .i64 O) ∧ Below W.heap.size W w') := Lib.hid fun W hW => by rw [← hOv]; exact owner_any HC.out (HT.out.below (bthen HB1.out hW))
  have eO : decide (O < 0) = false := by rcases ownerP_cases c t with e | ⟨k, _, e, _⟩; exact absurd e hO; exact decide_eq_false (by omega)
  clear hOv hO
  go_upto_region 3 with (first | (refine wpList_load_row rfl 35 _ rfl g1 rfl 35 t.cells.toArray (0, 0) _ H2.out Tryz.underlying35 rfl SZT.out ?_) | (go_at_call 4; (with_reducible refine (HST.out _ (Below.refl _ _)).mono ?_); rintro e w2 ⟨rfl, hb⟩; have X2 := Lib.hid hb; have c1 := (chan_at HC.out.ftx (range_of (keep X2.out H1.out))).client; have c2 := (chan_at HC.out.ftx (range_of (keep X2.out H1.out))).peer; rw [Nat.zero_add] at c1 c2; clear hb) | fail)
  clear c1 c2 ea1 ea2 ea3 ea4
  go_upto_region 4 with (first | (refine wpList_load_row rfl 27 _ rfl g rfl 27 c.cells.toArray (0, 0) _ (keep X2.out H1.out) Tryz.underlying27 rfl SZC.out ?_) | (refine wpList_load_row rfl 35 _ rfl g1 rfl 35 t.cells.toArray (0, 0) _ (keep X2.out H2.out) Tryz.underlying35 rfl SZT.out ?_) | (refine wpList_load_row rfl 23 _ rfl g2 rfl 23 (cellsOf pre).toArray (0, 0) _ (keep X2.out H3.out) Tryz.underlying23 rfl SZPA.out ?_) | (refine wpList_load_row rfl 37 _ rfl g3 rfl 37 ([.int .i64 r, .int .i64 f] : List Value).toArray (0, 0) _ (keep X2.out H4.out) Tryz.underlying37 rfl (by kernel_rfl) ?_) | (go_at_call 6; (with_reducible refine (HBD.out _ X2.out).mono ?_); rintro e w3 ⟨y, rfl, hy, hny, hsy, hb⟩; have HY := Lib.hid hy; have HNY := Lib.hid (hny.mono X2.out.size); have HSY := Lib.hid hsy; have LY := Lib.hid (PTx.len hy.op.root); have SZY := Lib.hid (tx_size hy.op.root); have X3 := Lib.hid (bthen X2.out hb); clear hy hny hsy hb) | (refine wpList_var rfl rfl 35 rfl _ _ rfl noTx.cells.toArray Tryz.zeroTx14 rfl y.cells (fun _ => rfl) (fun _ => rfl) LY.out (PTx.one _) ?_; intro vj w4 hq hh hb; go_frame; have HVJ := Lib.hid hh; have X4 := Lib.hid (bthen X3.out hb); have HY4 := Lib.hid (HY.out.below hb); clear hq hh hb) | fail)
  have e0 : decide (z < -1) = false := decide_eq_false (by have h9 := HZ0.out; omega)
  have e1 : decide (15 < z) = false := decide_eq_false (by have h9 := HZ1.out; omega)
  go_upto_region 7 with (first | (refine wpList_load_row rfl 27 _ rfl g rfl 27 c.cells.toArray (0, 0) _ (keep X4.out H1.out) Tryz.underlying27 rfl SZC.out ?_) | (refine wpList_load_row rfl 35 _ rfl g1 rfl 35 t.cells.toArray (0, 0) _ (keep X4.out H2.out) Tryz.underlying35 rfl SZT.out ?_) | (go_at_call 7; (with_reducible refine (HOW.out _ X4.out).mono ?_); rintro e w5 ⟨rfl, hb⟩; have X5 := Lib.hid (bthen X4.out hb); have HVJ5 := Lib.hid (keep hb HVJ.out); have HY5 := Lib.hid (HY4.out.below hb); clear hb) | fail)
  have co : w5.cell? ⟨g1, 1, none⟩ = some (.slice (some ⟨b, o, none⟩) 2 t.oc) := by have h9 := tx_outs (range_of (keep X5.out H2.out)); rw [Nat.zero_add, HP.out.oa, HP.out.on] at h9; exact h9
  have HP5 := Lib.hid (HP.out.below (bthen HB1.out X5.out))
  have cw : w5.cell? ⟨b, o + 1, none⟩ = some (.slice (some ⟨b2, o2, none⟩) 2 wk) := (range_cons (range_cons HP5.out.out).2).1
  have cy : w5.cell? ⟨b2, o2 + 35, none⟩ = some (.slice u1.a 1 u1.c) := by have h9 := (range_cons HP5.out.at2).1; rw [HP.out.kn] at h9; exact h9
  have RW := Lib.hid HP5.out.at2
  have SZU := Lib.hid (way_size HP.out.way.sum)
  have ZW : Hid (u1.cells.length = 35) := Lib.hid (PWay.cells_len HP.out.way.sum)
  go_upto_region 10 with (first | (refine wpList_load_mid rfl 49 _ rfl b2 (o2 + 35) rfl u1.cells _ RW.out Tryz.underlying49 rfl SZU.out ?_) | (refine wpList_var rfl rfl 49 rfl _ _ rfl noWay.cells.toArray Tryz.zeroWay14 rfl u1.cells (fun _ => rfl) (fun _ => rfl) ZW.out (PWay.cells_one _) ?_; intro v w6 hq hh hb; go_frame; have HV := Lib.hid hh; have X6 := Lib.hid (bthen X5.out hb); have HVJ6 := Lib.hid (keep hb HVJ5.out); have HY6 := Lib.hid (HY5.out.below hb); clear hq hh hb) | fail)
  clear co cw cy RW
  obtain ⟨S, hS⟩ : ∃ S, shownSum pre = S := ⟨_, rfl⟩
  have SHN : Hid (S.length = 32) := Lib.hid (by rw [← hS]; exact shownSum_len pre)
  have HHA : Hid (∀ (W : World) (gp : Nat) (ty : TypeId) (fr : Nat × Nat), Below w1.heap.size w1 W → W.heap[gp]? = some (.cells (cellsOf pre).toArray ty fr) → Calls Tryz.prog 8 #[.slice (some ⟨gp, 0, none⟩) 32 32] W fun e w' => e = .returned (.agg (cellsOf S).toArray) ∧ Below W.heap.size W w') := Lib.hid fun W gp ty fr hW hg => by rw [← hS]; exact hash_any (row_block15 hg HPL.out (by omega)) (HK.out.below (bthen HB1.out hW)) (by omega)
  have SZUh : Hid ((Tryz.prog.info? 23).map (·.size) = some (cellsOf u1.h).length) := Lib.hid (by rw [cellsOf_len, HP.out.way.sum]; exact Tryz.size23)
  have HHE : Hid (decide (S = u1.h) = true) := Lib.hid (by rw [← hS]; exact decide_eq_true HH.out)
  have qs : ∀ W : World, (Op.equalIn 10000 23 (.agg (cellsOf S).toArray) (.agg (cellsOf u1.h).toArray)).run Tryz.prog W = .ok true W := fun W => by rw [run_eqSums _ _ SHN.out HP.out.way.sum W, HHE.out]
  clear hS
  refine wp_region_held_drew (S := fun w' => Below w6.heap.size w6 w') (by kernel_rfl) (below_drew (Below.refl _ _)) (fun hHeld => ?_)
  refine take_at (i := 0) (v := ?_) rfl rfl (by kernel_rfl) (by kernel_rfl) (by kernel_rfl) (fun _ _ _ h => h) (Or.inl ⟨by rfl, ?_⟩) (by assumption) ?_
  rotate_left
  · intro w0 hSw; (try dsimp only at hSw); first | (go_simp; done) | (go_simp; with_reducible rfl)
  simp only [nrmA, nrmB, nrmC]
  refine take_at (i := 2) (v := ?_) rfl rfl (by kernel_rfl) (by kernel_rfl) (by kernel_rfl) (fun _ _ _ h => h) (Or.inl ⟨by rfl, ?_⟩) (by assumption) ?_
  rotate_left
  · intro w0 hSw; (try dsimp only at hSw); first | (go_simp; done) | (go_simp; with_reducible rfl)
  simp only [nrmA, nrmB, nrmC]
  refine take_at (i := 3) rfl rfl (by kernel_rfl) (by kernel_rfl) (by kernel_rfl) (fun _ _ _ h => h) (yieldsIf_load_mid (by rfl) _ _ rfl v 1 rfl (cellsOf u1.h) _ (fun w0 hSw => (range_append (range_cons (range_of (keep hSw HV.out))).2).1) Tryz.underlying23 rfl SZUh.out) (by assumption) ?_
  simp only [nrmA, nrmB, nrmC]
  refine wpAnyH_ready (rs := [1]) (by kernel_rfl) (by simp) ?_
  refine AllReadyH.cons rfl (fun K hK => ?_) ?_
  · have HCx := Lib.hid (HHA.out _ g2 _ _ (bthen X6.out hHeld) (keep hHeld (keep X6.out H3.out)))
    go_simp
    go_wp2_with ((go_at_call 8; (with_reducible refine (HCx.out).mono ?_); rintro e y1 ⟨rfl, hb⟩; have HX := Lib.hid (bthen hHeld hb); clear hb HCx))
    refine hK.out _ _ (by (try dsimp only); exact HX.out) (fun hHeld => ?_)
    clear hK K
    refine take_at (i := 4) (v := .bool false) rfl rfl (by kernel_rfl) (by kernel_rfl) (by kernel_rfl) (fun _ _ _ h => h) (Or.inl ⟨by rfl, ?_⟩) (by assumption) ?_
    · intro w0 hSw; (try dsimp only at hSw); first | (go_simp; done) | (go_simp; with_reducible rfl) | (go_simp; omega)
    simp only [nrmA, nrmB, nrmC]
    refine wpAnyH_done (by kernel_rfl) ?_ _
    clear hHeld
    have X7 := Lib.hid (bthen X6.out HX.out)
    have HV7 := Lib.hid (keep HX.out HV.out)
    have HVJ7 := Lib.hid (keep HX.out HVJ6.out)
    have HY7 := Lib.hid (HY6.out.below HX.out)
    revert X7 HV7 HVJ7 HY7
    generalize y1 = w7
    intro X7 HV7 HVJ7 HY7
    obtain ⟨R, hR⟩ : ∃ R, askP z r = R := ⟨_, rfl⟩
    have HRV := Lib.hid hR
    clear hR
    go_upto_if 126 with (fail)
    go_cut [126] from 127 to 127 (fun _ w' => w'.heap[g3]? = some (.cells (([.int .i64 R, .int .i64 f] : List Value)).toArray 37 (0, 0)) ∧ But w7.heap.size g3 w7 w')
    case first =>
      by_cases hz : z = -1
      · have ez : (z == -1) = true := by simp [hz]
        obtain rfl : R = 0 := by rw [← HRV.out]; exact if_pos hz
        go_wp2_with (first | (refine wpList_field10 rfl 3 _ _ rfl g3 0 rfl (.int .i64 0) rfl 37 ([.int .i64 r, .int .i64 f] : List Value) (keep X7.out H4.out) (by simp) (by kernel_rfl) rfl ?_; intro w8 hh hb) | fail)
        go_meet
        exact ⟨hh, hb⟩
      · have ez : (z == -1) = false := by simp [hz]
        obtain rfl : R = r := by rw [← HRV.out]; exact if_neg hz
        go_wp2_with fail
        go_meet
        exact ⟨keep X7.out H4.out, But.refl _ _ _⟩
    case rest =>
      rename World => wd
      obtain ⟨hd4, hbut⟩ := hcut
      have hbd : Below w.heap.size w wd := But.in (bthen HB1.out X7.out) hbut HN3.out
      have HBD0 := Lib.hid hbd
      have HD4 := Lib.hid hd4
      have D1 := Lib.hid ((hbut.block g (lt_of_block (keep X7.out H1.out)) (ne_type15 (keep X7.out H1.out) (keep X7.out H4.out) (by decide))).trans (keep X7.out H1.out))
      have D2 := Lib.hid ((hbut.block g1 (lt_of_block (keep X7.out H2.out)) (ne_type15 (keep X7.out H2.out) (keep X7.out H4.out) (by decide))).trans (keep X7.out H2.out))
      have D3 := Lib.hid ((hbut.block g2 (lt_of_block (keep X7.out H3.out)) (ne_type15 (keep X7.out H3.out) (keep X7.out H4.out) (by decide))).trans (keep X7.out H3.out))
      have DV := Lib.hid ((hbut.block v (lt_of_block HV7.out) (ne_type15 HV7.out (keep X7.out H4.out) (by decide))).trans HV7.out)
      have DJ := Lib.hid ((hbut.block vj (lt_of_block HVJ7.out) (ne_type15 HVJ7.out (keep X7.out H4.out) (by decide))).trans HVJ7.out)
      have DY := Lib.hid (HY7.out.older HNY.out (lt_of_block H4.out) hbut)
      have DP := Lib.hid (HP.out.below hbd)
      have DT := Lib.hid (HT.out.below hbd)
      have DK := Lib.hid (HK.out.below hbd)
      have SZD : Hid ((Tryz.prog.info? 37).map (·.size) = some (([.int .i64 R, .int .i64 f] : List Value)).length) := Lib.hid (by kernel_rfl)
      go_upto_region 14 with (fail)
      have CO : Hid (wd.cell? ⟨g1, 1, none⟩ = some (.slice (some ⟨b, o, none⟩) 2 t.oc)) := Lib.hid (by have h9 := tx_outs (range_of D2.out); rw [Nat.zero_add, HP.out.oa, HP.out.on] at h9; exact h9)
      have CM : Hid (wd.cell? ⟨b, o, none⟩ = some (.int .i64 m)) := Lib.hid ((range_cons DP.out.out).1)
      have hrR : Fits R := by rw [← HRV.out]; unfold askP; split; (constructor <;> decide); exact HRF.out
      have hq := of_decide_eq_true HSHV.out
      rw [HRV.out] at hq
      have hb9 := share_bounds (n := m) (r := R) (f := f) (by omega)
      obtain ⟨V, hV⟩ : ∃ V, m - feeP m f - rewP m R f = V := ⟨_, rfl⟩
      obtain ⟨RW, hRW⟩ : ∃ RW, rewP m R f = RW := ⟨_, rfl⟩
      obtain ⟨FE, hFE⟩ : ∃ FE, feeP m f = FE := ⟨_, rfl⟩
      have HVF : Hid (Fits V) := Lib.hid (by rw [← hV]; constructor <;> omega)
      have HRWF : Hid (Fits RW) := Lib.hid (by rw [← hRW]; constructor <;> omega)
      have HSH : Hid (∀ W : World, Calls Tryz.prog 9 #[.int .i64 m, .agg #[.int .i64 R, .int .i64 f]] W fun e w' => e = .returned (.tuple #[.int .i64 V, .int .i64 RW, .int .i64 FE, .int .i64 0]) ∧ Below W.heap.size W w') := Lib.hid fun W => by rw [← hV, ← hRW, ← hFE, ← sharesV_good (by omega)]; exact shares_code W m R f HP.out.fit hrR HFF.out
      have HVV := Lib.hid hV
      have HRWV := Lib.hid hRW
      clear hq hb9 hV hRW hFE hrR
      refine wp_region_held_drew (S := fun w' => Below wd.heap.size wd w') (by kernel_rfl) (below_drew (Below.refl _ _)) (fun hHeld => ?_)
      refine take_at (i := 0) (v := ?_) rfl rfl (by kernel_rfl) (by kernel_rfl) (by kernel_rfl) (fun _ _ _ h => h) (Or.inl ⟨by rfl, ?_⟩) (by assumption) ?_
      rotate_left
      · intro w0 hSw; (try dsimp only at hSw); first | (go_simp; done) | (go_simp; with_reducible rfl)
      simp only [nrmA, nrmB, nrmC]
      refine take_at (i := 1) rfl rfl (by kernel_rfl) (by kernel_rfl) (by kernel_rfl) (fun _ _ _ h => h) (yields_cell (b := g1) (o := 1) (by rfl) rfl rfl (fun w0 hSw => (Below.cell hSw (p := ⟨g1, 1, none⟩) (lt_of_block D2.out)).trans CO.out) (fun w0 => Tryz.isAgg29 w0)) (by assumption) ?_
      simp only [nrmA, nrmB, nrmC]
      refine take_at (i := 2) (v := ?_) rfl rfl (by kernel_rfl) (by kernel_rfl) (by kernel_rfl) (fun _ _ _ h => h) (Or.inl ⟨by rfl, ?_⟩) (by assumption) ?_
      rotate_left
      · intro w0 hSw; (try dsimp only at hSw); first | (go_simp; done) | (go_simp; with_reducible rfl)
      simp only [nrmA, nrmB, nrmC]
      refine take_at (i := 3) (v := ?_) rfl rfl (by kernel_rfl) (by kernel_rfl) (by kernel_rfl) (fun _ _ _ h => h) (Or.inl ⟨by rfl, ?_⟩) (by assumption) ?_
      rotate_left
      · intro w0 hSw; (try dsimp only at hSw); first | (go_simp; done) | (go_simp; with_reducible rfl)
      simp only [nrmA, nrmB, nrmC]
      refine take_at (i := 4) rfl rfl (by kernel_rfl) (by kernel_rfl) (by kernel_rfl) (fun _ _ _ h => h) (yields_cell (b := b) (o := o) (by rfl) rfl rfl (fun w0 hSw => (Below.cell hSw (p := ⟨b, o, none⟩) DP.out.lb).trans CM.out) (fun w0 => Tryz.isAgg2 w0)) (by assumption) ?_
      simp only [nrmA, nrmB, nrmC]
      refine take_at (i := 5) rfl rfl (by kernel_rfl) (by kernel_rfl) (by kernel_rfl) (fun _ _ _ h => h) (yieldsIf_load_mid (by rfl) _ _ rfl g3 0 rfl ([.int .i64 R, .int .i64 f] : List Value) _ (fun w0 hSw => range_of (keep hSw HD4.out)) Tryz.underlying37 rfl SZD.out) (by assumption) ?_
      simp only [nrmA, nrmB, nrmC]
      refine wpAnyH_ready (rs := [6]) (by kernel_rfl) (by simp) ?_
      refine AllReadyH.cons rfl (fun K hK => ?_) ?_
      · have HCx := Lib.hid (HSH.out wd.drew)
        go_simp
        go_wp2_with ((go_at_call 9; (with_reducible refine (HCx.out).mono ?_); rintro e y1 ⟨rfl, hb⟩; have HX := Lib.hid (bthen hHeld hb); clear hb HCx))
        refine hK.out _ _ (by (try dsimp only); exact HX.out) (fun hHeld => ?_)
        clear hK K
        refine take_at (i := 7) (v := ?_) rfl rfl (by kernel_rfl) (by kernel_rfl) (by kernel_rfl) (fun _ _ _ h => h) (Or.inl ⟨by rfl, ?_⟩) (by assumption) ?_
        rotate_left
        · intro w0 hSw; (try dsimp only at hSw); first | (go_simp; done) | (go_simp; with_reducible rfl)
        simp only [nrmA, nrmB, nrmC]
        refine take_at (i := 8) (v := ?_) rfl rfl (by kernel_rfl) (by kernel_rfl) (by kernel_rfl) (fun _ _ _ h => h) (Or.inl ⟨by rfl, ?_⟩) (by assumption) ?_
        rotate_left
        · intro w0 hSw; (try dsimp only at hSw); first | (go_simp; done) | (go_simp; with_reducible rfl)
        simp only [nrmA, nrmB, nrmC]
        refine take_at (i := 9) (v := ?_) rfl rfl (by kernel_rfl) (by kernel_rfl) (by kernel_rfl) (fun _ _ _ h => h) (Or.inl ⟨by rfl, ?_⟩) (by assumption) ?_
        rotate_left
        · intro w0 hSw; (try dsimp only at hSw); first | (go_simp; done) | (go_simp; with_reducible rfl)
        simp only [nrmA, nrmB, nrmC]
        refine take_at (i := 10) (v := ?_) rfl rfl (by kernel_rfl) (by kernel_rfl) (by kernel_rfl) (fun _ _ _ h => h) (Or.inl ⟨by rfl, ?_⟩) (by assumption) ?_
        rotate_left
        · intro w0 hSw; (try dsimp only at hSw); first | (go_simp; done) | (go_simp; with_reducible rfl)
        simp only [nrmA, nrmB, nrmC]
        refine take_at (i := 11) (v := ?_) rfl rfl (by kernel_rfl) (by kernel_rfl) (by kernel_rfl) (fun _ _ _ h => h) (Or.inl ⟨by rfl, ?_⟩) (by assumption) ?_
        rotate_left
        · intro w0 hSw; (try dsimp only at hSw); first | (go_simp; done) | (go_simp; with_reducible rfl)
        simp only [nrmA, nrmB, nrmC]
        refine take_at (i := 12) (v := ?_) rfl rfl (by kernel_rfl) (by kernel_rfl) (by kernel_rfl) (fun _ _ _ h => h) (Or.inl ⟨by rfl, ?_⟩) (by assumption) ?_
        rotate_left
        · intro w0 hSw; (try dsimp only at hSw); first | (go_simp; done) | (go_simp; with_reducible rfl)
        simp only [nrmA, nrmB, nrmC]
        refine take_at (i := 13) (v := ?_) rfl rfl (by kernel_rfl) (by kernel_rfl) (by kernel_rfl) (fun _ _ _ h => h) (Or.inl ⟨by rfl, ?_⟩) (by assumption) ?_
        rotate_left
        · intro w0 hSw; (try dsimp only at hSw); first | (go_simp; done) | (go_simp; with_reducible rfl)
        simp only [nrmA, nrmB, nrmC]
        refine take_at (i := 14) (v := ?_) rfl rfl (by kernel_rfl) (by kernel_rfl) (by kernel_rfl) (fun _ _ _ h => h) (Or.inl ⟨by rfl, ?_⟩) (by assumption) ?_
        rotate_left
        · intro w0 hSw; (try dsimp only at hSw); first | (go_simp; done) | (go_simp; with_reducible rfl)
        simp only [nrmA, nrmB, nrmC]
        refine take_at (i := 15) (v := ?_) rfl rfl (by kernel_rfl) (by kernel_rfl) (by kernel_rfl) (fun _ _ _ h => h) (Or.inl ⟨by rfl, ?_⟩) (by assumption) ?_
        rotate_left
        · intro w0 hSw; (try dsimp only at hSw); first | (go_simp; done) | (go_simp; with_reducible rfl)
        simp only [nrmA, nrmB, nrmC]
        refine wpAnyH_done (by kernel_rfl) ?_ _
        clear hHeld
        go_upto_region 17 with (fail)
        have X8 := Lib.hid HX.out
        revert X8
        generalize y1 = w8
        intro X8
        obtain ⟨T, hT, hTl⟩ : ∃ T, txSum t = T ∧ T.length = 32 := ⟨_, rfl, txSum_len _⟩
        have HTL := Lib.hid hTl
        have HTV := Lib.hid hT
        have HSUM : Hid (∀ W : World, Below w8.heap.size w8 W → Calls Tryz.prog 10 #[.agg t.cells.toArray] W fun e w' => e = .returned (.agg (cellsOf T).toArray) ∧ Below W.heap.size W w') := Lib.hid fun W hW => by rw [← hT]; exact txSum_any (DT.out.below (bthen X8.out hW)) (DK.out.below (bthen X8.out hW)) HFT.out
        have HSYT : Hid (y.strip = (signedP (takeS T pre (sharedP k z m R f)) k (txSum (takeS T pre (sharedP k z m R f)))).strip) := Lib.hid (by have h9 := HSY.out; rw [hT, HRV.out] at h9; exact h9)
        have HSHR : Hid (sharesOk m R f = true) := Lib.hid (by have h9 := HSHV.out; rw [HRV.out] at h9; exact h9)
        have E2 := Lib.hid (keep X8.out D2.out)
        have EV := Lib.hid (keep X8.out DV.out)
        have hkeys := DP.out.way.keys
        rw [HP.out.kn, HP.out.ks] at hkeys
        obtain ⟨kb, ko, eka, hkb, hkc⟩ := hkeys.2.2.2.2.2 (by omega)
        have CK : Hid (w8.cell? ⟨v, 0, none⟩ = some (.slice (some ⟨kb, ko, none⟩) 1 u1.c)) := Lib.hid (by have h9 := (range_cons (range_of EV.out)).1; rw [eka, HP.out.kn] at h9; exact h9)
        have HKBD := Lib.hid hkb
        have CZD : Hid (wd.cell? ⟨kb, ko, none⟩ = some (.int .i64 k)) := Lib.hid (hkc 0 (by omega))
        have CKD : Hid (wd.cell? ⟨v, 0, none⟩ = some (.slice (some ⟨kb, ko, none⟩) 1 u1.c)) := Lib.hid (by have h9 := (range_cons (range_of DV.out)).1; rw [eka, HP.out.kn] at h9; exact h9)
        have HKB := Lib.hid (Nat.lt_of_lt_of_le hkb X8.out.size)
        have CZ : Hid (w8.cell? ⟨kb, ko, none⟩ = some (.int .i64 k)) := Lib.hid ((Below.cell X8.out (p := ⟨kb, ko, none⟩) hkb).trans (hkc 0 (by omega)))
        have HKF : Hid (Fits k) := Lib.hid (by have h9 := HP.out.z0; have h8 := HP.out.z1; constructor <;> omega)
        clear hkeys eka hkb hkc hT hTl
        go_cut [19] from 154 to 167 (fun u w' => ∃ v9 n5 n12 p q : Nat, u = .pointer (some ⟨v9, 0, none⟩) ∧ WantAt w8.heap.size w' T pre k V v9 n5 n12 p q g2 ∧ Below w8.heap.size w8 w')
        case first =>
          try simp only [Act.put]
          refine wp_region_held_drew (S := fun w' => Below w8.heap.size w8 w') (by kernel_rfl) (below_drew (Below.refl _ _)) (fun hHeld => ?_)
          refine take_at (i := 0) rfl rfl (by kernel_rfl) (by kernel_rfl) (by kernel_rfl) (fun _ _ _ h => h) (yieldsIf_load_mid (by rfl) _ _ rfl g1 0 rfl t.cells _ (fun w0 hSw => range_of (keep hSw E2.out)) Tryz.underlying35 rfl SZTl.out) (by assumption) ?_
          simp only [nrmA, nrmB, nrmC]
          refine take_at (i := 3) (v := ?_) rfl rfl (by kernel_rfl) (by kernel_rfl) (by kernel_rfl) (fun _ _ _ h => h) (Or.inl ⟨by rfl, ?_⟩) (by assumption) ?_
          rotate_left
          · intro w0 hSw; (try dsimp only at hSw); first | (go_simp; done) | (go_simp; with_reducible rfl)
          simp only [nrmA, nrmB, nrmC]
          refine take_at (i := 6) (v := ?_) rfl rfl (by kernel_rfl) (by kernel_rfl) (by kernel_rfl) (fun _ _ _ h => h) (Or.inl ⟨by rfl, ?_⟩) (by assumption) ?_
          rotate_left
          · intro w0 hSw; (try dsimp only at hSw); first | (go_simp; done) | (go_simp; with_reducible rfl)
          simp only [nrmA, nrmB, nrmC]
          refine take_at (i := 7) rfl rfl (by kernel_rfl) (by kernel_rfl) (by kernel_rfl) (fun _ _ _ h => h) (yields_cell (b := v) (o := 0) (by rfl) rfl rfl (fun w0 hSw => (Below.cell hSw (p := ⟨v, 0, none⟩) (lt_of_block EV.out)).trans CK.out) (fun w0 => Tryz.isAgg47 w0)) (by assumption) ?_
          simp only [nrmA, nrmB, nrmC]
          refine take_at (i := 8) (v := ?_) rfl rfl (by kernel_rfl) (by kernel_rfl) (by kernel_rfl) (fun _ _ _ h => h) (Or.inl ⟨by rfl, ?_⟩) (by assumption) ?_
          rotate_left
          · intro w0 hSw; (try dsimp only at hSw); first | (go_simp; done) | (go_simp; with_reducible rfl)
          simp only [nrmA, nrmB, nrmC]
          refine take_at (i := 9) rfl rfl (by kernel_rfl) (by kernel_rfl) (by kernel_rfl) (fun _ _ _ h => h) (yields_cell (b := kb) (o := ko) (by rfl) rfl rfl (fun w0 hSw => (Below.cell hSw (p := ⟨kb, ko, none⟩) HKB.out).trans CZ.out) (fun w0 => Tryz.isAgg3 w0)) (by assumption) ?_
          simp only [nrmA, nrmB, nrmC]
          refine take_at (i := 10) (v := ?_) rfl rfl (by kernel_rfl) (by kernel_rfl) (by kernel_rfl) (fun _ _ _ h => h) (Or.inl ⟨by rfl, ?_⟩) (by assumption) ?_
          rotate_left
          · intro w0 hSw; (try dsimp only at hSw); first | (go_simp; done) | (go_simp; with_reducible rfl)
          simp only [nrmA, nrmB, nrmC]
          refine wpAnyH_ready (rs := [1, 14]) (by kernel_rfl) (by simp) ?_
          refine AllReadyH.cons rfl (fun K hK => ?_) ?_
          · have HCx := Lib.hid (HSUM.out _ hHeld)
            go_simp
            go_wp2_with ((go_at_call 10; (with_reducible refine (HCx.out).mono ?_); rintro e y1 ⟨rfl, hb⟩; have HX := Lib.hid (bthen hHeld hb); clear hb HCx))
            refine hK.out _ _ (by (try dsimp only); exact HX.out) (fun hHeld => ?_)
            clear hK K
            refine take_at (i := 2) rfl rfl (by kernel_rfl) (by kernel_rfl) (by kernel_rfl) (fun _ _ _ h => h) (yields_build10 (by rfl) rfl (vs := [(0, .agg (cellsOf T).toArray)]) (by rfl) (build_ref1_14 HTL.out)) (by assumption) ?_
            simp only [nrmA, nrmB, nrmC]
            refine take_at (i := 4) rfl rfl (by kernel_rfl) (by kernel_rfl) (by kernel_rfl) (fun _ _ _ h => h) (yields_build10 (by rfl) rfl (vs := [(0, .agg (refCells T 0).toArray), (1, .int .i64 1), (2, .slice (some ⟨g2, 0, none⟩) 32 32)]) (by rfl) (build_take15 (pre := pre) _ HTL.out)) (by assumption) ?_
            simp only [nrmA, nrmB, nrmC]
            refine wpAnyH_ready (rs := [5, 11, 14]) (by kernel_rfl) (by simp) ?_
            refine AllReadyH.cons rfl (fun K hK => ?_) ?_
            · refine step_lits Tryz.inAt14 (d := 159) rfl (by rfl) rfl [takeIn T pre (some ⟨g2, 0, none⟩)] rfl (by decide) (by decide) (by intro x hx; simp at hx; subst hx; exact PIn.len HTL.out) (by rfl) ?_
              intro n5 y2 hp hh hb
              have I5 := Lib.hid hh
              have HX := Lib.hid (bthen hHeld hb)
              clear hp hh hb
              refine hK.out _ _ (by (try dsimp only); exact HX.out) (fun hHeld => ?_)
              clear hK K
              refine wpAnyH_ready (rs := [11, 14]) (by kernel_rfl) (by simp) ?_
              refine AllReadyH.cons rfl (fun K hK => ?_) ?_
              · have HCx := Lib.hid (fun (W : World) => to_at14 k V W)
                go_simp
                go_wp2_with ((go_at_call 11; (with_reducible refine (HCx.out _).mono ?_); rintro e y3 ⟨p, q, rfl, ha, hb⟩; have I5 := Lib.hid (keep hb I5.out); have HE := Lib.hid (ha.old (Below.size hHeld)); have HX := Lib.hid (bthen hHeld hb); clear ha hb HCx))
                refine hK.out _ _ (by (try dsimp only); exact HX.out) (fun hHeld => ?_)
                clear hK K
                refine wpAnyH_ready (rs := [12, 14]) (by kernel_rfl) (by simp) ?_
                refine AllReadyH.cons rfl (fun K hK => ?_) ?_
                · refine step_lits Tryz.outAt14 (d := 166) rfl (by rfl) rfl [(herP (some ⟨q, 0, none⟩) (some ⟨p, 0, none⟩) k V)] rfl (by decide) (by decide) (by intro x hx; simp at hx; subst hx; rfl) (by rfl) ?_
                  intro n12 y4 hp hh hb
                  have I5 := Lib.hid (keep hb I5.out); have HE := Lib.hid (HE.out.keep hb)
                  have O12 := Lib.hid hh
                  have NO : Hid (w8.heap.size ≤ n12) := Lib.hid (Nat.le_trans (Below.size hHeld) hp)
                  have HX := Lib.hid (bthen hHeld hb)
                  clear hp hh hb
                  refine hK.out _ _ (by (try dsimp only); exact HX.out) (fun hHeld => ?_)
                  clear hK K
                  refine take_at (i := 13) rfl rfl (by kernel_rfl) (by kernel_rfl) (by kernel_rfl) (fun _ _ _ h => h) (yields_build10 (by rfl) rfl (vs := [(0, .slice (some ⟨n5, 0, none⟩) 1 1), (1, .slice (some ⟨n12, 0, none⟩) 1 1)]) (by rfl) (build_takeP (T := T) (pre := pre) (some ⟨n5, 0, none⟩) (some ⟨g2, 0, none⟩) (some ⟨n12, 0, none⟩) 1 1 [(herP (some ⟨q, 0, none⟩) (some ⟨p, 0, none⟩) k V)])) (by assumption) ?_
                  simp only [nrmA, nrmB, nrmC]
                  refine wpAnyH_ready (rs := [14]) (by kernel_rfl) (by simp) ?_
                  refine AllReadyH.cons rfl (fun K hK => ?_) ?_
                  · refine step_alloc10 (d := 19) rfl (by rfl) 35 rfl noTx.cells.toArray Tryz.zeroTx14 ?_
                    intro v9 y5 hp hh hb
                    have I5 := Lib.hid (keep hb I5.out); have HE := Lib.hid (HE.out.keep hb); have O12 := Lib.hid (keep hb O12.out)
                    have V9 := Lib.hid hh
                    have NV : Hid (w8.heap.size ≤ v9) := Lib.hid (Nat.le_trans (Below.size hHeld) hp)
                    have HX := Lib.hid (bthen hHeld hb)
                    clear hp hh hb
                    refine hK.out _ _ (by (try dsimp only); exact HX.out) (fun hHeld => ?_)
                    clear hK K
                    refine wpAnyH_ready (rs := [15]) (by kernel_rfl) (by simp) ?_
                    refine AllReadyH.cons rfl (fun K hK => ?_) ?_
                    · refine step_row10 (by rfl) 35 _ _ rfl v9 (takeP T pre (some ⟨n5, 0, none⟩) (some ⟨g2, 0, none⟩) (some ⟨n12, 0, none⟩) 1 1 [herP (some ⟨q, 0, none⟩) (some ⟨p, 0, none⟩) k V]).cells (by rfl) (by rfl) 35 noTx.cells V9.out (tx_size zero32_len) rfl (PTx.one _) (fun y6 hh hb => ?_)
                      have HX := Lib.hid (But.in hHeld hb NV.out)
                      have HWA : Hid (WantAt w8.heap.size y6 T pre k V v9 n5 n12 p q g2) := Lib.hid (WantAt.made V9.out hh hb I5.out O12.out HE.out NV.out NO.out)
                      clear hh hb
                      refine hK.out _ _ (by (try dsimp only); exact HX.out) (fun hHeld => ?_)
                      clear hK K
                      refine wpAnyH_done (by kernel_rfl) ?_ _
                      clear hHeld
                      go_wp2_with fail
                      go_meet
                      exact ⟨v9, n5, n12, p, q, rfl, HWA.out, HX.out⟩
                    exact AllReadyH.nil
                  exact AllReadyH.nil
                refine AllReadyH.cons rfl (fun K hK => ?_) ?_
                · refine step_alloc10 (d := 19) rfl (by rfl) 35 rfl noTx.cells.toArray Tryz.zeroTx14 ?_
                  intro v9 y4 hp hh hb
                  have I5 := Lib.hid (keep hb I5.out); have HE := Lib.hid (HE.out.keep hb)
                  have V9 := Lib.hid hh
                  have NV : Hid (w8.heap.size ≤ v9) := Lib.hid (Nat.le_trans (Below.size hHeld) hp)
                  have HX := Lib.hid (bthen hHeld hb)
                  clear hp hh hb
                  refine hK.out _ _ (by (try dsimp only); exact HX.out) (fun hHeld => ?_)
                  clear hK K
                  refine wpAnyH_ready (rs := [12]) (by kernel_rfl) (by simp) ?_
                  refine AllReadyH.cons rfl (fun K hK => ?_) ?_
                  · refine step_lits Tryz.outAt14 (d := 166) rfl (by rfl) rfl [(herP (some ⟨q, 0, none⟩) (some ⟨p, 0, none⟩) k V)] rfl (by decide) (by decide) (by intro x hx; simp at hx; subst hx; rfl) (by rfl) ?_
                    intro n12 y5 hp hh hb
                    have I5 := Lib.hid (keep hb I5.out); have HE := Lib.hid (HE.out.keep hb); have V9 := Lib.hid (keep hb V9.out)
                    have O12 := Lib.hid hh
                    have NO : Hid (w8.heap.size ≤ n12) := Lib.hid (Nat.le_trans (Below.size hHeld) hp)
                    have HX := Lib.hid (bthen hHeld hb)
                    clear hp hh hb
                    refine hK.out _ _ (by (try dsimp only); exact HX.out) (fun hHeld => ?_)
                    clear hK K
                    refine take_at (i := 13) rfl rfl (by kernel_rfl) (by kernel_rfl) (by kernel_rfl) (fun _ _ _ h => h) (yields_build10 (by rfl) rfl (vs := [(0, .slice (some ⟨n5, 0, none⟩) 1 1), (1, .slice (some ⟨n12, 0, none⟩) 1 1)]) (by rfl) (build_takeP (T := T) (pre := pre) (some ⟨n5, 0, none⟩) (some ⟨g2, 0, none⟩) (some ⟨n12, 0, none⟩) 1 1 [(herP (some ⟨q, 0, none⟩) (some ⟨p, 0, none⟩) k V)])) (by assumption) ?_
                    simp only [nrmA, nrmB, nrmC]
                    refine wpAnyH_ready (rs := [15]) (by kernel_rfl) (by simp) ?_
                    refine AllReadyH.cons rfl (fun K hK => ?_) ?_
                    · refine step_row10 (by rfl) 35 _ _ rfl v9 (takeP T pre (some ⟨n5, 0, none⟩) (some ⟨g2, 0, none⟩) (some ⟨n12, 0, none⟩) 1 1 [herP (some ⟨q, 0, none⟩) (some ⟨p, 0, none⟩) k V]).cells (by rfl) (by rfl) 35 noTx.cells V9.out (tx_size zero32_len) rfl (PTx.one _) (fun y6 hh hb => ?_)
                      have HX := Lib.hid (But.in hHeld hb NV.out)
                      have HWA : Hid (WantAt w8.heap.size y6 T pre k V v9 n5 n12 p q g2) := Lib.hid (WantAt.made V9.out hh hb I5.out O12.out HE.out NV.out NO.out)
                      clear hh hb
                      refine hK.out _ _ (by (try dsimp only); exact HX.out) (fun hHeld => ?_)
                      clear hK K
                      refine wpAnyH_done (by kernel_rfl) ?_ _
                      clear hHeld
                      go_wp2_with fail
                      go_meet
                      exact ⟨v9, n5, n12, p, q, rfl, HWA.out, HX.out⟩
                    exact AllReadyH.nil
                  exact AllReadyH.nil
                exact AllReadyH.nil
              refine AllReadyH.cons rfl (fun K hK => ?_) ?_
              · refine step_alloc10 (d := 19) rfl (by rfl) 35 rfl noTx.cells.toArray Tryz.zeroTx14 ?_
                intro v9 y3 hp hh hb
                have I5 := Lib.hid (keep hb I5.out)
                have V9 := Lib.hid hh
                have NV : Hid (w8.heap.size ≤ v9) := Lib.hid (Nat.le_trans (Below.size hHeld) hp)
                have HX := Lib.hid (bthen hHeld hb)
                clear hp hh hb
                refine hK.out _ _ (by (try dsimp only); exact HX.out) (fun hHeld => ?_)
                clear hK K
                refine wpAnyH_ready (rs := [11]) (by kernel_rfl) (by simp) ?_
                refine AllReadyH.cons rfl (fun K hK => ?_) ?_
                · have HCx := Lib.hid (fun (W : World) => to_at14 k V W)
                  go_simp
                  go_wp2_with ((go_at_call 11; (with_reducible refine (HCx.out _).mono ?_); rintro e y4 ⟨p, q, rfl, ha, hb⟩; have I5 := Lib.hid (keep hb I5.out); have V9 := Lib.hid (keep hb V9.out); have HE := Lib.hid (ha.old (Below.size hHeld)); have HX := Lib.hid (bthen hHeld hb); clear ha hb HCx))
                  refine hK.out _ _ (by (try dsimp only); exact HX.out) (fun hHeld => ?_)
                  clear hK K
                  refine wpAnyH_ready (rs := [12]) (by kernel_rfl) (by simp) ?_
                  refine AllReadyH.cons rfl (fun K hK => ?_) ?_
                  · refine step_lits Tryz.outAt14 (d := 166) rfl (by rfl) rfl [(herP (some ⟨q, 0, none⟩) (some ⟨p, 0, none⟩) k V)] rfl (by decide) (by decide) (by intro x hx; simp at hx; subst hx; rfl) (by rfl) ?_
                    intro n12 y5 hp hh hb
                    have I5 := Lib.hid (keep hb I5.out); have V9 := Lib.hid (keep hb V9.out); have HE := Lib.hid (HE.out.keep hb)
                    have O12 := Lib.hid hh
                    have NO : Hid (w8.heap.size ≤ n12) := Lib.hid (Nat.le_trans (Below.size hHeld) hp)
                    have HX := Lib.hid (bthen hHeld hb)
                    clear hp hh hb
                    refine hK.out _ _ (by (try dsimp only); exact HX.out) (fun hHeld => ?_)
                    clear hK K
                    refine take_at (i := 13) rfl rfl (by kernel_rfl) (by kernel_rfl) (by kernel_rfl) (fun _ _ _ h => h) (yields_build10 (by rfl) rfl (vs := [(0, .slice (some ⟨n5, 0, none⟩) 1 1), (1, .slice (some ⟨n12, 0, none⟩) 1 1)]) (by rfl) (build_takeP (T := T) (pre := pre) (some ⟨n5, 0, none⟩) (some ⟨g2, 0, none⟩) (some ⟨n12, 0, none⟩) 1 1 [(herP (some ⟨q, 0, none⟩) (some ⟨p, 0, none⟩) k V)])) (by assumption) ?_
                    simp only [nrmA, nrmB, nrmC]
                    refine wpAnyH_ready (rs := [15]) (by kernel_rfl) (by simp) ?_
                    refine AllReadyH.cons rfl (fun K hK => ?_) ?_
                    · refine step_row10 (by rfl) 35 _ _ rfl v9 (takeP T pre (some ⟨n5, 0, none⟩) (some ⟨g2, 0, none⟩) (some ⟨n12, 0, none⟩) 1 1 [herP (some ⟨q, 0, none⟩) (some ⟨p, 0, none⟩) k V]).cells (by rfl) (by rfl) 35 noTx.cells V9.out (tx_size zero32_len) rfl (PTx.one _) (fun y6 hh hb => ?_)
                      have HX := Lib.hid (But.in hHeld hb NV.out)
                      have HWA : Hid (WantAt w8.heap.size y6 T pre k V v9 n5 n12 p q g2) := Lib.hid (WantAt.made V9.out hh hb I5.out O12.out HE.out NV.out NO.out)
                      clear hh hb
                      refine hK.out _ _ (by (try dsimp only); exact HX.out) (fun hHeld => ?_)
                      clear hK K
                      refine wpAnyH_done (by kernel_rfl) ?_ _
                      clear hHeld
                      go_wp2_with fail
                      go_meet
                      exact ⟨v9, n5, n12, p, q, rfl, HWA.out, HX.out⟩
                    exact AllReadyH.nil
                  exact AllReadyH.nil
                exact AllReadyH.nil
              exact AllReadyH.nil
            refine AllReadyH.cons rfl (fun K hK => ?_) ?_
            · have HCx := Lib.hid (fun (W : World) => to_at14 k V W)
              go_simp
              go_wp2_with ((go_at_call 11; (with_reducible refine (HCx.out _).mono ?_); rintro e y2 ⟨p, q, rfl, ha, hb⟩; have HE := Lib.hid (ha.old (Below.size hHeld)); have HX := Lib.hid (bthen hHeld hb); clear ha hb HCx))
              refine hK.out _ _ (by (try dsimp only); exact HX.out) (fun hHeld => ?_)
              clear hK K
              refine wpAnyH_ready (rs := [5, 12, 14]) (by kernel_rfl) (by simp) ?_
              refine AllReadyH.cons rfl (fun K hK => ?_) ?_
              · refine step_lits Tryz.inAt14 (d := 159) rfl (by rfl) rfl [takeIn T pre (some ⟨g2, 0, none⟩)] rfl (by decide) (by decide) (by intro x hx; simp at hx; subst hx; exact PIn.len HTL.out) (by rfl) ?_
                intro n5 y3 hp hh hb
                have HE := Lib.hid (HE.out.keep hb)
                have I5 := Lib.hid hh
                have HX := Lib.hid (bthen hHeld hb)
                clear hp hh hb
                refine hK.out _ _ (by (try dsimp only); exact HX.out) (fun hHeld => ?_)
                clear hK K
                refine wpAnyH_ready (rs := [12, 14]) (by kernel_rfl) (by simp) ?_
                refine AllReadyH.cons rfl (fun K hK => ?_) ?_
                · refine step_lits Tryz.outAt14 (d := 166) rfl (by rfl) rfl [(herP (some ⟨q, 0, none⟩) (some ⟨p, 0, none⟩) k V)] rfl (by decide) (by decide) (by intro x hx; simp at hx; subst hx; rfl) (by rfl) ?_
                  intro n12 y4 hp hh hb
                  have HE := Lib.hid (HE.out.keep hb); have I5 := Lib.hid (keep hb I5.out)
                  have O12 := Lib.hid hh
                  have NO : Hid (w8.heap.size ≤ n12) := Lib.hid (Nat.le_trans (Below.size hHeld) hp)
                  have HX := Lib.hid (bthen hHeld hb)
                  clear hp hh hb
                  refine hK.out _ _ (by (try dsimp only); exact HX.out) (fun hHeld => ?_)
                  clear hK K
                  refine take_at (i := 13) rfl rfl (by kernel_rfl) (by kernel_rfl) (by kernel_rfl) (fun _ _ _ h => h) (yields_build10 (by rfl) rfl (vs := [(0, .slice (some ⟨n5, 0, none⟩) 1 1), (1, .slice (some ⟨n12, 0, none⟩) 1 1)]) (by rfl) (build_takeP (T := T) (pre := pre) (some ⟨n5, 0, none⟩) (some ⟨g2, 0, none⟩) (some ⟨n12, 0, none⟩) 1 1 [(herP (some ⟨q, 0, none⟩) (some ⟨p, 0, none⟩) k V)])) (by assumption) ?_
                  simp only [nrmA, nrmB, nrmC]
                  refine wpAnyH_ready (rs := [14]) (by kernel_rfl) (by simp) ?_
                  refine AllReadyH.cons rfl (fun K hK => ?_) ?_
                  · refine step_alloc10 (d := 19) rfl (by rfl) 35 rfl noTx.cells.toArray Tryz.zeroTx14 ?_
                    intro v9 y5 hp hh hb
                    have HE := Lib.hid (HE.out.keep hb); have I5 := Lib.hid (keep hb I5.out); have O12 := Lib.hid (keep hb O12.out)
                    have V9 := Lib.hid hh
                    have NV : Hid (w8.heap.size ≤ v9) := Lib.hid (Nat.le_trans (Below.size hHeld) hp)
                    have HX := Lib.hid (bthen hHeld hb)
                    clear hp hh hb
                    refine hK.out _ _ (by (try dsimp only); exact HX.out) (fun hHeld => ?_)
                    clear hK K
                    refine wpAnyH_ready (rs := [15]) (by kernel_rfl) (by simp) ?_
                    refine AllReadyH.cons rfl (fun K hK => ?_) ?_
                    · refine step_row10 (by rfl) 35 _ _ rfl v9 (takeP T pre (some ⟨n5, 0, none⟩) (some ⟨g2, 0, none⟩) (some ⟨n12, 0, none⟩) 1 1 [herP (some ⟨q, 0, none⟩) (some ⟨p, 0, none⟩) k V]).cells (by rfl) (by rfl) 35 noTx.cells V9.out (tx_size zero32_len) rfl (PTx.one _) (fun y6 hh hb => ?_)
                      have HX := Lib.hid (But.in hHeld hb NV.out)
                      have HWA : Hid (WantAt w8.heap.size y6 T pre k V v9 n5 n12 p q g2) := Lib.hid (WantAt.made V9.out hh hb I5.out O12.out HE.out NV.out NO.out)
                      clear hh hb
                      refine hK.out _ _ (by (try dsimp only); exact HX.out) (fun hHeld => ?_)
                      clear hK K
                      refine wpAnyH_done (by kernel_rfl) ?_ _
                      clear hHeld
                      go_wp2_with fail
                      go_meet
                      exact ⟨v9, n5, n12, p, q, rfl, HWA.out, HX.out⟩
                    exact AllReadyH.nil
                  exact AllReadyH.nil
                refine AllReadyH.cons rfl (fun K hK => ?_) ?_
                · refine step_alloc10 (d := 19) rfl (by rfl) 35 rfl noTx.cells.toArray Tryz.zeroTx14 ?_
                  intro v9 y4 hp hh hb
                  have HE := Lib.hid (HE.out.keep hb); have I5 := Lib.hid (keep hb I5.out)
                  have V9 := Lib.hid hh
                  have NV : Hid (w8.heap.size ≤ v9) := Lib.hid (Nat.le_trans (Below.size hHeld) hp)
                  have HX := Lib.hid (bthen hHeld hb)
                  clear hp hh hb
                  refine hK.out _ _ (by (try dsimp only); exact HX.out) (fun hHeld => ?_)
                  clear hK K
                  refine wpAnyH_ready (rs := [12]) (by kernel_rfl) (by simp) ?_
                  refine AllReadyH.cons rfl (fun K hK => ?_) ?_
                  · refine step_lits Tryz.outAt14 (d := 166) rfl (by rfl) rfl [(herP (some ⟨q, 0, none⟩) (some ⟨p, 0, none⟩) k V)] rfl (by decide) (by decide) (by intro x hx; simp at hx; subst hx; rfl) (by rfl) ?_
                    intro n12 y5 hp hh hb
                    have HE := Lib.hid (HE.out.keep hb); have I5 := Lib.hid (keep hb I5.out); have V9 := Lib.hid (keep hb V9.out)
                    have O12 := Lib.hid hh
                    have NO : Hid (w8.heap.size ≤ n12) := Lib.hid (Nat.le_trans (Below.size hHeld) hp)
                    have HX := Lib.hid (bthen hHeld hb)
                    clear hp hh hb
                    refine hK.out _ _ (by (try dsimp only); exact HX.out) (fun hHeld => ?_)
                    clear hK K
                    refine take_at (i := 13) rfl rfl (by kernel_rfl) (by kernel_rfl) (by kernel_rfl) (fun _ _ _ h => h) (yields_build10 (by rfl) rfl (vs := [(0, .slice (some ⟨n5, 0, none⟩) 1 1), (1, .slice (some ⟨n12, 0, none⟩) 1 1)]) (by rfl) (build_takeP (T := T) (pre := pre) (some ⟨n5, 0, none⟩) (some ⟨g2, 0, none⟩) (some ⟨n12, 0, none⟩) 1 1 [(herP (some ⟨q, 0, none⟩) (some ⟨p, 0, none⟩) k V)])) (by assumption) ?_
                    simp only [nrmA, nrmB, nrmC]
                    refine wpAnyH_ready (rs := [15]) (by kernel_rfl) (by simp) ?_
                    refine AllReadyH.cons rfl (fun K hK => ?_) ?_
                    · refine step_row10 (by rfl) 35 _ _ rfl v9 (takeP T pre (some ⟨n5, 0, none⟩) (some ⟨g2, 0, none⟩) (some ⟨n12, 0, none⟩) 1 1 [herP (some ⟨q, 0, none⟩) (some ⟨p, 0, none⟩) k V]).cells (by rfl) (by rfl) 35 noTx.cells V9.out (tx_size zero32_len) rfl (PTx.one _) (fun y6 hh hb => ?_)
                      have HX := Lib.hid (But.in hHeld hb NV.out)
                      have HWA : Hid (WantAt w8.heap.size y6 T pre k V v9 n5 n12 p q g2) := Lib.hid (WantAt.made V9.out hh hb I5.out O12.out HE.out NV.out NO.out)
                      clear hh hb
                      refine hK.out _ _ (by (try dsimp only); exact HX.out) (fun hHeld => ?_)
                      clear hK K
                      refine wpAnyH_done (by kernel_rfl) ?_ _
                      clear hHeld
                      go_wp2_with fail
                      go_meet
                      exact ⟨v9, n5, n12, p, q, rfl, HWA.out, HX.out⟩
                    exact AllReadyH.nil
                  exact AllReadyH.nil
                exact AllReadyH.nil
              refine AllReadyH.cons rfl (fun K hK => ?_) ?_
              · refine step_lits Tryz.outAt14 (d := 166) rfl (by rfl) rfl [(herP (some ⟨q, 0, none⟩) (some ⟨p, 0, none⟩) k V)] rfl (by decide) (by decide) (by intro x hx; simp at hx; subst hx; rfl) (by rfl) ?_
                intro n12 y3 hp hh hb
                have HE := Lib.hid (HE.out.keep hb)
                have O12 := Lib.hid hh
                have NO : Hid (w8.heap.size ≤ n12) := Lib.hid (Nat.le_trans (Below.size hHeld) hp)
                have HX := Lib.hid (bthen hHeld hb)
                clear hp hh hb
                refine hK.out _ _ (by (try dsimp only); exact HX.out) (fun hHeld => ?_)
                clear hK K
                refine wpAnyH_ready (rs := [5, 14]) (by kernel_rfl) (by simp) ?_
                refine AllReadyH.cons rfl (fun K hK => ?_) ?_
                · refine step_lits Tryz.inAt14 (d := 159) rfl (by rfl) rfl [takeIn T pre (some ⟨g2, 0, none⟩)] rfl (by decide) (by decide) (by intro x hx; simp at hx; subst hx; exact PIn.len HTL.out) (by rfl) ?_
                  intro n5 y4 hp hh hb
                  have HE := Lib.hid (HE.out.keep hb); have O12 := Lib.hid (keep hb O12.out)
                  have I5 := Lib.hid hh
                  have HX := Lib.hid (bthen hHeld hb)
                  clear hp hh hb
                  refine hK.out _ _ (by (try dsimp only); exact HX.out) (fun hHeld => ?_)
                  clear hK K
                  refine take_at (i := 13) rfl rfl (by kernel_rfl) (by kernel_rfl) (by kernel_rfl) (fun _ _ _ h => h) (yields_build10 (by rfl) rfl (vs := [(0, .slice (some ⟨n5, 0, none⟩) 1 1), (1, .slice (some ⟨n12, 0, none⟩) 1 1)]) (by rfl) (build_takeP (T := T) (pre := pre) (some ⟨n5, 0, none⟩) (some ⟨g2, 0, none⟩) (some ⟨n12, 0, none⟩) 1 1 [(herP (some ⟨q, 0, none⟩) (some ⟨p, 0, none⟩) k V)])) (by assumption) ?_
                  simp only [nrmA, nrmB, nrmC]
                  refine wpAnyH_ready (rs := [14]) (by kernel_rfl) (by simp) ?_
                  refine AllReadyH.cons rfl (fun K hK => ?_) ?_
                  · refine step_alloc10 (d := 19) rfl (by rfl) 35 rfl noTx.cells.toArray Tryz.zeroTx14 ?_
                    intro v9 y5 hp hh hb
                    have HE := Lib.hid (HE.out.keep hb); have O12 := Lib.hid (keep hb O12.out); have I5 := Lib.hid (keep hb I5.out)
                    have V9 := Lib.hid hh
                    have NV : Hid (w8.heap.size ≤ v9) := Lib.hid (Nat.le_trans (Below.size hHeld) hp)
                    have HX := Lib.hid (bthen hHeld hb)
                    clear hp hh hb
                    refine hK.out _ _ (by (try dsimp only); exact HX.out) (fun hHeld => ?_)
                    clear hK K
                    refine wpAnyH_ready (rs := [15]) (by kernel_rfl) (by simp) ?_
                    refine AllReadyH.cons rfl (fun K hK => ?_) ?_
                    · refine step_row10 (by rfl) 35 _ _ rfl v9 (takeP T pre (some ⟨n5, 0, none⟩) (some ⟨g2, 0, none⟩) (some ⟨n12, 0, none⟩) 1 1 [herP (some ⟨q, 0, none⟩) (some ⟨p, 0, none⟩) k V]).cells (by rfl) (by rfl) 35 noTx.cells V9.out (tx_size zero32_len) rfl (PTx.one _) (fun y6 hh hb => ?_)
                      have HX := Lib.hid (But.in hHeld hb NV.out)
                      have HWA : Hid (WantAt w8.heap.size y6 T pre k V v9 n5 n12 p q g2) := Lib.hid (WantAt.made V9.out hh hb I5.out O12.out HE.out NV.out NO.out)
                      clear hh hb
                      refine hK.out _ _ (by (try dsimp only); exact HX.out) (fun hHeld => ?_)
                      clear hK K
                      refine wpAnyH_done (by kernel_rfl) ?_ _
                      clear hHeld
                      go_wp2_with fail
                      go_meet
                      exact ⟨v9, n5, n12, p, q, rfl, HWA.out, HX.out⟩
                    exact AllReadyH.nil
                  exact AllReadyH.nil
                refine AllReadyH.cons rfl (fun K hK => ?_) ?_
                · refine step_alloc10 (d := 19) rfl (by rfl) 35 rfl noTx.cells.toArray Tryz.zeroTx14 ?_
                  intro v9 y4 hp hh hb
                  have HE := Lib.hid (HE.out.keep hb); have O12 := Lib.hid (keep hb O12.out)
                  have V9 := Lib.hid hh
                  have NV : Hid (w8.heap.size ≤ v9) := Lib.hid (Nat.le_trans (Below.size hHeld) hp)
                  have HX := Lib.hid (bthen hHeld hb)
                  clear hp hh hb
                  refine hK.out _ _ (by (try dsimp only); exact HX.out) (fun hHeld => ?_)
                  clear hK K
                  refine wpAnyH_ready (rs := [5]) (by kernel_rfl) (by simp) ?_
                  refine AllReadyH.cons rfl (fun K hK => ?_) ?_
                  · refine step_lits Tryz.inAt14 (d := 159) rfl (by rfl) rfl [takeIn T pre (some ⟨g2, 0, none⟩)] rfl (by decide) (by decide) (by intro x hx; simp at hx; subst hx; exact PIn.len HTL.out) (by rfl) ?_
                    intro n5 y5 hp hh hb
                    have HE := Lib.hid (HE.out.keep hb); have O12 := Lib.hid (keep hb O12.out); have V9 := Lib.hid (keep hb V9.out)
                    have I5 := Lib.hid hh
                    have HX := Lib.hid (bthen hHeld hb)
                    clear hp hh hb
                    refine hK.out _ _ (by (try dsimp only); exact HX.out) (fun hHeld => ?_)
                    clear hK K
                    refine take_at (i := 13) rfl rfl (by kernel_rfl) (by kernel_rfl) (by kernel_rfl) (fun _ _ _ h => h) (yields_build10 (by rfl) rfl (vs := [(0, .slice (some ⟨n5, 0, none⟩) 1 1), (1, .slice (some ⟨n12, 0, none⟩) 1 1)]) (by rfl) (build_takeP (T := T) (pre := pre) (some ⟨n5, 0, none⟩) (some ⟨g2, 0, none⟩) (some ⟨n12, 0, none⟩) 1 1 [(herP (some ⟨q, 0, none⟩) (some ⟨p, 0, none⟩) k V)])) (by assumption) ?_
                    simp only [nrmA, nrmB, nrmC]
                    refine wpAnyH_ready (rs := [15]) (by kernel_rfl) (by simp) ?_
                    refine AllReadyH.cons rfl (fun K hK => ?_) ?_
                    · refine step_row10 (by rfl) 35 _ _ rfl v9 (takeP T pre (some ⟨n5, 0, none⟩) (some ⟨g2, 0, none⟩) (some ⟨n12, 0, none⟩) 1 1 [herP (some ⟨q, 0, none⟩) (some ⟨p, 0, none⟩) k V]).cells (by rfl) (by rfl) 35 noTx.cells V9.out (tx_size zero32_len) rfl (PTx.one _) (fun y6 hh hb => ?_)
                      have HX := Lib.hid (But.in hHeld hb NV.out)
                      have HWA : Hid (WantAt w8.heap.size y6 T pre k V v9 n5 n12 p q g2) := Lib.hid (WantAt.made V9.out hh hb I5.out O12.out HE.out NV.out NO.out)
                      clear hh hb
                      refine hK.out _ _ (by (try dsimp only); exact HX.out) (fun hHeld => ?_)
                      clear hK K
                      refine wpAnyH_done (by kernel_rfl) ?_ _
                      clear hHeld
                      go_wp2_with fail
                      go_meet
                      exact ⟨v9, n5, n12, p, q, rfl, HWA.out, HX.out⟩
                    exact AllReadyH.nil
                  exact AllReadyH.nil
                exact AllReadyH.nil
              refine AllReadyH.cons rfl (fun K hK => ?_) ?_
              · refine step_alloc10 (d := 19) rfl (by rfl) 35 rfl noTx.cells.toArray Tryz.zeroTx14 ?_
                intro v9 y3 hp hh hb
                have HE := Lib.hid (HE.out.keep hb)
                have V9 := Lib.hid hh
                have NV : Hid (w8.heap.size ≤ v9) := Lib.hid (Nat.le_trans (Below.size hHeld) hp)
                have HX := Lib.hid (bthen hHeld hb)
                clear hp hh hb
                refine hK.out _ _ (by (try dsimp only); exact HX.out) (fun hHeld => ?_)
                clear hK K
                refine wpAnyH_ready (rs := [5, 12]) (by kernel_rfl) (by simp) ?_
                refine AllReadyH.cons rfl (fun K hK => ?_) ?_
                · refine step_lits Tryz.inAt14 (d := 159) rfl (by rfl) rfl [takeIn T pre (some ⟨g2, 0, none⟩)] rfl (by decide) (by decide) (by intro x hx; simp at hx; subst hx; exact PIn.len HTL.out) (by rfl) ?_
                  intro n5 y4 hp hh hb
                  have HE := Lib.hid (HE.out.keep hb); have V9 := Lib.hid (keep hb V9.out)
                  have I5 := Lib.hid hh
                  have HX := Lib.hid (bthen hHeld hb)
                  clear hp hh hb
                  refine hK.out _ _ (by (try dsimp only); exact HX.out) (fun hHeld => ?_)
                  clear hK K
                  refine wpAnyH_ready (rs := [12]) (by kernel_rfl) (by simp) ?_
                  refine AllReadyH.cons rfl (fun K hK => ?_) ?_
                  · refine step_lits Tryz.outAt14 (d := 166) rfl (by rfl) rfl [(herP (some ⟨q, 0, none⟩) (some ⟨p, 0, none⟩) k V)] rfl (by decide) (by decide) (by intro x hx; simp at hx; subst hx; rfl) (by rfl) ?_
                    intro n12 y5 hp hh hb
                    have HE := Lib.hid (HE.out.keep hb); have V9 := Lib.hid (keep hb V9.out); have I5 := Lib.hid (keep hb I5.out)
                    have O12 := Lib.hid hh
                    have NO : Hid (w8.heap.size ≤ n12) := Lib.hid (Nat.le_trans (Below.size hHeld) hp)
                    have HX := Lib.hid (bthen hHeld hb)
                    clear hp hh hb
                    refine hK.out _ _ (by (try dsimp only); exact HX.out) (fun hHeld => ?_)
                    clear hK K
                    refine take_at (i := 13) rfl rfl (by kernel_rfl) (by kernel_rfl) (by kernel_rfl) (fun _ _ _ h => h) (yields_build10 (by rfl) rfl (vs := [(0, .slice (some ⟨n5, 0, none⟩) 1 1), (1, .slice (some ⟨n12, 0, none⟩) 1 1)]) (by rfl) (build_takeP (T := T) (pre := pre) (some ⟨n5, 0, none⟩) (some ⟨g2, 0, none⟩) (some ⟨n12, 0, none⟩) 1 1 [(herP (some ⟨q, 0, none⟩) (some ⟨p, 0, none⟩) k V)])) (by assumption) ?_
                    simp only [nrmA, nrmB, nrmC]
                    refine wpAnyH_ready (rs := [15]) (by kernel_rfl) (by simp) ?_
                    refine AllReadyH.cons rfl (fun K hK => ?_) ?_
                    · refine step_row10 (by rfl) 35 _ _ rfl v9 (takeP T pre (some ⟨n5, 0, none⟩) (some ⟨g2, 0, none⟩) (some ⟨n12, 0, none⟩) 1 1 [herP (some ⟨q, 0, none⟩) (some ⟨p, 0, none⟩) k V]).cells (by rfl) (by rfl) 35 noTx.cells V9.out (tx_size zero32_len) rfl (PTx.one _) (fun y6 hh hb => ?_)
                      have HX := Lib.hid (But.in hHeld hb NV.out)
                      have HWA : Hid (WantAt w8.heap.size y6 T pre k V v9 n5 n12 p q g2) := Lib.hid (WantAt.made V9.out hh hb I5.out O12.out HE.out NV.out NO.out)
                      clear hh hb
                      refine hK.out _ _ (by (try dsimp only); exact HX.out) (fun hHeld => ?_)
                      clear hK K
                      refine wpAnyH_done (by kernel_rfl) ?_ _
                      clear hHeld
                      go_wp2_with fail
                      go_meet
                      exact ⟨v9, n5, n12, p, q, rfl, HWA.out, HX.out⟩
                    exact AllReadyH.nil
                  exact AllReadyH.nil
                refine AllReadyH.cons rfl (fun K hK => ?_) ?_
                · refine step_lits Tryz.outAt14 (d := 166) rfl (by rfl) rfl [(herP (some ⟨q, 0, none⟩) (some ⟨p, 0, none⟩) k V)] rfl (by decide) (by decide) (by intro x hx; simp at hx; subst hx; rfl) (by rfl) ?_
                  intro n12 y4 hp hh hb
                  have HE := Lib.hid (HE.out.keep hb); have V9 := Lib.hid (keep hb V9.out)
                  have O12 := Lib.hid hh
                  have NO : Hid (w8.heap.size ≤ n12) := Lib.hid (Nat.le_trans (Below.size hHeld) hp)
                  have HX := Lib.hid (bthen hHeld hb)
                  clear hp hh hb
                  refine hK.out _ _ (by (try dsimp only); exact HX.out) (fun hHeld => ?_)
                  clear hK K
                  refine wpAnyH_ready (rs := [5]) (by kernel_rfl) (by simp) ?_
                  refine AllReadyH.cons rfl (fun K hK => ?_) ?_
                  · refine step_lits Tryz.inAt14 (d := 159) rfl (by rfl) rfl [takeIn T pre (some ⟨g2, 0, none⟩)] rfl (by decide) (by decide) (by intro x hx; simp at hx; subst hx; exact PIn.len HTL.out) (by rfl) ?_
                    intro n5 y5 hp hh hb
                    have HE := Lib.hid (HE.out.keep hb); have V9 := Lib.hid (keep hb V9.out); have O12 := Lib.hid (keep hb O12.out)
                    have I5 := Lib.hid hh
                    have HX := Lib.hid (bthen hHeld hb)
                    clear hp hh hb
                    refine hK.out _ _ (by (try dsimp only); exact HX.out) (fun hHeld => ?_)
                    clear hK K
                    refine take_at (i := 13) rfl rfl (by kernel_rfl) (by kernel_rfl) (by kernel_rfl) (fun _ _ _ h => h) (yields_build10 (by rfl) rfl (vs := [(0, .slice (some ⟨n5, 0, none⟩) 1 1), (1, .slice (some ⟨n12, 0, none⟩) 1 1)]) (by rfl) (build_takeP (T := T) (pre := pre) (some ⟨n5, 0, none⟩) (some ⟨g2, 0, none⟩) (some ⟨n12, 0, none⟩) 1 1 [(herP (some ⟨q, 0, none⟩) (some ⟨p, 0, none⟩) k V)])) (by assumption) ?_
                    simp only [nrmA, nrmB, nrmC]
                    refine wpAnyH_ready (rs := [15]) (by kernel_rfl) (by simp) ?_
                    refine AllReadyH.cons rfl (fun K hK => ?_) ?_
                    · refine step_row10 (by rfl) 35 _ _ rfl v9 (takeP T pre (some ⟨n5, 0, none⟩) (some ⟨g2, 0, none⟩) (some ⟨n12, 0, none⟩) 1 1 [herP (some ⟨q, 0, none⟩) (some ⟨p, 0, none⟩) k V]).cells (by rfl) (by rfl) 35 noTx.cells V9.out (tx_size zero32_len) rfl (PTx.one _) (fun y6 hh hb => ?_)
                      have HX := Lib.hid (But.in hHeld hb NV.out)
                      have HWA : Hid (WantAt w8.heap.size y6 T pre k V v9 n5 n12 p q g2) := Lib.hid (WantAt.made V9.out hh hb I5.out O12.out HE.out NV.out NO.out)
                      clear hh hb
                      refine hK.out _ _ (by (try dsimp only); exact HX.out) (fun hHeld => ?_)
                      clear hK K
                      refine wpAnyH_done (by kernel_rfl) ?_ _
                      clear hHeld
                      go_wp2_with fail
                      go_meet
                      exact ⟨v9, n5, n12, p, q, rfl, HWA.out, HX.out⟩
                    exact AllReadyH.nil
                  exact AllReadyH.nil
                exact AllReadyH.nil
              exact AllReadyH.nil
            refine AllReadyH.cons rfl (fun K hK => ?_) ?_
            · refine step_alloc10 (d := 19) rfl (by rfl) 35 rfl noTx.cells.toArray Tryz.zeroTx14 ?_
              intro v9 y2 hp hh hb
              have V9 := Lib.hid hh
              have NV : Hid (w8.heap.size ≤ v9) := Lib.hid (Nat.le_trans (Below.size hHeld) hp)
              have HX := Lib.hid (bthen hHeld hb)
              clear hp hh hb
              refine hK.out _ _ (by (try dsimp only); exact HX.out) (fun hHeld => ?_)
              clear hK K
              refine wpAnyH_ready (rs := [5, 11]) (by kernel_rfl) (by simp) ?_
              refine AllReadyH.cons rfl (fun K hK => ?_) ?_
              · refine step_lits Tryz.inAt14 (d := 159) rfl (by rfl) rfl [takeIn T pre (some ⟨g2, 0, none⟩)] rfl (by decide) (by decide) (by intro x hx; simp at hx; subst hx; exact PIn.len HTL.out) (by rfl) ?_
                intro n5 y3 hp hh hb
                have V9 := Lib.hid (keep hb V9.out)
                have I5 := Lib.hid hh
                have HX := Lib.hid (bthen hHeld hb)
                clear hp hh hb
                refine hK.out _ _ (by (try dsimp only); exact HX.out) (fun hHeld => ?_)
                clear hK K
                refine wpAnyH_ready (rs := [11]) (by kernel_rfl) (by simp) ?_
                refine AllReadyH.cons rfl (fun K hK => ?_) ?_
                · have HCx := Lib.hid (fun (W : World) => to_at14 k V W)
                  go_simp
                  go_wp2_with ((go_at_call 11; (with_reducible refine (HCx.out _).mono ?_); rintro e y4 ⟨p, q, rfl, ha, hb⟩; have V9 := Lib.hid (keep hb V9.out); have I5 := Lib.hid (keep hb I5.out); have HE := Lib.hid (ha.old (Below.size hHeld)); have HX := Lib.hid (bthen hHeld hb); clear ha hb HCx))
                  refine hK.out _ _ (by (try dsimp only); exact HX.out) (fun hHeld => ?_)
                  clear hK K
                  refine wpAnyH_ready (rs := [12]) (by kernel_rfl) (by simp) ?_
                  refine AllReadyH.cons rfl (fun K hK => ?_) ?_
                  · refine step_lits Tryz.outAt14 (d := 166) rfl (by rfl) rfl [(herP (some ⟨q, 0, none⟩) (some ⟨p, 0, none⟩) k V)] rfl (by decide) (by decide) (by intro x hx; simp at hx; subst hx; rfl) (by rfl) ?_
                    intro n12 y5 hp hh hb
                    have V9 := Lib.hid (keep hb V9.out); have I5 := Lib.hid (keep hb I5.out); have HE := Lib.hid (HE.out.keep hb)
                    have O12 := Lib.hid hh
                    have NO : Hid (w8.heap.size ≤ n12) := Lib.hid (Nat.le_trans (Below.size hHeld) hp)
                    have HX := Lib.hid (bthen hHeld hb)
                    clear hp hh hb
                    refine hK.out _ _ (by (try dsimp only); exact HX.out) (fun hHeld => ?_)
                    clear hK K
                    refine take_at (i := 13) rfl rfl (by kernel_rfl) (by kernel_rfl) (by kernel_rfl) (fun _ _ _ h => h) (yields_build10 (by rfl) rfl (vs := [(0, .slice (some ⟨n5, 0, none⟩) 1 1), (1, .slice (some ⟨n12, 0, none⟩) 1 1)]) (by rfl) (build_takeP (T := T) (pre := pre) (some ⟨n5, 0, none⟩) (some ⟨g2, 0, none⟩) (some ⟨n12, 0, none⟩) 1 1 [(herP (some ⟨q, 0, none⟩) (some ⟨p, 0, none⟩) k V)])) (by assumption) ?_
                    simp only [nrmA, nrmB, nrmC]
                    refine wpAnyH_ready (rs := [15]) (by kernel_rfl) (by simp) ?_
                    refine AllReadyH.cons rfl (fun K hK => ?_) ?_
                    · refine step_row10 (by rfl) 35 _ _ rfl v9 (takeP T pre (some ⟨n5, 0, none⟩) (some ⟨g2, 0, none⟩) (some ⟨n12, 0, none⟩) 1 1 [herP (some ⟨q, 0, none⟩) (some ⟨p, 0, none⟩) k V]).cells (by rfl) (by rfl) 35 noTx.cells V9.out (tx_size zero32_len) rfl (PTx.one _) (fun y6 hh hb => ?_)
                      have HX := Lib.hid (But.in hHeld hb NV.out)
                      have HWA : Hid (WantAt w8.heap.size y6 T pre k V v9 n5 n12 p q g2) := Lib.hid (WantAt.made V9.out hh hb I5.out O12.out HE.out NV.out NO.out)
                      clear hh hb
                      refine hK.out _ _ (by (try dsimp only); exact HX.out) (fun hHeld => ?_)
                      clear hK K
                      refine wpAnyH_done (by kernel_rfl) ?_ _
                      clear hHeld
                      go_wp2_with fail
                      go_meet
                      exact ⟨v9, n5, n12, p, q, rfl, HWA.out, HX.out⟩
                    exact AllReadyH.nil
                  exact AllReadyH.nil
                exact AllReadyH.nil
              refine AllReadyH.cons rfl (fun K hK => ?_) ?_
              · have HCx := Lib.hid (fun (W : World) => to_at14 k V W)
                go_simp
                go_wp2_with ((go_at_call 11; (with_reducible refine (HCx.out _).mono ?_); rintro e y3 ⟨p, q, rfl, ha, hb⟩; have V9 := Lib.hid (keep hb V9.out); have HE := Lib.hid (ha.old (Below.size hHeld)); have HX := Lib.hid (bthen hHeld hb); clear ha hb HCx))
                refine hK.out _ _ (by (try dsimp only); exact HX.out) (fun hHeld => ?_)
                clear hK K
                refine wpAnyH_ready (rs := [5, 12]) (by kernel_rfl) (by simp) ?_
                refine AllReadyH.cons rfl (fun K hK => ?_) ?_
                · refine step_lits Tryz.inAt14 (d := 159) rfl (by rfl) rfl [takeIn T pre (some ⟨g2, 0, none⟩)] rfl (by decide) (by decide) (by intro x hx; simp at hx; subst hx; exact PIn.len HTL.out) (by rfl) ?_
                  intro n5 y4 hp hh hb
                  have V9 := Lib.hid (keep hb V9.out); have HE := Lib.hid (HE.out.keep hb)
                  have I5 := Lib.hid hh
                  have HX := Lib.hid (bthen hHeld hb)
                  clear hp hh hb
                  refine hK.out _ _ (by (try dsimp only); exact HX.out) (fun hHeld => ?_)
                  clear hK K
                  refine wpAnyH_ready (rs := [12]) (by kernel_rfl) (by simp) ?_
                  refine AllReadyH.cons rfl (fun K hK => ?_) ?_
                  · refine step_lits Tryz.outAt14 (d := 166) rfl (by rfl) rfl [(herP (some ⟨q, 0, none⟩) (some ⟨p, 0, none⟩) k V)] rfl (by decide) (by decide) (by intro x hx; simp at hx; subst hx; rfl) (by rfl) ?_
                    intro n12 y5 hp hh hb
                    have V9 := Lib.hid (keep hb V9.out); have HE := Lib.hid (HE.out.keep hb); have I5 := Lib.hid (keep hb I5.out)
                    have O12 := Lib.hid hh
                    have NO : Hid (w8.heap.size ≤ n12) := Lib.hid (Nat.le_trans (Below.size hHeld) hp)
                    have HX := Lib.hid (bthen hHeld hb)
                    clear hp hh hb
                    refine hK.out _ _ (by (try dsimp only); exact HX.out) (fun hHeld => ?_)
                    clear hK K
                    refine take_at (i := 13) rfl rfl (by kernel_rfl) (by kernel_rfl) (by kernel_rfl) (fun _ _ _ h => h) (yields_build10 (by rfl) rfl (vs := [(0, .slice (some ⟨n5, 0, none⟩) 1 1), (1, .slice (some ⟨n12, 0, none⟩) 1 1)]) (by rfl) (build_takeP (T := T) (pre := pre) (some ⟨n5, 0, none⟩) (some ⟨g2, 0, none⟩) (some ⟨n12, 0, none⟩) 1 1 [(herP (some ⟨q, 0, none⟩) (some ⟨p, 0, none⟩) k V)])) (by assumption) ?_
                    simp only [nrmA, nrmB, nrmC]
                    refine wpAnyH_ready (rs := [15]) (by kernel_rfl) (by simp) ?_
                    refine AllReadyH.cons rfl (fun K hK => ?_) ?_
                    · refine step_row10 (by rfl) 35 _ _ rfl v9 (takeP T pre (some ⟨n5, 0, none⟩) (some ⟨g2, 0, none⟩) (some ⟨n12, 0, none⟩) 1 1 [herP (some ⟨q, 0, none⟩) (some ⟨p, 0, none⟩) k V]).cells (by rfl) (by rfl) 35 noTx.cells V9.out (tx_size zero32_len) rfl (PTx.one _) (fun y6 hh hb => ?_)
                      have HX := Lib.hid (But.in hHeld hb NV.out)
                      have HWA : Hid (WantAt w8.heap.size y6 T pre k V v9 n5 n12 p q g2) := Lib.hid (WantAt.made V9.out hh hb I5.out O12.out HE.out NV.out NO.out)
                      clear hh hb
                      refine hK.out _ _ (by (try dsimp only); exact HX.out) (fun hHeld => ?_)
                      clear hK K
                      refine wpAnyH_done (by kernel_rfl) ?_ _
                      clear hHeld
                      go_wp2_with fail
                      go_meet
                      exact ⟨v9, n5, n12, p, q, rfl, HWA.out, HX.out⟩
                    exact AllReadyH.nil
                  exact AllReadyH.nil
                refine AllReadyH.cons rfl (fun K hK => ?_) ?_
                · refine step_lits Tryz.outAt14 (d := 166) rfl (by rfl) rfl [(herP (some ⟨q, 0, none⟩) (some ⟨p, 0, none⟩) k V)] rfl (by decide) (by decide) (by intro x hx; simp at hx; subst hx; rfl) (by rfl) ?_
                  intro n12 y4 hp hh hb
                  have V9 := Lib.hid (keep hb V9.out); have HE := Lib.hid (HE.out.keep hb)
                  have O12 := Lib.hid hh
                  have NO : Hid (w8.heap.size ≤ n12) := Lib.hid (Nat.le_trans (Below.size hHeld) hp)
                  have HX := Lib.hid (bthen hHeld hb)
                  clear hp hh hb
                  refine hK.out _ _ (by (try dsimp only); exact HX.out) (fun hHeld => ?_)
                  clear hK K
                  refine wpAnyH_ready (rs := [5]) (by kernel_rfl) (by simp) ?_
                  refine AllReadyH.cons rfl (fun K hK => ?_) ?_
                  · refine step_lits Tryz.inAt14 (d := 159) rfl (by rfl) rfl [takeIn T pre (some ⟨g2, 0, none⟩)] rfl (by decide) (by decide) (by intro x hx; simp at hx; subst hx; exact PIn.len HTL.out) (by rfl) ?_
                    intro n5 y5 hp hh hb
                    have V9 := Lib.hid (keep hb V9.out); have HE := Lib.hid (HE.out.keep hb); have O12 := Lib.hid (keep hb O12.out)
                    have I5 := Lib.hid hh
                    have HX := Lib.hid (bthen hHeld hb)
                    clear hp hh hb
                    refine hK.out _ _ (by (try dsimp only); exact HX.out) (fun hHeld => ?_)
                    clear hK K
                    refine take_at (i := 13) rfl rfl (by kernel_rfl) (by kernel_rfl) (by kernel_rfl) (fun _ _ _ h => h) (yields_build10 (by rfl) rfl (vs := [(0, .slice (some ⟨n5, 0, none⟩) 1 1), (1, .slice (some ⟨n12, 0, none⟩) 1 1)]) (by rfl) (build_takeP (T := T) (pre := pre) (some ⟨n5, 0, none⟩) (some ⟨g2, 0, none⟩) (some ⟨n12, 0, none⟩) 1 1 [(herP (some ⟨q, 0, none⟩) (some ⟨p, 0, none⟩) k V)])) (by assumption) ?_
                    simp only [nrmA, nrmB, nrmC]
                    refine wpAnyH_ready (rs := [15]) (by kernel_rfl) (by simp) ?_
                    refine AllReadyH.cons rfl (fun K hK => ?_) ?_
                    · refine step_row10 (by rfl) 35 _ _ rfl v9 (takeP T pre (some ⟨n5, 0, none⟩) (some ⟨g2, 0, none⟩) (some ⟨n12, 0, none⟩) 1 1 [herP (some ⟨q, 0, none⟩) (some ⟨p, 0, none⟩) k V]).cells (by rfl) (by rfl) 35 noTx.cells V9.out (tx_size zero32_len) rfl (PTx.one _) (fun y6 hh hb => ?_)
                      have HX := Lib.hid (But.in hHeld hb NV.out)
                      have HWA : Hid (WantAt w8.heap.size y6 T pre k V v9 n5 n12 p q g2) := Lib.hid (WantAt.made V9.out hh hb I5.out O12.out HE.out NV.out NO.out)
                      clear hh hb
                      refine hK.out _ _ (by (try dsimp only); exact HX.out) (fun hHeld => ?_)
                      clear hK K
                      refine wpAnyH_done (by kernel_rfl) ?_ _
                      clear hHeld
                      go_wp2_with fail
                      go_meet
                      exact ⟨v9, n5, n12, p, q, rfl, HWA.out, HX.out⟩
                    exact AllReadyH.nil
                  exact AllReadyH.nil
                exact AllReadyH.nil
              exact AllReadyH.nil
            exact AllReadyH.nil
          refine AllReadyH.cons rfl (fun K hK => ?_) ?_
          · refine step_alloc10 (d := 19) rfl (by rfl) 35 rfl noTx.cells.toArray Tryz.zeroTx14 ?_
            intro v9 y1 hp hh hb
            have V9 := Lib.hid hh
            have NV : Hid (w8.heap.size ≤ v9) := Lib.hid (Nat.le_trans (Below.size hHeld) hp)
            have HX := Lib.hid (bthen hHeld hb)
            clear hp hh hb
            refine hK.out _ _ (by (try dsimp only); exact HX.out) (fun hHeld => ?_)
            clear hK K
            refine wpAnyH_ready (rs := [1]) (by kernel_rfl) (by simp) ?_
            refine AllReadyH.cons rfl (fun K hK => ?_) ?_
            · have HCx := Lib.hid (HSUM.out _ hHeld)
              go_simp
              go_wp2_with ((go_at_call 10; (with_reducible refine (HCx.out).mono ?_); rintro e y2 ⟨rfl, hb⟩; have V9 := Lib.hid (keep hb V9.out); have HX := Lib.hid (bthen hHeld hb); clear hb HCx))
              refine hK.out _ _ (by (try dsimp only); exact HX.out) (fun hHeld => ?_)
              clear hK K
              refine take_at (i := 2) rfl rfl (by kernel_rfl) (by kernel_rfl) (by kernel_rfl) (fun _ _ _ h => h) (yields_build10 (by rfl) rfl (vs := [(0, .agg (cellsOf T).toArray)]) (by rfl) (build_ref1_14 HTL.out)) (by assumption) ?_
              simp only [nrmA, nrmB, nrmC]
              refine take_at (i := 4) rfl rfl (by kernel_rfl) (by kernel_rfl) (by kernel_rfl) (fun _ _ _ h => h) (yields_build10 (by rfl) rfl (vs := [(0, .agg (refCells T 0).toArray), (1, .int .i64 1), (2, .slice (some ⟨g2, 0, none⟩) 32 32)]) (by rfl) (build_take15 (pre := pre) _ HTL.out)) (by assumption) ?_
              simp only [nrmA, nrmB, nrmC]
              refine wpAnyH_ready (rs := [5, 11]) (by kernel_rfl) (by simp) ?_
              refine AllReadyH.cons rfl (fun K hK => ?_) ?_
              · refine step_lits Tryz.inAt14 (d := 159) rfl (by rfl) rfl [takeIn T pre (some ⟨g2, 0, none⟩)] rfl (by decide) (by decide) (by intro x hx; simp at hx; subst hx; exact PIn.len HTL.out) (by rfl) ?_
                intro n5 y3 hp hh hb
                have V9 := Lib.hid (keep hb V9.out)
                have I5 := Lib.hid hh
                have HX := Lib.hid (bthen hHeld hb)
                clear hp hh hb
                refine hK.out _ _ (by (try dsimp only); exact HX.out) (fun hHeld => ?_)
                clear hK K
                refine wpAnyH_ready (rs := [11]) (by kernel_rfl) (by simp) ?_
                refine AllReadyH.cons rfl (fun K hK => ?_) ?_
                · have HCx := Lib.hid (fun (W : World) => to_at14 k V W)
                  go_simp
                  go_wp2_with ((go_at_call 11; (with_reducible refine (HCx.out _).mono ?_); rintro e y4 ⟨p, q, rfl, ha, hb⟩; have V9 := Lib.hid (keep hb V9.out); have I5 := Lib.hid (keep hb I5.out); have HE := Lib.hid (ha.old (Below.size hHeld)); have HX := Lib.hid (bthen hHeld hb); clear ha hb HCx))
                  refine hK.out _ _ (by (try dsimp only); exact HX.out) (fun hHeld => ?_)
                  clear hK K
                  refine wpAnyH_ready (rs := [12]) (by kernel_rfl) (by simp) ?_
                  refine AllReadyH.cons rfl (fun K hK => ?_) ?_
                  · refine step_lits Tryz.outAt14 (d := 166) rfl (by rfl) rfl [(herP (some ⟨q, 0, none⟩) (some ⟨p, 0, none⟩) k V)] rfl (by decide) (by decide) (by intro x hx; simp at hx; subst hx; rfl) (by rfl) ?_
                    intro n12 y5 hp hh hb
                    have V9 := Lib.hid (keep hb V9.out); have I5 := Lib.hid (keep hb I5.out); have HE := Lib.hid (HE.out.keep hb)
                    have O12 := Lib.hid hh
                    have NO : Hid (w8.heap.size ≤ n12) := Lib.hid (Nat.le_trans (Below.size hHeld) hp)
                    have HX := Lib.hid (bthen hHeld hb)
                    clear hp hh hb
                    refine hK.out _ _ (by (try dsimp only); exact HX.out) (fun hHeld => ?_)
                    clear hK K
                    refine take_at (i := 13) rfl rfl (by kernel_rfl) (by kernel_rfl) (by kernel_rfl) (fun _ _ _ h => h) (yields_build10 (by rfl) rfl (vs := [(0, .slice (some ⟨n5, 0, none⟩) 1 1), (1, .slice (some ⟨n12, 0, none⟩) 1 1)]) (by rfl) (build_takeP (T := T) (pre := pre) (some ⟨n5, 0, none⟩) (some ⟨g2, 0, none⟩) (some ⟨n12, 0, none⟩) 1 1 [(herP (some ⟨q, 0, none⟩) (some ⟨p, 0, none⟩) k V)])) (by assumption) ?_
                    simp only [nrmA, nrmB, nrmC]
                    refine wpAnyH_ready (rs := [15]) (by kernel_rfl) (by simp) ?_
                    refine AllReadyH.cons rfl (fun K hK => ?_) ?_
                    · refine step_row10 (by rfl) 35 _ _ rfl v9 (takeP T pre (some ⟨n5, 0, none⟩) (some ⟨g2, 0, none⟩) (some ⟨n12, 0, none⟩) 1 1 [herP (some ⟨q, 0, none⟩) (some ⟨p, 0, none⟩) k V]).cells (by rfl) (by rfl) 35 noTx.cells V9.out (tx_size zero32_len) rfl (PTx.one _) (fun y6 hh hb => ?_)
                      have HX := Lib.hid (But.in hHeld hb NV.out)
                      have HWA : Hid (WantAt w8.heap.size y6 T pre k V v9 n5 n12 p q g2) := Lib.hid (WantAt.made V9.out hh hb I5.out O12.out HE.out NV.out NO.out)
                      clear hh hb
                      refine hK.out _ _ (by (try dsimp only); exact HX.out) (fun hHeld => ?_)
                      clear hK K
                      refine wpAnyH_done (by kernel_rfl) ?_ _
                      clear hHeld
                      go_wp2_with fail
                      go_meet
                      exact ⟨v9, n5, n12, p, q, rfl, HWA.out, HX.out⟩
                    exact AllReadyH.nil
                  exact AllReadyH.nil
                exact AllReadyH.nil
              refine AllReadyH.cons rfl (fun K hK => ?_) ?_
              · have HCx := Lib.hid (fun (W : World) => to_at14 k V W)
                go_simp
                go_wp2_with ((go_at_call 11; (with_reducible refine (HCx.out _).mono ?_); rintro e y3 ⟨p, q, rfl, ha, hb⟩; have V9 := Lib.hid (keep hb V9.out); have HE := Lib.hid (ha.old (Below.size hHeld)); have HX := Lib.hid (bthen hHeld hb); clear ha hb HCx))
                refine hK.out _ _ (by (try dsimp only); exact HX.out) (fun hHeld => ?_)
                clear hK K
                refine wpAnyH_ready (rs := [5, 12]) (by kernel_rfl) (by simp) ?_
                refine AllReadyH.cons rfl (fun K hK => ?_) ?_
                · refine step_lits Tryz.inAt14 (d := 159) rfl (by rfl) rfl [takeIn T pre (some ⟨g2, 0, none⟩)] rfl (by decide) (by decide) (by intro x hx; simp at hx; subst hx; exact PIn.len HTL.out) (by rfl) ?_
                  intro n5 y4 hp hh hb
                  have V9 := Lib.hid (keep hb V9.out); have HE := Lib.hid (HE.out.keep hb)
                  have I5 := Lib.hid hh
                  have HX := Lib.hid (bthen hHeld hb)
                  clear hp hh hb
                  refine hK.out _ _ (by (try dsimp only); exact HX.out) (fun hHeld => ?_)
                  clear hK K
                  refine wpAnyH_ready (rs := [12]) (by kernel_rfl) (by simp) ?_
                  refine AllReadyH.cons rfl (fun K hK => ?_) ?_
                  · refine step_lits Tryz.outAt14 (d := 166) rfl (by rfl) rfl [(herP (some ⟨q, 0, none⟩) (some ⟨p, 0, none⟩) k V)] rfl (by decide) (by decide) (by intro x hx; simp at hx; subst hx; rfl) (by rfl) ?_
                    intro n12 y5 hp hh hb
                    have V9 := Lib.hid (keep hb V9.out); have HE := Lib.hid (HE.out.keep hb); have I5 := Lib.hid (keep hb I5.out)
                    have O12 := Lib.hid hh
                    have NO : Hid (w8.heap.size ≤ n12) := Lib.hid (Nat.le_trans (Below.size hHeld) hp)
                    have HX := Lib.hid (bthen hHeld hb)
                    clear hp hh hb
                    refine hK.out _ _ (by (try dsimp only); exact HX.out) (fun hHeld => ?_)
                    clear hK K
                    refine take_at (i := 13) rfl rfl (by kernel_rfl) (by kernel_rfl) (by kernel_rfl) (fun _ _ _ h => h) (yields_build10 (by rfl) rfl (vs := [(0, .slice (some ⟨n5, 0, none⟩) 1 1), (1, .slice (some ⟨n12, 0, none⟩) 1 1)]) (by rfl) (build_takeP (T := T) (pre := pre) (some ⟨n5, 0, none⟩) (some ⟨g2, 0, none⟩) (some ⟨n12, 0, none⟩) 1 1 [(herP (some ⟨q, 0, none⟩) (some ⟨p, 0, none⟩) k V)])) (by assumption) ?_
                    simp only [nrmA, nrmB, nrmC]
                    refine wpAnyH_ready (rs := [15]) (by kernel_rfl) (by simp) ?_
                    refine AllReadyH.cons rfl (fun K hK => ?_) ?_
                    · refine step_row10 (by rfl) 35 _ _ rfl v9 (takeP T pre (some ⟨n5, 0, none⟩) (some ⟨g2, 0, none⟩) (some ⟨n12, 0, none⟩) 1 1 [herP (some ⟨q, 0, none⟩) (some ⟨p, 0, none⟩) k V]).cells (by rfl) (by rfl) 35 noTx.cells V9.out (tx_size zero32_len) rfl (PTx.one _) (fun y6 hh hb => ?_)
                      have HX := Lib.hid (But.in hHeld hb NV.out)
                      have HWA : Hid (WantAt w8.heap.size y6 T pre k V v9 n5 n12 p q g2) := Lib.hid (WantAt.made V9.out hh hb I5.out O12.out HE.out NV.out NO.out)
                      clear hh hb
                      refine hK.out _ _ (by (try dsimp only); exact HX.out) (fun hHeld => ?_)
                      clear hK K
                      refine wpAnyH_done (by kernel_rfl) ?_ _
                      clear hHeld
                      go_wp2_with fail
                      go_meet
                      exact ⟨v9, n5, n12, p, q, rfl, HWA.out, HX.out⟩
                    exact AllReadyH.nil
                  exact AllReadyH.nil
                refine AllReadyH.cons rfl (fun K hK => ?_) ?_
                · refine step_lits Tryz.outAt14 (d := 166) rfl (by rfl) rfl [(herP (some ⟨q, 0, none⟩) (some ⟨p, 0, none⟩) k V)] rfl (by decide) (by decide) (by intro x hx; simp at hx; subst hx; rfl) (by rfl) ?_
                  intro n12 y4 hp hh hb
                  have V9 := Lib.hid (keep hb V9.out); have HE := Lib.hid (HE.out.keep hb)
                  have O12 := Lib.hid hh
                  have NO : Hid (w8.heap.size ≤ n12) := Lib.hid (Nat.le_trans (Below.size hHeld) hp)
                  have HX := Lib.hid (bthen hHeld hb)
                  clear hp hh hb
                  refine hK.out _ _ (by (try dsimp only); exact HX.out) (fun hHeld => ?_)
                  clear hK K
                  refine wpAnyH_ready (rs := [5]) (by kernel_rfl) (by simp) ?_
                  refine AllReadyH.cons rfl (fun K hK => ?_) ?_
                  · refine step_lits Tryz.inAt14 (d := 159) rfl (by rfl) rfl [takeIn T pre (some ⟨g2, 0, none⟩)] rfl (by decide) (by decide) (by intro x hx; simp at hx; subst hx; exact PIn.len HTL.out) (by rfl) ?_
                    intro n5 y5 hp hh hb
                    have V9 := Lib.hid (keep hb V9.out); have HE := Lib.hid (HE.out.keep hb); have O12 := Lib.hid (keep hb O12.out)
                    have I5 := Lib.hid hh
                    have HX := Lib.hid (bthen hHeld hb)
                    clear hp hh hb
                    refine hK.out _ _ (by (try dsimp only); exact HX.out) (fun hHeld => ?_)
                    clear hK K
                    refine take_at (i := 13) rfl rfl (by kernel_rfl) (by kernel_rfl) (by kernel_rfl) (fun _ _ _ h => h) (yields_build10 (by rfl) rfl (vs := [(0, .slice (some ⟨n5, 0, none⟩) 1 1), (1, .slice (some ⟨n12, 0, none⟩) 1 1)]) (by rfl) (build_takeP (T := T) (pre := pre) (some ⟨n5, 0, none⟩) (some ⟨g2, 0, none⟩) (some ⟨n12, 0, none⟩) 1 1 [(herP (some ⟨q, 0, none⟩) (some ⟨p, 0, none⟩) k V)])) (by assumption) ?_
                    simp only [nrmA, nrmB, nrmC]
                    refine wpAnyH_ready (rs := [15]) (by kernel_rfl) (by simp) ?_
                    refine AllReadyH.cons rfl (fun K hK => ?_) ?_
                    · refine step_row10 (by rfl) 35 _ _ rfl v9 (takeP T pre (some ⟨n5, 0, none⟩) (some ⟨g2, 0, none⟩) (some ⟨n12, 0, none⟩) 1 1 [herP (some ⟨q, 0, none⟩) (some ⟨p, 0, none⟩) k V]).cells (by rfl) (by rfl) 35 noTx.cells V9.out (tx_size zero32_len) rfl (PTx.one _) (fun y6 hh hb => ?_)
                      have HX := Lib.hid (But.in hHeld hb NV.out)
                      have HWA : Hid (WantAt w8.heap.size y6 T pre k V v9 n5 n12 p q g2) := Lib.hid (WantAt.made V9.out hh hb I5.out O12.out HE.out NV.out NO.out)
                      clear hh hb
                      refine hK.out _ _ (by (try dsimp only); exact HX.out) (fun hHeld => ?_)
                      clear hK K
                      refine wpAnyH_done (by kernel_rfl) ?_ _
                      clear hHeld
                      go_wp2_with fail
                      go_meet
                      exact ⟨v9, n5, n12, p, q, rfl, HWA.out, HX.out⟩
                    exact AllReadyH.nil
                  exact AllReadyH.nil
                exact AllReadyH.nil
              exact AllReadyH.nil
            exact AllReadyH.nil
          exact AllReadyH.nil
        case rest =>
          rename World => w9
          obtain ⟨v9, n5, n12, p, q, rfl, hwa, hb9⟩ := hcut
          have WA := Lib.hid hwa
          have HW9 := Lib.hid (bthen X8.out hb9)
          have CZ9 : Hid (w9.cell? ⟨kb, ko, none⟩ = some (.int .i64 k)) := Lib.hid ((Below.cell hb9 (p := ⟨kb, ko, none⟩) HKB.out).trans CZ.out)
          have CK9 : Hid (w9.cell? ⟨v, 0, none⟩ = some (.slice (some ⟨kb, ko, none⟩) 1 u1.c)) := Lib.hid ((Below.cell hb9 (p := ⟨v, 0, none⟩) (lt_of_block EV.out)).trans CK.out)
          clear hwa hb9
          go_upto_if 169 with (fail)
          go_cut [169] from 170 to 178 (fun _ w' => ∃ (oa : Option Addr) (n cc : Nat) (xs : List POut), WantAll wd.heap.size w' T pre v9 n5 g2 oa n cc xs (sharedP k z m R f) ∧ Below wd.heap.size wd w')
          case first =>
            by_cases hz : 0 ≤ z
            · have ez : decide (0 ≤ z) = true := decide_eq_true hz
              have ez2 : decide (z < 0) = false := decide_eq_false (by omega)
              have ez3 : ¬ z < 0 := by omega
              have HZN : Hid (¬ z = -1) := Lib.hid (by omega)
              obtain ⟨ZK, hZK⟩ : ∃ ZK, 100 + z = ZK := ⟨_, rfl⟩
              have iw : IntKind.i64.wrap (100 + z) = ZK := by rw [← hZK]; exact IntWalk.i64_in _ (by have h9 := HZ1.out; constructor <;> omega)
              have HZKF : Hid (Fits ZK) := Lib.hid (by have h9 := HZ1.out; constructor <;> omega)
              have HZKV := Lib.hid hZK
              clear hZK hz
              have HX : Hid (Bar (fun i _ => i = v9 ∨ i = n12) w9 w9.drew) := Lib.hid (Bar.of (below_drew (Below.refl _ _)))
              have WA0 := Lib.hid WA.out
              clear WA
              have WA : Hid (WantAt w8.heap.size w9.drew T pre k V v9 n5 n12 p q g2) := Lib.hid (WA0.out.keep (below_drew (Below.refl _ _)))
              go_upto_region 19 with (fail)
              refine wp_region_held_drew (S := fun w' => Bar (fun i _ => i = v9 ∨ i = n12) w9 w') (by kernel_rfl) (Bar.of (below_drew (Below.refl _ _))) (fun hHeld => ?_)
              refine take_at (i := 0) (v := ?_) rfl rfl (by kernel_rfl) (by kernel_rfl) (by kernel_rfl) (fun _ _ _ h => h) (Or.inl ⟨by rfl, ?_⟩) (by assumption) ?_
              rotate_left
              · intro w0 hSw; (try dsimp only at hSw); first | (go_simp; done) | (go_simp; with_reducible rfl)
              simp only [nrmA, nrmB, nrmC]
              refine take_at (i := 2) (v := ?_) rfl rfl (by kernel_rfl) (by kernel_rfl) (by kernel_rfl) (fun _ _ _ h => h) (Or.inl ⟨by rfl, ?_⟩) (by assumption) ?_
              rotate_left
              · intro w0 hSw; (try dsimp only at hSw); first | (go_simp; done) | (go_simp; with_reducible rfl)
              simp only [nrmA, nrmB, nrmC]
              refine take_at (i := 3) (v := ?_) rfl rfl (by kernel_rfl) (by kernel_rfl) (by kernel_rfl) (fun _ _ _ h => h) (Or.inl ⟨by rfl, ?_⟩) (by assumption) ?_
              rotate_left
              · intro w0 hSw; (try dsimp only at hSw); first | (go_simp; done) | (go_simp; with_reducible rfl)
              simp only [nrmA, nrmB, nrmC]
              refine take_at (i := 4) (v := ?_) rfl rfl (by kernel_rfl) (by kernel_rfl) (by kernel_rfl) (fun _ _ _ h => h) (Or.inl ⟨by rfl, ?_⟩) (by assumption) ?_
              rotate_left
              · intro w0 hSw; (try dsimp only at hSw); first | (go_simp; done) | (go_simp; with_reducible rfl)
              simp only [nrmA, nrmB, nrmC]
              refine wpAnyH_ready (rs := [1, 5]) (by kernel_rfl) (by simp) ?_
              refine AllReadyH.cons rfl (fun K hK => ?_) ?_
              · refine step_cell (d := 171) rfl (by rfl) 29 _ rfl v9 1 rfl (.slice (some ⟨n12, 0, none⟩) 1 1) ((range_cons (range_cons (range_of WA.out.var)).2).1) (Tryz.isAgg29 _) ?_
                have HXn := HX
                clear HX
                have HX := HXn
                clear HXn
                refine hK.out _ _ (by (try dsimp only); exact HX.out) (fun hHeld => ?_)
                clear hK K
                refine wpAnyH_ready (rs := [5]) (by kernel_rfl) (by simp) ?_
                refine AllReadyH.cons rfl (fun K hK => ?_) ?_
                · have HCx := Lib.hid (fun (W : World) => to_at14 ZK RW W)
                  go_simp
                  go_wp2_with ((go_at_call 11; (with_reducible refine (HCx.out _).mono ?_); rintro e y2 ⟨p2, q2, rfl, ha, hb⟩; have NE2 : Hid (p2 ≠ n12 ∧ q2 ≠ n12) := Lib.hid (by have h8 := ha.ks.new; have h7 := ha.ws.new; have h6 := lt_of_block WA.out.outs; exact ⟨by omega, by omega⟩); have WA := Lib.hid (WA.out.keep hb); have HE2 := Lib.hid (ha.old (show w9.heap.size ≤ _ from HX.out.size)); have HX := Lib.hid (HX.out.trans (Bar.of hb)); clear ha hb HCx))
                  refine hK.out _ _ (by (try dsimp only); exact HX.out) (fun hHeld => ?_)
                  clear hK K
                  refine wpAnyH_ready (rs := [6]) (by kernel_rfl) (by simp) ?_
                  refine AllReadyH.cons rfl (fun K hK => ?_) ?_
                  · refine step_lits Tryz.outAt14 (d := 176) rfl (by rfl) rfl [(herP (some ⟨q2, 0, none⟩) (some ⟨p2, 0, none⟩) ZK RW)] rfl (by decide) (by decide) (by intro x hx; simp at hx; subst hx; rfl) (by rfl) ?_
                    intro n6 y3 hp hh hb
                    have WA := Lib.hid (WA.out.keep hb)
                    have HE2 := Lib.hid (HE2.out.keep hb)
                    have L6 := Lib.hid hh
                    have HX := Lib.hid (HX.out.trans (Bar.of hb))
                    clear hp hh hb
                    refine hK.out _ _ (by (try dsimp only); exact HX.out) (fun hHeld => ?_)
                    clear hK K
                    refine wpAnyH_ready (rs := [7]) (by kernel_rfl) (by simp) ?_
                    refine AllReadyH.cons rfl (fun K hK => ?_) ?_
                    · refine step_append_of Tryz.outAt14 (d := 177) rfl (by rfl) _ _ rfl rfl wd.heap.size _ [(herP (some ⟨q, 0, none⟩) (some ⟨p, 0, none⟩) k V)] (by rfl) (own_lit15 (Nat.le_trans X8.out.size WA.out.newO) WA.out.outs) n6 (herP (some ⟨q2, 0, none⟩) (some ⟨p2, 0, none⟩) ZK RW) (by rfl) L6.out rfl (by simp) (by have h9 := HW9.out.size; have h8 := HX.out.size; omega) ?_
                      intro a7 c7 y4 ho hg
                      have O7 := Lib.hid ho
                      have WV := Lib.hid ((hg.block v9 (lt_of_block WA.out.var) (fun e => ne_type15 WA.out.var WA.out.outs (by decide) (Option.some.inj e))).trans WA.out.var)
                      have WI := Lib.hid ((hg.block n5 (lt_of_block WA.out.ins) (fun e => ne_type15 WA.out.ins WA.out.outs (by decide) (Option.some.inj e))).trans WA.out.ins)
                      have E1 := Lib.hid (WA.out.her.grown hg (ne_type15 WA.out.her.ks.is WA.out.outs (by decide)) (ne_type15 WA.out.her.ws.is WA.out.outs (by decide)))
                      have E3 := Lib.hid (HE2.out.grown hg NE2.out.1 NE2.out.2)
                      have HX := Lib.hid (HX.out.trans (Bar.grown hg (fun i e => .inr (Option.some.inj e).symm)))
                      clear ho hg
                      refine hK.out _ _ (by (try dsimp only); exact HX.out) (fun hHeld => ?_)
                      clear hK K
                      refine take_at (i := 8) (v := ?_) rfl rfl (by kernel_rfl) (by kernel_rfl) (by kernel_rfl) (fun _ _ _ h => h) (Or.inl ⟨by rfl, ?_⟩) (by assumption) ?_
                      rotate_left
                      · intro w0 hSw; (try dsimp only at hSw); first | (go_simp; done) | (go_simp; with_reducible rfl)
                      simp only [nrmA, nrmB, nrmC]
                      refine wpAnyH_ready (rs := [9]) (by kernel_rfl) (by simp) ?_
                      refine AllReadyH.cons rfl (fun K hK => ?_) ?_
                      · refine step_field10 (by rfl) 29 _ _ rfl v9 1 (by rfl) (.slice a7 2 c7) (by rfl) 35 (takeP T pre (some ⟨n5, 0, none⟩) (some ⟨g2, 0, none⟩) (some ⟨n12, 0, none⟩) 1 1 [(herP (some ⟨q, 0, none⟩) (some ⟨p, 0, none⟩) k V)]).cells WV.out (by simp [takeP, PTx.cells]) (by kernel_rfl) rfl (fun y5 hh hb => ?_)
                        have HX := Lib.hid (HX.out.trans (Bar.but hb (fun _ => .inl rfl)))
                        have O7 := Lib.hid (O7.out.but hb (not_typed WV.out (by decide)))
                        have o1 := (hb.block n5 (lt_of_block WI.out) (ne_type15 WI.out WV.out (by decide))).trans WI.out
                        have e1 : HerAt w8.heap.size y5 p q k := ⟨⟨E1.out.ks.new, (hb.block p (lt_of_block E1.out.ks.is) (ne_type15 E1.out.ks.is WV.out (by decide))).trans E1.out.ks.is⟩, ⟨E1.out.ws.new, (hb.block q (lt_of_block E1.out.ws.is) (ne_type15 E1.out.ws.is WV.out (by decide))).trans E1.out.ws.is⟩⟩
                        have e3 : HerAt w9.heap.size y5 p2 q2 ZK := ⟨⟨E3.out.ks.new, (hb.block p2 (lt_of_block E3.out.ks.is) (ne_type15 E3.out.ks.is WV.out (by decide))).trans E3.out.ks.is⟩, ⟨E3.out.ws.new, (hb.block q2 (lt_of_block E3.out.ws.is) (ne_type15 E3.out.ws.is WV.out (by decide))).trans E3.out.ws.is⟩⟩
                        have HWL : Hid (WantAll wd.heap.size y5 T pre v9 n5 g2 a7 2 c7 [(herP (some ⟨q, 0, none⟩) (some ⟨p, 0, none⟩) k V), (herP (some ⟨q2, 0, none⟩) (some ⟨p2, 0, none⟩) ZK RW)] (sharedP k z m R f)) := Lib.hid ⟨hh, o1, O7.out.slice (by intro x hx; simp at hx; rcases hx with rfl | rfl; exact e1.out HKF.out HVF.out; exact e3.out HZKF.out HRWF.out), by unfold sharedP; rw [if_neg HZN.out, HVV.out, HRWV.out, HZKV.out]; rfl, few_two15, Nat.le_trans X8.out.size WA.out.newV⟩
                        clear hh hb
                        refine hK.out _ _ (by (try dsimp only); exact HX.out) (fun hHeld => ?_)
                        clear hK K
                        refine wpAnyH_done (by kernel_rfl) ?_ _
                        clear hHeld
                        go_wp2_with fail
                        go_meet
                        exact ⟨_, _, _, _, HWL.out, bar_below15 HW9.out HX.out (Nat.le_trans X8.out.size WA.out.newV) (Nat.le_trans X8.out.size WA.out.newO)⟩
                      exact AllReadyH.nil
                    exact AllReadyH.nil
                  exact AllReadyH.nil
                exact AllReadyH.nil
              refine AllReadyH.cons rfl (fun K hK => ?_) ?_
              · have HCx := Lib.hid (fun (W : World) => to_at14 ZK RW W)
                go_simp
                go_wp2_with ((go_at_call 11; (with_reducible refine (HCx.out _).mono ?_); rintro e y1 ⟨p2, q2, rfl, ha, hb⟩; have NE2 : Hid (p2 ≠ n12 ∧ q2 ≠ n12) := Lib.hid (by have h8 := ha.ks.new; have h7 := ha.ws.new; have h6 := lt_of_block WA.out.outs; exact ⟨by omega, by omega⟩); have WA := Lib.hid (WA.out.keep hb); have HE2 := Lib.hid (ha.old (show w9.heap.size ≤ _ from HX.out.size)); have HX := Lib.hid (HX.out.trans (Bar.of hb)); clear ha hb HCx))
                refine hK.out _ _ (by (try dsimp only); exact HX.out) (fun hHeld => ?_)
                clear hK K
                refine wpAnyH_ready (rs := [1, 6]) (by kernel_rfl) (by simp) ?_
                refine AllReadyH.cons rfl (fun K hK => ?_) ?_
                · refine step_cell (d := 171) rfl (by rfl) 29 _ rfl v9 1 rfl (.slice (some ⟨n12, 0, none⟩) 1 1) ((range_cons (range_cons (range_of WA.out.var)).2).1) (Tryz.isAgg29 _) ?_
                  have HXn := HX
                  clear HX
                  have HX := HXn
                  clear HXn
                  refine hK.out _ _ (by (try dsimp only); exact HX.out) (fun hHeld => ?_)
                  clear hK K
                  refine wpAnyH_ready (rs := [6]) (by kernel_rfl) (by simp) ?_
                  refine AllReadyH.cons rfl (fun K hK => ?_) ?_
                  · refine step_lits Tryz.outAt14 (d := 176) rfl (by rfl) rfl [(herP (some ⟨q2, 0, none⟩) (some ⟨p2, 0, none⟩) ZK RW)] rfl (by decide) (by decide) (by intro x hx; simp at hx; subst hx; rfl) (by rfl) ?_
                    intro n6 y3 hp hh hb
                    have WA := Lib.hid (WA.out.keep hb)
                    have HE2 := Lib.hid (HE2.out.keep hb)
                    have L6 := Lib.hid hh
                    have HX := Lib.hid (HX.out.trans (Bar.of hb))
                    clear hp hh hb
                    refine hK.out _ _ (by (try dsimp only); exact HX.out) (fun hHeld => ?_)
                    clear hK K
                    refine wpAnyH_ready (rs := [7]) (by kernel_rfl) (by simp) ?_
                    refine AllReadyH.cons rfl (fun K hK => ?_) ?_
                    · refine step_append_of Tryz.outAt14 (d := 177) rfl (by rfl) _ _ rfl rfl wd.heap.size _ [(herP (some ⟨q, 0, none⟩) (some ⟨p, 0, none⟩) k V)] (by rfl) (own_lit15 (Nat.le_trans X8.out.size WA.out.newO) WA.out.outs) n6 (herP (some ⟨q2, 0, none⟩) (some ⟨p2, 0, none⟩) ZK RW) (by rfl) L6.out rfl (by simp) (by have h9 := HW9.out.size; have h8 := HX.out.size; omega) ?_
                      intro a7 c7 y4 ho hg
                      have O7 := Lib.hid ho
                      have WV := Lib.hid ((hg.block v9 (lt_of_block WA.out.var) (fun e => ne_type15 WA.out.var WA.out.outs (by decide) (Option.some.inj e))).trans WA.out.var)
                      have WI := Lib.hid ((hg.block n5 (lt_of_block WA.out.ins) (fun e => ne_type15 WA.out.ins WA.out.outs (by decide) (Option.some.inj e))).trans WA.out.ins)
                      have E1 := Lib.hid (WA.out.her.grown hg (ne_type15 WA.out.her.ks.is WA.out.outs (by decide)) (ne_type15 WA.out.her.ws.is WA.out.outs (by decide)))
                      have E3 := Lib.hid (HE2.out.grown hg NE2.out.1 NE2.out.2)
                      have HX := Lib.hid (HX.out.trans (Bar.grown hg (fun i e => .inr (Option.some.inj e).symm)))
                      clear ho hg
                      refine hK.out _ _ (by (try dsimp only); exact HX.out) (fun hHeld => ?_)
                      clear hK K
                      refine take_at (i := 8) (v := ?_) rfl rfl (by kernel_rfl) (by kernel_rfl) (by kernel_rfl) (fun _ _ _ h => h) (Or.inl ⟨by rfl, ?_⟩) (by assumption) ?_
                      rotate_left
                      · intro w0 hSw; (try dsimp only at hSw); first | (go_simp; done) | (go_simp; with_reducible rfl)
                      simp only [nrmA, nrmB, nrmC]
                      refine wpAnyH_ready (rs := [9]) (by kernel_rfl) (by simp) ?_
                      refine AllReadyH.cons rfl (fun K hK => ?_) ?_
                      · refine step_field10 (by rfl) 29 _ _ rfl v9 1 (by rfl) (.slice a7 2 c7) (by rfl) 35 (takeP T pre (some ⟨n5, 0, none⟩) (some ⟨g2, 0, none⟩) (some ⟨n12, 0, none⟩) 1 1 [(herP (some ⟨q, 0, none⟩) (some ⟨p, 0, none⟩) k V)]).cells WV.out (by simp [takeP, PTx.cells]) (by kernel_rfl) rfl (fun y5 hh hb => ?_)
                        have HX := Lib.hid (HX.out.trans (Bar.but hb (fun _ => .inl rfl)))
                        have O7 := Lib.hid (O7.out.but hb (not_typed WV.out (by decide)))
                        have o1 := (hb.block n5 (lt_of_block WI.out) (ne_type15 WI.out WV.out (by decide))).trans WI.out
                        have e1 : HerAt w8.heap.size y5 p q k := ⟨⟨E1.out.ks.new, (hb.block p (lt_of_block E1.out.ks.is) (ne_type15 E1.out.ks.is WV.out (by decide))).trans E1.out.ks.is⟩, ⟨E1.out.ws.new, (hb.block q (lt_of_block E1.out.ws.is) (ne_type15 E1.out.ws.is WV.out (by decide))).trans E1.out.ws.is⟩⟩
                        have e3 : HerAt w9.heap.size y5 p2 q2 ZK := ⟨⟨E3.out.ks.new, (hb.block p2 (lt_of_block E3.out.ks.is) (ne_type15 E3.out.ks.is WV.out (by decide))).trans E3.out.ks.is⟩, ⟨E3.out.ws.new, (hb.block q2 (lt_of_block E3.out.ws.is) (ne_type15 E3.out.ws.is WV.out (by decide))).trans E3.out.ws.is⟩⟩
                        have HWL : Hid (WantAll wd.heap.size y5 T pre v9 n5 g2 a7 2 c7 [(herP (some ⟨q, 0, none⟩) (some ⟨p, 0, none⟩) k V), (herP (some ⟨q2, 0, none⟩) (some ⟨p2, 0, none⟩) ZK RW)] (sharedP k z m R f)) := Lib.hid ⟨hh, o1, O7.out.slice (by intro x hx; simp at hx; rcases hx with rfl | rfl; exact e1.out HKF.out HVF.out; exact e3.out HZKF.out HRWF.out), by unfold sharedP; rw [if_neg HZN.out, HVV.out, HRWV.out, HZKV.out]; rfl, few_two15, Nat.le_trans X8.out.size WA.out.newV⟩
                        clear hh hb
                        refine hK.out _ _ (by (try dsimp only); exact HX.out) (fun hHeld => ?_)
                        clear hK K
                        refine wpAnyH_done (by kernel_rfl) ?_ _
                        clear hHeld
                        go_wp2_with fail
                        go_meet
                        exact ⟨_, _, _, _, HWL.out, bar_below15 HW9.out HX.out (Nat.le_trans X8.out.size WA.out.newV) (Nat.le_trans X8.out.size WA.out.newO)⟩
                      exact AllReadyH.nil
                    exact AllReadyH.nil
                  exact AllReadyH.nil
                refine AllReadyH.cons rfl (fun K hK => ?_) ?_
                · refine step_lits Tryz.outAt14 (d := 176) rfl (by rfl) rfl [(herP (some ⟨q2, 0, none⟩) (some ⟨p2, 0, none⟩) ZK RW)] rfl (by decide) (by decide) (by intro x hx; simp at hx; subst hx; rfl) (by rfl) ?_
                  intro n6 y2 hp hh hb
                  have WA := Lib.hid (WA.out.keep hb)
                  have HE2 := Lib.hid (HE2.out.keep hb)
                  have L6 := Lib.hid hh
                  have HX := Lib.hid (HX.out.trans (Bar.of hb))
                  clear hp hh hb
                  refine hK.out _ _ (by (try dsimp only); exact HX.out) (fun hHeld => ?_)
                  clear hK K
                  refine wpAnyH_ready (rs := [1]) (by kernel_rfl) (by simp) ?_
                  refine AllReadyH.cons rfl (fun K hK => ?_) ?_
                  · refine step_cell (d := 171) rfl (by rfl) 29 _ rfl v9 1 rfl (.slice (some ⟨n12, 0, none⟩) 1 1) ((range_cons (range_cons (range_of WA.out.var)).2).1) (Tryz.isAgg29 _) ?_
                    have HXn := HX
                    clear HX
                    have HX := HXn
                    clear HXn
                    refine hK.out _ _ (by (try dsimp only); exact HX.out) (fun hHeld => ?_)
                    clear hK K
                    refine wpAnyH_ready (rs := [7]) (by kernel_rfl) (by simp) ?_
                    refine AllReadyH.cons rfl (fun K hK => ?_) ?_
                    · refine step_append_of Tryz.outAt14 (d := 177) rfl (by rfl) _ _ rfl rfl wd.heap.size _ [(herP (some ⟨q, 0, none⟩) (some ⟨p, 0, none⟩) k V)] (by rfl) (own_lit15 (Nat.le_trans X8.out.size WA.out.newO) WA.out.outs) n6 (herP (some ⟨q2, 0, none⟩) (some ⟨p2, 0, none⟩) ZK RW) (by rfl) L6.out rfl (by simp) (by have h9 := HW9.out.size; have h8 := HX.out.size; omega) ?_
                      intro a7 c7 y4 ho hg
                      have O7 := Lib.hid ho
                      have WV := Lib.hid ((hg.block v9 (lt_of_block WA.out.var) (fun e => ne_type15 WA.out.var WA.out.outs (by decide) (Option.some.inj e))).trans WA.out.var)
                      have WI := Lib.hid ((hg.block n5 (lt_of_block WA.out.ins) (fun e => ne_type15 WA.out.ins WA.out.outs (by decide) (Option.some.inj e))).trans WA.out.ins)
                      have E1 := Lib.hid (WA.out.her.grown hg (ne_type15 WA.out.her.ks.is WA.out.outs (by decide)) (ne_type15 WA.out.her.ws.is WA.out.outs (by decide)))
                      have E3 := Lib.hid (HE2.out.grown hg NE2.out.1 NE2.out.2)
                      have HX := Lib.hid (HX.out.trans (Bar.grown hg (fun i e => .inr (Option.some.inj e).symm)))
                      clear ho hg
                      refine hK.out _ _ (by (try dsimp only); exact HX.out) (fun hHeld => ?_)
                      clear hK K
                      refine take_at (i := 8) (v := ?_) rfl rfl (by kernel_rfl) (by kernel_rfl) (by kernel_rfl) (fun _ _ _ h => h) (Or.inl ⟨by rfl, ?_⟩) (by assumption) ?_
                      rotate_left
                      · intro w0 hSw; (try dsimp only at hSw); first | (go_simp; done) | (go_simp; with_reducible rfl)
                      simp only [nrmA, nrmB, nrmC]
                      refine wpAnyH_ready (rs := [9]) (by kernel_rfl) (by simp) ?_
                      refine AllReadyH.cons rfl (fun K hK => ?_) ?_
                      · refine step_field10 (by rfl) 29 _ _ rfl v9 1 (by rfl) (.slice a7 2 c7) (by rfl) 35 (takeP T pre (some ⟨n5, 0, none⟩) (some ⟨g2, 0, none⟩) (some ⟨n12, 0, none⟩) 1 1 [(herP (some ⟨q, 0, none⟩) (some ⟨p, 0, none⟩) k V)]).cells WV.out (by simp [takeP, PTx.cells]) (by kernel_rfl) rfl (fun y5 hh hb => ?_)
                        have HX := Lib.hid (HX.out.trans (Bar.but hb (fun _ => .inl rfl)))
                        have O7 := Lib.hid (O7.out.but hb (not_typed WV.out (by decide)))
                        have o1 := (hb.block n5 (lt_of_block WI.out) (ne_type15 WI.out WV.out (by decide))).trans WI.out
                        have e1 : HerAt w8.heap.size y5 p q k := ⟨⟨E1.out.ks.new, (hb.block p (lt_of_block E1.out.ks.is) (ne_type15 E1.out.ks.is WV.out (by decide))).trans E1.out.ks.is⟩, ⟨E1.out.ws.new, (hb.block q (lt_of_block E1.out.ws.is) (ne_type15 E1.out.ws.is WV.out (by decide))).trans E1.out.ws.is⟩⟩
                        have e3 : HerAt w9.heap.size y5 p2 q2 ZK := ⟨⟨E3.out.ks.new, (hb.block p2 (lt_of_block E3.out.ks.is) (ne_type15 E3.out.ks.is WV.out (by decide))).trans E3.out.ks.is⟩, ⟨E3.out.ws.new, (hb.block q2 (lt_of_block E3.out.ws.is) (ne_type15 E3.out.ws.is WV.out (by decide))).trans E3.out.ws.is⟩⟩
                        have HWL : Hid (WantAll wd.heap.size y5 T pre v9 n5 g2 a7 2 c7 [(herP (some ⟨q, 0, none⟩) (some ⟨p, 0, none⟩) k V), (herP (some ⟨q2, 0, none⟩) (some ⟨p2, 0, none⟩) ZK RW)] (sharedP k z m R f)) := Lib.hid ⟨hh, o1, O7.out.slice (by intro x hx; simp at hx; rcases hx with rfl | rfl; exact e1.out HKF.out HVF.out; exact e3.out HZKF.out HRWF.out), by unfold sharedP; rw [if_neg HZN.out, HVV.out, HRWV.out, HZKV.out]; rfl, few_two15, Nat.le_trans X8.out.size WA.out.newV⟩
                        clear hh hb
                        refine hK.out _ _ (by (try dsimp only); exact HX.out) (fun hHeld => ?_)
                        clear hK K
                        refine wpAnyH_done (by kernel_rfl) ?_ _
                        clear hHeld
                        go_wp2_with fail
                        go_meet
                        exact ⟨_, _, _, _, HWL.out, bar_below15 HW9.out HX.out (Nat.le_trans X8.out.size WA.out.newV) (Nat.le_trans X8.out.size WA.out.newO)⟩
                      exact AllReadyH.nil
                    exact AllReadyH.nil
                  exact AllReadyH.nil
                exact AllReadyH.nil
              exact AllReadyH.nil
            · have ez : decide (0 ≤ z) = false := decide_eq_false hz
              have ez2 : decide (z < 0) = true := decide_eq_true (by omega)
              have ez3 : z < 0 := by omega
              go_wp2_with fail
              go_meet
              exact ⟨_, _, _, _, (WA.out.alone HKF.out HVF.out (by have h9 := HZ0.out; omega) HVV.out).base X8.out.size, HW9.out⟩
          case rest =>
            rename World => w10
            obtain ⟨oa, n, cc, xs, hwl, hb10⟩ := hcut
            have WL := Lib.hid hwl
            have HW10 := Lib.hid hb10
            have GV := Lib.hid (keep hb10 DV.out)
            have CK2 : Hid (w10.cell? ⟨v, 0, none⟩ = some (.slice (some ⟨kb, ko, none⟩) 1 u1.c)) := Lib.hid ((Below.cell hb10 (p := ⟨v, 0, none⟩) (lt_of_block DV.out)).trans CKD.out)
            have CZ2 : Hid (w10.cell? ⟨kb, ko, none⟩ = some (.int .i64 k)) := Lib.hid ((Below.cell hb10 (p := ⟨kb, ko, none⟩) HKBD.out).trans CZD.out)
            have HKB2 := Lib.hid (Nat.lt_of_lt_of_le HKBD.out hb10.size)
            have HKN2 : Hid (kb ≠ v9) := Lib.hid (by have h9 := HKBD.out; have h8 := hwl.newV; omega)
            have HSG : Hid (∀ (W : World) (n6 : Nat), Below w10.heap.size w10 W → W.heap[n6]? = some (.cells #[.int .i64 k] 3 (0, 0)) → Calls Tryz.prog 12 #[.agg (takeP T pre (some ⟨n5, 0, none⟩) (some ⟨g2, 0, none⟩) oa n cc xs).cells.toArray, .slice (some ⟨n6, 0, none⟩) 1 1] W fun e w' => ∃ y : PTx, e = .returned (.agg y.cells.toArray) ∧ TxIn w' y ∧ y.strip = (signedP (takeP T pre (some ⟨n5, 0, none⟩) (some ⟨g2, 0, none⟩) oa n cc xs) k (txSum (takeP T pre (some ⟨n5, 0, none⟩) (some ⟨g2, 0, none⟩) oa n cc xs))).strip ∧ NewTx W.heap.size y ∧ Below W.heap.size W w') := Lib.hid fun W n6 hW h6 => by
              have hin := take_in15 HTL.out HPL.out (keep hW WL.out.ins) (keep (bthen HW10.out hW) D3.out) (WL.out.outs.below hW)
              exact txSigned_any hin (take_few15 WL.out.few (.inr WL.out.few.lo)) (take_front15 hin WL.out.few) (DK.out.below (bthen HW10.out hW)) (numbers_one h6 HKF.out) HKF.out
            clear hwl hb10
            go_upto_region 20 with (fail)
            have WLV : Hid (w10.drew.heap[v9]? = _) := Lib.hid WL.out.var
            have HBX : Hid (Below w10.heap.size w10 w10.drew) := Lib.hid (below_drew (Below.refl _ _))
            have HX : Hid (But w10.heap.size v9 w10 w10.drew) := Lib.hid (But.drew (But.refl _ _ _))
            refine wp_region_held_drew (S := fun w' => But w10.heap.size v9 w10 w') (by kernel_rfl) (But.drew (But.refl _ _ _)) (fun hHeld => ?_)
            refine take_at (i := 1) (v := ?_) rfl rfl (by kernel_rfl) (by kernel_rfl) (by kernel_rfl) (fun _ _ _ h => h) (Or.inl ⟨by rfl, ?_⟩) (by assumption) ?_
            rotate_left
            · intro w0 hSw; (try dsimp only at hSw); first | (go_simp; done) | (go_simp; with_reducible rfl)
            simp only [nrmA, nrmB, nrmC]
            refine take_at (i := 2) rfl rfl (by kernel_rfl) (by kernel_rfl) (by kernel_rfl) (fun _ _ _ h => h) (yields_cell (b := v) (o := 0) (by rfl) rfl rfl (fun w0 hSw => But.cell_at15 hSw (lt_of_block GV.out) (ne_type15 GV.out WL.out.var (by decide)) CK2.out) (fun w0 => Tryz.isAgg47 w0)) (by assumption) ?_
            simp only [nrmA, nrmB, nrmC]
            refine take_at (i := 3) (v := ?_) rfl rfl (by kernel_rfl) (by kernel_rfl) (by kernel_rfl) (fun _ _ _ h => h) (Or.inl ⟨by rfl, ?_⟩) (by assumption) ?_
            rotate_left
            · intro w0 hSw; (try dsimp only at hSw); first | (go_simp; done) | (go_simp; with_reducible rfl)
            simp only [nrmA, nrmB, nrmC]
            refine take_at (i := 4) rfl rfl (by kernel_rfl) (by kernel_rfl) (by kernel_rfl) (fun _ _ _ h => h) (yields_cell (b := kb) (o := ko) (by rfl) rfl rfl (fun w0 hSw => But.cell_at15 hSw HKB2.out HKN2.out CZ2.out) (fun w0 => Tryz.isAgg3 w0)) (by assumption) ?_
            simp only [nrmA, nrmB, nrmC]
            refine wpAnyH_ready (rs := [0, 5]) (by kernel_rfl) (by simp) ?_
            refine AllReadyH.cons rfl (fun K hK => ?_) ?_
            · refine step_load15 (d := 179) rfl (by rfl) 35 _ rfl v9 0 rfl (takeP T pre (some ⟨n5, 0, none⟩) (some ⟨g2, 0, none⟩) oa n cc xs).cells _ (range_of WLV.out) Tryz.underlying35 rfl (tx_size zero32_len) ?_
              refine hK.out _ _ (by (try dsimp only); exact HX.out) (fun hHeld => ?_)
              clear hK K
              refine wpAnyH_ready (rs := [5]) (by kernel_rfl) (by simp) ?_
              refine AllReadyH.cons rfl (fun K hK => ?_) ?_
              · refine step_int14 (d := 184) (y := k) rfl (by rfl) rfl (by rfl) ?_
                intro n6 y2 hp hh hb
                have L5 := Lib.hid hh
                have WLV := Lib.hid (keep hb WLV.out)
                have HBX := Lib.hid (bthen HBX.out hb)
                have HX := Lib.hid (HX.out.trans (But.of hb |>.mono HX.out.size))
                clear hp hh hb
                refine hK.out _ _ (by (try dsimp only); exact HX.out) (fun hHeld => ?_)
                clear hK K
                refine wpAnyH_ready (rs := [6]) (by kernel_rfl) (by simp) ?_
                refine AllReadyH.cons rfl (fun K hK => ?_) ?_
                · have HCx := Lib.hid (HSG.out _ n6 HBX.out L5.out)
                  go_simp
                  go_wp2_with ((go_at_call 12; (with_reducible refine (HCx.out).mono ?_); rintro e y3 ⟨y2, rfl, hy, hst2, hnew, hb⟩; have HY2 := Lib.hid hy; have HSY2 := Lib.hid hst2; have HNW := Lib.hid hnew; have LV9 := Lib.hid (lt_of_block WLV.out); have WLV := Lib.hid (keep hb WLV.out); have HBX := Lib.hid (bthen HBX.out hb); have HX := Lib.hid (HX.out.trans (But.of hb |>.mono HX.out.size)); have SZY2 := Lib.hid (tx_size hy.op.root); have ZY2 : Hid ((takeP T pre (some ⟨n5, 0, none⟩) (some ⟨g2, 0, none⟩) oa n cc xs).cells.length = y2.cells.length) := Lib.hid (by rw [PTx.len hy.op.root]; rfl); clear hy hst2 hnew hb HCx))
                  refine hK.out _ _ (by (try dsimp only); exact HX.out) (fun hHeld => ?_)
                  clear hK K
                  refine wpAnyH_ready (rs := [7]) (by kernel_rfl) (by simp) ?_
                  refine AllReadyH.cons rfl (fun K hK => ?_) ?_
                  · refine step_row10 (by rfl) 35 _ _ rfl v9 y2.cells (by rfl) (by rfl) 35 (takeP T pre (some ⟨n5, 0, none⟩) (some ⟨g2, 0, none⟩) oa n cc xs).cells WLV.out SZY2.out ZY2.out (PTx.one _) (fun y4 hh hb => ?_)
                    have W2 := Lib.hid hh
                    have HY3 := Lib.hid (HY2.out.older HNW.out LV9.out hb)
                    have HX := Lib.hid (HX.out.trans (hb.mono HX.out.size))
                    clear hh hb
                    refine hK.out _ _ (by (try dsimp only); exact HX.out) (fun hHeld => ?_)
                    clear hK K
                    refine wpAnyH_done (by kernel_rfl) ?_ _
                    clear hHeld
                    have Z := Lib.hid (But.in HW10.out HX.out WL.out.newV)
                    revert Z W2 HY3
                    generalize y4 = wz
                    intro W2 HY3 Z
                    have RJ := Lib.hid (range_of (keep Z.out DJ.out))
                    have RW2 := Lib.hid (range_of W2.out)
                    have HYZ := Lib.hid (DY.out.below Z.out)
                    have hfa := taken_facts15 (u := u1) HYZ.out HSYT.out HPL.out HP.out.z0 HP.out.z1 HZ0.out HZ1.out HSHR.out HP.out.ks HP.out.after HP.out.wait HH.out
                    have hst4 : y2.strip = y.strip := by rw [HSY2.out, HSYT.out, txSum_alike15 (takeP_strip (T := T) (pre := pre) (ia := some ⟨n5, 0, none⟩) (pa := some ⟨g2, 0, none⟩) (oa := oa) (n := n) (c := cc) WL.out.like)]; exact signedP_strip (takeP_strip WL.out.like)
                    have hok2 : txOk y2 = true := by rw [← txOk_strip HY3.out.lens, hst4, txOk_strip HYZ.out.lens]; exact hfa.1
                    have hsame := txSame_any HYZ.out HY3.out
                    rw [hfa.1, hok2, same_taken15 hst4, decide_eq_true rfl] at hsame
                    have HSME := Lib.hid (show Calls Tryz.prog 13 #[.agg y.cells.toArray, .agg y2.cells.toArray] wz fun e w' => e = .returned (.bool true) ∧ Below wz.heap.size wz w' from hsame)
                    have HCK : Hid (∀ W : World, Below wd.heap.size wd W → Calls Tryz.prog 14 #[.agg c.cells.toArray, .agg t.cells.toArray, .agg y.cells.toArray] W fun e w' => e = .returned (.int .i64 0) ∧ Below W.heap.size W w') := Lib.hid fun W hW => by
                      have h9 := check_at HC.out (DT.out.below hW) (DY.out.below hW) (DK.out.below hW) HFT.out (DP.out.below hW) HON.out
                      rw [HTV.out, hfa.2] at h9
                      exact h9
                    clear hfa hst4 hok2 hsame
                    go_wp2_with (first | (refine wpList_mid_wanted (by rfl) 35 _ rfl vj 0 rfl y.cells _ RJ.out Tryz.underlying35 rfl SZY.out ?_) | (refine wpList_mid_wanted (by rfl) 35 _ rfl v9 0 rfl y2.cells _ RW2.out Tryz.underlying35 rfl SZY2.out ?_) | (go_at_call 13; (with_reducible refine (HSME.out).mono ?_); rintro e w12 ⟨rfl, hb⟩; have Z2 := Lib.hid (bthen Z.out hb); have Q1 := Lib.hid (range_of (keep Z2.out D1.out)); have Q2 := Lib.hid (range_of (keep Z2.out D2.out)); have QJ := Lib.hid (range_of (keep Z2.out DJ.out)); clear hb) | (refine wpList_mid_wanted (by rfl) 27 _ rfl g 0 rfl c.cells _ Q1.out Tryz.underlying27 rfl SZCl.out ?_) | (refine wpList_mid_wanted (by rfl) 35 _ rfl g1 0 rfl t.cells _ Q2.out Tryz.underlying35 rfl SZTl.out ?_) | (refine wpList_mid_wanted (by rfl) 35 _ rfl vj 0 rfl y.cells _ QJ.out Tryz.underlying35 rfl SZY.out ?_) | (go_at_call 14; (with_reducible refine (HCK.out _ Z2.out).mono ?_); rintro e w13 ⟨rfl, hb⟩; have Z3 := Lib.hid (bthen Z2.out hb); clear hb) | (go_at_call 5; (with_reducible refine (HAW.out _).mono ?_); rintro e w99 ⟨rfl, hb⟩; have XF := Lib.hid (bthen Z3.out hb); clear hb) | fail)
                    go_ret
                    exact ⟨rfl, bthen HBD0.out XF.out⟩
                  exact AllReadyH.nil
                exact AllReadyH.nil
              exact AllReadyH.nil
            refine AllReadyH.cons rfl (fun K hK => ?_) ?_
            · refine step_int14 (d := 184) (y := k) rfl (by rfl) rfl (by rfl) ?_
              intro n6 y1 hp hh hb
              have L5 := Lib.hid hh
              have WLV := Lib.hid (keep hb WLV.out)
              have HBX := Lib.hid (bthen HBX.out hb)
              have HX := Lib.hid (HX.out.trans (But.of hb |>.mono HX.out.size))
              clear hp hh hb
              refine hK.out _ _ (by (try dsimp only); exact HX.out) (fun hHeld => ?_)
              clear hK K
              refine wpAnyH_ready (rs := [0]) (by kernel_rfl) (by simp) ?_
              refine AllReadyH.cons rfl (fun K hK => ?_) ?_
              · refine step_load15 (d := 179) rfl (by rfl) 35 _ rfl v9 0 rfl (takeP T pre (some ⟨n5, 0, none⟩) (some ⟨g2, 0, none⟩) oa n cc xs).cells _ (range_of WLV.out) Tryz.underlying35 rfl (tx_size zero32_len) ?_
                refine hK.out _ _ (by (try dsimp only); exact HX.out) (fun hHeld => ?_)
                clear hK K
                refine wpAnyH_ready (rs := [6]) (by kernel_rfl) (by simp) ?_
                refine AllReadyH.cons rfl (fun K hK => ?_) ?_
                · have HCx := Lib.hid (HSG.out _ n6 HBX.out L5.out)
                  go_simp
                  go_wp2_with ((go_at_call 12; (with_reducible refine (HCx.out).mono ?_); rintro e y3 ⟨y2, rfl, hy, hst2, hnew, hb⟩; have HY2 := Lib.hid hy; have HSY2 := Lib.hid hst2; have HNW := Lib.hid hnew; have LV9 := Lib.hid (lt_of_block WLV.out); have WLV := Lib.hid (keep hb WLV.out); have HBX := Lib.hid (bthen HBX.out hb); have HX := Lib.hid (HX.out.trans (But.of hb |>.mono HX.out.size)); have SZY2 := Lib.hid (tx_size hy.op.root); have ZY2 : Hid ((takeP T pre (some ⟨n5, 0, none⟩) (some ⟨g2, 0, none⟩) oa n cc xs).cells.length = y2.cells.length) := Lib.hid (by rw [PTx.len hy.op.root]; rfl); clear hy hst2 hnew hb HCx))
                  refine hK.out _ _ (by (try dsimp only); exact HX.out) (fun hHeld => ?_)
                  clear hK K
                  refine wpAnyH_ready (rs := [7]) (by kernel_rfl) (by simp) ?_
                  refine AllReadyH.cons rfl (fun K hK => ?_) ?_
                  · refine step_row10 (by rfl) 35 _ _ rfl v9 y2.cells (by rfl) (by rfl) 35 (takeP T pre (some ⟨n5, 0, none⟩) (some ⟨g2, 0, none⟩) oa n cc xs).cells WLV.out SZY2.out ZY2.out (PTx.one _) (fun y4 hh hb => ?_)
                    have W2 := Lib.hid hh
                    have HY3 := Lib.hid (HY2.out.older HNW.out LV9.out hb)
                    have HX := Lib.hid (HX.out.trans (hb.mono HX.out.size))
                    clear hh hb
                    refine hK.out _ _ (by (try dsimp only); exact HX.out) (fun hHeld => ?_)
                    clear hK K
                    refine wpAnyH_done (by kernel_rfl) ?_ _
                    clear hHeld
                    have Z := Lib.hid (But.in HW10.out HX.out WL.out.newV)
                    revert Z W2 HY3
                    generalize y4 = wz
                    intro W2 HY3 Z
                    have RJ := Lib.hid (range_of (keep Z.out DJ.out))
                    have RW2 := Lib.hid (range_of W2.out)
                    have HYZ := Lib.hid (DY.out.below Z.out)
                    have hfa := taken_facts15 (u := u1) HYZ.out HSYT.out HPL.out HP.out.z0 HP.out.z1 HZ0.out HZ1.out HSHR.out HP.out.ks HP.out.after HP.out.wait HH.out
                    have hst4 : y2.strip = y.strip := by rw [HSY2.out, HSYT.out, txSum_alike15 (takeP_strip (T := T) (pre := pre) (ia := some ⟨n5, 0, none⟩) (pa := some ⟨g2, 0, none⟩) (oa := oa) (n := n) (c := cc) WL.out.like)]; exact signedP_strip (takeP_strip WL.out.like)
                    have hok2 : txOk y2 = true := by rw [← txOk_strip HY3.out.lens, hst4, txOk_strip HYZ.out.lens]; exact hfa.1
                    have hsame := txSame_any HYZ.out HY3.out
                    rw [hfa.1, hok2, same_taken15 hst4, decide_eq_true rfl] at hsame
                    have HSME := Lib.hid (show Calls Tryz.prog 13 #[.agg y.cells.toArray, .agg y2.cells.toArray] wz fun e w' => e = .returned (.bool true) ∧ Below wz.heap.size wz w' from hsame)
                    have HCK : Hid (∀ W : World, Below wd.heap.size wd W → Calls Tryz.prog 14 #[.agg c.cells.toArray, .agg t.cells.toArray, .agg y.cells.toArray] W fun e w' => e = .returned (.int .i64 0) ∧ Below W.heap.size W w') := Lib.hid fun W hW => by
                      have h9 := check_at HC.out (DT.out.below hW) (DY.out.below hW) (DK.out.below hW) HFT.out (DP.out.below hW) HON.out
                      rw [HTV.out, hfa.2] at h9
                      exact h9
                    clear hfa hst4 hok2 hsame
                    go_wp2_with (first | (refine wpList_mid_wanted (by rfl) 35 _ rfl vj 0 rfl y.cells _ RJ.out Tryz.underlying35 rfl SZY.out ?_) | (refine wpList_mid_wanted (by rfl) 35 _ rfl v9 0 rfl y2.cells _ RW2.out Tryz.underlying35 rfl SZY2.out ?_) | (go_at_call 13; (with_reducible refine (HSME.out).mono ?_); rintro e w12 ⟨rfl, hb⟩; have Z2 := Lib.hid (bthen Z.out hb); have Q1 := Lib.hid (range_of (keep Z2.out D1.out)); have Q2 := Lib.hid (range_of (keep Z2.out D2.out)); have QJ := Lib.hid (range_of (keep Z2.out DJ.out)); clear hb) | (refine wpList_mid_wanted (by rfl) 27 _ rfl g 0 rfl c.cells _ Q1.out Tryz.underlying27 rfl SZCl.out ?_) | (refine wpList_mid_wanted (by rfl) 35 _ rfl g1 0 rfl t.cells _ Q2.out Tryz.underlying35 rfl SZTl.out ?_) | (refine wpList_mid_wanted (by rfl) 35 _ rfl vj 0 rfl y.cells _ QJ.out Tryz.underlying35 rfl SZY.out ?_) | (go_at_call 14; (with_reducible refine (HCK.out _ Z2.out).mono ?_); rintro e w13 ⟨rfl, hb⟩; have Z3 := Lib.hid (bthen Z2.out hb); clear hb) | (go_at_call 5; (with_reducible refine (HAW.out _).mono ?_); rintro e w99 ⟨rfl, hb⟩; have XF := Lib.hid (bthen Z3.out hb); clear hb) | fail)
                    go_ret
                    exact ⟨rfl, bthen HBD0.out XF.out⟩
                  exact AllReadyH.nil
                exact AllReadyH.nil
              exact AllReadyH.nil
            exact AllReadyH.nil
      exact AllReadyH.nil
  exact AllReadyH.nil
end Go.Proofs.YtnjnomebcggccaaGreatDoor
