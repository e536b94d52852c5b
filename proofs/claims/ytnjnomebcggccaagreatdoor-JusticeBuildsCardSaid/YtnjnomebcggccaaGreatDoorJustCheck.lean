/- What the code's Check of package justice comes to. -/
import Derived.Test.YtnjnomebcggccaaGreatDoorTake15
import Derived.Test.YtnjnomebcggccaaGreatDoorTogether
import Derived.Test.YtnjnomebcggccaaGreatDoorComRef
import Derived.Deep.CutRange
namespace Go.Proofs.YtnjnomebcggccaaGreatDoor
open Go.RowKit

theorem build_try15 (a b : Option Addr) (n c m d : Nat) (w : World) : (Instr.build 97 ([(0, (.slice a n c : Value)), (1, .slice b m d)] : List (Nat × Value)).toArray).run Tryz.prog w = .ok (.agg #[.slice a n c, .slice b m d, .int .i64 0, .int .i64 0]) w := by kernel_rfl
/-- Three arguments, boxed. -/
theorem three_boxes15 (w : World) (a b c : Array Value) (A B C : TypeId) : ∃ w1 g1 g2, w1 = ((w.alloc (.cells a A)).alloc (.cells b B)).alloc (.cells c C) ∧ g1 = w.heap.size + 1 ∧ g2 = w.heap.size + 1 + 1 ∧ Below w.heap.size w w1 ∧ w1.heap[w.heap.size]? = some (.cells a A (0, 0)) ∧ w1.heap[g1]? = some (.cells b B (0, 0)) ∧ w1.heap[g2]? = some (.cells c C (0, 0)) := by
  refine ⟨_, _, _, rfl, rfl, rfl, ?_, ?_, ?_, ?_⟩
  · exact (((Below.refl _ _).alloc (Nat.le_refl _) _).alloc (by simp) _).alloc (by simp; omega) _
  · rw [heap_alloc_old _ _ (by simp; omega), heap_alloc_old _ _ (by simp), heap_alloc_new]
  · rw [heap_alloc_old _ _ (by simp), heap_alloc_at _ _ _ (by simp)]
  · exact heap_alloc_at _ _ _ (by simp)
set_option linter.unusedSimpArgs false in
set_option maxRecDepth 100000 in
set_option maxHeartbeats 6400000 in
theorem check_none {w : World} {c : PChan} {t j : PTx} (hc : ChanIn c) (ht : TxIn w t) (hO : ownerP c t = -1) :
    Calls Tryz.prog 14 #[.agg c.cells.toArray, .agg t.cells.toArray, .agg j.cells.toArray] w fun e w' => e = .returned (.int .i64 1) ∧ Below w.heap.size w w' := by
  have HOW : Hid (∀ W : World, Below w.heap.size w W → Calls Tryz.prog 7 #[.agg c.cells.toArray, .agg t.cells.toArray] W fun e w' => e = .returned (.int .i64 (-1)) ∧ Below W.heap.size W w') := Lib.hid fun W hW => by rw [← hO]; exact owner_any hc (ht.below hW)
  have SZC := Lib.hid (chan_sizeA hc.ftx)
  have SZT := Lib.hid (tx_sizeA ht.op.root)
  clear hc ht hO
  go_enter Tryz.func14, Tryz.ntmps14
  go_upto_region 1 with (fail)
  obtain ⟨w1, g1, g2, hw1, hg1, hg2, hb1, h1, h2, h3⟩ := three_boxes15 w c.cells.toArray t.cells.toArray j.cells.toArray 27 35 35
  rw [← hw1, ← hg2, ← hg1]
  obtain ⟨g, hg⟩ : ∃ g, g = w.heap.size := ⟨_, rfl⟩
  rw [← hg] at h1 ⊢
  have HB1 := Lib.hid hb1
  have H1 := Lib.hid h1
  have H2 := Lib.hid h2
  have H3 := Lib.hid h3
  clear hw1 hg1 hg2 hb1 h1 h2 h3 hg
  go_wp2_with (first | (refine wpList_load_row rfl 27 _ rfl g rfl 27 c.cells.toArray (0, 0) _ H1.out Tryz.underlying27 rfl SZC.out ?_) | (refine wpList_load_row rfl 35 _ rfl g1 rfl 35 t.cells.toArray (0, 0) _ H2.out Tryz.underlying35 rfl SZT.out ?_) | (go_at_call 7; (with_reducible refine (HOW.out _ HB1.out).mono ?_); rintro e w2 ⟨rfl, hb⟩; have HB2 := Lib.hid (bthen HB1.out hb); have H22 := Lib.hid (keep hb H2.out); have H32 := Lib.hid (keep hb H3.out); have R32 := Lib.hid (range_of (keep hb H3.out)); clear hb) | fail)
  go_ret
  exact ⟨rfl, HB2.out⟩
set_option linter.unusedSimpArgs false in
set_option maxRecDepth 100000 in
set_option maxHeartbeats 6400000 in
theorem check_at {w : World} {c : PChan} {t j : PTx} {m z : Int} {b o b2 o2 wk : Nat} {u0 u1 : PWay} {x1 : POut} (hc : ChanIn c) (ht : TxIn w t) (hj : TxIn w j) (hk : KsAt w) (hf : FrontFew false t) (hp : PartAt w t m z b o b2 o2 wk u0 u1 x1) (hO : ownerP c t ≠ -1) :
    Calls Tryz.prog 14 #[.agg c.cells.toArray, .agg t.cells.toArray, .agg j.cells.toArray] w fun e w' => e = .returned (.int .i64 (checkR m u1 (txSum t) j)) ∧ Below w.heap.size w w' := by
  obtain ⟨O, hOv⟩ : ∃ O, ownerP c t = O := ⟨_, rfl⟩
  rw [hOv] at hO
  have eO : (O == -1) = false := by simp [hO]
  have HOW : Hid (∀ W : World, Below w.heap.size w W → Calls Tryz.prog 7 #[.agg c.cells.toArray, .agg t.cells.toArray] W fun e w' => e = .returned (.int .i64 O) ∧ Below W.heap.size W w') := Lib.hid fun W hW => by rw [← hOv]; exact owner_any hc (ht.below hW)
  obtain ⟨T, hT, hTl⟩ : ∃ T, txSum t = T ∧ T.length = 32 := ⟨_, rfl, txSum_len _⟩
  have HREF : Hid (∀ W : World, Below w.heap.size w W → Calls Tryz.prog 17 #[.agg t.cells.toArray] W fun e w' => e = .returned (.agg (refCells T 0).toArray) ∧ Below W.heap.size W w') := Lib.hid fun W hW => by rw [← hT]; exact ref14_any (ht.below hW) (hk.below hW) hf
  rw [hT]
  obtain ⟨K, hK⟩ : ∃ K, txOk j = K := ⟨_, rfl⟩
  have HTR : Hid (∀ W : World, Below w.heap.size w W → Calls Tryz.prog 38 #[.agg j.cells.toArray] W fun e w' => e = .returned (.bool K) ∧ Below W.heap.size W w') := Lib.hid fun W hW => by rw [← hK]; exact txRight_any (hj.below hW)
  have HKV := Lib.hid hK
  have HP := Lib.hid hp
  have HT := Lib.hid ht
  have HJ := Lib.hid hj
  have HK := Lib.hid hk
  have HTL := Lib.hid hTl
  have SZC := Lib.hid (chan_sizeA hc.ftx)
  have SZT := Lib.hid (tx_sizeA ht.op.root)
  have SZTl := Lib.hid (tx_size ht.op.root)
  have SZJ := Lib.hid (tx_size hj.op.root)
  have j63 := hj.ins.len63
  have SZR : Hid ((Tryz.prog.info? 25).map (·.size) = some (refCells T 0).length) := Lib.hid (refSize hTl)
  clear hOv hT hK hp ht hj hk hc hf hTl hO
  go_enter Tryz.func14, Tryz.ntmps14
  go_upto_region 1 with (fail)
  obtain ⟨w1, g1, g2, hw1, hg1, hg2, hb1, h1, h2, h3⟩ := three_boxes15 w c.cells.toArray t.cells.toArray j.cells.toArray 27 35 35
  rw [← hw1, ← hg2, ← hg1]
  obtain ⟨g, hg⟩ : ∃ g, g = w.heap.size := ⟨_, rfl⟩
  rw [← hg] at h1 ⊢
  have HB1 := Lib.hid hb1
  have H1 := Lib.hid h1
  have H2 := Lib.hid h2
  have H3 := Lib.hid h3
  clear hw1 hg1 hg2 hb1 h1 h2 h3 hg
  cases K
  · have HR1 : Hid (checkR m u1 T j = 1) := Lib.hid (checkR_right HKV.out)
    go_wp2_with (first | (refine wpList_load_row rfl 27 _ rfl g rfl 27 c.cells.toArray (0, 0) _ H1.out Tryz.underlying27 rfl SZC.out ?_) | (refine wpList_load_row rfl 35 _ rfl g1 rfl 35 t.cells.toArray (0, 0) _ H2.out Tryz.underlying35 rfl SZT.out ?_) | (refine wpList_mid_wanted (by rfl) 35 _ rfl g2 0 rfl j.cells _ R32.out Tryz.underlying35 rfl SZJ.out ?_) | (go_at_call 7; (with_reducible refine (HOW.out _ HB1.out).mono ?_); rintro e w2 ⟨rfl, hb⟩; have HB2 := Lib.hid (bthen HB1.out hb); have H22 := Lib.hid (keep hb H2.out); have H32 := Lib.hid (keep hb H3.out); have R32 := Lib.hid (range_of (keep hb H3.out)); clear hb) | (go_at_call 38; (with_reducible refine (HTR.out _ HB2.out).mono ?_); rintro e w3 ⟨rfl, hb⟩; have HB3 := Lib.hid (bthen HB2.out hb); have H23 := Lib.hid (keep hb H22.out); have H33 := Lib.hid (keep hb H32.out); have ci := tx_ins (range_of (keep hb H32.out)); have ck := op_kind (tx_op (range_of (keep hb H32.out))); rw [Nat.zero_add] at ck; clear hb) | fail)
    go_ret
    exact ⟨by rw [HR1.out] <;> rfl, HB3.out⟩
  · by_cases h2 : j.inn = 1
    · have HI := Lib.hid h2
      have e2 : ((j.inn : Int) != 1) = false := by simp [h2]
      clear h2
      by_cases h4 : j.op.kind = 0
      · have HKI := Lib.hid h4
        have e4 : (j.op.kind != 0) = false := by simp [h4]
        clear h4
        obtain ⟨x, bj, oj, hins, hia, hxi, hlt, hrx⟩ := one_in15 HJ.out HI.out
        have HXI := Lib.hid hxi
        have HINS := Lib.hid hins
        have HIA := Lib.hid hia
        have HONE := Lib.hid (checkR_one (m := m) (u := u1) (T := T) HKV.out HI.out HKI.out hins)
        have HJB := Lib.hid hrx
        have HJL := Lib.hid hlt
        clear hins hia hxi hlt hrx
        go_upto_region 3 with (first | (refine wpList_load_row rfl 27 _ rfl g rfl 27 c.cells.toArray (0, 0) _ H1.out Tryz.underlying27 rfl SZC.out ?_) | (refine wpList_load_row rfl 35 _ rfl g1 rfl 35 t.cells.toArray (0, 0) _ H2.out Tryz.underlying35 rfl SZT.out ?_) | (refine wpList_mid_wanted (by rfl) 35 _ rfl g2 0 rfl j.cells _ R32.out Tryz.underlying35 rfl SZJ.out ?_) | (go_at_call 7; (with_reducible refine (HOW.out _ HB1.out).mono ?_); rintro e w2 ⟨rfl, hb⟩; have HB2 := Lib.hid (bthen HB1.out hb); have H22 := Lib.hid (keep hb H2.out); have H32 := Lib.hid (keep hb H3.out); have R32 := Lib.hid (range_of (keep hb H3.out)); clear hb) | (go_at_call 38; (with_reducible refine (HTR.out _ HB2.out).mono ?_); rintro e w3 ⟨rfl, hb⟩; have HB3 := Lib.hid (bthen HB2.out hb); have H23 := Lib.hid (keep hb H22.out); have H33 := Lib.hid (keep hb H32.out); have ci := tx_ins (range_of (keep hb H32.out)); have ck := op_kind (tx_op (range_of (keep hb H32.out))); rw [Nat.zero_add] at ck; clear hb) | fail)
        clear ci ck
        have HP3 := Lib.hid (HP.out.below HB3.out)
        have RX := Lib.hid (rangeAt_below HJB.out HJL.out HB3.out)
        have LX := Lib.hid (Nat.lt_of_lt_of_le HJL.out HB3.out.size)
        have CO : Hid (w3.cell? ⟨g1, 1, none⟩ = some (.slice (some ⟨b, o, none⟩) 2 t.oc)) := Lib.hid (by have h9 := tx_outs (range_of H23.out); rw [Nat.zero_add, HP.out.oa, HP.out.on] at h9; exact h9)
        have CI : Hid (w3.cell? ⟨g2, 0, none⟩ = some (.slice (some ⟨bj, oj, none⟩) 1 j.ic)) := Lib.hid (by have h9 := tx_ins (range_of H33.out); rw [HIA.out, HI.out] at h9; exact h9)
        have SZO : Hid ((Tryz.prog.info? 46).map (·.size) = some (POut.cells (twoO m (some ⟨b2, o2, none⟩) wk u0 u1)).length) := Lib.hid Tryz.sizeOut
        have SZX := Lib.hid (in_size HXI.out.tx)
        have ZX : Hid (noIn.cells.length = x.cells.length) := Lib.hid (by rw [PIn.len HXI.out.tx]; rfl)
        have SZXR : Hid ((Tryz.prog.info? 25).map (·.size) = some (refCells x.tx x.place).length) := Lib.hid (refSize HXI.out.tx)
        go_cut [7, 8] from 32 to 39 (fun u v w' => ∃ p q : Nat, u = .pointer (some ⟨p, 0, none⟩) ∧ v = .pointer (some ⟨q, 0, none⟩) ∧ w'.heap[p]? = some (.cells (POut.cells (twoO m (some ⟨b2, o2, none⟩) wk u0 u1)).toArray 46 (0, 0)) ∧ w'.heap[q]? = some (.cells x.cells.toArray 55 (0, 0)) ∧ Below w3.heap.size w3 w')
        case first =>
          try simp only [Act.put]
          refine wp_region_held_drew (S := fun w' => Below w3.heap.size w3 w') (by kernel_rfl) (below_drew (Below.refl _ _)) (fun hHeld => ?_)
          refine take_at (i := 0) (v := ?_) rfl rfl (by kernel_rfl) (by kernel_rfl) (by kernel_rfl) (fun _ _ _ h => h) (Or.inl ⟨by rfl, ?_⟩) (by assumption) ?_
          rotate_left
          · intro w0 hSw; (try dsimp only at hSw); first | (go_simp; done) | (go_simp; with_reducible rfl)
          simp only [nrmA, nrmB, nrmC]
          refine take_at (i := 1) rfl rfl (by kernel_rfl) (by kernel_rfl) (by kernel_rfl) (fun _ _ _ h => h) (yields_cell (b := g1) (o := 1) (by rfl) rfl rfl (fun w0 hSw => (Below.cell hSw (p := ⟨g1, 1, none⟩) (lt_of_block H23.out)).trans CO.out) (fun w0 => Tryz.isAgg29 w0)) (by assumption) ?_
          simp only [nrmA, nrmB, nrmC]
          refine take_at (i := 2) (v := ?_) rfl rfl (by kernel_rfl) (by kernel_rfl) (by kernel_rfl) (fun _ _ _ h => h) (Or.inl ⟨by rfl, ?_⟩) (by assumption) ?_
          rotate_left
          · intro w0 hSw; (try dsimp only at hSw); first | (go_simp; done) | (go_simp; with_reducible rfl)
          simp only [nrmA, nrmB, nrmC]
          refine take_at (i := 3) rfl rfl (by kernel_rfl) (by kernel_rfl) (by kernel_rfl) (fun _ _ _ h => h) (yieldsIf_load_mid (by rfl) _ _ rfl b o rfl (POut.cells (twoO m (some ⟨b2, o2, none⟩) wk u0 u1)) _ (fun w0 hSw => rangeAt_below HP3.out.out HP3.out.lb hSw) Tryz.underlying46 rfl SZO.out) (by assumption) ?_
          simp only [nrmA, nrmB, nrmC]
          refine take_at (i := 4) (v := ?_) rfl rfl (by kernel_rfl) (by kernel_rfl) (by kernel_rfl) (fun _ _ _ h => h) (Or.inl ⟨by rfl, ?_⟩) (by assumption) ?_
          rotate_left
          · intro w0 hSw; (try dsimp only at hSw); first | (go_simp; done) | (go_simp; with_reducible rfl)
          simp only [nrmA, nrmB, nrmC]
          refine take_at (i := 5) rfl rfl (by kernel_rfl) (by kernel_rfl) (by kernel_rfl) (fun _ _ _ h => h) (yields_cell (b := g2) (o := 0) (by rfl) rfl rfl (fun w0 hSw => (Below.cell hSw (p := ⟨g2, 0, none⟩) (lt_of_block H33.out)).trans CI.out) (fun w0 => Tryz.isAgg28 w0)) (by assumption) ?_
          simp only [nrmA, nrmB, nrmC]
          refine take_at (i := 6) (v := ?_) rfl rfl (by kernel_rfl) (by kernel_rfl) (by kernel_rfl) (fun _ _ _ h => h) (Or.inl ⟨by rfl, ?_⟩) (by assumption) ?_
          rotate_left
          · intro w0 hSw; (try dsimp only at hSw); first | (go_simp; done) | (go_simp; with_reducible rfl)
          simp only [nrmA, nrmB, nrmC]
          refine take_at (i := 7) rfl rfl (by kernel_rfl) (by kernel_rfl) (by kernel_rfl) (fun _ _ _ h => h) (yieldsIf_load_mid (by rfl) _ _ rfl bj oj rfl x.cells _ (fun w0 hSw => rangeAt_below RX.out LX.out hSw) Tryz.underlying55 rfl SZX.out) (by assumption) ?_
          simp only [nrmA, nrmB, nrmC]
          refine wpAnyH_ready (rs := [8, 9]) (by kernel_rfl) (by simp) ?_
          refine AllReadyH.cons rfl (fun K hK => ?_) ?_
          · refine step_alloc10 (d := 7) rfl (by rfl) 46 rfl noOut.cells.toArray Tryz.zeroOut14 ?_
            intro p y1 hp hh hb
            have Vp := Lib.hid hh
            have Np : Hid (w3.heap.size ≤ p) := Lib.hid (Nat.le_trans (Below.size hHeld) hp)
            have HX := Lib.hid (bthen hHeld hb)
            clear hp hh hb
            refine hK.out _ _ (by (try dsimp only); exact HX.out) (fun hHeld => ?_)
            clear hK K
            refine wpAnyH_ready (rs := [9]) (by kernel_rfl) (by simp) ?_
            refine AllReadyH.cons rfl (fun K hK => ?_) ?_
            · refine step_alloc10 (d := 8) rfl (by rfl) 55 rfl noIn.cells.toArray Tryz.zeroIn14 ?_
              intro q y2 hp hh hb
              have NE : Hid (p ≠ q) := Lib.hid (by have h9 := lt_of_block Vp.out; omega)
              have Vp := Lib.hid (keep hb Vp.out)
              have Vq := Lib.hid hh
              have Nq : Hid (w3.heap.size ≤ q) := Lib.hid (Nat.le_trans (Below.size hHeld) hp)
              have HX := Lib.hid (bthen hHeld hb)
              clear hp hh hb
              refine hK.out _ _ (by (try dsimp only); exact HX.out) (fun hHeld => ?_)
              clear hK K
              refine wpAnyH_ready (rs := [10]) (by kernel_rfl) (by simp) ?_
              refine AllReadyH.cons rfl (fun K hK => ?_) ?_
              · refine step_row10 (by rfl) 46 _ _ rfl p (POut.cells (twoO m (some ⟨b2, o2, none⟩) wk u0 u1)) (by rfl) (by rfl) 46 noOut.cells Vp.out SZO.out rfl (POut.one _) (fun y3 hh hb => ?_)
                have HX := Lib.hid (But.in hHeld hb Np.out)
                have Vq := Lib.hid ((hb.block q (lt_of_block Vq.out) (fun e => NE.out e.symm)).trans Vq.out)
                have Vp := Lib.hid hh
                clear hh hb
                refine hK.out _ _ (by (try dsimp only); exact HX.out) (fun hHeld => ?_)
                clear hK K
                refine wpAnyH_ready (rs := [11]) (by kernel_rfl) (by simp) ?_
                refine AllReadyH.cons rfl (fun K hK => ?_) ?_
                · refine step_row10 (by rfl) 55 _ _ rfl q x.cells (by rfl) (by rfl) 55 noIn.cells Vq.out SZX.out ZX.out (PIn.one _) (fun y4 hh hb => ?_)
                  have HX := Lib.hid (But.in hHeld hb Nq.out)
                  have Vp := Lib.hid ((hb.block p (lt_of_block Vp.out) NE.out).trans Vp.out)
                  have Vq := Lib.hid hh
                  clear hh hb
                  refine hK.out _ _ (by (try dsimp only); exact HX.out) (fun hHeld => ?_)
                  clear hK K
                  refine wpAnyH_done (by kernel_rfl) ?_ _
                  clear hHeld
                  go_wp2_with fail
                  go_meet
                  exact ⟨p, q, rfl, rfl, Vp.out, Vq.out, HX.out⟩
                exact AllReadyH.nil
              exact AllReadyH.nil
            exact AllReadyH.nil
          refine AllReadyH.cons rfl (fun K hK => ?_) ?_
          · refine step_alloc10 (d := 8) rfl (by rfl) 55 rfl noIn.cells.toArray Tryz.zeroIn14 ?_
            intro q y1 hp hh hb
            have Vq := Lib.hid hh
            have Nq : Hid (w3.heap.size ≤ q) := Lib.hid (Nat.le_trans (Below.size hHeld) hp)
            have HX := Lib.hid (bthen hHeld hb)
            clear hp hh hb
            refine hK.out _ _ (by (try dsimp only); exact HX.out) (fun hHeld => ?_)
            clear hK K
            refine wpAnyH_ready (rs := [8]) (by kernel_rfl) (by simp) ?_
            refine AllReadyH.cons rfl (fun K hK => ?_) ?_
            · refine step_alloc10 (d := 7) rfl (by rfl) 46 rfl noOut.cells.toArray Tryz.zeroOut14 ?_
              intro p y2 hp hh hb
              have NE : Hid (p ≠ q) := Lib.hid (by have h9 := lt_of_block Vq.out; omega)
              have Vq := Lib.hid (keep hb Vq.out)
              have Vp := Lib.hid hh
              have Np : Hid (w3.heap.size ≤ p) := Lib.hid (Nat.le_trans (Below.size hHeld) hp)
              have HX := Lib.hid (bthen hHeld hb)
              clear hp hh hb
              refine hK.out _ _ (by (try dsimp only); exact HX.out) (fun hHeld => ?_)
              clear hK K
              refine wpAnyH_ready (rs := [10]) (by kernel_rfl) (by simp) ?_
              refine AllReadyH.cons rfl (fun K hK => ?_) ?_
              · refine step_row10 (by rfl) 46 _ _ rfl p (POut.cells (twoO m (some ⟨b2, o2, none⟩) wk u0 u1)) (by rfl) (by rfl) 46 noOut.cells Vp.out SZO.out rfl (POut.one _) (fun y3 hh hb => ?_)
                have HX := Lib.hid (But.in hHeld hb Np.out)
                have Vq := Lib.hid ((hb.block q (lt_of_block Vq.out) (fun e => NE.out e.symm)).trans Vq.out)
                have Vp := Lib.hid hh
                clear hh hb
                refine hK.out _ _ (by (try dsimp only); exact HX.out) (fun hHeld => ?_)
                clear hK K
                refine wpAnyH_ready (rs := [11]) (by kernel_rfl) (by simp) ?_
                refine AllReadyH.cons rfl (fun K hK => ?_) ?_
                · refine step_row10 (by rfl) 55 _ _ rfl q x.cells (by rfl) (by rfl) 55 noIn.cells Vq.out SZX.out ZX.out (PIn.one _) (fun y4 hh hb => ?_)
                  have HX := Lib.hid (But.in hHeld hb Nq.out)
                  have Vp := Lib.hid ((hb.block p (lt_of_block Vp.out) NE.out).trans Vp.out)
                  have Vq := Lib.hid hh
                  clear hh hb
                  refine hK.out _ _ (by (try dsimp only); exact HX.out) (fun hHeld => ?_)
                  clear hK K
                  refine wpAnyH_done (by kernel_rfl) ?_ _
                  clear hHeld
                  go_wp2_with fail
                  go_meet
                  exact ⟨p, q, rfl, rfl, Vp.out, Vq.out, HX.out⟩
                exact AllReadyH.nil
              exact AllReadyH.nil
            exact AllReadyH.nil
          exact AllReadyH.nil
        case rest =>
          obtain ⟨p, q, rfl, rfl, hp4, hq4, hb4⟩ := hcut
          have HB4 := Lib.hid (bthen HB3.out hb4)
          have H24 := Lib.hid (keep hb4 H23.out)
          have H34 := Lib.hid (keep hb4 H33.out)
          have HP4 := Lib.hid hp4
          have HQ4 := Lib.hid hq4
          have CW : Hid (wc.cell? ⟨q, 33, none⟩ = some (.int .i64 x.way)) := Lib.hid (by have h9 := in_way HXI.out.tx (range_of hq4); rw [Nat.zero_add] at h9; exact h9)
          obtain ⟨RV, hRV⟩ : ∃ RV, (decide (x.tx = T) && decide (x.place = 0)) = RV := ⟨_, rfl⟩
          have qr : ∀ W : World, (Op.equalIn 10000 25 (.agg (refCells x.tx x.place).toArray) (.agg (refCells T 0).toArray)).run Tryz.prog W = .ok RV W := fun W => by rw [run_eqRefs _ _ _ _ HXI.out.tx HTL.out W, hRV]
          have HRV := Lib.hid hRV
          clear hRV hp4 hq4 hb4 H23 H33
          go_upto_region 4 with (fail)
          cases RV
          · refine wp_region_held_drew (S := fun w' => Below wc.heap.size wc w') (by kernel_rfl) (below_drew (Below.refl _ _)) (fun hHeld => ?_)
            refine take_at (i := 0) (v := ?_) rfl rfl (by kernel_rfl) (by kernel_rfl) (by kernel_rfl) (fun _ _ _ h => h) (Or.inl ⟨by rfl, ?_⟩) (by assumption) ?_
            rotate_left
            · intro w0 hSw; (try dsimp only at hSw); first | (go_simp; done) | (go_simp; with_reducible rfl)
            simp only [nrmA, nrmB, nrmC]
            refine take_at (i := 1) rfl rfl (by kernel_rfl) (by kernel_rfl) (by kernel_rfl) (fun _ _ _ h => h) (yieldsIf_load_mid (by rfl) _ _ rfl q 0 rfl (refCells x.tx x.place) _ (fun w0 hSw => in_ref (range_of (keep hSw HQ4.out))) Tryz.underlying25 rfl SZXR.out) (by assumption) ?_
            simp only [nrmA, nrmB, nrmC]
            refine take_at (i := 2) rfl rfl (by kernel_rfl) (by kernel_rfl) (by kernel_rfl) (fun _ _ _ h => h) (yieldsIf_load_mid (by rfl) _ _ rfl g1 0 rfl t.cells _ (fun w0 hSw => range_of (keep hSw H24.out)) Tryz.underlying35 rfl SZTl.out) (by assumption) ?_
            simp only [nrmA, nrmB, nrmC]
            refine wpAnyH_ready (rs := [3]) (by kernel_rfl) (by simp) ?_
            refine AllReadyH.cons rfl (fun K hK => ?_) ?_
            · have HCx := Lib.hid (HREF.out _ (bthen HB4.out hHeld))
              go_simp
              go_wp2_with ((go_at_call 17; (with_reducible refine (HCx.out).mono ?_); rintro e y1 ⟨rfl, hb⟩; have HX := Lib.hid (bthen hHeld hb); clear hb HCx))
              refine hK.out _ _ (by (try dsimp only); exact HX.out) (fun hHeld => ?_)
              clear hK K
              refine take_at (i := 4) (v := .bool true) rfl rfl (by kernel_rfl) (by kernel_rfl) (by kernel_rfl) (fun _ _ _ h => h) (Or.inl ⟨by rfl, ?_⟩) (by assumption) ?_
              · intro w0 hSw; (try dsimp only at hSw); first | (go_simp; done) | (go_simp; with_reducible rfl) | (go_simp; omega)
              simp only [nrmA, nrmB, nrmC]
              refine take_at (i := 5) (v := ?_) rfl rfl (by kernel_rfl) (by kernel_rfl) (by kernel_rfl) (fun _ _ _ h => h) (Or.inl ⟨by rfl, ?_⟩) (by assumption) ?_
              rotate_left
              · intro w0 hSw; (try dsimp only at hSw); first | (go_simp; done) | (go_simp; with_reducible rfl)
              simp only [nrmA, nrmB, nrmC]
              refine take_at (i := 6) (v := undef) rfl rfl (by kernel_rfl) (by kernel_rfl) (by kernel_rfl) (fun _ _ _ h => h) (Or.inr ⟨by rfl, rfl⟩) (by assumption) ?_
              simp only [nrmA, nrmB, nrmC]
              refine take_at (i := 7) (v := undef) rfl rfl (by kernel_rfl) (by kernel_rfl) (by kernel_rfl) (fun _ _ _ h => h) (Or.inr ⟨by rfl, rfl⟩) (by assumption) ?_
              simp only [nrmA, nrmB, nrmC]
              refine take_at (i := 8) (v := undef) rfl rfl (by kernel_rfl) (by kernel_rfl) (by kernel_rfl) (fun _ _ _ h => h) (Or.inr ⟨by rfl, rfl⟩) (by assumption) ?_
              simp only [nrmA, nrmB, nrmC]
              refine take_at (i := 9) (v := ?_) rfl rfl (by kernel_rfl) (by kernel_rfl) (by kernel_rfl) (fun _ _ _ h => h) (Or.inl ⟨by rfl, ?_⟩) (by assumption) ?_
              rotate_left
              · intro w0 hSw; (try dsimp only at hSw); first | (go_simp; done) | (go_simp; with_reducible rfl)
              simp only [nrmA, nrmB, nrmC]
              refine wpAnyH_done (by kernel_rfl) ?_ _
              clear hHeld
              have HB5 := Lib.hid (bthen HB4.out HX.out)
              go_wp2_with fail
              go_ret
              exact ⟨by rw [HONE.out, HRV.out]; rfl, HB5.out⟩
            exact AllReadyH.nil
          · by_cases hw : x.way = 1
            · have ew : (x.way != 1) = false := by simp [hw]
              have HWV : Hid (decide (x.way = 1) = true) := Lib.hid (decide_eq_true hw)
              clear hw
              refine wp_region_held_drew (S := fun w' => Below wc.heap.size wc w') (by kernel_rfl) (below_drew (Below.refl _ _)) (fun hHeld => ?_)
              refine take_at (i := 0) (v := ?_) rfl rfl (by kernel_rfl) (by kernel_rfl) (by kernel_rfl) (fun _ _ _ h => h) (Or.inl ⟨by rfl, ?_⟩) (by assumption) ?_
              rotate_left
              · intro w0 hSw; (try dsimp only at hSw); first | (go_simp; done) | (go_simp; with_reducible rfl)
              simp only [nrmA, nrmB, nrmC]
              refine take_at (i := 1) rfl rfl (by kernel_rfl) (by kernel_rfl) (by kernel_rfl) (fun _ _ _ h => h) (yieldsIf_load_mid (by rfl) _ _ rfl q 0 rfl (refCells x.tx x.place) _ (fun w0 hSw => in_ref (range_of (keep hSw HQ4.out))) Tryz.underlying25 rfl SZXR.out) (by assumption) ?_
              simp only [nrmA, nrmB, nrmC]
              refine take_at (i := 2) rfl rfl (by kernel_rfl) (by kernel_rfl) (by kernel_rfl) (fun _ _ _ h => h) (yieldsIf_load_mid (by rfl) _ _ rfl g1 0 rfl t.cells _ (fun w0 hSw => range_of (keep hSw H24.out)) Tryz.underlying35 rfl SZTl.out) (by assumption) ?_
              simp only [nrmA, nrmB, nrmC]
              refine wpAnyH_ready (rs := [3]) (by kernel_rfl) (by simp) ?_
              refine AllReadyH.cons rfl (fun K hK => ?_) ?_
              · have HCx := Lib.hid (HREF.out _ (bthen HB4.out hHeld))
                go_simp
                go_wp2_with ((go_at_call 17; (with_reducible refine (HCx.out).mono ?_); rintro e y1 ⟨rfl, hb⟩; have HX := Lib.hid (bthen hHeld hb); clear hb HCx))
                refine hK.out _ _ (by (try dsimp only); exact HX.out) (fun hHeld => ?_)
                clear hK K
                refine take_at (i := 4) (v := .bool false) rfl rfl (by kernel_rfl) (by kernel_rfl) (by kernel_rfl) (fun _ _ _ h => h) (Or.inl ⟨by rfl, ?_⟩) (by assumption) ?_
                · intro w0 hSw; (try dsimp only at hSw); first | (go_simp; done) | (go_simp; with_reducible rfl) | (go_simp; omega)
                simp only [nrmA, nrmB, nrmC]
                refine take_at (i := 5) (v := ?_) rfl rfl (by kernel_rfl) (by kernel_rfl) (by kernel_rfl) (fun _ _ _ h => h) (Or.inl ⟨by rfl, ?_⟩) (by assumption) ?_
                rotate_left
                · intro w0 hSw; (try dsimp only at hSw); first | (go_simp; done) | (go_simp; with_reducible rfl)
                simp only [nrmA, nrmB, nrmC]
                refine take_at (i := 6) (v := ?_) rfl rfl (by kernel_rfl) (by kernel_rfl) (by kernel_rfl) (fun _ _ _ h => h) (Or.inl ⟨by rfl, ?_⟩) (by assumption) ?_
                rotate_left
                · intro w0 hSw; (try dsimp only at hSw); first | (go_simp; done) | (go_simp; with_reducible rfl)
                simp only [nrmA, nrmB, nrmC]
                refine take_at (i := 7) rfl rfl (by kernel_rfl) (by kernel_rfl) (by kernel_rfl) (fun _ _ _ h => h) (yields_cell (b := q) (o := 33) (by rfl) rfl rfl (fun w0 hSw => (Below.cell hSw (p := ⟨q, 33, none⟩) (lt_of_block HQ4.out)).trans CW.out) (fun w0 => Tryz.isAgg3 w0)) (by assumption) ?_
                simp only [nrmA, nrmB, nrmC]
                refine take_at (i := 8) (v := .bool false) rfl rfl (by kernel_rfl) (by kernel_rfl) (by kernel_rfl) (fun _ _ _ h => h) (Or.inl ⟨by rfl, ?_⟩) (by assumption) ?_
                · intro w0 hSw; (try dsimp only at hSw); first | (go_simp; done) | (go_simp; with_reducible rfl) | (go_simp; omega)
                simp only [nrmA, nrmB, nrmC]
                refine take_at (i := 9) (v := ?_) rfl rfl (by kernel_rfl) (by kernel_rfl) (by kernel_rfl) (fun _ _ _ h => h) (Or.inl ⟨by rfl, ?_⟩) (by assumption) ?_
                rotate_left
                · intro w0 hSw; (try dsimp only at hSw); first | (go_simp; done) | (go_simp; with_reducible rfl)
                simp only [nrmA, nrmB, nrmC]
                refine wpAnyH_done (by kernel_rfl) ?_ _
                clear hHeld
                go_upto_region 6 with (fail)
                have HB5 := Lib.hid (bthen HB4.out HX.out)
                have H35 := Lib.hid (keep HX.out H34.out)
                have HP5 := Lib.hid (keep HX.out HP4.out)
                have HQ5 := Lib.hid (keep HX.out HQ4.out)
                revert HB5 H35 HP5 HQ5
                generalize y1 = w5
                intro HB5 H35 HP5 HQ5
                have CPW : Hid (w5.cell? ⟨p, 1, none⟩ = some (.slice (some ⟨b2, o2, none⟩) 2 wk)) := Lib.hid ((range_cons (range_cons (range_of HP5.out)).2).1)
                have CM5 : Hid (w5.cell? ⟨p, 0, none⟩ = some (.int .i64 m)) := Lib.hid ((range_cons (range_of HP5.out)).1)
                have CPR : Hid (w5.cell? ⟨q, 34, none⟩ = some (.slice x.a x.n x.c)) := Lib.hid (by have h9 := in_pre HXI.out.tx (range_of HQ5.out); rw [Nat.zero_add] at h9; exact h9)
                have HPT := Lib.hid (HP.out.below HB5.out)
                have SZU := Lib.hid (way_size HP.out.way.sum)
                obtain ⟨KS, hKS⟩ : ∃ KS, keysBy (txSum j) j.signs = KS := ⟨_, rfl⟩
                have HKY : Hid (∀ W : World, Below w5.heap.size w5 W → Calls Tryz.prog 40 #[.agg j.cells.toArray] W fun e w' => ∃ (a : Option Addr) (n c : Nat), e = .returned (.slice a n c) ∧ Numbers w' a n c KS ∧ Below W.heap.size W w') := Lib.hid (fun W hW => by rw [← hKS]; exact txKeys_any (HJ.out.below (bthen HB5.out hW)) (HK.out.below (bthen HB5.out hW)) (frontOk false HJ.out HKV.out) (by have h9 := (txOk_parts HKV.out).2.2.1; omega))
                have hks16 : KS.length ≤ 16 := by have h9 := keysBy_len (s := txSum j) j.signs; have h8 := HJ.out.signs.1; have h7 := (txOk_parts HKV.out).2.2.1; rw [hKS] at h9; omega
                have hpre : x.n ≤ 1000000 := by have h9 := insOk_each (txOk_parts HKV.out).2.2.2.2.2.1 x (by rw [HINS.out]; simp); have h8 : (uptoB x.place 15 && (uptoB x.way 15 && decide (x.n ≤ 64))) = true := h9; simp only [Bool.and_eq_true, decide_eq_true_eq] at h8; omega
                obtain ⟨OV, hOV⟩ : ∃ OV, opensW u1 KS x.pre 0 0 = OV := ⟨_, rfl⟩
                have HOPN : Hid (∀ (W : World) (a : Option Addr) (n c : Nat), Below w5.heap.size w5 W → Numbers W a n c KS → Calls Tryz.prog 39 #[.agg u1.cells.toArray, .agg #[.slice a n c, .slice x.a x.n x.c, .int .i64 0, .int .i64 0]] W fun e w' => e = .returned (.bool OV) ∧ Below W.heap.size W w') := Lib.hid (fun W a n c hW hn => by rw [← hOV]; exact opens_any (HP.out.way.below (bthen HB5.out hW)) hn (HXI.out.pre.below (bthen HB5.out hW)) (HK.out.below (bthen HB5.out hW)) (by have h9 := hn.1; omega) hpre)
                have HPASS : Hid (checkR m u1 T j = passR m u1 KS x.pre j.outs) := Lib.hid (by rw [HONE.out, HRV.out, HWV.out, hKS]; rfl)
                have HOV := Lib.hid hOV
                clear hKS hks16 hpre hOV HONE HRV HWV
                cases OV
                · refine wp_region_held_drew (S := fun w' => Below w5.heap.size w5 w') (by kernel_rfl) (below_drew (Below.refl _ _)) (fun hHeld => ?_)
                  refine take_at (i := 0) (v := ?_) rfl rfl (by kernel_rfl) (by kernel_rfl) (by kernel_rfl) (fun _ _ _ h => h) (Or.inl ⟨by rfl, ?_⟩) (by assumption) ?_
                  rotate_left
                  · intro w0 hSw; (try dsimp only at hSw); first | (go_simp; done) | (go_simp; with_reducible rfl)
                  simp only [nrmA, nrmB, nrmC]
                  refine take_at (i := 1) rfl rfl (by kernel_rfl) (by kernel_rfl) (by kernel_rfl) (fun _ _ _ h => h) (yields_cell (b := p) (o := 1) (by rfl) rfl rfl (fun w0 hSw => (Below.cell hSw (p := ⟨p, 1, none⟩) (lt_of_block HP5.out)).trans CPW.out) (fun w0 => Tryz.isAgg44 w0)) (by assumption) ?_
                  simp only [nrmA, nrmB, nrmC]
                  refine take_at (i := 2) (v := ?_) rfl rfl (by kernel_rfl) (by kernel_rfl) (by kernel_rfl) (fun _ _ _ h => h) (Or.inl ⟨by rfl, ?_⟩) (by assumption) ?_
                  rotate_left
                  · intro w0 hSw; (try dsimp only at hSw); first | (go_simp; done) | (go_simp; with_reducible rfl)
                  simp only [nrmA, nrmB, nrmC]
                  refine take_at (i := 3) rfl rfl (by kernel_rfl) (by kernel_rfl) (by kernel_rfl) (fun _ _ _ h => h) (yieldsIf_load_mid (by rfl) _ _ rfl b2 (o2 + 35) rfl u1.cells _ (fun w0 hSw => rangeAt_below HPT.out.at2 HPT.out.lb2 hSw) Tryz.underlying49 rfl SZU.out) (by assumption) ?_
                  simp only [nrmA, nrmB, nrmC]
                  refine take_at (i := 4) rfl rfl (by kernel_rfl) (by kernel_rfl) (by kernel_rfl) (fun _ _ _ h => h) (yieldsIf_load_mid (by rfl) _ _ rfl g2 0 rfl j.cells _ (fun w0 hSw => range_of (keep hSw H35.out)) Tryz.underlying35 rfl SZJ.out) (by assumption) ?_
                  simp only [nrmA, nrmB, nrmC]
                  refine take_at (i := 6) (v := ?_) rfl rfl (by kernel_rfl) (by kernel_rfl) (by kernel_rfl) (fun _ _ _ h => h) (Or.inl ⟨by rfl, ?_⟩) (by assumption) ?_
                  rotate_left
                  · intro w0 hSw; (try dsimp only at hSw); first | (go_simp; done) | (go_simp; with_reducible rfl)
                  simp only [nrmA, nrmB, nrmC]
                  refine take_at (i := 7) rfl rfl (by kernel_rfl) (by kernel_rfl) (by kernel_rfl) (fun _ _ _ h => h) (yields_cell (b := q) (o := 34) (by rfl) rfl rfl (fun w0 hSw => (Below.cell hSw (p := ⟨q, 34, none⟩) (lt_of_block HQ5.out)).trans CPR.out) (fun w0 => Tryz.isAgg30 w0)) (by assumption) ?_
                  simp only [nrmA, nrmB, nrmC]
                  refine wpAnyH_ready (rs := [5]) (by kernel_rfl) (by simp) ?_
                  refine AllReadyH.cons rfl (fun K hK => ?_) ?_
                  · have HCx := Lib.hid (HKY.out _ hHeld)
                    go_simp
                    go_wp2_with ((go_at_call 40; (with_reducible refine (HCx.out).mono ?_); rintro e y1 ⟨ka, kn, kc, rfl, hn, hb⟩; have HN := Lib.hid hn; have HX := Lib.hid (bthen hHeld hb); clear hn hb HCx))
                    refine hK.out _ _ (by (try dsimp only); exact HX.out) (fun hHeld => ?_)
                    clear hK K
                    refine take_at (i := 8) rfl rfl (by kernel_rfl) (by kernel_rfl) (by kernel_rfl) (fun _ _ _ h => h) (yields_build10 (by rfl) rfl (vs := [(0, .slice ka kn kc), (1, .slice x.a x.n x.c)]) (by rfl) (build_try15 _ _ _ _ _ _)) (by assumption) ?_
                    simp only [nrmA, nrmB, nrmC]
                    refine wpAnyH_ready (rs := [9]) (by kernel_rfl) (by simp) ?_
                    refine AllReadyH.cons rfl (fun K hK => ?_) ?_
                    · have HCx := Lib.hid (HOPN.out _ ka kn kc hHeld HN.out)
                      go_simp
                      go_wp2_with ((go_at_call 39; (with_reducible refine (HCx.out).mono ?_); rintro e y2 ⟨rfl, hb⟩; have HX := Lib.hid (bthen hHeld hb); clear hb HCx))
                      refine hK.out _ _ (by (try dsimp only); exact HX.out) (fun hHeld => ?_)
                      clear hK K
                      refine take_at (i := 10) (v := .bool true) rfl rfl (by kernel_rfl) (by kernel_rfl) (by kernel_rfl) (fun _ _ _ h => h) (Or.inl ⟨by rfl, ?_⟩) (by assumption) ?_
                      · intro w0 hSw; (try dsimp only at hSw); first | (go_simp; done) | (go_simp; with_reducible rfl) | (go_simp; omega)
                      simp only [nrmA, nrmB, nrmC]
                      refine wpAnyH_done (by kernel_rfl) ?_ _
                      clear hHeld
                      have HB6 := Lib.hid (bthen HB5.out HX.out)
                      go_wp2_with fail
                      go_ret
                      exact ⟨by rw [HPASS.out]; unfold passR; rw [HOV.out]; rfl, HB6.out⟩
                    exact AllReadyH.nil
                  exact AllReadyH.nil
                · refine wp_region_held_drew (S := fun w' => Below w5.heap.size w5 w') (by kernel_rfl) (below_drew (Below.refl _ _)) (fun hHeld => ?_)
                  refine take_at (i := 0) (v := ?_) rfl rfl (by kernel_rfl) (by kernel_rfl) (by kernel_rfl) (fun _ _ _ h => h) (Or.inl ⟨by rfl, ?_⟩) (by assumption) ?_
                  rotate_left
                  · intro w0 hSw; (try dsimp only at hSw); first | (go_simp; done) | (go_simp; with_reducible rfl)
                  simp only [nrmA, nrmB, nrmC]
                  refine take_at (i := 1) rfl rfl (by kernel_rfl) (by kernel_rfl) (by kernel_rfl) (fun _ _ _ h => h) (yields_cell (b := p) (o := 1) (by rfl) rfl rfl (fun w0 hSw => (Below.cell hSw (p := ⟨p, 1, none⟩) (lt_of_block HP5.out)).trans CPW.out) (fun w0 => Tryz.isAgg44 w0)) (by assumption) ?_
                  simp only [nrmA, nrmB, nrmC]
                  refine take_at (i := 2) (v := ?_) rfl rfl (by kernel_rfl) (by kernel_rfl) (by kernel_rfl) (fun _ _ _ h => h) (Or.inl ⟨by rfl, ?_⟩) (by assumption) ?_
                  rotate_left
                  · intro w0 hSw; (try dsimp only at hSw); first | (go_simp; done) | (go_simp; with_reducible rfl)
                  simp only [nrmA, nrmB, nrmC]
                  refine take_at (i := 3) rfl rfl (by kernel_rfl) (by kernel_rfl) (by kernel_rfl) (fun _ _ _ h => h) (yieldsIf_load_mid (by rfl) _ _ rfl b2 (o2 + 35) rfl u1.cells _ (fun w0 hSw => rangeAt_below HPT.out.at2 HPT.out.lb2 hSw) Tryz.underlying49 rfl SZU.out) (by assumption) ?_
                  simp only [nrmA, nrmB, nrmC]
                  refine take_at (i := 4) rfl rfl (by kernel_rfl) (by kernel_rfl) (by kernel_rfl) (fun _ _ _ h => h) (yieldsIf_load_mid (by rfl) _ _ rfl g2 0 rfl j.cells _ (fun w0 hSw => range_of (keep hSw H35.out)) Tryz.underlying35 rfl SZJ.out) (by assumption) ?_
                  simp only [nrmA, nrmB, nrmC]
                  refine take_at (i := 6) (v := ?_) rfl rfl (by kernel_rfl) (by kernel_rfl) (by kernel_rfl) (fun _ _ _ h => h) (Or.inl ⟨by rfl, ?_⟩) (by assumption) ?_
                  rotate_left
                  · intro w0 hSw; (try dsimp only at hSw); first | (go_simp; done) | (go_simp; with_reducible rfl)
                  simp only [nrmA, nrmB, nrmC]
                  refine take_at (i := 7) rfl rfl (by kernel_rfl) (by kernel_rfl) (by kernel_rfl) (fun _ _ _ h => h) (yields_cell (b := q) (o := 34) (by rfl) rfl rfl (fun w0 hSw => (Below.cell hSw (p := ⟨q, 34, none⟩) (lt_of_block HQ5.out)).trans CPR.out) (fun w0 => Tryz.isAgg30 w0)) (by assumption) ?_
                  simp only [nrmA, nrmB, nrmC]
                  refine wpAnyH_ready (rs := [5]) (by kernel_rfl) (by simp) ?_
                  refine AllReadyH.cons rfl (fun K hK => ?_) ?_
                  · have HCx := Lib.hid (HKY.out _ hHeld)
                    go_simp
                    go_wp2_with ((go_at_call 40; (with_reducible refine (HCx.out).mono ?_); rintro e y1 ⟨ka, kn, kc, rfl, hn, hb⟩; have HN := Lib.hid hn; have HX := Lib.hid (bthen hHeld hb); clear hn hb HCx))
                    refine hK.out _ _ (by (try dsimp only); exact HX.out) (fun hHeld => ?_)
                    clear hK K
                    refine take_at (i := 8) rfl rfl (by kernel_rfl) (by kernel_rfl) (by kernel_rfl) (fun _ _ _ h => h) (yields_build10 (by rfl) rfl (vs := [(0, .slice ka kn kc), (1, .slice x.a x.n x.c)]) (by rfl) (build_try15 _ _ _ _ _ _)) (by assumption) ?_
                    simp only [nrmA, nrmB, nrmC]
                    refine wpAnyH_ready (rs := [9]) (by kernel_rfl) (by simp) ?_
                    refine AllReadyH.cons rfl (fun K hK => ?_) ?_
                    · have HCx := Lib.hid (HOPN.out _ ka kn kc hHeld HN.out)
                      go_simp
                      go_wp2_with ((go_at_call 39; (with_reducible refine (HCx.out).mono ?_); rintro e y2 ⟨rfl, hb⟩; have HX := Lib.hid (bthen hHeld hb); clear hb HCx))
                      refine hK.out _ _ (by (try dsimp only); exact HX.out) (fun hHeld => ?_)
                      clear hK K
                      refine take_at (i := 10) (v := .bool false) rfl rfl (by kernel_rfl) (by kernel_rfl) (by kernel_rfl) (fun _ _ _ h => h) (Or.inl ⟨by rfl, ?_⟩) (by assumption) ?_
                      · intro w0 hSw; (try dsimp only at hSw); first | (go_simp; done) | (go_simp; with_reducible rfl) | (go_simp; omega)
                      simp only [nrmA, nrmB, nrmC]
                      refine wpAnyH_done (by kernel_rfl) ?_ _
                      clear hHeld
                      have HB6 := Lib.hid (bthen HB5.out HX.out)
                      have H36 := Lib.hid (keep HX.out H35.out)
                      have HP6 := Lib.hid (keep HX.out HP5.out)
                      revert HB6 H36 HP6
                      generalize y2 = w6
                      intro HB6 H36 HP6
                      have CM : Hid (w6.cell? ⟨p, 0, none⟩ = some (.int .i64 m)) := Lib.hid ((range_cons (range_of HP6.out)).1)
                      have co := tx_outs (range_of H36.out)
                      rw [Nat.zero_add] at co
                      obtain ⟨A1, A2, hA⟩ : ∃ A1 A2, addFrom 0 (sumsOf j.outs) = (A1, A2) := ⟨_, _, rfl⟩
                      have HTOG : Hid (∀ W : World, Below w.heap.size w W → Calls Tryz.prog 41 #[.slice j.oa j.on j.oc] W fun e w' => e = .returned (.tuple #[.int .i64 A1, .int .i64 A2]) ∧ Below W.heap.size W w') := Lib.hid (fun W hW => by
                        have h9 := together_any (HJ.out.outs.below hW) (by have h9 := (txOk_parts HKV.out).2.1; omega)
                        rw [hA] at h9
                        exact h9)
                      have HRES : Hid (checkR m u1 T j = if A2 = 0 then (if m < A1 then 14 else 0) else A2) := Lib.hid (by rw [HPASS.out]; unfold passR; rw [HOV.out, hA]; rfl)
                      clear hA HPASS HOV
                      by_cases hA2 : A2 = 0
                      · have e2 : (A2 != 0) = false := by simp [hA2]
                        by_cases hm : m < A1
                        · have e3 : decide (m < A1) = true := decide_eq_true hm
                          have HRES2 : Hid (checkR m u1 T j = 14) := Lib.hid (by rw [HRES.out, if_pos hA2, if_pos hm])
                          clear HRES hA2 hm
                          go_wp2_with (first | (go_at_call 41; (with_reducible refine (HTOG.out _ HB6.out).mono ?_); rintro e w7 ⟨rfl, hb⟩; have HB7 := Lib.hid (bthen HB6.out hb); have cm := (Below.cell hb (p := ⟨p, 0, none⟩) (lt_of_block HP6.out)).trans CM.out; clear hb) | fail)
                          go_ret
                          exact ⟨by rw [HRES2.out] <;> rfl, HB7.out⟩
                        · have e3 : decide (m < A1) = false := decide_eq_false hm
                          have HRES2 : Hid (checkR m u1 T j = 0) := Lib.hid (by rw [HRES.out, if_pos hA2, if_neg hm])
                          clear HRES hA2 hm
                          go_wp2_with (first | (go_at_call 41; (with_reducible refine (HTOG.out _ HB6.out).mono ?_); rintro e w7 ⟨rfl, hb⟩; have HB7 := Lib.hid (bthen HB6.out hb); have cm := (Below.cell hb (p := ⟨p, 0, none⟩) (lt_of_block HP6.out)).trans CM.out; clear hb) | fail)
                          go_ret
                          exact ⟨by rw [HRES2.out] <;> rfl, HB7.out⟩
                      · have e2 : (A2 != 0) = true := by simp [hA2]
                        have HRES2 : Hid (checkR m u1 T j = A2) := Lib.hid (by rw [HRES.out, if_neg hA2])
                        clear HRES hA2
                        go_wp2_with (first | (go_at_call 41; (with_reducible refine (HTOG.out _ HB6.out).mono ?_); rintro e w7 ⟨rfl, hb⟩; have HB7 := Lib.hid (bthen HB6.out hb); have cm := (Below.cell hb (p := ⟨p, 0, none⟩) (lt_of_block HP6.out)).trans CM.out; clear hb) | fail)
                        go_ret
                        exact ⟨by rw [HRES2.out] <;> rfl, HB7.out⟩
                    exact AllReadyH.nil
                  exact AllReadyH.nil
              exact AllReadyH.nil
            · have ew : (x.way != 1) = true := by simp [hw]
              have HWV : Hid (decide (x.way = 1) = false) := Lib.hid (decide_eq_false hw)
              clear hw
              refine wp_region_held_drew (S := fun w' => Below wc.heap.size wc w') (by kernel_rfl) (below_drew (Below.refl _ _)) (fun hHeld => ?_)
              refine take_at (i := 0) (v := ?_) rfl rfl (by kernel_rfl) (by kernel_rfl) (by kernel_rfl) (fun _ _ _ h => h) (Or.inl ⟨by rfl, ?_⟩) (by assumption) ?_
              rotate_left
              · intro w0 hSw; (try dsimp only at hSw); first | (go_simp; done) | (go_simp; with_reducible rfl)
              simp only [nrmA, nrmB, nrmC]
              refine take_at (i := 1) rfl rfl (by kernel_rfl) (by kernel_rfl) (by kernel_rfl) (fun _ _ _ h => h) (yieldsIf_load_mid (by rfl) _ _ rfl q 0 rfl (refCells x.tx x.place) _ (fun w0 hSw => in_ref (range_of (keep hSw HQ4.out))) Tryz.underlying25 rfl SZXR.out) (by assumption) ?_
              simp only [nrmA, nrmB, nrmC]
              refine take_at (i := 2) rfl rfl (by kernel_rfl) (by kernel_rfl) (by kernel_rfl) (fun _ _ _ h => h) (yieldsIf_load_mid (by rfl) _ _ rfl g1 0 rfl t.cells _ (fun w0 hSw => range_of (keep hSw H24.out)) Tryz.underlying35 rfl SZTl.out) (by assumption) ?_
              simp only [nrmA, nrmB, nrmC]
              refine wpAnyH_ready (rs := [3]) (by kernel_rfl) (by simp) ?_
              refine AllReadyH.cons rfl (fun K hK => ?_) ?_
              · have HCx := Lib.hid (HREF.out _ (bthen HB4.out hHeld))
                go_simp
                go_wp2_with ((go_at_call 17; (with_reducible refine (HCx.out).mono ?_); rintro e y1 ⟨rfl, hb⟩; have HX := Lib.hid (bthen hHeld hb); clear hb HCx))
                refine hK.out _ _ (by (try dsimp only); exact HX.out) (fun hHeld => ?_)
                clear hK K
                refine take_at (i := 4) (v := .bool false) rfl rfl (by kernel_rfl) (by kernel_rfl) (by kernel_rfl) (fun _ _ _ h => h) (Or.inl ⟨by rfl, ?_⟩) (by assumption) ?_
                · intro w0 hSw; (try dsimp only at hSw); first | (go_simp; done) | (go_simp; with_reducible rfl) | (go_simp; omega)
                simp only [nrmA, nrmB, nrmC]
                refine take_at (i := 5) (v := ?_) rfl rfl (by kernel_rfl) (by kernel_rfl) (by kernel_rfl) (fun _ _ _ h => h) (Or.inl ⟨by rfl, ?_⟩) (by assumption) ?_
                rotate_left
                · intro w0 hSw; (try dsimp only at hSw); first | (go_simp; done) | (go_simp; with_reducible rfl)
                simp only [nrmA, nrmB, nrmC]
                refine take_at (i := 6) (v := ?_) rfl rfl (by kernel_rfl) (by kernel_rfl) (by kernel_rfl) (fun _ _ _ h => h) (Or.inl ⟨by rfl, ?_⟩) (by assumption) ?_
                rotate_left
                · intro w0 hSw; (try dsimp only at hSw); first | (go_simp; done) | (go_simp; with_reducible rfl)
                simp only [nrmA, nrmB, nrmC]
                refine take_at (i := 7) rfl rfl (by kernel_rfl) (by kernel_rfl) (by kernel_rfl) (fun _ _ _ h => h) (yields_cell (b := q) (o := 33) (by rfl) rfl rfl (fun w0 hSw => (Below.cell hSw (p := ⟨q, 33, none⟩) (lt_of_block HQ4.out)).trans CW.out) (fun w0 => Tryz.isAgg3 w0)) (by assumption) ?_
                simp only [nrmA, nrmB, nrmC]
                refine take_at (i := 8) (v := .bool true) rfl rfl (by kernel_rfl) (by kernel_rfl) (by kernel_rfl) (fun _ _ _ h => h) (Or.inl ⟨by rfl, ?_⟩) (by assumption) ?_
                · intro w0 hSw; (try dsimp only at hSw); first | (go_simp; done) | (go_simp; with_reducible rfl) | (go_simp; omega)
                simp only [nrmA, nrmB, nrmC]
                refine take_at (i := 9) (v := ?_) rfl rfl (by kernel_rfl) (by kernel_rfl) (by kernel_rfl) (fun _ _ _ h => h) (Or.inl ⟨by rfl, ?_⟩) (by assumption) ?_
                rotate_left
                · intro w0 hSw; (try dsimp only at hSw); first | (go_simp; done) | (go_simp; with_reducible rfl)
                simp only [nrmA, nrmB, nrmC]
                refine wpAnyH_done (by kernel_rfl) ?_ _
                clear hHeld
                have HB5 := Lib.hid (bthen HB4.out HX.out)
                go_wp2_with fail
                go_ret
                exact ⟨by rw [HONE.out, HRV.out, HWV.out]; rfl, HB5.out⟩
              exact AllReadyH.nil
      · have e4 : (j.op.kind != 0) = true := by simp [h4]
        have HR1 : Hid (checkR m u1 T j = 1) := Lib.hid (checkR_kind h4)
        clear h4
        go_wp2_with (first | (refine wpList_load_row rfl 27 _ rfl g rfl 27 c.cells.toArray (0, 0) _ H1.out Tryz.underlying27 rfl SZC.out ?_) | (refine wpList_load_row rfl 35 _ rfl g1 rfl 35 t.cells.toArray (0, 0) _ H2.out Tryz.underlying35 rfl SZT.out ?_) | (refine wpList_mid_wanted (by rfl) 35 _ rfl g2 0 rfl j.cells _ R32.out Tryz.underlying35 rfl SZJ.out ?_) | (go_at_call 7; (with_reducible refine (HOW.out _ HB1.out).mono ?_); rintro e w2 ⟨rfl, hb⟩; have HB2 := Lib.hid (bthen HB1.out hb); have H22 := Lib.hid (keep hb H2.out); have H32 := Lib.hid (keep hb H3.out); have R32 := Lib.hid (range_of (keep hb H3.out)); clear hb) | (go_at_call 38; (with_reducible refine (HTR.out _ HB2.out).mono ?_); rintro e w3 ⟨rfl, hb⟩; have HB3 := Lib.hid (bthen HB2.out hb); have H23 := Lib.hid (keep hb H22.out); have H33 := Lib.hid (keep hb H32.out); have ci := tx_ins (range_of (keep hb H32.out)); have ck := op_kind (tx_op (range_of (keep hb H32.out))); rw [Nat.zero_add] at ck; clear hb) | fail)
        go_ret
        exact ⟨by rw [HR1.out] <;> rfl, HB3.out⟩
    · have e2 : ((j.inn : Int) != 1) = true := by simp; omega
      have HR1 : Hid (checkR m u1 T j = 1) := Lib.hid (checkR_len h2)
      clear h2
      go_wp2_with (first | (refine wpList_load_row rfl 27 _ rfl g rfl 27 c.cells.toArray (0, 0) _ H1.out Tryz.underlying27 rfl SZC.out ?_) | (refine wpList_load_row rfl 35 _ rfl g1 rfl 35 t.cells.toArray (0, 0) _ H2.out Tryz.underlying35 rfl SZT.out ?_) | (refine wpList_mid_wanted (by rfl) 35 _ rfl g2 0 rfl j.cells _ R32.out Tryz.underlying35 rfl SZJ.out ?_) | (go_at_call 7; (with_reducible refine (HOW.out _ HB1.out).mono ?_); rintro e w2 ⟨rfl, hb⟩; have HB2 := Lib.hid (bthen HB1.out hb); have H22 := Lib.hid (keep hb H2.out); have H32 := Lib.hid (keep hb H3.out); have R32 := Lib.hid (range_of (keep hb H3.out)); clear hb) | (go_at_call 38; (with_reducible refine (HTR.out _ HB2.out).mono ?_); rintro e w3 ⟨rfl, hb⟩; have HB3 := Lib.hid (bthen HB2.out hb); have H23 := Lib.hid (keep hb H22.out); have H33 := Lib.hid (keep hb H32.out); have ci := tx_ins (range_of (keep hb H32.out)); have ck := op_kind (tx_op (range_of (keep hb H32.out))); rw [Nat.zero_add] at ck; clear hb) | fail)
      go_ret
      exact ⟨by rw [HR1.out] <;> rfl, HB3.out⟩
end Go.Proofs.YtnjnomebcggccaaGreatDoor
