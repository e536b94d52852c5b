/- Law 7's same. -/
import Derived.Test.YtdaafeaeinomoaaDoorLaw7
namespace Go.Proofs.YtdaafeaeinomoaaDoor
open Go.RowKit

theorem Tryd.zeroWay : (Tryd.prog.info? 26).map (fun i => (i.zero, i.size, i.bytes)) = some (some (.agg noWay.cells.toArray), 35, 72) := by kernel_rfl
theorem step_alloc_way {ops : Array Oper} {o : Oper} {tmps : Array Value} {ds : List Deferred} {w : World} {K : Act → World → Prop} {Q : Exit → Act → World → Prop} {E : Prop} {d : Nat} (hd : o.dst = some d) (hw : Region.wanted o (yielded ops tmps) = true) (ho : o.op = .alloc 26)
    (h : ∀ p y, w.heap.size ≤ p → y.heap[p]? = some (.cells noWay.cells.toArray 26 (0, 0)) → Below w.heap.size w y → K { tmps := tmps.setIfInBounds d (.pointer (some ⟨p, 0, none⟩)), defers := ds } y) :
    if Region.wanted o (yielded ops tmps) = true then Oper.wp Tryd.prog o { tmps := tmps, defers := ds } w K Q else E := by
  rw [if_pos hw]
  obtain ⟨ie, h1, h2, h3, _⟩ := info_parts Tryd.zeroWay
  have hrun : (Instr.alloc 26 true (.tuple #[])).run Tryd.prog w = .ok (.pointer (some ⟨w.heap.size, 0, none⟩)) (w.alloc (.cells noWay.cells.toArray 26)) := by
    simp [Instr.alloc, zeroValue, typeInfo, h1, h2, newVar, newRow, Value.cells]
  unfold Oper.wp execOp
  simp only [ho, Sem.run_bind, hrun, Sem.run_pure, Result.andThen_ok]
  show K (Act.put _ o.dst _) _
  rw [hd]
  exact h _ _ (Nat.le_refl _) (heap_alloc_new _ _) ((Below.refl _ _).alloc (Nat.le_refl _) _)
/-- Two ways in blocks of their own. -/
structure Pair2W (w : World) (p q : Nat) (x y : PWay) (w' : World) : Prop where
  first : w'.heap[p]? = some (.cells x.cells.toArray 26 (0, 0))
  next : w'.heap[q]? = some (.cells y.cells.toArray 26 (0, 0))
  below : Below w.heap.size w w'
set_option linter.unusedSimpArgs false in
set_option maxRecDepth 100000 in
set_option maxHeartbeats 64000000 in
theorem same_law {w : World} {m m' : Int} {a b : Option Addr} {n c k d : Nat} {xs ys : List PWay} (h : Ways w a n c xs) (h' : Ways w b k d ys) :
    Calls Tryd.prog 18 #[.agg #[.int .i64 m, .slice a n c], .agg #[.int .i64 m', .slice b k d]] w fun e w' => e = .returned (.bool (decide (m = m') && alikeWs xs ys)) ∧ Below w.heap.size w w' := by
  have hn63 : (n : Int) ≤ 9223372036854775807 := by have h1 := h.2.1; have h2 := h.2.2.1; unfold maxLen at h2; omega
  have hk63 : (k : Int) ≤ 9223372036854775807 := by have h1 := h'.2.1; have h2 := h'.2.2.1; unfold maxLen at h2; omega
  have b1 : Below w.heap.size w ((w.alloc (.cells #[.int .i64 m, .slice a n c] 38)).alloc (.cells #[.int .i64 m', .slice b k d] 38)) := ((Below.refl _ _).alloc (Nat.le_refl _) _).alloc (by simp) _
  have h1 : ((w.alloc (.cells #[.int .i64 m, .slice a n c] 38)).alloc (.cells #[.int .i64 m', .slice b k d] 38)).heap[w.heap.size]? = some (.cells #[.int .i64 m, .slice a n c] 38 (0, 0)) := by
    rw [heap_alloc_old _ _ (by simp), heap_alloc_new]
  have h2 : ((w.alloc (.cells #[.int .i64 m, .slice a n c] 38)).alloc (.cells #[.int .i64 m', .slice b k d] 38)).heap[w.heap.size + 1]? = some (.cells #[.int .i64 m', .slice b k d] 38 (0, 0)) := heap_alloc_at _ _ _ (by simp)
  by_cases hm : m = m'
  · rw [decide_eq_true hm, Bool.true_and]
    have hmm : (m != m') = false := by simp [hm]
    by_cases hnk : n = k
    · have hnk' : ((n : Int) != (k : Int)) = false := by simp [hnk]
      obtain ⟨R, hR⟩ : ∃ R, R = alikeWs xs ys := ⟨_, rfl⟩
      rw [← hR]
      have HR := Lib.hid hR
      have H := Lib.hid (h.below b1)
      have H' := Lib.hid (h'.below b1)
      have HNK := Lib.hid hnk
      clear hR h h' hm hnk
      go_enter Tryd.func18, Tryd.ntmps18
      go_upto_region 1 with (fail)
      revert b1 h1 h2 H H'
      generalize ((w.alloc (.cells #[.int .i64 m, .slice a n c] 38)).alloc (.cells #[.int .i64 m', .slice b k d] 38)) = w1
      obtain ⟨g, hg⟩ : ∃ g, g = w.heap.size := ⟨_, rfl⟩
      rw [← hg]
      intro b1 h1 h2 H H'
      rw [hg] at b1
      have HB1 := Lib.hid b1
      have cm : w1.cell? ⟨g, 0, none⟩ = some (.int .i64 m) := by rw [cell_of_row _ _ _ _ _ _ h1]; rfl
      have c1 : w1.cell? ⟨g, 1, none⟩ = some (.slice a n c) := by rw [cell_of_row _ _ _ _ _ _ h1]; rfl
      have dm : w1.cell? ⟨g + 1, 0, none⟩ = some (.int .i64 m') := by rw [cell_of_row _ _ _ _ _ _ h2]; rfl
      have d1 : w1.cell? ⟨g + 1, 1, none⟩ = some (.slice b k d) := by rw [cell_of_row _ _ _ _ _ _ h2]; rfl
      have C1 := Lib.hid c1
      have D1 := Lib.hid d1
      have LG := Lib.hid (lt_of_block h1)
      have LG1 := Lib.hid (lt_of_block h2)
      clear b1 h1 h2 hg
      go_wp2_with fail
      clear cm c1 dm d1 hmm hnk'
      go_loopw [5] (fun i wr => ∃ j : Nat, j ≤ n ∧ i = .int .i64 j ∧ Below w1.heap.size w1 wr ∧ R = alikeWs (xs.drop j) (ys.drop j)) (fun i _ => n - (intOf i).toNat)
      case atStart => exact ⟨0, Nat.zero_le _, rfl, Below.refl _ _, HR.out⟩
      case round =>
        obtain ⟨j, hj, rfl, hb, hRj⟩ := hrel
        have HB := Lib.hid hb
        have HRJ := Lib.hid hRj
        have c1 := Lib.hid ((hb.cell (p := ⟨g, 1, none⟩) LG.out).trans C1.out)
        have d1 := Lib.hid ((hb.cell (p := ⟨g + 1, 1, none⟩) LG1.out).trans D1.out)
        have hltg : g < wr.heap.size := Nat.lt_of_lt_of_le LG.out hb.size
        have hltg1 : g + 1 < wr.heap.size := Nat.lt_of_lt_of_le LG1.out hb.size
        have HBA := Lib.hid (HB1.out.trans (hb.mono HB1.out.size))
        clear hb hRj HR
        by_cases hjn : j < n
        · have f1 : (j : Int) < (n : Int) := by omega
          have f1' : (j : Int) < (k : Int) := by have := HNK.out; omega
          have f0 : (0 : Int) ≤ (j : Int) := by omega
          have ft : ((j : Int)).toNat = j := by omega
          have hbx := HB.out
          obtain ⟨b1, o1, e1, hlt1, hc1⟩ := (H.out.below hbx).2.2.2.2.2 (by omega)
          obtain ⟨b2, o2, e2, hlt2, hc2⟩ := (H'.out.below hbx).2.2.2.2.2 (by omega)
          have hjk : j < k := by have := HNK.out; omega
          have hx := (H.out.below hbx).way hjn
          have hy := (H'.out.below hbx).way hjk
          have hrx := hc1 j hjn
          have hry := hc2 j hjk
          have hRj := HRJ.out
          rw [ways_drop (xs := xs) (by rw [H.out.1]; exact hjn), ways_drop (xs := ys) (by rw [H'.out.1]; exact hjk)] at hRj
          revert hx hy hrx hry hRj
          generalize xs.getD j noWay = x
          generalize ys.getD j noWay = y
          intro hx hy hrx hry hRj
          replace hRj : R = (alikeW x y && alikeWs (xs.drop (j + 1)) (ys.drop (j + 1))) := hRj
          subst e1
          subst e2
          have HRJ := Lib.hid hRj
          have RX := Lib.hid hrx
          have RY := Lib.hid hry
          have SX := Lib.hid (way_size hx.sum)
          have SY := Lib.hid (way_size hy.sum)
          have AX := Lib.hid (way_sizeA hx.sum)
          have AY := Lib.hid (way_sizeA hy.sum)
          have ZX := Lib.hid (way_zero hx.sum)
          have ZY := Lib.hid (way_zero hy.sum)
          have HX := Lib.hid hx
          have HY := Lib.hid hy
          have c1p := c1.out
          clear hc1 hc2 hrx hry hRj hx hy hbx H H' hjk
          go_upto_region 6 with (fail)
          clear c1p
          go_cut [6, 7] from 23 to 85 (fun u v w' => ∃ p q, u = .pointer (some ⟨p, 0, none⟩) ∧ v = .pointer (some ⟨q, 0, none⟩) ∧ Pair2W wr p q x y w')
          case first =>
            refine wp_region_held_drew (S := fun w' => Below wr.heap.size wr w') (by kernel_rfl) (below_drew (Below.refl _ _)) (fun hHeld => ?_)
            refine take_at (i := 0) (v := ?_) rfl rfl (by kernel_rfl) (by kernel_rfl) (by kernel_rfl) (fun _ _ _ h => h) (Or.inl ⟨by rfl, ?_⟩) (by assumption) ?_
            rotate_left
            · intro w0 hSw; (try dsimp only at hSw); first | (go_simp; done) | (go_simp; with_reducible rfl)
            simp only [List.setIfInBounds_toArray, List.set_cons_zero, List.set_cons_succ]
            refine take_at (i := 1) rfl rfl (by kernel_rfl) (by kernel_rfl) (by kernel_rfl) (fun _ _ _ h => h) (yields_cell (by rfl) rfl rfl (fun w0 hSw => (Below.cell hSw (p := ⟨g, 1, none⟩) hltg).trans c1.out) Tryd.isAgg36) (by assumption) ?_
            simp only [List.setIfInBounds_toArray, List.set_cons_zero, List.set_cons_succ]
            refine take_at (i := 2) (v := ?_) rfl rfl (by kernel_rfl) (by kernel_rfl) (by kernel_rfl) (fun _ _ _ h => h) (Or.inl ⟨by rfl, ?_⟩) (by assumption) ?_
            rotate_left
            · intro w0 hSw; (try dsimp only at hSw); first | (go_simp; done) | (go_simp; with_reducible rfl)
            simp only [List.setIfInBounds_toArray, List.set_cons_zero, List.set_cons_succ]
            refine take_at (i := 3) (v := ?_) rfl rfl (by kernel_rfl) (by kernel_rfl) (by kernel_rfl) (fun _ _ _ h => h) (Or.inl ⟨by rfl, ?_⟩) (by assumption) ?_
            rotate_left
            · intro w0 hSw; (try dsimp only at hSw); first | (go_simp; done) | (go_simp; with_reducible rfl)
            simp only [List.setIfInBounds_toArray, List.set_cons_zero, List.set_cons_succ]
            refine take_at (i := 4) rfl rfl (by kernel_rfl) (by kernel_rfl) (by kernel_rfl) (fun _ _ _ h => h) (yieldsIf_load_mid (by rfl) _ _ rfl b1 (o1 + j * 35) rfl x.cells _ (fun w0 hSw => rangeAt_below RX.out hlt1 hSw) Tryd.underlying26 rfl SX.out) (by assumption) ?_
            simp only [List.setIfInBounds_toArray, List.set_cons_zero, List.set_cons_succ]
            refine take_at (i := 5) (v := ?_) rfl rfl (by kernel_rfl) (by kernel_rfl) (by kernel_rfl) (fun _ _ _ h => h) (Or.inl ⟨by rfl, ?_⟩) (by assumption) ?_
            rotate_left
            · intro w0 hSw; (try dsimp only at hSw); first | (go_simp; done) | (go_simp; with_reducible rfl)
            simp only [List.setIfInBounds_toArray, List.set_cons_zero, List.set_cons_succ]
            refine take_at (i := 6) rfl rfl (by kernel_rfl) (by kernel_rfl) (by kernel_rfl) (fun _ _ _ h => h) (yields_cell (by rfl) rfl rfl (fun w0 hSw => (Below.cell hSw (p := ⟨(g + 1), 1, none⟩) hltg1).trans d1.out) Tryd.isAgg36) (by assumption) ?_
            simp only [List.setIfInBounds_toArray, List.set_cons_zero, List.set_cons_succ]
            refine take_at (i := 7) (v := ?_) rfl rfl (by kernel_rfl) (by kernel_rfl) (by kernel_rfl) (fun _ _ _ h => h) (Or.inl ⟨by rfl, ?_⟩) (by assumption) ?_
            rotate_left
            · intro w0 hSw; (try dsimp only at hSw); first | (go_simp; done) | (go_simp; with_reducible rfl)
            simp only [List.setIfInBounds_toArray, List.set_cons_zero, List.set_cons_succ]
            refine take_at (i := 8) (v := ?_) rfl rfl (by kernel_rfl) (by kernel_rfl) (by kernel_rfl) (fun _ _ _ h => h) (Or.inl ⟨by rfl, ?_⟩) (by assumption) ?_
            rotate_left
            · intro w0 hSw; (try dsimp only at hSw); first | (go_simp; done) | (go_simp; with_reducible rfl)
            simp only [List.setIfInBounds_toArray, List.set_cons_zero, List.set_cons_succ]
            refine take_at (i := 9) rfl rfl (by kernel_rfl) (by kernel_rfl) (by kernel_rfl) (fun _ _ _ h => h) (yieldsIf_load_mid (by rfl) _ _ rfl b2 (o2 + j * 35) rfl y.cells _ (fun w0 hSw => rangeAt_below RY.out hlt2 hSw) Tryd.underlying26 rfl SY.out) (by assumption) ?_
            simp only [List.setIfInBounds_toArray, List.set_cons_zero, List.set_cons_succ]
            refine wpAnyH_ready (rs := [10, 11]) (by kernel_rfl) (by simp) ?_
            refine AllReadyH.cons rfl (fun K hK => ?_) ?_
            · refine step_alloc_way (d := 6) rfl (by rfl) rfl ?_
              intro p10 y10 hg10 hz10 hb10
              have HZ10 := Lib.hid hz10
              have HB10 := Lib.hid hb10
              have HGE10 : Hid (wr.heap.size ≤ p10) := Lib.hid (Nat.le_trans (Below.size hHeld) hg10)
              have HPG10 := Lib.hid hg10
              clear hg10 hz10 hb10
              refine hK.out _ _ (by (try dsimp only); exact Below.trans hHeld (HB10.out.mono (Below.size hHeld))) (fun hHeld => ?_)
              clear hK K
              refine wpAnyH_ready (rs := [11]) (by kernel_rfl) (by simp) ?_
              refine AllReadyH.cons rfl (fun K hK => ?_) ?_
              · refine step_alloc_way (d := 7) rfl (by rfl) rfl ?_
                intro p11 y11 hg11 hz11 hb11
                have HZ11 := Lib.hid hz11
                have HB11 := Lib.hid hb11
                have HGE11 : Hid (wr.heap.size ≤ p11) := Lib.hid (Nat.le_trans (Below.size hHeld) hg11)
                have HPG11 := Lib.hid hg11
                clear hg11 hz11 hb11
                refine hK.out _ _ (by (try dsimp only); exact Below.trans hHeld (HB11.out.mono (Below.size hHeld))) (fun hHeld => ?_)
                clear hK K
                refine wpAnyH_ready (rs := [12]) (by kernel_rfl) (by simp) ?_
                refine AllReadyH.cons rfl (fun K hK => ?_) ?_
                · have hp : y11.heap[p10]? = some (.cells noWay.cells.toArray 26 (0, 0)) := (HB11.out.block _ (lt_of_block HZ10.out)).trans HZ10.out
                  have hq : y11.heap[p11]? = some (.cells noWay.cells.toArray 26 (0, 0)) := HZ11.out
                  have hne : p10 ≠ p11 := by have h0 := lt_of_block HZ10.out; have h1 := HPG11.out; omega
                  have hbF : Below wr.heap.size wr y11 := hHeld
                  have HNE := Lib.hid hne
                  have HP := Lib.hid hp
                  have HQ := Lib.hid ((setRow_other y11 p10 p11 x.cells.toArray hne.symm).trans hq)
                  have b12 : Below wr.heap.size wr (y11.setRow p10 x.cells.toArray) := hbF.trans (((but_setRow _ p10 _).mono hbF.size).below HGE10.out)
                  have HB12 := Lib.hid b12
                  have HX12 := Lib.hid (setRow_heap y11 p10 _ x.cells.toArray 26 (0, 0) hp)
                  clear hq b12 hbF hne
                  rw [if_pos (by rfl)]
                  refine wp_store_row 26 _ _ rfl p10 x.cells.toArray rfl rfl 26 noWay.cells.toArray hp AX.out ZX.out (all_oneCell_toArray x.cells_one) ?_
                  clear hp
                  revert HQ HB12 HX12
                  generalize y11.setRow p10 x.cells.toArray = y12
                  intro HQ HB12 HX12
                  refine hK.out _ _ (by (try dsimp only); exact HB12.out) (fun hHeld => ?_)
                  clear hK K
                  refine wpAnyH_ready (rs := [13]) (by kernel_rfl) (by simp) ?_
                  refine AllReadyH.cons rfl (fun K hK => ?_) ?_
                  · have HP2 : Hid (Pair2W wr p10 p11 x y (y12.setRow p11 y.cells.toArray)) := Lib.hid ⟨(setRow_other y12 p11 p10 y.cells.toArray HNE.out).trans HX12.out, setRow_heap y12 p11 _ y.cells.toArray 26 (0, 0) HQ.out, HB12.out.trans (((but_setRow _ p11 _).mono HB12.out.size).below HGE11.out)⟩
                    rw [if_pos (by rfl)]
                    refine wp_store_row 26 _ _ rfl p11 y.cells.toArray rfl rfl 26 noWay.cells.toArray HQ.out AY.out ZY.out (all_oneCell_toArray y.cells_one) ?_
                    refine hK.out _ _ (by (try dsimp only); exact HP2.out.below) (fun hHeld => ?_)
                    clear hK K
                    refine wpAnyH_done (by kernel_rfl) ?_ _
                    clear hHeld
                    go_wp2_with fail
                    go_meet
                    exact ⟨p10, p11, rfl, rfl, HP2.out⟩
                  exact AllReadyH.nil
                exact AllReadyH.nil
              exact AllReadyH.nil
            refine AllReadyH.cons rfl (fun K hK => ?_) ?_
            · refine step_alloc_way (d := 7) rfl (by rfl) rfl ?_
              intro p11 y11 hg11 hz11 hb11
              have HZ11 := Lib.hid hz11
              have HB11 := Lib.hid hb11
              have HGE11 : Hid (wr.heap.size ≤ p11) := Lib.hid (Nat.le_trans (Below.size hHeld) hg11)
              have HPG11 := Lib.hid hg11
              clear hg11 hz11 hb11
              refine hK.out _ _ (by (try dsimp only); exact Below.trans hHeld (HB11.out.mono (Below.size hHeld))) (fun hHeld => ?_)
              clear hK K
              refine wpAnyH_ready (rs := [10]) (by kernel_rfl) (by simp) ?_
              refine AllReadyH.cons rfl (fun K hK => ?_) ?_
              · refine step_alloc_way (d := 6) rfl (by rfl) rfl ?_
                intro p10 y10 hg10 hz10 hb10
                have HZ10 := Lib.hid hz10
                have HB10 := Lib.hid hb10
                have HGE10 : Hid (wr.heap.size ≤ p10) := Lib.hid (Nat.le_trans (Below.size hHeld) hg10)
                have HPG10 := Lib.hid hg10
                clear hg10 hz10 hb10
                refine hK.out _ _ (by (try dsimp only); exact Below.trans hHeld (HB10.out.mono (Below.size hHeld))) (fun hHeld => ?_)
                clear hK K
                refine wpAnyH_ready (rs := [12]) (by kernel_rfl) (by simp) ?_
                refine AllReadyH.cons rfl (fun K hK => ?_) ?_
                · have hp : y10.heap[p10]? = some (.cells noWay.cells.toArray 26 (0, 0)) := HZ10.out
                  have hq : y10.heap[p11]? = some (.cells noWay.cells.toArray 26 (0, 0)) := (HB10.out.block _ (lt_of_block HZ11.out)).trans HZ11.out
                  have hne : p10 ≠ p11 := by have h0 := lt_of_block HZ11.out; have h1 := HPG10.out; omega
                  have hbF : Below wr.heap.size wr y10 := hHeld
                  have HNE := Lib.hid hne
                  have HP := Lib.hid hp
                  have HQ := Lib.hid ((setRow_other y10 p10 p11 x.cells.toArray hne.symm).trans hq)
                  have b12 : Below wr.heap.size wr (y10.setRow p10 x.cells.toArray) := hbF.trans (((but_setRow _ p10 _).mono hbF.size).below HGE10.out)
                  have HB12 := Lib.hid b12
                  have HX12 := Lib.hid (setRow_heap y10 p10 _ x.cells.toArray 26 (0, 0) hp)
                  clear hq b12 hbF hne
                  rw [if_pos (by rfl)]
                  refine wp_store_row 26 _ _ rfl p10 x.cells.toArray rfl rfl 26 noWay.cells.toArray hp AX.out ZX.out (all_oneCell_toArray x.cells_one) ?_
                  clear hp
                  revert HQ HB12 HX12
                  generalize y10.setRow p10 x.cells.toArray = y12
                  intro HQ HB12 HX12
                  refine hK.out _ _ (by (try dsimp only); exact HB12.out) (fun hHeld => ?_)
                  clear hK K
                  refine wpAnyH_ready (rs := [13]) (by kernel_rfl) (by simp) ?_
                  refine AllReadyH.cons rfl (fun K hK => ?_) ?_
                  · have HP2 : Hid (Pair2W wr p10 p11 x y (y12.setRow p11 y.cells.toArray)) := Lib.hid ⟨(setRow_other y12 p11 p10 y.cells.toArray HNE.out).trans HX12.out, setRow_heap y12 p11 _ y.cells.toArray 26 (0, 0) HQ.out, HB12.out.trans (((but_setRow _ p11 _).mono HB12.out.size).below HGE11.out)⟩
                    rw [if_pos (by rfl)]
                    refine wp_store_row 26 _ _ rfl p11 y.cells.toArray rfl rfl 26 noWay.cells.toArray HQ.out AY.out ZY.out (all_oneCell_toArray y.cells_one) ?_
                    refine hK.out _ _ (by (try dsimp only); exact HP2.out.below) (fun hHeld => ?_)
                    clear hK K
                    refine wpAnyH_done (by kernel_rfl) ?_ _
                    clear hHeld
                    go_wp2_with fail
                    go_meet
                    exact ⟨p10, p11, rfl, rfl, HP2.out⟩
                  exact AllReadyH.nil
                exact AllReadyH.nil
              exact AllReadyH.nil
            exact AllReadyH.nil
          case rest =>
            obtain ⟨p, q, rfl, rfl, hp2⟩ := hcut
            have hrp := range_of hp2.first
            have hrq := range_of hp2.next
            have HXC := Lib.hid (HX.out.below hp2.below)
            have HYC := Lib.hid (HY.out.below hp2.below)
            have HBC := Lib.hid (HB.out.trans (hp2.below.mono HB.out.size))
            have hltp := lt_of_block hp2.first
            have hltq := lt_of_block hp2.next
            have cp0 := way_keys hrp
            have cp1 := way_after HX.out.sum hrp
            have cp2 := way_wait HX.out.sum hrp
            have cq0 := way_keys hrq
            have cq1 := way_after HY.out.sum hrq
            have cq2 := way_wait HY.out.sum hrq
            have RXH := Lib.hid (way_sum HX.out.sum hrp)
            have RYH := Lib.hid (way_sum HY.out.sum hrq)
            rw [Nat.zero_add] at cp1 cp2 cq1 cq2 RXH RYH
            have SXH := Lib.hid (sumLen HX.out.sum)
            have SYH := Lib.hid (sumLen HY.out.sum)
            obtain ⟨r2, hr2⟩ : ∃ r, decide (x.h = y.h) = r := ⟨_, rfl⟩
            have q2 : ∀ W : World, (Op.equalIn 10000 24 (.agg (cellsOf x.h).toArray) (.agg (cellsOf y.h).toArray)).run Tryd.prog W = .ok r2 W := fun W => by rw [← hr2]; exact run_eqSums _ _ HX.out.sum HY.out.sum W
            have hRu : R = ((decide (x.ks = y.ks) && (r2 && (decide (x.after = y.after) && decide (x.wait = y.wait)))) && alikeWs (xs.drop (j + 1)) (ys.drop (j + 1))) := by rw [← hr2]; exact HRJ.out
            have hx63 : (x.n : Int) ≤ 9223372036854775807 := by have h1 := HX.out.keys.2.1; have h2 := HX.out.keys.2.2.1; unfold maxLen at h2; omega
            have hy63 : (y.n : Int) ≤ 9223372036854775807 := by have h1 := HY.out.keys.2.1; have h2 := HY.out.keys.2.2.1; unfold maxLen at h2; omega
            have HRU := Lib.hid hRu
            clear hRu hr2 hp2 hrp hrq HRJ
            have HBD := Lib.hid (HB1.out.trans (HBC.out.mono HB1.out.size))
            cases r2
            · have hRf : R = false := by rw [HRU.out]; simp
              subst hRf
              go_wp2_with (first | (refine wpList_load_mid rfl 24 _ rfl p 1 rfl (cellsOf x.h) _ RXH.out Tryd.underlying24 rfl SXH.out ?_) | (refine wpList_load_mid rfl 24 _ rfl q 1 rfl (cellsOf y.h) _ RYH.out Tryd.underlying24 rfl SYH.out ?_) | fail)
              go_ret
              exact ⟨rfl, HBD.out⟩
            · by_cases ha : x.after = y.after
              · have ha' : (x.after != y.after) = false := by simp [ha]
                by_cases hw : x.wait = y.wait
                · have hw' : (x.wait != y.wait) = false := by simp [hw]
                  by_cases hl : x.n = y.n
                  · have hl' : ((x.n : Int) != (y.n : Int)) = false := by simp [hl]
                    have HHL := Lib.hid hl
                    have hRe : R = (decide (x.ks = y.ks) && alikeWs (xs.drop (j + 1)) (ys.drop (j + 1))) := by rw [HRU.out, decide_eq_true ha, decide_eq_true hw]; simp
                    have HRE := Lib.hid hRe
                    clear ha hw hl hRe HRU
                    go_wp2_with (first | (refine wpList_load_mid rfl 24 _ rfl p 1 rfl (cellsOf x.h) _ RXH.out Tryd.underlying24 rfl SXH.out ?_) | (refine wpList_load_mid rfl 24 _ rfl q 1 rfl (cellsOf y.h) _ RYH.out Tryd.underlying24 rfl SYH.out ?_) | fail)
                    have CP0 := Lib.hid cp0
                    have CQ0 := Lib.hid cq0
                    clear cp0 cp1 cp2 cq0 cq1 cq2 RXH RYH q2 ha' hw' hl'
                    obtain ⟨wv, hwv⟩ : ∃ v, v = wc := ⟨_, rfl⟩
                    go_loopw [8] (fun i wr => ∃ k : Nat, k ≤ x.n ∧ i = .int .i64 k ∧ Below wc.heap.size wc wr ∧ decide (x.ks = y.ks) = decide (x.ks.drop k = y.ks.drop k)) (fun i _ => x.n - (intOf i).toNat)
                    case atStart => exact ⟨0, Nat.zero_le _, rfl, Below.refl _ _, rfl⟩
                    case round =>
                      obtain ⟨k', hk', rfl, hbk, hE⟩ := hrel
                      have HBK := Lib.hid hbk
                      have HEK := Lib.hid hE
                      have hltp' : p < wr.heap.size := Nat.lt_of_lt_of_le hltp hbk.size
                      have hltq' : q < wr.heap.size := Nat.lt_of_lt_of_le hltq hbk.size
                      have cp := (hbk.cell (p := ⟨p, 0, none⟩) hltp).trans CP0.out
                      have hxk := HXC.out.below hbk
                      have hyk := HYC.out.below hbk
                      clear hbk hE
                      by_cases hkn : k' < x.n
                      · have g1 : (k' : Int) < (x.n : Int) := by omega
                        have g1' : (k' : Int) < (y.n : Int) := by have := HHL.out; omega
                        have g0 : (0 : Int) ≤ (k' : Int) := by omega
                        have gt : ((k' : Int)).toNat = k' := by omega
                        have hky : k' < y.n := by have := HHL.out; omega
                        obtain ⟨b3, o3, e3, hlt3, hc3⟩ := hxk.keys.2.2.2.2.2 (by omega)
                        obtain ⟨b4, o4, e4, hlt4, hc4⟩ := hyk.keys.2.2.2.2.2 (by omega)
                        have cz := hc3 k' hkn
                        have cy := hc4 k' hky
                        have hEE := HEK.out
                        rw [drop_cons (zs := x.ks) (by rw [hxk.keys.1]; exact hkn), drop_cons (zs := y.ks) (by rw [hyk.keys.1]; exact hky)] at hEE
                        revert cz cy hEE
                        generalize x.ks.getD k' 0 = z1
                        generalize y.ks.getD k' 0 = z2
                        intro cz cy hEE
                        have CZ := Lib.hid cz
                        have CY := Lib.hid cy
                        have HEE := Lib.hid hEE
                        have CQ := Lib.hid (((HBK.out).cell (p := ⟨q, 0, none⟩) hltq).trans CQ0.out)
                        have E3 := Lib.hid e3
                        have E4 := Lib.hid e4
                        clear hc3 hc4 cz cy hEE e3 e4 HEK hxk hyk
                        go_upto_region 12 with (fail)
                        have CP : Hid (wr.cell? ⟨p, 0, none⟩ = some (.slice (some ⟨b3, o3, none⟩) x.n x.c)) := Lib.hid (by rw [← E3.out]; exact cp)
                        have CQ' : Hid (wr.cell? ⟨q, 0, none⟩ = some (.slice (some ⟨b4, o4, none⟩) y.n y.c)) := Lib.hid (by rw [← E4.out]; exact CQ.out)
                        clear cp CQ E3 E4
                        by_cases hz : z1 = z2
                        · have hz' : (z1 != z2) = false := by simp [hz]
                          have hNE : decide (x.ks = y.ks) = decide (x.ks.drop (k' + 1) = y.ks.drop (k' + 1)) := by rw [HEE.out, hz]; simp
                          have HNE := Lib.hid hNE
                          clear hz hNE HEE
                          refine wp_region_held_drew (S := fun w' => Below wr.heap.size wr w') (by kernel_rfl) (below_drew (Below.refl _ _)) (fun hHeld => ?_)
                          refine take_at (i := 0) (v := ?_) rfl rfl (by kernel_rfl) (by kernel_rfl) (by kernel_rfl) (fun _ _ _ h => h) (Or.inl ⟨by rfl, ?_⟩) (by assumption) ?_
                          rotate_left
                          · intro w0 hSw; (try dsimp only at hSw); first | (go_simp; done) | (go_simp; with_reducible rfl)
                          simp only [List.setIfInBounds_toArray, List.set_cons_zero, List.set_cons_succ]
                          refine take_at (i := 1) rfl rfl (by kernel_rfl) (by kernel_rfl) (by kernel_rfl) (fun _ _ _ h => h) (yields_cell (by rfl) rfl rfl (fun w0 hSw => (Below.cell hSw (p := ⟨p, 0, none⟩) hltp').trans CP.out) Tryd.isAgg22) (by assumption) ?_
                          simp only [List.setIfInBounds_toArray, List.set_cons_zero, List.set_cons_succ]
                          refine take_at (i := 2) (v := ?_) rfl rfl (by kernel_rfl) (by kernel_rfl) (by kernel_rfl) (fun _ _ _ h => h) (Or.inl ⟨by rfl, ?_⟩) (by assumption) ?_
                          rotate_left
                          · intro w0 hSw; (try dsimp only at hSw); first | (go_simp; done) | (go_simp; with_reducible rfl)
                          simp only [List.setIfInBounds_toArray, List.set_cons_zero, List.set_cons_succ]
                          refine take_at (i := 3) (v := ?_) rfl rfl (by kernel_rfl) (by kernel_rfl) (by kernel_rfl) (fun _ _ _ h => h) (Or.inl ⟨by rfl, ?_⟩) (by assumption) ?_
                          rotate_left
                          · intro w0 hSw; (try dsimp only at hSw); first | (go_simp; done) | (go_simp; with_reducible rfl)
                          simp only [List.setIfInBounds_toArray, List.set_cons_zero, List.set_cons_succ]
                          refine take_at (i := 4) rfl rfl (by kernel_rfl) (by kernel_rfl) (by kernel_rfl) (fun _ _ _ h => h) (yields_cell (by rfl) rfl rfl (fun w0 hSw => (Below.cell hSw (p := ⟨b3, o3 + k', none⟩) hlt3).trans CZ.out) Tryd.isAgg3) (by assumption) ?_
                          simp only [List.setIfInBounds_toArray, List.set_cons_zero, List.set_cons_succ]
                          refine take_at (i := 5) (v := ?_) rfl rfl (by kernel_rfl) (by kernel_rfl) (by kernel_rfl) (fun _ _ _ h => h) (Or.inl ⟨by rfl, ?_⟩) (by assumption) ?_
                          rotate_left
                          · intro w0 hSw; (try dsimp only at hSw); first | (go_simp; done) | (go_simp; with_reducible rfl)
                          simp only [List.setIfInBounds_toArray, List.set_cons_zero, List.set_cons_succ]
                          refine take_at (i := 6) rfl rfl (by kernel_rfl) (by kernel_rfl) (by kernel_rfl) (fun _ _ _ h => h) (yields_cell (by rfl) rfl rfl (fun w0 hSw => (Below.cell hSw (p := ⟨q, 0, none⟩) hltq').trans CQ'.out) Tryd.isAgg22) (by assumption) ?_
                          simp only [List.setIfInBounds_toArray, List.set_cons_zero, List.set_cons_succ]
                          refine take_at (i := 7) (v := ?_) rfl rfl (by kernel_rfl) (by kernel_rfl) (by kernel_rfl) (fun _ _ _ h => h) (Or.inl ⟨by rfl, ?_⟩) (by assumption) ?_
                          rotate_left
                          · intro w0 hSw; (try dsimp only at hSw); first | (go_simp; done) | (go_simp; with_reducible rfl)
                          simp only [List.setIfInBounds_toArray, List.set_cons_zero, List.set_cons_succ]
                          refine take_at (i := 8) (v := ?_) rfl rfl (by kernel_rfl) (by kernel_rfl) (by kernel_rfl) (fun _ _ _ h => h) (Or.inl ⟨by rfl, ?_⟩) (by assumption) ?_
                          rotate_left
                          · intro w0 hSw; (try dsimp only at hSw); first | (go_simp; done) | (go_simp; with_reducible rfl)
                          simp only [List.setIfInBounds_toArray, List.set_cons_zero, List.set_cons_succ]
                          refine take_at (i := 9) rfl rfl (by kernel_rfl) (by kernel_rfl) (by kernel_rfl) (fun _ _ _ h => h) (yields_cell (by rfl) rfl rfl (fun w0 hSw => (Below.cell hSw (p := ⟨b4, o4 + k', none⟩) hlt4).trans CY.out) Tryd.isAgg3) (by assumption) ?_
                          simp only [List.setIfInBounds_toArray, List.set_cons_zero, List.set_cons_succ]
                          refine take_at (i := 10) (v := .bool false) rfl rfl (by kernel_rfl) (by kernel_rfl) (by kernel_rfl) (fun _ _ _ h => h) (Or.inl ⟨by rfl, ?_⟩) (by assumption) ?_
                          · intro w0 hSw; (try dsimp only at hSw); first | (go_simp; done) | (go_simp; with_reducible rfl) | (go_simp; omega)
                          simp only [List.setIfInBounds_toArray, List.set_cons_zero, List.set_cons_succ]
                          refine wpAnyH_done (by kernel_rfl) ?_ _
                          have HS6 := Lib.hid (show Below wr.heap.size wr wr.drew from hHeld)
                          clear hHeld
                          go_wp2_with fail
                          go_roundw
                          case rel => exact ⟨k' + 1, by omega, by go_num, HBK.out.trans (HS6.out.mono HBK.out.size), HNE.out⟩
                          case measure => simp [intOf]; omega
                        · have hz' : (z1 != z2) = true := by simp [hz]
                          have hRf : R = false := by rw [HRE.out, HEE.out]; simp [hz]
                          clear hz HEE
                          subst hRf
                          refine wp_region_held_drew (S := fun w' => Below wr.heap.size wr w') (by kernel_rfl) (below_drew (Below.refl _ _)) (fun hHeld => ?_)
                          refine take_at (i := 0) (v := ?_) rfl rfl (by kernel_rfl) (by kernel_rfl) (by kernel_rfl) (fun _ _ _ h => h) (Or.inl ⟨by rfl, ?_⟩) (by assumption) ?_
                          rotate_left
                          · intro w0 hSw; (try dsimp only at hSw); first | (go_simp; done) | (go_simp; with_reducible rfl)
                          simp only [List.setIfInBounds_toArray, List.set_cons_zero, List.set_cons_succ]
                          refine take_at (i := 1) rfl rfl (by kernel_rfl) (by kernel_rfl) (by kernel_rfl) (fun _ _ _ h => h) (yields_cell (by rfl) rfl rfl (fun w0 hSw => (Below.cell hSw (p := ⟨p, 0, none⟩) hltp').trans CP.out) Tryd.isAgg22) (by assumption) ?_
                          simp only [List.setIfInBounds_toArray, List.set_cons_zero, List.set_cons_succ]
                          refine take_at (i := 2) (v := ?_) rfl rfl (by kernel_rfl) (by kernel_rfl) (by kernel_rfl) (fun _ _ _ h => h) (Or.inl ⟨by rfl, ?_⟩) (by assumption) ?_
                          rotate_left
                          · intro w0 hSw; (try dsimp only at hSw); first | (go_simp; done) | (go_simp; with_reducible rfl)
                          simp only [List.setIfInBounds_toArray, List.set_cons_zero, List.set_cons_succ]
                          refine take_at (i := 3) (v := ?_) rfl rfl (by kernel_rfl) (by kernel_rfl) (by kernel_rfl) (fun _ _ _ h => h) (Or.inl ⟨by rfl, ?_⟩) (by assumption) ?_
                          rotate_left
                          · intro w0 hSw; (try dsimp only at hSw); first | (go_simp; done) | (go_simp; with_reducible rfl)
                          simp only [List.setIfInBounds_toArray, List.set_cons_zero, List.set_cons_succ]
                          refine take_at (i := 4) rfl rfl (by kernel_rfl) (by kernel_rfl) (by kernel_rfl) (fun _ _ _ h => h) (yields_cell (by rfl) rfl rfl (fun w0 hSw => (Below.cell hSw (p := ⟨b3, o3 + k', none⟩) hlt3).trans CZ.out) Tryd.isAgg3) (by assumption) ?_
                          simp only [List.setIfInBounds_toArray, List.set_cons_zero, List.set_cons_succ]
                          refine take_at (i := 5) (v := ?_) rfl rfl (by kernel_rfl) (by kernel_rfl) (by kernel_rfl) (fun _ _ _ h => h) (Or.inl ⟨by rfl, ?_⟩) (by assumption) ?_
                          rotate_left
                          · intro w0 hSw; (try dsimp only at hSw); first | (go_simp; done) | (go_simp; with_reducible rfl)
                          simp only [List.setIfInBounds_toArray, List.set_cons_zero, List.set_cons_succ]
                          refine take_at (i := 6) rfl rfl (by kernel_rfl) (by kernel_rfl) (by kernel_rfl) (fun _ _ _ h => h) (yields_cell (by rfl) rfl rfl (fun w0 hSw => (Below.cell hSw (p := ⟨q, 0, none⟩) hltq').trans CQ'.out) Tryd.isAgg22) (by assumption) ?_
                          simp only [List.setIfInBounds_toArray, List.set_cons_zero, List.set_cons_succ]
                          refine take_at (i := 7) (v := ?_) rfl rfl (by kernel_rfl) (by kernel_rfl) (by kernel_rfl) (fun _ _ _ h => h) (Or.inl ⟨by rfl, ?_⟩) (by assumption) ?_
                          rotate_left
                          · intro w0 hSw; (try dsimp only at hSw); first | (go_simp; done) | (go_simp; with_reducible rfl)
                          simp only [List.setIfInBounds_toArray, List.set_cons_zero, List.set_cons_succ]
                          refine take_at (i := 8) (v := ?_) rfl rfl (by kernel_rfl) (by kernel_rfl) (by kernel_rfl) (fun _ _ _ h => h) (Or.inl ⟨by rfl, ?_⟩) (by assumption) ?_
                          rotate_left
                          · intro w0 hSw; (try dsimp only at hSw); first | (go_simp; done) | (go_simp; with_reducible rfl)
                          simp only [List.setIfInBounds_toArray, List.set_cons_zero, List.set_cons_succ]
                          refine take_at (i := 9) rfl rfl (by kernel_rfl) (by kernel_rfl) (by kernel_rfl) (fun _ _ _ h => h) (yields_cell (by rfl) rfl rfl (fun w0 hSw => (Below.cell hSw (p := ⟨b4, o4 + k', none⟩) hlt4).trans CY.out) Tryd.isAgg3) (by assumption) ?_
                          simp only [List.setIfInBounds_toArray, List.set_cons_zero, List.set_cons_succ]
                          refine take_at (i := 10) (v := .bool true) rfl rfl (by kernel_rfl) (by kernel_rfl) (by kernel_rfl) (fun _ _ _ h => h) (Or.inl ⟨by rfl, ?_⟩) (by assumption) ?_
                          · intro w0 hSw; (try dsimp only at hSw); first | (go_simp; done) | (go_simp; with_reducible rfl) | (go_simp; omega)
                          simp only [List.setIfInBounds_toArray, List.set_cons_zero, List.set_cons_succ]
                          refine wpAnyH_done (by kernel_rfl) ?_ _
                          have HS6 := Lib.hid (show Below wr.heap.size wr wr.drew from hHeld)
                          clear hHeld
                          go_wp2_with fail
                          go_ret
                          exact ⟨rfl, HBD.out.trans ((HBK.out.trans (HS6.out.mono HBK.out.size)).mono HBD.out.size)⟩
                      · have g1 : ¬ ((k' : Int) < (x.n : Int)) := by omega
                        have e1 : x.ks.drop k' = [] := List.drop_of_length_le (by rw [hxk.keys.1]; omega)
                        have e2 : y.ks.drop k' = [] := List.drop_of_length_le (by rw [hyk.keys.1]; have := HHL.out; omega)
                        have hRN : R = alikeWs (xs.drop (j + 1)) (ys.drop (j + 1)) := by rw [HRE.out, HEK.out, e1, e2]; simp
                        have HRN := Lib.hid hRN
                        have HBW := Lib.hid (HBC.out.trans (HBK.out.mono HBC.out.size))
                        clear e1 e2 hRN HEK hxk hyk
                        go_wp2_with fail
                        go_roundw
                        case rel => exact ⟨j + 1, by omega, by go_num, HBW.out, HRN.out⟩
                        case measure => simp [intOf]; omega
                  · have hl' : ((x.n : Int) != (y.n : Int)) = true := by simp; omega
                    have hRf : R = false := by rw [HRU.out, decide_eq_false (show ¬ x.ks = y.ks from fun e => hl (by rw [← HXC.out.keys.1, ← HYC.out.keys.1, e]))]; simp
                    subst hRf
                    clear ha hw hl HRU
                    go_wp2_with (first | (refine wpList_load_mid rfl 24 _ rfl p 1 rfl (cellsOf x.h) _ RXH.out Tryd.underlying24 rfl SXH.out ?_) | (refine wpList_load_mid rfl 24 _ rfl q 1 rfl (cellsOf y.h) _ RYH.out Tryd.underlying24 rfl SYH.out ?_) | fail)
                    go_ret
                    exact ⟨rfl, HBD.out⟩
                · have hw' : (x.wait != y.wait) = true := by simp [hw]
                  have hRf : R = false := by rw [HRU.out, decide_eq_false hw]; simp
                  subst hRf
                  clear ha hw HRU
                  go_wp2_with (first | (refine wpList_load_mid rfl 24 _ rfl p 1 rfl (cellsOf x.h) _ RXH.out Tryd.underlying24 rfl SXH.out ?_) | (refine wpList_load_mid rfl 24 _ rfl q 1 rfl (cellsOf y.h) _ RYH.out Tryd.underlying24 rfl SYH.out ?_) | fail)
                  go_ret
                  exact ⟨rfl, HBD.out⟩
              · have ha' : (x.after != y.after) = true := by simp [ha]
                have hRf : R = false := by rw [HRU.out, decide_eq_false ha]; simp
                subst hRf
                clear ha HRU
                go_wp2_with (first | (refine wpList_load_mid rfl 24 _ rfl p 1 rfl (cellsOf x.h) _ RXH.out Tryd.underlying24 rfl SXH.out ?_) | (refine wpList_load_mid rfl 24 _ rfl q 1 rfl (cellsOf y.h) _ RYH.out Tryd.underlying24 rfl SYH.out ?_) | fail)
                go_ret
                exact ⟨rfl, HBD.out⟩
        · have f1 : ¬ ((j : Int) < (n : Int)) := by omega
          have e1 : xs.drop j = [] := List.drop_of_length_le (by rw [H.out.1]; omega)
          have e2 : ys.drop j = [] := List.drop_of_length_le (by rw [H'.out.1]; have := HNK.out; omega)
          have hRt : R = true := by rw [HRJ.out, e1, e2]; rfl
          subst hRt
          have c1u := c1.out
          clear e1 e2 HRJ
          go_wp2
          go_ret
          exact ⟨rfl, HBA.out⟩
    · have hnk' : ((n : Int) != (k : Int)) = true := by simp; omega
      rw [alikeWs_len (by rw [h.1, h'.1]; exact hnk)]
      clear h h' hm hnk h1 h2
      go_enter Tryd.func18, Tryd.ntmps18
      go_wp2
      go_ret
      exact ⟨rfl, b1⟩
  · have hmm : (m != m') = true := by simp [hm]
    rw [decide_eq_false hm, Bool.false_and]
    clear h h' hm h1 h2
    go_enter Tryd.func18, Tryd.ntmps18
    go_wp2
    go_ret
    exact ⟨rfl, b1⟩
end Go.Proofs.YtdaafeaeinomoaaDoor
