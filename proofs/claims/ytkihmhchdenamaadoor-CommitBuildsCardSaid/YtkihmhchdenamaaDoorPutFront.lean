/- What tx.putFront comes to: a transaction's front is written. -/
import Derived.Test.YtkihmhchdenamaaDoorTxRight
namespace Go.Proofs.YtkihmhchdenamaaDoor
open Go.RowKit

theorem step_four_gen {ops : Array Oper} {o : Oper} {tmps : Array Value} {ds : List Deferred} {w : World} {K : Act → World → Prop} {Q : Exit → Act → World → Prop} {E : Prop} {d : Nat} {u v u2 v2 : Operand} {y z y2 z2 : Int} (hd : o.dst = some d) (hw : Region.wanted o (yielded ops tmps) = true) (ho : o.op = .buildSlice 66 4 #[(0, u), (1, v), (2, u2), (3, v2)])
    (hu : Act.eval { tmps := tmps, defers := ds } u = .int .i64 y) (hv : Act.eval { tmps := tmps, defers := ds } v = .int .i64 z) (hu2 : Act.eval { tmps := tmps, defers := ds } u2 = .int .i64 y2) (hv2 : Act.eval { tmps := tmps, defers := ds } v2 = .int .i64 z2)
    (h : ∀ (p : Nat) (w' : World), w.heap.size ≤ p → w'.heap[p]? = some (.cells #[.int .i64 y, .int .i64 z, .int .i64 y2, .int .i64 z2] 3 (0, 0)) → Below w.heap.size w w' → K { tmps := tmps.setIfInBounds d (.slice (some ⟨p, 0, none⟩) 4 4), defers := ds } w') :
    if Region.wanted o (yielded ops tmps) = true then Oper.wp Tryd.prog o { tmps := tmps, defers := ds } w K Q else E := by
  rw [if_pos hw]
  obtain ⟨ie, h1, h2, h3, _⟩ := info_parts Tryd.zeroInt
  have hrun : (Instr.buildSlice 66 4 #[(0, .int .i64 y), (1, .int .i64 z), (2, .int .i64 y2), (3, .int .i64 z2)]).run Tryd.prog w = .ok (.slice (some ⟨w.heap.size, 0, none⟩) 4 4) (w.alloc (.cells #[.int .i64 y, .int .i64 z, .int .i64 y2, .int .i64 z2] 3)) :=
    run_buildSlice w 66 3 4 _ _ ie _ Tryd.underlying66 h1 h2 (by rw [h3]; omega) (by rw [h3]; omega) (by rw [h3]; simp [Instr.fill, Value.cells]; rw [show Array.range 4 = #[0, 1, 2, 3] by rfl]; simp)
  unfold Oper.wp execOp
  simp only [ho, List.map_toArray, List.map_cons, List.map_nil, hu, hv, hu2, hv2, Sem.run_bind, hrun, Sem.run_pure, Result.andThen_ok]
  show K (Act.put _ o.dst _) _
  rw [hd]
  exact h _ _ (Nat.le_refl _) (heap_alloc_new _ _) ((Below.refl _ _).alloc (Nat.le_refl _) _)
theorem lit4 {w : World} {g B pb : Nat} {y z y2 z2 : Int} {fr : Nat × Nat} (h : w.heap[g]? = some (.cells #[.int .i64 y, .int .i64 z, .int .i64 y2, .int .i64 z2] 3 fr)) : ∀ wr, But B pb w wr → Keeps w wr → ∀ j, j < 4 → wr.cell? ⟨g, 0 + j, none⟩ = some (.int .i64 ([y, z, y2, z2].getD j 0)) := fun wr _ hk j hj => by
  rw [Nat.zero_add, cell_of_row _ _ _ _ _ _ (kept_int hk h)]
  rcases (show j = 0 ∨ j = 1 ∨ j = 2 ∨ j = 3 by omega) with rfl | rfl | rfl | rfl <;> rfl
theorem noOut_is : noOut.cells.toArray = #[.int .i64 0, .slice none 0 0] := rfl
theorem tx_op0 {w : World} {b : Nat} {x : PTx} (h : w.rangeAt b 0 x.cells) : w.rangeAt b 2 x.op.cells := by have h9 := tx_op h; rw [Nat.zero_add] at h9; exact h9
/-- Sizes at which a front is written. -/
structure FrontFew (sh : Bool) (x : PTx) : Prop where
  ins : x.inn ≤ 1000
  outs : x.on ≤ 1000
  pre : ∀ y ∈ x.ins, y.pre.length ≤ 100000
  ways : ∀ y ∈ x.outs, y.ws.length ≤ 1000 ∧ ∀ z ∈ y.ws, z.ks.length ≤ 1000
  data : x.op.data.length ≤ 100000
  len : (frontB sh x).length ≤ 900000
set_option linter.unusedSimpArgs false in
set_option maxRecDepth 100000 in
set_option maxHeartbeats 25600000 in
theorem putFront_at {w1 w : World} {x : PTx} {sh : Bool} {pb : Nat} (h : TxIn w1 x) (hs : w1.heap.size = pb) (hb : Below pb w1 w) (hp : PenAt w pb pb []) (hf : FrontFew sh x) :
    Calls Tryd.prog 29 #[.pointer (some ⟨pb, 0, none⟩), .agg x.cells.toArray, .bool sh] w fun e w' => e = .returned (.tuple #[]) ∧ PenAt w' pb pb (frontB sh x) ∧ PStep pb pb w w' := by
  have hi := hf.ins
  have ho := hf.outs
  have HPR := Lib.hid hf.pre
  have HOU := Lib.hid hf.ways
  have HL := Lib.hid hf.len
  have hdn : x.op.n ≤ 100000 := by rw [← h.op.data.1]; exact hf.data
  have hz : pb ≤ w.heap.size := Nat.le_of_lt hp.lt
  have b4 : Below w.heap.size w (w.alloc (.cells x.cells.toArray 38)) := (Below.refl _ _).alloc (Nat.le_refl _) _
  have h4 := heap_alloc_new w (.cells x.cells.toArray 38)
  have H1 := Lib.hid h
  have HB := Lib.hid hb
  have HP := Lib.hid hp
  -- below the pen all is as in w1
  have OLD : Hid (∀ W : World, Below pb w1 W → TxIn W x) := Lib.hid (fun W hW => h.below (by rw [hs]; exact hW))
  have OW : Hid (∀ y ∈ x.outs, OldWs pb pb y.n y.a y.ws) := Lib.hid (fun y hy => (h.outs.2.2.2.2.1 y hy).ws.oldWs (by rw [hs]; exact Nat.le_refl _) (by rw [hs]; exact Nat.le_refl _))
  have HOR : Hid (∀ {a : Option Addr} {n c : Nat} {l : List UInt8}, Row w1 a n c l → 0 < n → ∀ ad, a = some ad → ad.block < pb) := Lib.hid (fun hr h0 ad e => by
    obtain ⟨b, off, e2, hlt, _⟩ := hr.2.2.2.2 h0
    rw [e] at e2
    cases e2
    rw [← hs]
    exact hlt)
  have OLDR : Hid (∀ {W : World} {a : Option Addr} {n c : Nat} {l : List UInt8}, Row w1 a n c l → Below pb w1 W → Row W a n c l) := Lib.hid (fun hr hW => hr.below (by rw [hs]; exact hW))
  clear h hb hp hf hs
  go_enter Tryd.func29, Tryd.ntmps29
  go_upto_region 1 with (fail)
  revert b4 h4
  generalize (w.alloc (.cells x.cells.toArray 38)) = w4
  obtain ⟨g, hg⟩ : ∃ g, g = w.heap.size := ⟨_, rfl⟩
  rw [← hg]
  intro b4 h4
  rw [hg] at b4
  have HG := Lib.hid h4
  have HP0 : Hid (PStep pb pb w w4) := Lib.hid ⟨But.of (b4.mono hz), Keeps.below b4⟩
  have HP4 := Lib.hid (HP.out.below hz b4)
  have hz4 : pb ≤ w4.heap.size := Nat.le_trans hz b4.size
  have HB4 : Hid (Below pb w1 w4) := Lib.hid (HB.out.trans (b4.mono hz))
  have HBS : Hid (∀ W : World, PStep pb pb w4 W → Below pb w1 W) := Lib.hid (fun W hW => HB4.out.trans (hW.1.below (Nat.le_refl _)))
  have HTXR : Hid (∀ W : World, Keeps w4 W → W.rangeAt g 0 x.cells) := Lib.hid (fun W hW => range_of (kept_tx hW HG.out))
  obtain ⟨A, hA⟩ : ∃ A, A = x.ia := ⟨_, rfl⟩
  obtain ⟨A2, hA2⟩ : ∃ A, A = x.oa := ⟨_, rfl⟩
  have HA := Lib.hid hA
  have HA2 := Lib.hid hA2
  clear hA hA2
  have c0 : w4.cell? ⟨g, 0, none⟩ = some (.slice A x.inn x.ic) := by rw [HA.out]; exact tx_ins (range_of h4)
  have hin63 : (x.inn : Int) ≤ 9223372036854775807 := by omega
  have HLI : Hid ((0 : Nat) + 9 ≤ 140737488355328) := Lib.hid (by omega)
  clear h4 b4 hg HP HB
  go_wp2_with fail
  refine (pnum_typed (x.inn : Int) HP4.out hz4 HLI.out hin63).mono ?_
  rintro e w3 ⟨rfl, hp3, hb3, hk3⟩
  rw [List.nil_append] at hp3
  have HP3 := Lib.hid hp3
  have HS3 : Hid (PStep pb pb w4 w3) := Lib.hid ⟨hb3, hk3⟩
  replace c0 : w3.cell? ⟨g, 0, none⟩ = some (.slice A x.inn x.ic) := by rw [HA.out]; exact tx_ins (HTXR.out _ hk3)
  clear hp3 hb3 hk3 HP4
  go_upto_region 3 with (fail)
  clear c0
  go_loopw [18] (fun i wr => ∃ k : Nat, k ≤ x.inn ∧ i = .int .i64 k ∧ PenAt wr pb pb (numB (x.inn : Int) ++ insB sh (x.ins.take k)) ∧ PStep pb pb w4 wr) (fun i _ => x.inn - (intOf i).toNat)
  case atStart => exact ⟨0, Nat.zero_le _, rfl, by have h9 := HP3.out; simpa [insB] using h9, HS3.out⟩
  case round =>
    obtain ⟨k, hk, rfl, hpk, hsk⟩ := hrel
    have HPK := Lib.hid hpk
    have HSK := Lib.hid hsk
    have HBK := Lib.hid (HBS.out _ hsk)
    have hbzr : pb ≤ wr.heap.size := Nat.le_of_lt hpk.lt
    have htx := OLD.out wr HBK.out
    clear hpk HP3 HS3 hsk
    by_cases hkn : k < x.inn
    · have f1 : (k : Int) < (x.inn : Int) := by omega
      have f0 : (0 : Int) ≤ (k : Int) := by omega
      have ft : ((k : Int)).toNat = k := by omega
      have hkl : k < x.ins.length := by rw [H1.out.ins.1]; exact hkn
      obtain ⟨b1, o1, e1, hltb, hc1⟩ := htx.ins.2.2.2.2.2 (by omega)
      have hrx : wr.rangeAt b1 (o1 + k * 35) (x.ins.getD k noIn).cells := hc1 k hkn
      have hym : x.ins.getD k noIn ∈ x.ins := H1.out.ins.mem hkn
      have hy1 : InIn w1 (x.ins.getD k noIn) := H1.out.ins.get hkn
      have hpy := HPR.out _ hym
      have hnx := insB_take sh hkl
      have hll := insB_le sh (xs := x.ins) (k := k + 1)
      rw [hnx] at hll
      revert hrx hym hy1 hpy hnx hll
      generalize x.ins.getD k noIn = y
      intro hrx hym hy1 hpy hnx hll
      obtain ⟨P, hP⟩ : ∃ P, P = numB (x.inn : Int) ++ insB sh (x.ins.take k) := ⟨_, rfl⟩
      have HNX : Hid (numB (x.inn : Int) ++ insB sh (x.ins.take (k + 1)) = P ++ inB sh y) := Lib.hid (by rw [hnx, hP]; simp only [List.append_assoc])
      have HLW : Hid ((P ++ (y.tx ++ (numB y.place ++ (numB y.way ++ [])))).length + 109 ≤ 1000000) := Lib.hid (by
        have h9 := HL.out
        unfold frontB at h9
        rw [H1.out.ins.1] at h9
        rw [hP]
        unfold inB at hll
        simp only [List.length_append] at h9 hll ⊢
        simp only [List.length_nil]
        omega)
      rw [← hP] at HPK
      have RY := Lib.hid hrx
      have STX := Lib.hid (sumLen hy1.tx)
      have SY := Lib.hid (in_size hy1.tx)
      have AY := Lib.hid (in_sizeA hy1.tx)
      have ZY : Hid (noIn.cells.toArray.size = y.cells.toArray.size) := Lib.hid (by rw [List.size_toArray, List.size_toArray, PIn.len hy1.tx]; rfl)
      have HTX := Lib.hid hy1.tx
      have HFP : Hid (Fits y.place) := Lib.hid hy1.place
      have HFW : Hid (Fits y.way) := Lib.hid hy1.way
      have HPRE : Hid (Row w1 y.a y.n y.c y.pre) := Lib.hid hy1.pre
      have HPB := Lib.hid (HOR.out hy1.pre)
      have hyn : y.n ≤ 100000 := by rw [← hy1.pre.1]; exact hpy
      rw [← HA.out] at e1
      subst e1
      clear hc1 hrx hym hy1 hpy hnx hll hP hkl htx
      go_upto_region 5 with (first | (refine wpList_load_mid rfl 47 _ rfl b1 (o1 + k * 35) rfl y.cells _ RY.out Tryd.underlying47 rfl SY.out ?_) | (refine wpList_store_row rfl 47 _ _ rfl wr.heap.size y.cells.toArray rfl rfl 47 noIn.cells.toArray (heap_alloc_new _ _) AY.out ZY.out (all_oneCell_toArray y.one) ?_) | fail)
      rw [← noIn_is, layT_is]
      have h5 := layT_heap 47 noIn.cells wr y.cells
      have b5 := layT_self 47 noIn.cells wr y.cells
      revert h5 b5
      generalize layT 47 noIn.cells wr y.cells = w5
      obtain ⟨g5, hg5⟩ : ∃ g5, g5 = wr.heap.size := ⟨_, rfl⟩
      rw [← hg5]
      intro h5 b5
      rw [hg5] at b5
      have H5 := Lib.hid h5
      have hbz5 : pb ≤ w5.heap.size := Nat.le_trans hbzr b5.size
      have HPEN0 : Hid (PenAt w5.drew pb pb P) := Lib.hid ((HPK.out.below hbzr b5).below hbz5 (below_drew (Below.refl _ _)))
      have HBW : Hid (Below pb w1 w5) := Lib.hid (HBK.out.trans (b5.mono hbzr))
      have HPW : Hid (PStep pb pb w4 w5) := Lib.hid ⟨HSK.out.1.trans (But.of (b5.mono hbzr)), HSK.out.2.trans (Keeps.below b5)⟩
      clear h5 b5 hg5 HPK RY
      try simp only [Act.put]
      refine wp_region_held_drew (S := fun w' => PStep pb pb w5 w') (by kernel_rfl) (⟨But.of (below_drew (Below.refl _ _)), fun _ _ _ _ _ _ _ _ => rfl⟩) (fun hHeld => ?_)
      refine take_at (i := 0) (v := ?_) rfl rfl (by kernel_rfl) (by kernel_rfl) (by kernel_rfl) (fun _ _ _ h => h) (Or.inl ⟨by rfl, ?_⟩) (by assumption) ?_
      rotate_left
      · intro w0 hSw; (try dsimp only at hSw); first | (go_simp; done) | (go_simp; with_reducible rfl)
      simp only [List.setIfInBounds_toArray, List.set_cons_zero, List.set_cons_succ]
      refine take_at (i := 1) (v := ?_) rfl rfl (by kernel_rfl) (by kernel_rfl) (by kernel_rfl) (fun _ _ _ h => h) (Or.inl ⟨by rfl, ?_⟩) (by assumption) ?_
      rotate_left
      · intro w0 hSw; (try dsimp only at hSw); first | (go_simp; done) | (go_simp; with_reducible rfl)
      simp only [List.setIfInBounds_toArray, List.set_cons_zero, List.set_cons_succ]
      refine take_at (i := 2) (v := ?_) rfl rfl (by kernel_rfl) (by kernel_rfl) (by kernel_rfl) (fun _ _ _ h => h) (Or.inl ⟨by rfl, ?_⟩) (by assumption) ?_
      rotate_left
      · intro w0 hSw; (try dsimp only at hSw); first | (go_simp; done) | (go_simp; with_reducible rfl)
      simp only [List.setIfInBounds_toArray, List.set_cons_zero, List.set_cons_succ]
      refine take_at (i := 3) rfl rfl (by kernel_rfl) (by kernel_rfl) (by kernel_rfl) (fun _ _ _ h => h) (yieldsIf_load_mid (by rfl) _ _ rfl g5 0 rfl (cellsOf y.tx) _ (fun w0 hSw => in_tx (range_of (kept_in hSw.2 H5.out))) Tryd.underlying23 rfl STX.out) (by assumption) ?_
      simp only [List.setIfInBounds_toArray, List.set_cons_zero, List.set_cons_succ]
      refine take_at (i := 5) (v := ?_) rfl rfl (by kernel_rfl) (by kernel_rfl) (by kernel_rfl) (fun _ _ _ h => h) (Or.inl ⟨by rfl, ?_⟩) (by assumption) ?_
      rotate_left
      · intro w0 hSw; (try dsimp only at hSw); first | (go_simp; done) | (go_simp; with_reducible rfl)
      simp only [List.setIfInBounds_toArray, List.set_cons_zero, List.set_cons_succ]
      refine take_at (i := 6) (v := ?_) rfl rfl (by kernel_rfl) (by kernel_rfl) (by kernel_rfl) (fun _ _ _ h => h) (Or.inl ⟨by rfl, ?_⟩) (by assumption) ?_
      rotate_left
      · intro w0 hSw; (try dsimp only at hSw); first | (go_simp; done) | (go_simp; with_reducible rfl)
      simp only [List.setIfInBounds_toArray, List.set_cons_zero, List.set_cons_succ]
      refine take_at (i := 7) rfl rfl (by kernel_rfl) (by kernel_rfl) (by kernel_rfl) (fun _ _ _ h => h) (yields_cell (by rfl) rfl rfl (b := g5) (o := 32) (fun w0 hSw => in_at HTX.out (range_of (kept_in hSw.2 H5.out))) Tryd.isAgg3) (by assumption) ?_
      simp only [List.setIfInBounds_toArray, List.set_cons_zero, List.set_cons_succ]
      refine take_at (i := 8) (v := ?_) rfl rfl (by kernel_rfl) (by kernel_rfl) (by kernel_rfl) (fun _ _ _ h => h) (Or.inl ⟨by rfl, ?_⟩) (by assumption) ?_
      rotate_left
      · intro w0 hSw; (try dsimp only at hSw); first | (go_simp; done) | (go_simp; with_reducible rfl)
      simp only [List.setIfInBounds_toArray, List.set_cons_zero, List.set_cons_succ]
      refine take_at (i := 9) rfl rfl (by kernel_rfl) (by kernel_rfl) (by kernel_rfl) (fun _ _ _ h => h) (yields_cell (by rfl) rfl rfl (b := g5) (o := 33) (fun w0 hSw => in_way HTX.out (range_of (kept_in hSw.2 H5.out))) Tryd.isAgg3) (by assumption) ?_
      simp only [List.setIfInBounds_toArray, List.set_cons_zero, List.set_cons_succ]
      refine wpAnyH_ready (rs := [4, 10]) (by kernel_rfl) (by simp) ?_
      refine AllReadyH.cons rfl (fun K hK => ?_) ?_
      · have HZw5drew : Hid (pb ≤ (w5.drew).heap.size) := Lib.hid (Nat.le_trans hbz5 hHeld.1.size)
        have hHbw5drew : Hid (But pb pb w5 (w5.drew)) := Lib.hid hHeld.1
        go_simp
        go_wp2_with ((go_at_call 35; (with_reducible refine (psum_typed _ HTX.out HPEN0.out HZw5drew.out (by have h0 := HLW.out; simp only [List.length_append] at h0 ⊢; omega)).mono ?_); rintro e ya4 ⟨rfl, hp, hb, hk⟩; have HPya4 := Lib.hid hp; have HSya4 : Hid (PStep pb pb _ ya4) := Lib.hid ⟨hb, hk⟩; clear hp hb hk))
        refine hK.out _ _ (by (try dsimp only); exact ⟨hHeld.1.trans HSya4.out.1, hHeld.2.trans HSya4.out.2⟩) (fun hHeld => ?_)
        clear hK K
        refine wpAnyH_ready (rs := [10]) (by kernel_rfl) (by simp) ?_
        refine AllReadyH.cons rfl (fun K hK => ?_) ?_
        · have HZya4 : Hid (pb ≤ (ya4).heap.size) := Lib.hid (Nat.le_trans hbz5 hHeld.1.size)
          have hHbya4 : Hid (But pb pb w5 (ya4)) := Lib.hid hHeld.1
          refine step_two_gen (d := 32) (y := y.place) (z := y.way) rfl (by rfl) rfl (by rfl) (by rfl) ?_
          intro p ya10 hgp hlit hbl
          have LIT := Lib.hid hlit
          have HPya10 := Lib.hid (PenAt.below HPya4.out (Nat.le_trans hbz5 hHeld.1.size) hbl)
          have HSya10 : Hid (PStep pb pb _ ya10) := Lib.hid ⟨But.of (hbl.mono (Nat.le_trans hbz5 hHeld.1.size)), Keeps.below hbl⟩
          clear hlit hbl hgp
          refine hK.out _ _ (by (try dsimp only); exact ⟨hHeld.1.trans HSya10.out.1, hHeld.2.trans HSya10.out.2⟩) (fun hHeld => ?_)
          clear hK K
          refine wpAnyH_ready (rs := [11]) (by kernel_rfl) (by simp) ?_
          refine AllReadyH.cons rfl (fun K hK => ?_) ?_
          · have HZya10 : Hid (pb ≤ (ya10).heap.size) := Lib.hid (Nat.le_trans hbz5 hHeld.1.size)
            have hHbya10 : Hid (But pb pb w5 (ya10)) := Lib.hid hHeld.1
            go_simp
            go_wp2_with ((go_at_call 38; (with_reducible refine (pnums_typed (n := 2) (c := 2) (off := 0) _ rfl (Nat.le_refl _) (by unfold maxLen; omega) (two_small HFP.out HFW.out) (lit2 LIT.out) HPya10.out HZya10.out (by omega) (by have h0 := HLW.out; simp only [List.length_append] at h0 ⊢; omega)).mono ?_); rintro e ya11 ⟨rfl, hp, hb, hk⟩; have HPya11 := Lib.hid hp; have HSya11 : Hid (PStep pb pb _ ya11) := Lib.hid ⟨hb, hk⟩; clear hp hb hk))
            refine hK.out _ _ (by (try dsimp only); exact ⟨hHeld.1.trans HSya11.out.1, hHeld.2.trans HSya11.out.2⟩) (fun hHeld => ?_)
            clear hK K
            refine wpAnyH_done (by kernel_rfl) ?_ _
            have HST := Lib.hid (show PStep pb pb w5 ya11 from hHeld)
            clear hHeld
            have HBY := Lib.hid (HBW.out.trans (HST.out.1.below (Nat.le_refl _)))
            have HSW := Lib.hid (show PStep pb pb w4 ya11 from ⟨HPW.out.1.trans HST.out.1, HPW.out.2.trans HST.out.2⟩)
            have c34 : ya11.cell? ⟨g5, 34, none⟩ = some (.slice y.a y.n y.c) := by have h9 := in_pre HTX.out (range_of (kept_in HST.out.2 H5.out)); rw [Nat.zero_add] at h9; exact h9
            have hz10 : pb ≤ ya11.heap.size := Nat.le_trans hbz5 HST.out.1.size
            have HPR := Lib.hid (OLDR.out HPRE.out HBY.out)
            cases sh
            · have HPE : Hid (PenAt ya11 pb pb (numB (x.inn : Int) ++ insB false (x.ins.take (k + 1)))) := Lib.hid (by have h9 := HPya11.out; rw [HNX.out]; unfold inB; simpa [numsB] using h9)
              go_wp2_with fail
              go_roundw
              case rel => exact ⟨k + 1, by omega, by go_num, HPE.out, HSW.out⟩
              case measure => simp [intOf]; omega
            · go_wp2_with fail
              refine (ptext_typed _ HPR.out HPya11.out hz10 HPB.out (by omega) (by have h0 := HLW.out; simp only [List.length_append, numsB, List.length_nil] at h0 ⊢; omega)).mono ?_
              rintro e y20 ⟨rfl, hp, hb, hk⟩
              have HPE : Hid (PenAt y20 pb pb (numB (x.inn : Int) ++ insB true (x.ins.take (k + 1)))) := Lib.hid (by rw [HNX.out]; unfold inB; simpa [numsB] using hp)
              have HSW2 := Lib.hid (show PStep pb pb w4 y20 from ⟨HSW.out.1.trans hb, HSW.out.2.trans hk⟩)
              clear hp hb hk c34
              go_wp2_with fail
              go_roundw
              case rel => exact ⟨k + 1, by omega, by go_num, HPE.out, HSW2.out⟩
              case measure => simp [intOf]; omega
          exact AllReadyH.nil
        exact AllReadyH.nil
      refine AllReadyH.cons rfl (fun K hK => ?_) ?_
      · have HZw5drew : Hid (pb ≤ (w5.drew).heap.size) := Lib.hid (Nat.le_trans hbz5 hHeld.1.size)
        have hHbw5drew : Hid (But pb pb w5 (w5.drew)) := Lib.hid hHeld.1
        refine step_two_gen (d := 32) (y := y.place) (z := y.way) rfl (by rfl) rfl (by rfl) (by rfl) ?_
        intro p yb10 hgp hlit hbl
        have LIT := Lib.hid hlit
        have HPyb10 := Lib.hid (PenAt.below HPEN0.out (Nat.le_trans hbz5 hHeld.1.size) hbl)
        have HSyb10 : Hid (PStep pb pb _ yb10) := Lib.hid ⟨But.of (hbl.mono (Nat.le_trans hbz5 hHeld.1.size)), Keeps.below hbl⟩
        clear hlit hbl hgp
        refine hK.out _ _ (by (try dsimp only); exact ⟨hHeld.1.trans HSyb10.out.1, hHeld.2.trans HSyb10.out.2⟩) (fun hHeld => ?_)
        clear hK K
        refine wpAnyH_ready (rs := [4]) (by kernel_rfl) (by simp) ?_
        refine AllReadyH.cons rfl (fun K hK => ?_) ?_
        · have HZyb10 : Hid (pb ≤ (yb10).heap.size) := Lib.hid (Nat.le_trans hbz5 hHeld.1.size)
          have hHbyb10 : Hid (But pb pb w5 (yb10)) := Lib.hid hHeld.1
          go_simp
          go_wp2_with ((go_at_call 35; (with_reducible refine (psum_typed _ HTX.out HPyb10.out HZyb10.out (by have h0 := HLW.out; simp only [List.length_append] at h0 ⊢; omega)).mono ?_); rintro e yb4 ⟨rfl, hp, hb, hk⟩; have HPyb4 := Lib.hid hp; have HSyb4 : Hid (PStep pb pb _ yb4) := Lib.hid ⟨hb, hk⟩; clear hp hb hk))
          have LIT0 := LIT.out
          have LIT := Lib.hid (kept_int HSyb4.out.2 LIT0)
          clear LIT0
          refine hK.out _ _ (by (try dsimp only); exact ⟨hHeld.1.trans HSyb4.out.1, hHeld.2.trans HSyb4.out.2⟩) (fun hHeld => ?_)
          clear hK K
          refine wpAnyH_ready (rs := [11]) (by kernel_rfl) (by simp) ?_
          refine AllReadyH.cons rfl (fun K hK => ?_) ?_
          · have HZyb4 : Hid (pb ≤ (yb4).heap.size) := Lib.hid (Nat.le_trans hbz5 hHeld.1.size)
            have hHbyb4 : Hid (But pb pb w5 (yb4)) := Lib.hid hHeld.1
            go_simp
            go_wp2_with ((go_at_call 38; (with_reducible refine (pnums_typed (n := 2) (c := 2) (off := 0) _ rfl (Nat.le_refl _) (by unfold maxLen; omega) (two_small HFP.out HFW.out) (lit2 LIT.out) HPyb4.out HZyb4.out (by omega) (by have h0 := HLW.out; simp only [List.length_append] at h0 ⊢; omega)).mono ?_); rintro e yb11 ⟨rfl, hp, hb, hk⟩; have HPyb11 := Lib.hid hp; have HSyb11 : Hid (PStep pb pb _ yb11) := Lib.hid ⟨hb, hk⟩; clear hp hb hk))
            refine hK.out _ _ (by (try dsimp only); exact ⟨hHeld.1.trans HSyb11.out.1, hHeld.2.trans HSyb11.out.2⟩) (fun hHeld => ?_)
            clear hK K
            refine wpAnyH_done (by kernel_rfl) ?_ _
            have HST := Lib.hid (show PStep pb pb w5 yb11 from hHeld)
            clear hHeld
            have HBY := Lib.hid (HBW.out.trans (HST.out.1.below (Nat.le_refl _)))
            have HSW := Lib.hid (show PStep pb pb w4 yb11 from ⟨HPW.out.1.trans HST.out.1, HPW.out.2.trans HST.out.2⟩)
            have c34 : yb11.cell? ⟨g5, 34, none⟩ = some (.slice y.a y.n y.c) := by have h9 := in_pre HTX.out (range_of (kept_in HST.out.2 H5.out)); rw [Nat.zero_add] at h9; exact h9
            have hz10 : pb ≤ yb11.heap.size := Nat.le_trans hbz5 HST.out.1.size
            have HPR := Lib.hid (OLDR.out HPRE.out HBY.out)
            cases sh
            · have HPE : Hid (PenAt yb11 pb pb (numB (x.inn : Int) ++ insB false (x.ins.take (k + 1)))) := Lib.hid (by have h9 := HPyb11.out; rw [HNX.out]; unfold inB; simpa [numsB] using h9)
              go_wp2_with fail
              go_roundw
              case rel => exact ⟨k + 1, by omega, by go_num, HPE.out, HSW.out⟩
              case measure => simp [intOf]; omega
            · go_wp2_with fail
              refine (ptext_typed _ HPR.out HPyb11.out hz10 HPB.out (by omega) (by have h0 := HLW.out; simp only [List.length_append, numsB, List.length_nil] at h0 ⊢; omega)).mono ?_
              rintro e y20 ⟨rfl, hp, hb, hk⟩
              have HPE : Hid (PenAt y20 pb pb (numB (x.inn : Int) ++ insB true (x.ins.take (k + 1)))) := Lib.hid (by rw [HNX.out]; unfold inB; simpa [numsB] using hp)
              have HSW2 := Lib.hid (show PStep pb pb w4 y20 from ⟨HSW.out.1.trans hb, HSW.out.2.trans hk⟩)
              clear hp hb hk c34
              go_wp2_with fail
              go_roundw
              case rel => exact ⟨k + 1, by omega, by go_num, HPE.out, HSW2.out⟩
              case measure => simp [intOf]; omega
          exact AllReadyH.nil
        exact AllReadyH.nil
      exact AllReadyH.nil
    · obtain rfl : k = x.inn := by omega
      have f1 : ¬ ((x.inn : Int) < (x.inn : Int)) := by omega
      have htk : x.ins.take x.inn = x.ins := List.take_of_length_le (by rw [H1.out.ins.1]; exact Nat.le_refl _)
      obtain ⟨Q, hQ⟩ : ∃ Q, Q = numB (x.inn : Int) ++ insB sh x.ins := ⟨_, rfl⟩
      rw [htk, ← hQ] at HPK
      have HQD := Lib.hid hQ
      have HLQ : Hid (Q.length + (9 + (outsB x.outs).length + (opB x.op).length) ≤ 900009) := Lib.hid (by
        have h9 := HL.out
        unfold frontB at h9
        rw [H1.out.ins.1] at h9
        rw [hQ]
        have h8 := (numB_len (x.outs.length : Nat)).1
        simp only [List.length_append] at h9 ⊢
        omega)
      have HTO : Hid (∀ W : World, Keeps w4 W → W.cell? ⟨g, 1, none⟩ = some (.slice A2 x.on x.oc)) := Lib.hid (fun W hW => by have h9 := tx_outs (HTXR.out _ hW); rw [Nat.zero_add] at h9; rw [HA2.out]; exact h9)
      have c1 := HTO.out _ HSK.out.2
      have ho63 : (x.on : Int) ≤ 9223372036854775807 := by omega
      have HLQ9 : Hid (Q.length + 9 ≤ 140737488355328) := Lib.hid (by have := HLQ.out; omega)
      clear htk hQ htx
      go_wp2_with fail
      refine (pnum_typed (x.on : Int) HPK.out hbzr HLQ9.out ho63).mono ?_
      rintro e w6 ⟨rfl, hp4, hb4, hk4⟩
      have HP6 := Lib.hid hp4
      have HS6 : Hid (PStep pb pb w4 w6) := Lib.hid ⟨HSK.out.1.trans hb4, HSK.out.2.trans hk4⟩
      replace c1 := HTO.out _ HS6.out.2
      clear hp4 hb4 hk4 HPK HBK hbzr HSK
      go_upto_region 11 with (fail)
      clear c1
      go_loopw [48] (fun i wr => ∃ k : Nat, k ≤ x.on ∧ i = .int .i64 k ∧ PenAt wr pb pb (Q ++ numB (x.on : Int) ++ outsB (x.outs.take k)) ∧ PStep pb pb w4 wr) (fun i _ => x.on - (intOf i).toNat)
      case atStart => exact ⟨0, Nat.zero_le _, rfl, by have h9 := HP6.out; simpa [outsB] using h9, HS6.out⟩
      case round =>
        obtain ⟨k, hk, rfl, hpk, hsk⟩ := hrel
        have HPK := Lib.hid hpk
        have HSK := Lib.hid hsk
        have HBK := Lib.hid (HBS.out _ hsk)
        have hbzr : pb ≤ wr.heap.size := Nat.le_of_lt hpk.lt
        have htx := OLD.out wr HBK.out
        clear hpk HP6 HS6 hsk
        by_cases hkn : k < x.on
        · have f1 : (k : Int) < (x.on : Int) := by omega
          have f0 : (0 : Int) ≤ (k : Int) := by omega
          have ft : ((k : Int)).toNat = k := by omega
          have hkl : k < x.outs.length := by rw [H1.out.outs.1]; exact hkn
          obtain ⟨b1, o1, e1, hltb, hc1⟩ := htx.outs.2.2.2.2.2 (by omega)
          have hrx : wr.rangeAt b1 (o1 + k * 2) (x.outs.getD k noOut).cells := hc1 k hkn
          have hym : x.outs.getD k noOut ∈ x.outs := H1.out.outs.mem hkn
          have hyr : OutIn wr (x.outs.getD k noOut) := htx.outs.get hkn
          have how := OW.out _ hym
          obtain ⟨hy1, hy2⟩ := HOU.out _ hym
          have hnx := outsB_take hkl
          have hll := outsB_le (xs := x.outs) (k := k + 1)
          rw [hnx] at hll
          revert hrx hym hyr how hy1 hy2 hnx hll
          generalize x.outs.getD k noOut = y
          intro hrx hym hyr how hy1 hy2 hnx hll
          obtain ⟨P, hP⟩ : ∃ P, P = Q ++ numB (x.on : Int) ++ outsB (x.outs.take k) := ⟨_, rfl⟩
          have HNX : Hid (Q ++ numB (x.on : Int) ++ outsB (x.outs.take (k + 1)) = P ++ outB y.m y.ws) := Lib.hid (by rw [hnx, hP]; simp only [List.append_assoc])
          have HLW : Hid (P.length + (outB y.m y.ws).length ≤ 1000000) := Lib.hid (by
            have h9 := HLQ.out
            have h8 := (numB_len (x.on : Int)).2
            rw [hP]
            simp only [List.length_append] at h9 hll ⊢
            omega)
          rw [← hP] at HPK
          have hyn : y.n ≤ 1000 := by rw [← hyr.ws.1]; exact hy1
          have RY := Lib.hid hrx
          have SY : Hid ((Tryd.prog.info? 50).map (·.size) = some y.cells.length) := Lib.hid Tryd.sizeOut
          have AY : Hid ((Tryd.prog.info? 50).map (·.size) = some y.cells.toArray.size) := Lib.hid Tryd.sizeOut
          have ZY : Hid (noOut.cells.toArray.size = y.cells.toArray.size) := Lib.hid rfl
          have HYR := Lib.hid hyr
          have HOW := Lib.hid how
          have HY2 := Lib.hid hy2
          rw [← HA2.out] at e1
          subst e1
          clear hc1 hrx hym hyr how hy1 hy2 hnx hll hP hkl htx
          go_upto_region 13 with (first | (refine wpList_load_mid rfl 50 _ rfl b1 (o1 + k * 2) rfl y.cells _ RY.out Tryd.underlying50 rfl SY.out ?_) | (refine wpList_store_row rfl 50 _ _ rfl wr.heap.size y.cells.toArray rfl rfl 50 noOut.cells.toArray (heap_alloc_new _ _) AY.out ZY.out (all_oneCell_toArray y.one) ?_) | fail)
          rw [← noOut_is, layT_is]
          have h5 := layT_heap 50 noOut.cells wr y.cells
          have b5 := layT_self 50 noOut.cells wr y.cells
          revert h5 b5
          generalize layT 50 noOut.cells wr y.cells = w5
          obtain ⟨g5, hg5⟩ : ∃ g5, g5 = wr.heap.size := ⟨_, rfl⟩
          rw [← hg5]
          intro h5 b5
          rw [hg5] at b5
          have H5 := Lib.hid h5
          have hbz5 : pb ≤ w5.heap.size := Nat.le_trans hbzr b5.size
          have HPW : Hid (PStep pb pb w4 w5) := Lib.hid ⟨HSK.out.1.trans (But.of (b5.mono hbzr)), HSK.out.2.trans (Keeps.below b5)⟩
          have hyr5 : OutIn w5 y := outK.below (w := wr) (x := y) HYR.out b5
          have RY5 := Lib.hid (show w5.rangeAt g5 0 [.int .i64 y.m, .slice y.a y.n y.c] from range_of h5)
          have HPT := Lib.hid (lockPut_at (B := pb) (pb := pb) (l := P) (m := y.m) hyr5.ws HOW.out (HPK.out.below hbzr b5) hbz5 hyr5.m hyn HY2.out HLW.out)
          have SY2 : Hid ((Tryd.prog.info? 50).map (·.size) = some [Value.int .i64 y.m, .slice y.a y.n y.c].length) := Lib.hid Tryd.sizeOut
          clear h5 b5 hg5 HPK RY hyr5 HYR
          try simp only [Act.put]
          go_wp2_with (first | (refine wpList_load_mid rfl 50 _ rfl g5 0 rfl [.int .i64 y.m, .slice y.a y.n y.c] _ RY5.out Tryd.underlying50 rfl SY2.out ?_) | fail)
          refine HPT.out.mono ?_
          rintro e w7 ⟨rfl, hp5, hb5, hk5⟩
          have HPE : Hid (PenAt w7 pb pb (Q ++ numB (x.on : Int) ++ outsB (x.outs.take (k + 1)))) := Lib.hid (by rw [HNX.out]; exact hp5)
          have HSE := Lib.hid (show PStep pb pb w4 w7 from ⟨HPW.out.1.trans hb5, HPW.out.2.trans hk5⟩)
          clear hp5 hb5 hk5 HPT
          go_wp2_with fail
          go_roundw
          case rel => exact ⟨k + 1, by omega, by go_num, HPE.out, HSE.out⟩
          case measure => simp [intOf]; omega
        · obtain rfl : k = x.on := by omega
          have f1 : ¬ ((x.on : Int) < (x.on : Int)) := by omega
          have htk : x.outs.take x.on = x.outs := List.take_of_length_le (by rw [H1.out.outs.1]; exact Nat.le_refl _)
          obtain ⟨P, hP⟩ : ∃ P, P = Q ++ numB (x.on : Int) ++ outsB x.outs := ⟨_, rfl⟩
          rw [htk, ← hP] at HPK
          have HFR : Hid (frontB sh x = P ++ opB x.op) := Lib.hid (by unfold frontB; rw [hP, HQD.out, H1.out.ins.1, H1.out.outs.1]; simp only [List.append_assoc])
          have HOPB : Hid (opB x.op = numB x.op.kind ++ (numB x.op.tower ++ (numB x.op.channel ++ (numB x.op.amount ++ (x.op.root ++ (numB (x.op.data.length : Nat) ++ x.op.data)))))) := Lib.hid rfl
          have HLW : Hid ((P ++ (numB x.op.kind ++ (numB x.op.tower ++ (numB x.op.channel ++ (numB x.op.amount ++ x.op.root))))).length + 9 ≤ 1000000) := Lib.hid (by
            have h9 := HL.out
            rw [HFR.out, HOPB.out] at h9
            simp only [List.length_append] at h9 ⊢
            omega)
          have hop := H1.out.op
          have HOP := Lib.hid hop
          have HFO : Hid (∀ v ∈ [x.op.kind, x.op.tower, x.op.channel, x.op.amount], v ≤ 9223372036854775807) := Lib.hid (fun v hv => by
            simp at hv
            rcases hv with rfl | rfl | rfl | rfl
            · exact hop.kind.2
            · exact hop.tower.2
            · exact hop.channel.2
            · exact hop.amount.2)
          have HRT := Lib.hid hop.root
          have SRT := Lib.hid (sumLen hop.root)
          have HDB := Lib.hid (HOR.out hop.data)
          have HPEN0 : Hid (PenAt wr.drew pb pb P) := Lib.hid (HPK.out.below hbzr (below_drew (Below.refl _ _)))
          have HOPR : Hid (∀ W : World, Keeps wr W → W.rangeAt g 2 x.op.cells) := Lib.hid (fun W hW => tx_op0 (HTXR.out _ (HSK.out.2.trans hW)))
          have hbz5 : pb ≤ wr.heap.size := hbzr
          have HBW := HBK
          have HPW := HSK
          clear htk hP hop htx hbzr HPK HBK HSK
          go_upto_region 15 with (fail)
          try simp only [Act.put]
          refine wp_region_held_drew (S := fun w' => PStep pb pb wr w') (by kernel_rfl) (⟨But.of (below_drew (Below.refl _ _)), fun _ _ _ _ _ _ _ _ => rfl⟩) (fun hHeld => ?_)
          refine take_at (i := 0) (v := ?_) rfl rfl (by kernel_rfl) (by kernel_rfl) (by kernel_rfl) (fun _ _ _ h => h) (Or.inl ⟨by rfl, ?_⟩) (by assumption) ?_
          rotate_left
          · intro w0 hSw; (try dsimp only at hSw); first | (go_simp; done) | (go_simp; with_reducible rfl)
          simp only [List.setIfInBounds_toArray, List.set_cons_zero, List.set_cons_succ]
          refine take_at (i := 1) (v := ?_) rfl rfl (by kernel_rfl) (by kernel_rfl) (by kernel_rfl) (fun _ _ _ h => h) (Or.inl ⟨by rfl, ?_⟩) (by assumption) ?_
          rotate_left
          · intro w0 hSw; (try dsimp only at hSw); first | (go_simp; done) | (go_simp; with_reducible rfl)
          simp only [List.setIfInBounds_toArray, List.set_cons_zero, List.set_cons_succ]
          refine take_at (i := 2) (v := ?_) rfl rfl (by kernel_rfl) (by kernel_rfl) (by kernel_rfl) (fun _ _ _ h => h) (Or.inl ⟨by rfl, ?_⟩) (by assumption) ?_
          rotate_left
          · intro w0 hSw; (try dsimp only at hSw); first | (go_simp; done) | (go_simp; with_reducible rfl)
          simp only [List.setIfInBounds_toArray, List.set_cons_zero, List.set_cons_succ]
          refine take_at (i := 3) rfl rfl (by kernel_rfl) (by kernel_rfl) (by kernel_rfl) (fun _ _ _ h => h) (yields_cell (by rfl) rfl rfl (b := g) (o := 2) (fun w0 hSw => op_kind (HOPR.out _ hSw.2)) Tryd.isAgg3) (by assumption) ?_
          simp only [List.setIfInBounds_toArray, List.set_cons_zero, List.set_cons_succ]
          refine take_at (i := 4) (v := ?_) rfl rfl (by kernel_rfl) (by kernel_rfl) (by kernel_rfl) (fun _ _ _ h => h) (Or.inl ⟨by rfl, ?_⟩) (by assumption) ?_
          rotate_left
          · intro w0 hSw; (try dsimp only at hSw); first | (go_simp; done) | (go_simp; with_reducible rfl)
          simp only [List.setIfInBounds_toArray, List.set_cons_zero, List.set_cons_succ]
          refine take_at (i := 5) (v := ?_) rfl rfl (by kernel_rfl) (by kernel_rfl) (by kernel_rfl) (fun _ _ _ h => h) (Or.inl ⟨by rfl, ?_⟩) (by assumption) ?_
          rotate_left
          · intro w0 hSw; (try dsimp only at hSw); first | (go_simp; done) | (go_simp; with_reducible rfl)
          simp only [List.setIfInBounds_toArray, List.set_cons_zero, List.set_cons_succ]
          refine take_at (i := 6) rfl rfl (by kernel_rfl) (by kernel_rfl) (by kernel_rfl) (fun _ _ _ h => h) (yields_cell (by rfl) rfl rfl (b := g) (o := 3) (fun w0 hSw => op_tower (HOPR.out _ hSw.2)) Tryd.isAgg3) (by assumption) ?_
          simp only [List.setIfInBounds_toArray, List.set_cons_zero, List.set_cons_succ]
          refine take_at (i := 7) (v := ?_) rfl rfl (by kernel_rfl) (by kernel_rfl) (by kernel_rfl) (fun _ _ _ h => h) (Or.inl ⟨by rfl, ?_⟩) (by assumption) ?_
          rotate_left
          · intro w0 hSw; (try dsimp only at hSw); first | (go_simp; done) | (go_simp; with_reducible rfl)
          simp only [List.setIfInBounds_toArray, List.set_cons_zero, List.set_cons_succ]
          refine take_at (i := 8) (v := ?_) rfl rfl (by kernel_rfl) (by kernel_rfl) (by kernel_rfl) (fun _ _ _ h => h) (Or.inl ⟨by rfl, ?_⟩) (by assumption) ?_
          rotate_left
          · intro w0 hSw; (try dsimp only at hSw); first | (go_simp; done) | (go_simp; with_reducible rfl)
          simp only [List.setIfInBounds_toArray, List.set_cons_zero, List.set_cons_succ]
          refine take_at (i := 9) rfl rfl (by kernel_rfl) (by kernel_rfl) (by kernel_rfl) (fun _ _ _ h => h) (yields_cell (by rfl) rfl rfl (b := g) (o := 4) (fun w0 hSw => op_channel (HOPR.out _ hSw.2)) Tryd.isAgg3) (by assumption) ?_
          simp only [List.setIfInBounds_toArray, List.set_cons_zero, List.set_cons_succ]
          refine take_at (i := 10) (v := ?_) rfl rfl (by kernel_rfl) (by kernel_rfl) (by kernel_rfl) (fun _ _ _ h => h) (Or.inl ⟨by rfl, ?_⟩) (by assumption) ?_
          rotate_left
          · intro w0 hSw; (try dsimp only at hSw); first | (go_simp; done) | (go_simp; with_reducible rfl)
          simp only [List.setIfInBounds_toArray, List.set_cons_zero, List.set_cons_succ]
          refine take_at (i := 11) (v := ?_) rfl rfl (by kernel_rfl) (by kernel_rfl) (by kernel_rfl) (fun _ _ _ h => h) (Or.inl ⟨by rfl, ?_⟩) (by assumption) ?_
          rotate_left
          · intro w0 hSw; (try dsimp only at hSw); first | (go_simp; done) | (go_simp; with_reducible rfl)
          simp only [List.setIfInBounds_toArray, List.set_cons_zero, List.set_cons_succ]
          refine take_at (i := 12) rfl rfl (by kernel_rfl) (by kernel_rfl) (by kernel_rfl) (fun _ _ _ h => h) (yields_cell (by rfl) rfl rfl (b := g) (o := 5) (fun w0 hSw => op_amount (HOPR.out _ hSw.2)) Tryd.isAgg2) (by assumption) ?_
          simp only [List.setIfInBounds_toArray, List.set_cons_zero, List.set_cons_succ]
          refine take_at (i := 15) (v := ?_) rfl rfl (by kernel_rfl) (by kernel_rfl) (by kernel_rfl) (fun _ _ _ h => h) (Or.inl ⟨by rfl, ?_⟩) (by assumption) ?_
          rotate_left
          · intro w0 hSw; (try dsimp only at hSw); first | (go_simp; done) | (go_simp; with_reducible rfl)
          simp only [List.setIfInBounds_toArray, List.set_cons_zero, List.set_cons_succ]
          refine take_at (i := 16) (v := ?_) rfl rfl (by kernel_rfl) (by kernel_rfl) (by kernel_rfl) (fun _ _ _ h => h) (Or.inl ⟨by rfl, ?_⟩) (by assumption) ?_
          rotate_left
          · intro w0 hSw; (try dsimp only at hSw); first | (go_simp; done) | (go_simp; with_reducible rfl)
          simp only [List.setIfInBounds_toArray, List.set_cons_zero, List.set_cons_succ]
          refine take_at (i := 17) rfl rfl (by kernel_rfl) (by kernel_rfl) (by kernel_rfl) (fun _ _ _ h => h) (yieldsIf_load_mid (by rfl) _ _ rfl g 6 rfl (cellsOf x.op.root) _ (fun w0 hSw => op_root (HOPR.out _ hSw.2)) Tryd.underlying23 rfl SRT.out) (by assumption) ?_
          simp only [List.setIfInBounds_toArray, List.set_cons_zero, List.set_cons_succ]
          refine take_at (i := 19) (v := ?_) rfl rfl (by kernel_rfl) (by kernel_rfl) (by kernel_rfl) (fun _ _ _ h => h) (Or.inl ⟨by rfl, ?_⟩) (by assumption) ?_
          rotate_left
          · intro w0 hSw; (try dsimp only at hSw); first | (go_simp; done) | (go_simp; with_reducible rfl)
          simp only [List.setIfInBounds_toArray, List.set_cons_zero, List.set_cons_succ]
          refine take_at (i := 20) (v := ?_) rfl rfl (by kernel_rfl) (by kernel_rfl) (by kernel_rfl) (fun _ _ _ h => h) (Or.inl ⟨by rfl, ?_⟩) (by assumption) ?_
          rotate_left
          · intro w0 hSw; (try dsimp only at hSw); first | (go_simp; done) | (go_simp; with_reducible rfl)
          simp only [List.setIfInBounds_toArray, List.set_cons_zero, List.set_cons_succ]
          refine take_at (i := 21) rfl rfl (by kernel_rfl) (by kernel_rfl) (by kernel_rfl) (fun _ _ _ h => h) (yields_cell (by rfl) rfl rfl (b := g) (o := 38) (fun w0 hSw => op_data HRT.out (HOPR.out _ hSw.2)) Tryd.isAgg33) (by assumption) ?_
          simp only [List.setIfInBounds_toArray, List.set_cons_zero, List.set_cons_succ]
          refine wpAnyH_ready (rs := [13]) (by kernel_rfl) (by simp) ?_
          refine AllReadyH.cons rfl (fun K hK => ?_) ?_
          · have HZwrdrew : Hid (pb ≤ (wr.drew).heap.size) := Lib.hid (Nat.le_trans hbz5 hHeld.1.size)
            have hHbwrdrew : Hid (But pb pb wr (wr.drew)) := Lib.hid hHeld.1
            refine step_four_gen (d := 69) (y := x.op.kind) (z := x.op.tower) (y2 := x.op.channel) (z2 := x.op.amount) rfl (by rfl) rfl (by rfl) (by rfl) (by rfl) (by rfl) ?_
            intro p y13 hgp hlit hbl
            have LIT := Lib.hid hlit
            have HPy13 := Lib.hid (PenAt.below HPEN0.out (Nat.le_trans hbz5 hHeld.1.size) hbl)
            have HSy13 : Hid (PStep pb pb _ y13) := Lib.hid ⟨But.of (hbl.mono (Nat.le_trans hbz5 hHeld.1.size)), Keeps.below hbl⟩
            clear hlit hbl hgp
            refine hK.out _ _ (by (try dsimp only); exact ⟨hHeld.1.trans HSy13.out.1, hHeld.2.trans HSy13.out.2⟩) (fun hHeld => ?_)
            clear hK K
            refine wpAnyH_ready (rs := [14]) (by kernel_rfl) (by simp) ?_
            refine AllReadyH.cons rfl (fun K hK => ?_) ?_
            · have HZy13 : Hid (pb ≤ (y13).heap.size) := Lib.hid (Nat.le_trans hbz5 hHeld.1.size)
              have hHby13 : Hid (But pb pb wr (y13)) := Lib.hid hHeld.1
              go_simp
              go_wp2_with ((go_at_call 38; (with_reducible refine (pnums_typed (n := 4) (c := 4) (off := 0) (zs := [x.op.kind, x.op.tower, x.op.channel, x.op.amount]) _ rfl (Nat.le_refl _) (by unfold maxLen; omega) HFO.out (lit4 LIT.out) HPy13.out HZy13.out (by omega) (by have h0 := HLW.out; simp only [List.length_append] at h0 ⊢; omega)).mono ?_); rintro e y14 ⟨rfl, hp, hb, hk⟩; have HPy14 := Lib.hid hp; have HSy14 : Hid (PStep pb pb _ y14) := Lib.hid ⟨hb, hk⟩; clear hp hb hk))
              refine hK.out _ _ (by (try dsimp only); exact ⟨hHeld.1.trans HSy14.out.1, hHeld.2.trans HSy14.out.2⟩) (fun hHeld => ?_)
              clear hK K
              refine wpAnyH_ready (rs := [18]) (by kernel_rfl) (by simp) ?_
              refine AllReadyH.cons rfl (fun K hK => ?_) ?_
              · have HZy14 : Hid (pb ≤ (y14).heap.size) := Lib.hid (Nat.le_trans hbz5 hHeld.1.size)
                have hHby14 : Hid (But pb pb wr (y14)) := Lib.hid hHeld.1
                go_simp
                go_wp2_with ((go_at_call 35; (with_reducible refine (psum_typed _ HRT.out HPy14.out HZy14.out (by have h0 := HLW.out; simp only [List.length_append, numsB, List.length_nil] at h0 ⊢; omega)).mono ?_); rintro e y18 ⟨rfl, hp, hb, hk⟩; have HPy18 := Lib.hid hp; have HSy18 : Hid (PStep pb pb _ y18) := Lib.hid ⟨hb, hk⟩; clear hp hb hk))
                refine hK.out _ _ (by (try dsimp only); exact ⟨hHeld.1.trans HSy18.out.1, hHeld.2.trans HSy18.out.2⟩) (fun hHeld => ?_)
                clear hK K
                refine wpAnyH_ready (rs := [22]) (by kernel_rfl) (by simp) ?_
                refine AllReadyH.cons rfl (fun K hK => ?_) ?_
                · have HZy18 : Hid (pb ≤ (y18).heap.size) := Lib.hid (Nat.le_trans hbz5 hHeld.1.size)
                  have hHby18 : Hid (But pb pb wr (y18)) := Lib.hid hHeld.1
                  go_simp
                  go_wp2_with ((go_at_call 39; (with_reducible refine (ptext_typed _ (OLDR.out HOP.out.data (HBW.out.trans ((hHby18.out).below (Nat.le_refl _)))) HPy18.out HZy18.out HDB.out (by omega) (by have h0 := HLW.out; simp only [List.length_append, numsB, List.length_nil] at h0 ⊢; omega)).mono ?_); rintro e y22 ⟨rfl, hp, hb, hk⟩; have HPy22 := Lib.hid hp; have HSy22 : Hid (PStep pb pb _ y22) := Lib.hid ⟨hb, hk⟩; clear hp hb hk))
                  refine hK.out _ _ (by (try dsimp only); exact ⟨hHeld.1.trans HSy22.out.1, hHeld.2.trans HSy22.out.2⟩) (fun hHeld => ?_)
                  clear hK K
                  refine wpAnyH_done (by kernel_rfl) ?_ _
                  have HST := Lib.hid (show PStep pb pb wr y22 from hHeld)
                  clear hHeld
                  have HPF : Hid (PenAt y22 pb pb (frontB sh x)) := Lib.hid (by have h9 := HPy22.out; rw [HFR.out, HOPB.out]; simpa [numsB] using h9)
                  go_wp2_with fail
                  go_end0
                  exact ⟨rfl, HPF.out, HP0.out.1.trans (HPW.out.1.trans HST.out.1), HP0.out.2.trans (HPW.out.2.trans HST.out.2)⟩
                exact AllReadyH.nil
              exact AllReadyH.nil
            exact AllReadyH.nil
          exact AllReadyH.nil
end Go.Proofs.YtkihmhchdenamaaDoor
