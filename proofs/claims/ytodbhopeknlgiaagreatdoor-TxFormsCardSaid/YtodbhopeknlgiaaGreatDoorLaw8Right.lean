/- Law 8's right: which transactions may be. -/
import Derived.Test.YtodbhopeknlgiaaGreatDoorLaw8Op
import Derived.Test.YtodbhopeknlgiaaGreatDoorTxRight
namespace Go.Proofs.YtodbhopeknlgiaaGreatDoor
open Go.RowKit

theorem run_noteq_bool {b : Bool} : (!b) = true ↔ b = false := by cases b <;> simp
/-- What is left of a row of ins: none of those ahead has the same place. -/
theorem insOk_bad {xs : List PIn} {k : Nat} (h : k < xs.length) (hb : inOk (xs.getD k noIn) = false) : insOk (xs.take k) (xs.drop k) = false := by rw [insOk_step h, hb, Bool.false_and]
theorem insOk_twice {xs : List PIn} {k : Nat} (h : k < xs.length) (hb : ((xs.take k).any fun a => sameRef a (xs.getD k noIn)) = true) : insOk (xs.take k) (xs.drop k) = false := by rw [insOk_step h, hb]; simp
set_option linter.unusedSimpArgs false in
set_option maxRecDepth 100000 in
set_option maxHeartbeats 25600000 in
theorem right_law {w : World} {x : PTx} (h : TxIn w x) : Calls Tryz.prog 8 #[.agg x.cells.toArray] w fun e w' => e = .returned (.bool (txOk x)) ∧ Below w.heap.size w w' := by
  have hi63 := h.ins.len63
  have ho63 := h.outs.len63
  have hs63 := h.signs.len63
  have b1 : Below w.heap.size w (w.alloc (.cells x.cells.toArray 31)) := (Below.refl _ _).alloc (Nat.le_refl _) _
  have hrg := range_of (heap_alloc_new w (.cells x.cells.toArray 31))
  have H1 := Lib.hid (h.below b1)
  have HR0 := Lib.hid h.op.root
  have SO := Lib.hid (op_size h.op.root)
  obtain ⟨R, hR⟩ : ∃ R, txOk x = R := ⟨_, rfl⟩
  rw [hR]
  have HRS := Lib.hid hR
  have hlt := lt_of_block (heap_alloc_new w (.cells x.cells.toArray 31))
  clear h hR
  go_enter Tryz.func8, Tryz.ntmps8
  go_upto_region 1 with (fail)
  revert b1 hrg H1 hlt
  generalize (w.alloc (.cells x.cells.toArray 31)) = w1
  obtain ⟨g, hg⟩ : ∃ g, g = w.heap.size := ⟨_, rfl⟩
  rw [← hg]
  intro b1 hrg H1 hlt
  rw [hg] at b1
  have HB := Lib.hid b1
  have hro := tx_op hrg
  rw [Nat.zero_add] at hro
  have ck := op_kind hro
  have RO := Lib.hid hro
  have CI : Hid (∀ W : World, Below w1.heap.size w1 W → W.cell? ⟨g, 0, none⟩ = some (.slice x.ia x.inn x.ic)) := Lib.hid (fun W hW => tx_ins (rangeAt_below hrg hlt hW))
  have CO : Hid (∀ W : World, Below w1.heap.size w1 W → W.cell? ⟨g, 1, none⟩ = some (.slice x.oa x.on x.oc)) := Lib.hid (fun W hW => by have h9 := tx_outs (rangeAt_below hrg hlt hW); rw [Nat.zero_add] at h9; exact h9)
  have CS : Hid (∀ W : World, Below w1.heap.size w1 W → W.cell? ⟨g, 39, none⟩ = some (.slice x.sa x.sn x.sc)) := Lib.hid (fun W hW => by have h9 := tx_signs HR0.out (rangeAt_below hrg hlt hW); rw [Nat.zero_add] at h9; exact h9)
  have CK : Hid (∀ W : World, Below w1.heap.size w1 W → W.cell? ⟨g, 2, none⟩ = some (.int .i64 x.op.kind)) := Lib.hid (fun W hW => by have h9 := tx_op (rangeAt_below hrg hlt hW); rw [Nat.zero_add] at h9; exact op_kind h9)
  have c0 := CI.out _ (Below.refl _ _)
  have c1 := CO.out _ (Below.refl _ _)
  have c39 := CS.out _ (Below.refl _ _)
  clear hrg hg b1 hro hlt
  have hR := HRS.out
  unfold txOk at hR
  have HOP := Lib.hid (rightOp_law H1.out.op)
  clear HRS
  by_cases l1 : x.inn ≤ 16
  · have f1 : ¬ 16 < (x.inn : Int) := by omega
    by_cases l2 : x.on ≤ 16
    · have f2 : ¬ 16 < (x.on : Int) := by omega
      by_cases l3 : x.sn ≤ 16
      · have f3 : ¬ 16 < (x.sn : Int) := by omega
        rw [decide_eq_true (⟨l1, l2, l3⟩ : x.inn ≤ 16 ∧ x.on ≤ 16 ∧ x.sn ≤ 16), Bool.true_and] at hR
        obtain ⟨r1, hr1⟩ : ∃ r, opOk x.op = r := ⟨_, rfl⟩
        rw [hr1] at hR HOP
        clear hr1
        by_cases he : x.inn ≠ 0 ∨ x.op.kind ≠ 0
        · rw [decide_eq_true he, Bool.true_and] at hR
          have kind0 : (((x.inn : Int) == 0) = true ∧ (x.op.kind == 0) = false) ∨ ((x.inn : Int) == 0) = false := by
            by_cases h9 : x.inn = 0
            · exact .inl ⟨by simp [h9], by simpa using he.resolve_left (by omega)⟩
            · exact .inr (by simp; omega)
          cases r1
          · subst hR
            clear he kind0
            go_wp2_with (first | (refine wpList_mid_wanted (by rfl) 28 _ rfl g 2 rfl x.op.cells _ RO.out Tryz.underlying28 rfl SO.out ?_) | fail)
            refine HOP.out.mono ?_
            rintro e w5 ⟨rfl, hb5⟩
            have HB5 := Lib.hid hb5
            have d0 := CI.out _ hb5
            have d1 := CK.out _ hb5
            clear hb5 ck c0 c1 c39
            go_wp2_with fail
            go_ret
            exact ⟨rfl, HB.out.trans (HB5.out.mono HB.out.size)⟩
          · rw [Bool.true_and] at hR
            have HRR := Lib.hid hR
            clear hR he
            go_cut [42] from 9 to 42 (fun u w' => u = .bool false ∧ Below w1.heap.size w1 w')
            case first =>
              rcases kind0 with ⟨t0, t1⟩ | t0
              · go_wp2_with (first | (refine wpList_mid_wanted (by rfl) 28 _ rfl g 2 rfl x.op.cells _ RO.out Tryz.underlying28 rfl SO.out ?_) | fail)
                refine HOP.out.mono ?_
                rintro e w5 ⟨rfl, hb5⟩
                have HB5 := Lib.hid hb5
                have d0 := CI.out _ hb5
                have d1 := CK.out _ hb5
                clear hb5 ck c0 c1 c39
                go_wp2_with fail
                go_meet
                exact ⟨rfl, HB5.out⟩
              · go_wp2_with (first | (refine wpList_mid_wanted (by rfl) 28 _ rfl g 2 rfl x.op.cells _ RO.out Tryz.underlying28 rfl SO.out ?_) | fail)
                refine HOP.out.mono ?_
                rintro e w5 ⟨rfl, hb5⟩
                have HB5 := Lib.hid hb5
                have d0 := CI.out _ hb5
                have d1 := CK.out _ hb5
                clear hb5 ck c0 c1 c39
                go_wp2_with fail
                go_meet
                exact ⟨rfl, HB5.out⟩
            case rest =>
              obtain ⟨rfl, hb5⟩ := hcut
              have HB5 := Lib.hid hb5
              clear hb5 c0 c1 c39 kind0 HOP RO CK f1 f2 f3 ck
              go_upto_region 4 with (fail)
              go_loopw [3] (fun i wr => ∃ k : Nat, k ≤ x.inn ∧ i = .int .i64 k ∧ Below w1.heap.size w1 wr ∧ R = (insOk (x.ins.take k) (x.ins.drop k) && (outsOk x.outs && rises 0 (keysOf x.signs)))) (fun i _ => x.inn - (intOf i).toNat)
              case atStart => exact ⟨0, Nat.zero_le _, rfl, HB5.out, HRR.out.symm⟩
              case round =>
                obtain ⟨k, hk, rfl, hbr, hRk⟩ := hrel
                have HBR := Lib.hid hbr
                have c0 := CI.out _ hbr
                have HRK := Lib.hid hRk
                clear hbr hRk HB5 HRR
                by_cases hkn : k < x.inn
                · have f1 : (k : Int) < (x.inn : Int) := by omega
                  have f0 : (0 : Int) ≤ (k : Int) := by omega
                  have ft : ((k : Int)).toNat = k := by omega
                  have hkl : k < x.ins.length := by rw [H1.out.ins.1]; exact hkn
                  obtain ⟨b1, o1, e1, hlt1, hc1⟩ := (H1.out.ins.below HBR.out).2.2.2.2.2 (by omega)
                  have hx := (H1.out.ins.below HBR.out).get hkn
                  have hrx := hc1 k hkn
                  have hRj := HRK.out
                  rw [insOk_step hkl] at hRj
                  replace hx : InIn wr (x.ins.getD k noIn) := hx
                  replace hrx : wr.rangeAt b1 (o1 + k * 35) (x.ins.getD k noIn).cells := hrx
                  revert hx hrx hRj
                  generalize x.ins.getD k noIn = y
                  intro hRj hx hrx
                  have HRJ := Lib.hid hRj
                  have RX := Lib.hid hrx
                  have SX := Lib.hid (in_size hx.tx)
                  have AY := Lib.hid (in_sizeA hx.tx)
                  have ZY : Hid (noIn.cells.toArray.size = y.cells.toArray.size) := Lib.hid (by rw [List.size_toArray, List.size_toArray, PIn.len hx.tx]; rfl)
                  have HX := Lib.hid hx
                  have hyn : (y.n : Int) ≤ 9223372036854775807 := by have h1 := hx.pre.2.1; have h2 := hx.pre.2.2.1; unfold maxLen at h2; omega
                  have HC1 := Lib.hid hc1
                  have HE1 := Lib.hid e1
                  have HL1 := Lib.hid hlt1
                  rw [e1] at c0
                  clear hc1 hrx hRj hx e1 hlt1 HRK
                  go_upto_region 7 with (first | (refine wpList_load_mid rfl 58 _ rfl b1 (o1 + k * 35) rfl y.cells _ RX.out Tryz.underlying58 rfl SX.out ?_) | (refine wpList_store_row rfl 58 _ _ rfl wr.heap.size y.cells.toArray rfl rfl 58 noIn.cells.toArray (heap_alloc_new _ _) AY.out ZY.out (all_oneCell_toArray y.one) ?_) | fail)
                  rw [← noIn_is, layT_is]
                  have h5 := layT_heap 58 noIn.cells wr y.cells
                  have b5 := layT_self 58 noIn.cells wr y.cells
                  revert h5 b5
                  generalize layT 58 noIn.cells wr y.cells = w5
                  obtain ⟨g5, hg5⟩ : ∃ g5, g5 = wr.heap.size := ⟨_, rfl⟩
                  rw [← hg5]
                  intro h5 b5
                  rw [hg5] at b5
                  have H5 := Lib.hid h5
                  have HBR5 := Lib.hid (HBR.out.trans (b5.mono HBR.out.size))
                  have HLY : Hid (g5 < w5.heap.size) := Lib.hid (lt_of_block h5)
                  have d0 := in_at HX.out.tx (range_of h5)
                  have d1 := in_way HX.out.tx (range_of h5)
                  have d2 := in_pre HX.out.tx (range_of h5)
                  rw [Nat.zero_add] at d0 d1 d2
                  have RY0 := Lib.hid (in_ref (range_of h5))
                  clear h5 b5 hg5 RX c0
                  try simp only [Act.put]
                  by_cases t1 : y.place < 0
                  · have HRF : R = false := by rw [HRJ.out]; unfold inOk uptoB; rw [decide_eq_false (show ¬ 0 ≤ y.place by omega)]; simp
                    clear HRJ
                    subst HRF
                    go_wp2
                    go_ret
                    exact ⟨rfl, HB.out.trans (HBR5.out.mono HB.out.size)⟩
                  · by_cases t2 : 15 < y.place
                    · have HRF : R = false := by rw [HRJ.out]; unfold inOk uptoB; rw [decide_eq_false (show ¬ y.place ≤ 15 by omega)]; simp
                      clear HRJ
                      subst HRF
                      go_wp2
                      go_ret
                      exact ⟨rfl, HB.out.trans (HBR5.out.mono HB.out.size)⟩
                    · by_cases t3 : y.way < 0
                      · have HRF : R = false := by rw [HRJ.out]; unfold inOk uptoB; rw [decide_eq_false (show ¬ 0 ≤ y.way by omega)]; simp
                        clear HRJ
                        subst HRF
                        go_wp2
                        go_ret
                        exact ⟨rfl, HB.out.trans (HBR5.out.mono HB.out.size)⟩
                      · by_cases t4 : 15 < y.way
                        · have HRF : R = false := by rw [HRJ.out]; unfold inOk uptoB; rw [decide_eq_false (show ¬ y.way ≤ 15 by omega)]; simp
                          clear HRJ
                          subst HRF
                          go_wp2
                          go_ret
                          exact ⟨rfl, HB.out.trans (HBR5.out.mono HB.out.size)⟩
                        · by_cases t5 : y.n ≤ 64
                          rotate_left
                          · have f5 : 64 < (y.n : Int) := by omega
                            have HRF : R = false := by rw [HRJ.out]; unfold inOk uptoB; rw [decide_eq_false t5]; simp
                            clear HRJ
                            subst HRF
                            go_wp2
                            go_ret
                            exact ⟨rfl, HB.out.trans (HBR5.out.mono HB.out.size)⟩
                          · have f5 : ¬ 64 < (y.n : Int) := by omega
                            have hok : inOk y = true := by unfold inOk uptoB; simp only [Bool.and_eq_true, decide_eq_true_eq]; omega
                            have hRj := HRJ.out
                            rw [hok, Bool.true_and] at hRj
                            have HRJ := Lib.hid hRj
                            have SY := Lib.hid (refSize (z := y.place) HX.out.tx)
                            clear hRj hok
                            go_upto_region 10 with (fail)
                            go_loopw [5] (fun i wr => ∃ m : Nat, m ≤ k ∧ i = .int .i64 m ∧ Below w5.heap.size w5 wr ∧ ((x.ins.take m).any fun a => sameRef a y) = false) (fun i _ => k - (intOf i).toNat)
                            case atStart => exact ⟨0, Nat.zero_le _, rfl, Below.refl _ _, rfl⟩
                            case round =>
                              obtain ⟨m, hm, rfl, hbq, hany⟩ := hrel
                              have HBQ := Lib.hid hbq
                              have HANY := Lib.hid hany
                              clear hbq hany
                              by_cases hmk : m < k
                              · have g1 : (m : Int) < (k : Int) := by omega
                                have g0 : (0 : Int) ≤ (m : Int) := by omega
                                have gt : ((m : Int)).toNat = m := by omega
                                have gn : (m : Int) < (x.inn : Int) := by omega
                                have hml : m < x.ins.length := by omega
                                have HBQ1 := Lib.hid (HBR5.out.trans (HBQ.out.mono HBR5.out.size))
                                have hz := (H1.out.ins.below HBQ1.out).get (show m < x.inn by omega)
                                obtain ⟨b2, o2, e2, hlt2, hc2⟩ := (H1.out.ins.below HBQ1.out).2.2.2.2.2 (by omega)
                                obtain ⟨rfl, rfl⟩ : b2 = b1 ∧ o2 = o1 := by
                                  have h9 := HE1.out.symm.trans e2
                                  cases h9
                                  exact ⟨rfl, rfl⟩
                                have hrz := hc2 m (by omega)
                                have htk : ((x.ins.take (m + 1)).any fun a => sameRef a y) = (((x.ins.take m).any fun a => sameRef a y) || sameRef (x.ins.getD m noIn) y) := by
                                  rw [take_getD (d := noIn) hml, List.any_append]
                                  simp
                                rw [HANY.out, Bool.false_or] at htk
                                have hup : sameRef (x.ins.getD m noIn) y = true → ((x.ins.take k).any fun a => sameRef a y) = true := fun h9 => by
                                  rw [List.any_eq_true]
                                  refine ⟨x.ins.getD m noIn, ?_, h9⟩
                                  have e9 : x.ins.getD m noIn = (x.ins.take k).getD m noIn := by
                                    rw [List.getD_eq_getElem?_getD, List.getD_eq_getElem?_getD, List.getElem?_take, if_pos hmk]
                                  rw [e9]
                                  have hl9 : m < (x.ins.take k).length := by rw [List.length_take]; omega
                                  rw [List.getD_eq_getElem?_getD, List.getElem?_eq_getElem hl9]
                                  exact List.getElem_mem hl9
                                replace hz : InIn wr (x.ins.getD m noIn) := hz
                                replace hrz : wr.rangeAt b2 (o2 + m * 35) (x.ins.getD m noIn).cells := hrz
                                revert hz hrz htk hup
                                generalize x.ins.getD m noIn = z
                                intro htk hup hz hrz
                                obtain ⟨r2, hr2⟩ : ∃ r, sameRef z y = r := ⟨_, rfl⟩
                                have q : ∀ W : World, (Op.equalIn 10000 56 (.agg (refCells z.tx z.place).toArray) (.agg (refCells y.tx y.place).toArray)).run Tryz.prog W = .ok r2 W := fun W => by rw [← hr2]; exact run_eqRefs _ _ _ _ hz.tx HX.out.tx W
                                rw [hr2] at htk hup
                                have SZ := Lib.hid (refSize (z := z.place) hz.tx)
                                have RZ := Lib.hid (in_ref hrz)
                                have HLZ := Lib.hid hlt2
                                have RY := Lib.hid (rangeAt_below RY0.out HLY.out HBQ.out)
                                have HLYQ : Hid (g5 < wr.heap.size) := Lib.hid (Nat.lt_of_lt_of_le HLY.out HBQ.out.size)
                                have HCI : Hid (∀ W : World, Below w1.heap.size w1 W → W.cell? ⟨g, 0, none⟩ = some (.slice (some ⟨b2, o2, none⟩) x.inn x.ic)) := Lib.hid (fun W hW => by rw [← HE1.out]; exact CI.out W hW)
                                have HTK := Lib.hid htk
                                have HUP := Lib.hid hup
                                clear hz hrz htk hup hc2 e2 hlt2 hr2 HANY
                                go_upto_region 12 with (fail)
                                try simp only [Act.put]
                                refine wp_region_held_drew (S := fun w' => Below wr.heap.size wr w') (by kernel_rfl) (below_drew (Below.refl _ _)) (fun hHeld => ?_)
                                refine take_at (i := 0) (v := ?_) rfl rfl (by kernel_rfl) (by kernel_rfl) (by kernel_rfl) (fun _ _ _ h => h) (Or.inl ⟨by rfl, ?_⟩) (by assumption) ?_
                                rotate_left
                                · intro w0 hSw; (try dsimp only at hSw); first | (go_simp; done) | (go_simp; with_reducible rfl)
                                simp only [List.setIfInBounds_toArray, List.set_cons_zero, List.set_cons_succ]
                                refine take_at (i := 1) rfl rfl (by kernel_rfl) (by kernel_rfl) (by kernel_rfl) (fun _ _ _ h => h) (yields_cell (by rfl) rfl rfl (fun w0 hSw => HCI.out _ (HBQ1.out.trans (hSw.mono HBQ1.out.size))) Tryz.isAgg22) (by assumption) ?_
                                simp only [List.setIfInBounds_toArray, List.set_cons_zero, List.set_cons_succ]
                                refine take_at (i := 2) (v := ?_) rfl rfl (by kernel_rfl) (by kernel_rfl) (by kernel_rfl) (fun _ _ _ h => h) (Or.inl ⟨by rfl, ?_⟩) (by assumption) ?_
                                rotate_left
                                · intro w0 hSw; (try dsimp only at hSw); first | (go_simp; done) | (go_simp; with_reducible rfl)
                                simp only [List.setIfInBounds_toArray, List.set_cons_zero, List.set_cons_succ]
                                refine take_at (i := 3) (v := ?_) rfl rfl (by kernel_rfl) (by kernel_rfl) (by kernel_rfl) (fun _ _ _ h => h) (Or.inl ⟨by rfl, ?_⟩) (by assumption) ?_
                                rotate_left
                                · intro w0 hSw; (try dsimp only at hSw); first | (go_simp; done) | (go_simp; with_reducible rfl)
                                simp only [List.setIfInBounds_toArray, List.set_cons_zero, List.set_cons_succ]
                                refine take_at (i := 4) (v := ?_) rfl rfl (by kernel_rfl) (by kernel_rfl) (by kernel_rfl) (fun _ _ _ h => h) (Or.inl ⟨by rfl, ?_⟩) (by assumption) ?_
                                rotate_left
                                · intro w0 hSw; (try dsimp only at hSw); first | (go_simp; done) | (go_simp; with_reducible rfl)
                                simp only [List.setIfInBounds_toArray, List.set_cons_zero, List.set_cons_succ]
                                refine take_at (i := 5) rfl rfl (by kernel_rfl) (by kernel_rfl) (by kernel_rfl) (fun _ _ _ h => h) (yieldsIf_load_mid (by rfl) _ _ rfl b2 (o2 + m * 35) rfl (refCells z.tx z.place) _ (fun w0 hSw => rangeAt_below RZ.out HLZ.out hSw) Tryz.underlying56 rfl SZ.out) (by assumption) ?_
                                simp only [List.setIfInBounds_toArray, List.set_cons_zero, List.set_cons_succ]
                                refine take_at (i := 6) (v := ?_) rfl rfl (by kernel_rfl) (by kernel_rfl) (by kernel_rfl) (fun _ _ _ h => h) (Or.inl ⟨by rfl, ?_⟩) (by assumption) ?_
                                rotate_left
                                · intro w0 hSw; (try dsimp only at hSw); first | (go_simp; done) | (go_simp; with_reducible rfl)
                                simp only [List.setIfInBounds_toArray, List.set_cons_zero, List.set_cons_succ]
                                refine take_at (i := 7) rfl rfl (by kernel_rfl) (by kernel_rfl) (by kernel_rfl) (fun _ _ _ h => h) (yieldsIf_load_mid (by rfl) _ _ rfl g5 0 rfl (refCells y.tx y.place) _ (fun w0 hSw => rangeAt_below RY.out HLYQ.out hSw) Tryz.underlying56 rfl SY.out) (by assumption) ?_
                                simp only [List.setIfInBounds_toArray, List.set_cons_zero, List.set_cons_succ]
                                refine take_at (i := 8) (v := .bool r2) rfl rfl (by kernel_rfl) (by kernel_rfl) (by kernel_rfl) (fun _ _ _ h => h) (Or.inl ⟨by rfl, ?_⟩) (by assumption) ?_
                                · intro w0 hSw; (try dsimp only at hSw); first | (go_simp; done) | (go_simp; with_reducible rfl) | (go_simp; omega)
                                simp only [List.setIfInBounds_toArray, List.set_cons_zero, List.set_cons_succ]
                                refine wpAnyH_done (by kernel_rfl) ?_ _
                                clear q
                                cases r2
                                · have HN : Hid (((x.ins.take (m + 1)).any fun a => sameRef a y) = false) := HTK
                                  have HBN := Lib.hid (HBQ.out.trans (hHeld.mono HBQ.out.size))
                                  clear hHeld
                                  go_wp2_with fail
                                  go_roundw
                                  case rel => exact ⟨m + 1, by omega, by go_num, HBN.out, HN.out⟩
                                  case measure => simp [intOf]; omega
                                · have HRF : R = false := by rw [HRJ.out, HUP.out rfl]; simp
                                  have HBN := Lib.hid (HBQ1.out.trans (hHeld.mono HBQ1.out.size))
                                  clear hHeld HRJ
                                  subst HRF
                                  go_wp2_with fail
                                  go_ret
                                  exact ⟨rfl, HB.out.trans (HBN.out.mono HB.out.size)⟩
                              · have g1 : ¬ ((m : Int) < (k : Int)) := by omega
                                obtain rfl : m = k := by omega
                                have hRn : R = (insOk (x.ins.take (m + 1)) (x.ins.drop (m + 1)) && (outsOk x.outs && rises 0 (keysOf x.signs))) := by
                                  rw [HRJ.out, HANY.out]
                                  simp
                                have HRN := Lib.hid hRn
                                have HBQ1 := Lib.hid (HBR5.out.trans (HBQ.out.mono HBR5.out.size))
                                clear hRn HRJ HANY
                                go_wp2_with fail
                                go_roundw
                                case rel => exact ⟨m + 1, by omega, by go_num, HBQ1.out, HRN.out⟩
                                case measure => simp [intOf]; omega
                · have f1 : ¬ ((k : Int) < (x.inn : Int)) := by omega
                  have hRj := HRK.out
                  rw [insOk_end (by rw [H1.out.ins.1]; omega), Bool.true_and] at hRj
                  have HRJ := Lib.hid hRj
                  clear hRj HRK
                  go_upto_region 15 with (fail)
                  clear c0
                  go_loopw [6] (fun i wr => ∃ k : Nat, k ≤ x.on ∧ i = .int .i64 k ∧ Below w1.heap.size w1 wr ∧ R = (outsOk (x.outs.drop k) && rises 0 (keysOf x.signs))) (fun i _ => x.on - (intOf i).toNat)
                  case atStart => exact ⟨0, Nat.zero_le _, rfl, HBR.out, HRJ.out⟩
                  case round =>
                    obtain ⟨k, hk, rfl, hbr, hRk⟩ := hrel
                    have HBR := Lib.hid hbr
                    have c1 := CO.out _ hbr
                    have HRK := Lib.hid hRk
                    clear hbr hRk HRJ
                    by_cases hkn : k < x.on
                    · have f1 : (k : Int) < (x.on : Int) := by omega
                      have f0 : (0 : Int) ≤ (k : Int) := by omega
                      have ft : ((k : Int)).toNat = k := by omega
                      have hkl : k < x.outs.length := by rw [H1.out.outs.1]; exact hkn
                      obtain ⟨b1, o1, e1, hlt1, hc1⟩ := (H1.out.outs.below HBR.out).2.2.2.2.2 (by omega)
                      have hx := (H1.out.outs.below HBR.out).get hkn
                      have hrx := hc1 k hkn
                      have hRj := HRK.out
                      rw [drop_getD (d := noOut) hkl] at hRj
                      replace hx : OutIn wr (x.outs.getD k noOut) := hx
                      replace hrx : wr.rangeAt b1 (o1 + k * 2) [.int .i64 (x.outs.getD k noOut).m, .slice (x.outs.getD k noOut).a (x.outs.getD k noOut).n (x.outs.getD k noOut).c] := hrx
                      revert hx hrx hRj
                      generalize x.outs.getD k noOut = y
                      intro hRj hx hrx
                      replace hRj : R = ((outOk y.m y.ws && outsOk (x.outs.drop (k + 1))) && rises 0 (keysOf x.signs)) := hRj
                      have HC := Lib.hid (lockRightOut_any (m := y.m) hx.ws)
                      obtain ⟨r, hr⟩ : ∃ r, outOk y.m y.ws = r := ⟨_, rfl⟩
                      rw [hr] at hRj HC
                      have HRJ := Lib.hid hRj
                      have RX := Lib.hid hrx
                      have SX : Hid ((Tryz.prog.info? 61).map (·.size) = some [Value.int .i64 y.m, .slice y.a y.n y.c].length) := Lib.hid Tryz.sizeOut
                      rw [e1] at c1
                      clear hc1 hrx hRj hx e1 hlt1 HRK hr
                      cases r
                      · have HRF : R = false := by rw [HRJ.out]; simp
                        clear HRJ
                        subst HRF
                        go_wp2_with (first | (refine wpList_load_mid rfl 61 _ rfl b1 (o1 + k * 2) rfl [.int .i64 y.m, .slice y.a y.n y.c] _ RX.out Tryz.underlying61 rfl SX.out ?_) | (go_at_call 25; (with_reducible refine HC.out.mono ?_); rintro e w7 ⟨rfl, hb7⟩; have HB7 := Lib.hid hb7; clear hb7) | fail)
                        go_ret
                        exact ⟨rfl, HB.out.trans ((HBR.out.trans (HB7.out.mono HBR.out.size)).mono HB.out.size)⟩
                      · have hRt : R = (outsOk (x.outs.drop (k + 1)) && rises 0 (keysOf x.signs)) := by rw [HRJ.out, Bool.true_and]
                        have HRN := Lib.hid hRt
                        clear hRt HRJ
                        go_wp2_with (first | (refine wpList_load_mid rfl 61 _ rfl b1 (o1 + k * 2) rfl [.int .i64 y.m, .slice y.a y.n y.c] _ RX.out Tryz.underlying61 rfl SX.out ?_) | (go_at_call 25; (with_reducible refine HC.out.mono ?_); rintro e w7 ⟨rfl, hb7⟩; have HB7 := Lib.hid hb7; clear hb7) | fail)
                        go_roundw
                        case rel => exact ⟨k + 1, by omega, by go_num, HBR.out.trans (HB7.out.mono HBR.out.size), HRN.out⟩
                        case measure => simp [intOf]; omega
                    · have f1 : ¬ ((k : Int) < (x.on : Int)) := by omega
                      have hRj := HRK.out
                      rw [List.drop_of_length_le (by rw [H1.out.outs.1]; omega)] at hRj
                      replace hRj : R = rises 0 (keysOf x.signs) := hRj
                      have HRJ := Lib.hid hRj
                      clear hRj HRK
                      go_upto_region 20 with (fail)
                      clear c1
                      go_loopw [7] (fun i wr => ∃ (k : Nat) (S : Int), k ≤ x.sn ∧ i = .int .i64 k ∧ (k = 0 → S = 0) ∧ (∀ m, k = m + 1 → S = (x.signs.getD m noSign).key + 1) ∧ 0 ≤ S ∧ Below w1.heap.size w1 wr ∧ R = rises S (keysOf (x.signs.drop k))) (fun i _ => x.sn - (intOf i).toNat)
                      case atStart => exact ⟨0, 0, Nat.zero_le _, rfl, fun _ => rfl, (fun m e => by omega), Int.le_refl _, HBR.out, HRJ.out⟩
                      case round =>
                        obtain ⟨k, S, hk, rfl, hS1, hS2, hS0, hbr, hRk⟩ := hrel
                        have HBR := Lib.hid hbr
                        have c39 := CS.out _ hbr
                        have HRK := Lib.hid hRk
                        clear hbr hRk HRJ
                        by_cases hkn : k < x.sn
                        · have f1 : (k : Int) < (x.sn : Int) := by omega
                          have f0 : (0 : Int) ≤ (k : Int) := by omega
                          have ft : ((k : Int)).toNat = k := by omega
                          have hkl : k < x.signs.length := by rw [H1.out.signs.1]; exact hkn
                          obtain ⟨b1, o1, e1, hlt1, hc1⟩ := (H1.out.signs.below HBR.out).2.2.2.2.2 (by omega)
                          have hrx := hc1 k hkn
                          have hRj := HRK.out
                          rw [drop_getD (d := noSign) hkl] at hRj
                          have hcp : ∀ m, k = m + 1 → wr.cell? ⟨b1, o1 + m * 33, none⟩ = some (.int .i64 (S - 1)) := fun m e => by
                            have h9 := hS2 m e
                            have h8 := sign_key (hc1 m (by omega))
                            rw [h9, show (x.signs.getD m noSign).key + 1 - 1 = (x.signs.getD m noSign).key by omega]
                            exact h8
                          have c2 : wr.cell? ⟨b1, o1 + k * 33, none⟩ = some (.int .i64 (x.signs.getD k noSign).key) := sign_key hrx
                          have hnx : ∀ m, k + 1 = m + 1 → (x.signs.getD k noSign).key + 1 = (x.signs.getD m noSign).key + 1 := fun m e => by
                            obtain rfl : k = m := by omega
                            rfl
                          have HNX := Lib.hid hnx
                          replace hRj : R = rises S ((x.signs.getD k noSign).key :: keysOf (x.signs.drop (k + 1))) := hRj
                          clear hnx hS2 hrx hc1
                          obtain ⟨z, hz⟩ : ∃ z, z = (x.signs.getD k noSign).key := ⟨_, rfl⟩
                          rw [← hz] at hRj c2 HNX
                          have HRJ := Lib.hid hRj
                          rw [e1] at c39
                          clear hRj hz e1 hlt1 HRK
                          by_cases t1 : z < 0
                          · have HRF : R = false := by rw [HRJ.out]; exact rises_low (by omega)
                            clear HRJ
                            subst HRF
                            go_wp2
                            go_ret
                            exact ⟨rfl, HB.out.trans (HBR.out.mono HB.out.size)⟩
                          · by_cases t2 : 255 < z
                            · have HRF : R = false := by
                                rw [HRJ.out]
                                by_cases t3 : z < S
                                · exact rises_low t3
                                · exact rises_high t3 t2
                              clear HRJ
                              subst HRF
                              go_wp2
                              go_ret
                              exact ⟨rfl, HB.out.trans (HBR.out.mono HB.out.size)⟩
                            · cases k with
                              | zero =>
                                obtain rfl : S = 0 := hS1 rfl
                                have hRn : R = rises (z + 1) (keysOf (x.signs.drop (0 + 1))) := by rw [HRJ.out, rises_more t1 t2]
                                have HRN := Lib.hid hRn
                                have f5 : ¬ (0 : Int) < ((0 : Nat) : Int) := by omega
                                have c2z : wr.cell? ⟨b1, o1, none⟩ = some (.int .i64 z) := by have h9 := c2; rw [Nat.zero_mul, Nat.add_zero] at h9; exact h9
                                have fz : (0 : Int) < (x.sn : Int) := by omega
                                clear hRn HRJ hcp hS1
                                go_wp2
                                go_roundw
                                case rel => exact ⟨0 + 1, z + 1, by omega, by go_num, (fun e => by omega), HNX.out, by omega, HBR.out, HRN.out⟩
                                case measure => simp [intOf]; omega
                              | succ m =>
                                have c3 := hcp m rfl
                                have f5 : (0 : Int) < ((m + 1 : Nat) : Int) := by omega
                                have iw : IntKind.i64.wrap (((m + 1 : Nat) : Int) - 1) = (m : Int) := by rw [IntWalk.i64_in _ (by omega)]; omega
                                have g0 : (0 : Int) ≤ (m : Int) := by omega
                                have gt : ((m : Int)).toNat = m := by omega
                                have g1 : (m : Int) < (x.sn : Int) := by omega
                                clear hcp hS1
                                by_cases t3 : z ≤ S - 1
                                · have HRF : R = false := by rw [HRJ.out]; exact rises_low (by omega)
                                  clear HRJ
                                  subst HRF
                                  go_wp2
                                  go_ret
                                  exact ⟨rfl, HB.out.trans (HBR.out.mono HB.out.size)⟩
                                · have hRn : R = rises (z + 1) (keysOf (x.signs.drop (m + 1 + 1))) := by rw [HRJ.out, rises_more (by omega) t2]
                                  have HRN := Lib.hid hRn
                                  clear hRn HRJ
                                  go_wp2
                                  go_roundw
                                  case rel => exact ⟨m + 1 + 1, z + 1, by omega, by go_num, (fun e => by omega), HNX.out, by omega, HBR.out, HRN.out⟩
                                  case measure => simp [intOf]; omega
                        · have f1 : ¬ ((k : Int) < (x.sn : Int)) := by omega
                          have hRj := HRK.out
                          rw [List.drop_of_length_le (by rw [H1.out.signs.1]; omega)] at hRj
                          replace hRj : R = true := hRj
                          subst hRj
                          clear HRK
                          go_wp2
                          go_ret
                          exact ⟨rfl, HB.out.trans (HBR.out.mono HB.out.size)⟩
        · rw [decide_eq_false he, Bool.false_and] at hR
          have t0 : ((x.inn : Int) == 0) = true := by simp; omega
          have t1 : (x.op.kind == 0) = true := by simp; omega
          subst hR
          clear he
          cases r1
          · go_wp2_with (first | (refine wpList_mid_wanted (by rfl) 28 _ rfl g 2 rfl x.op.cells _ RO.out Tryz.underlying28 rfl SO.out ?_) | fail)
            refine HOP.out.mono ?_
            rintro e w5 ⟨rfl, hb5⟩
            have HB5 := Lib.hid hb5
            have d0 := CI.out _ hb5
            have d1 := CK.out _ hb5
            clear hb5 ck c0 c1 c39
            go_wp2_with fail
            go_ret
            exact ⟨rfl, HB.out.trans (HB5.out.mono HB.out.size)⟩
          · go_wp2_with (first | (refine wpList_mid_wanted (by rfl) 28 _ rfl g 2 rfl x.op.cells _ RO.out Tryz.underlying28 rfl SO.out ?_) | fail)
            refine HOP.out.mono ?_
            rintro e w5 ⟨rfl, hb5⟩
            have HB5 := Lib.hid hb5
            have d0 := CI.out _ hb5
            have d1 := CK.out _ hb5
            clear hb5 ck c0 c1 c39
            go_wp2_with fail
            go_ret
            exact ⟨rfl, HB.out.trans (HB5.out.mono HB.out.size)⟩
      · rw [decide_eq_false (show ¬ (x.inn ≤ 16 ∧ x.on ≤ 16 ∧ x.sn ≤ 16) by omega), Bool.false_and] at hR
        have f3 : 16 < (x.sn : Int) := by omega
        subst hR
        go_wp2
        go_ret
        exact ⟨rfl, HB.out⟩
    · rw [decide_eq_false (show ¬ (x.inn ≤ 16 ∧ x.on ≤ 16 ∧ x.sn ≤ 16) by omega), Bool.false_and] at hR
      have f2 : 16 < (x.on : Int) := by omega
      subst hR
      go_wp2
      go_ret
      exact ⟨rfl, HB.out⟩
  · rw [decide_eq_false (show ¬ (x.inn ≤ 16 ∧ x.on ≤ 16 ∧ x.sn ≤ 16) by omega), Bool.false_and] at hR
    have f1 : 16 < (x.inn : Int) := by omega
    subst hR
    go_wp2
    go_ret
    exact ⟨rfl, HB.out⟩
end Go.Proofs.YtodbhopeknlgiaaGreatDoor
