/- What the landed checkAnswer comes to, over what it calls. -/
import Derived.Test.YtcmdpmialehjgaaGreatDoorPrfReceipt
import Derived.Test.YtcmdpmialehjgaaGreatDoorTx
namespace Go.Proofs.YtcmdpmialehjgaaGreatDoor
open Go.RowKit

theorem refF17 : ∃ fs f0, Tryz.prog.underlying 47 = some (.struct fs) ∧ fs[0]? = some f0 ∧ f0.type = 23 ∧ f0.offset = 0 := ⟨_, _, Tryz.underlying47, by rfl, rfl, rfl⟩
theorem ref_sum17 {s : List UInt8} (z : Int) (hl : s.length = 32) (w : World) : (Instr.field 47 (.agg (refCells s z).toArray) 0).run Tryz.prog w = .ok (.agg (cellsOf s).toArray) w := by
  obtain ⟨fs, f0, hu, h0, ht, ho⟩ := refF17
  unfold Instr.field
  simp only [Sem.run_bind, run_underlying hu, Result.andThen_ok, h0]
  simp [part, ht, ho, asAgg]
  unfold refCells
  rw [List.take_append_of_le_length (by rw [cellsOf_len, hl]; omega), List.take_of_length_le (by rw [cellsOf_len, hl]; omega)]
theorem yields_field17 {P : Program} {ops : Array Oper} {S : World → Prop} {o : Oper} {a : Act} {ty : TypeId} {x : Operand} {n : Nat} {y v : Value} (hw : Region.wanted o (yielded ops a.tmps) = true) (ho : o.op = .field ty x n) (hx : a.eval x = y) (h : ∀ w : World, (Instr.field ty y n).run P w = .ok v w) : YieldsIf P ops S o v a :=
  .inl ⟨hw, fun w _ => by
    unfold execOp
    simp [ho, hx, h w]⟩
set_option linter.unusedSimpArgs false in
set_option maxRecDepth 100000 in
set_option maxHeartbeats 12800000 in
theorem answer_walk17 {w : World} {p : PPrf} {c : PChan} {T : List UInt8} {f : PFacts} {O U G : Int} {PP : PTx → Prop} (hp : PrfIn w p) (hc : ChanIn c) (hf : FactsIn w f) (hT : T.length = 32)
    (how : ∀ W : World, Below w.heap.size w W → Calls Tryz.prog 33 #[.agg c.cells.toArray, .agg f.t.cells.toArray] W fun e w' => e = .returned (.int .i64 O) ∧ Below W.heap.size W w')
    (hre : ∀ W : World, Below w.heap.size w W → Calls Tryz.prog 41 #[.agg f.t.cells.toArray] W fun e w' => e = .returned (.agg (refCells T 0).toArray) ∧ Below W.heap.size W w')
    (hun : ∀ W : World, Below w.heap.size w W → Calls Tryz.prog 35 #[.agg (cellsOf p.commit).toArray, .slice p.ba p.bn p.bc] W fun e w' => ∃ x : PTx, e = .returned (.tuple #[.agg x.cells.toArray, .int .i64 U]) ∧ TxIn w' x ∧ (U = 0 → PP x) ∧ Below W.heap.size W w')
    (hjc : O = 1 → ∀ (W : World) (x : PTx), Below w.heap.size w W → TxIn W x → PP x → Calls Tryz.prog 36 #[.agg c.cells.toArray, .agg f.t.cells.toArray, .agg x.cells.toArray] W fun e w' => e = .returned (.int .i64 G) ∧ Below W.heap.size W w') :
    Calls Tryz.prog 28 #[.agg p.cells.toArray, .agg c.cells.toArray, .agg f.cells.toArray] w fun e w' => e = .returned (.int .i64 (ansV p O T U G)) ∧ Below w.heap.size w w' := by
  obtain ⟨R, hR⟩ : ∃ R, ansV p O T U G = R := ⟨_, rfl⟩
  have KC : Hid (R = if O = 1 ∧ T = p.commit then if U = 0 then G else U else 13) := Lib.hid (by rw [← hR]; rfl)
  rw [hR]
  have SZC := Lib.hid (chan_size hc.ftx)
  have SZCA := Lib.hid (chan_sizeA hc.ftx)
  have SZT := Lib.hid (tx_size hf.t.op.root)
  have SXC := Lib.hid (sumLen17 hp.commit)
  have HRI := Lib.hid hp.r
  have HCL := Lib.hid hp.commit
  have HTL := Lib.hid hT
  have HOW := Lib.hid how
  have HRE := Lib.hid hre
  have HUN := Lib.hid hun
  have HJC := Lib.hid hjc
  clear hp hc hf hT how hre hun hjc hR
  go_enter Tryz.func28, Tryz.ntmps28
  go_upto_region 1 with (fail)
  obtain ⟨w1, g1, g2, hw1, hg1, hg2, hb1, h1, h2, h3⟩ := three_boxes17 w p.cells.toArray c.cells.toArray f.cells.toArray 28 49 58
  rw [← hw1, ← hg2, ← hg1]
  obtain ⟨g, hg⟩ : ∃ g, g = w.heap.size := ⟨_, rfl⟩
  rw [← hg] at h1 ⊢
  have HB1 := Lib.hid hb1
  have HP1 := Lib.hid h1
  have HC1 := Lib.hid h2
  have HF1 := Lib.hid h3
  clear hw1 hg1 hg2 hb1 h1 h2 h3 hg
  by_cases e5 : O = 1
  rotate_left
  · have e5b : (O != 1) = true := by simpa using e5
    refine wp_region_held_drew (S := fun w' => Below w1.heap.size w1 w') (by kernel_rfl) (below_drew (Below.refl _ _)) (fun hHeld => ?_)
    refine tkA 0 rfl rfl (yieldsIf_load_mid (by rfl) _ _ rfl g1 0 rfl c.cells _ (fun w0 hSw => range_of (keep hSw HC1.out)) Tryz.underlying49 rfl SZC.out) ?_
    refine tkP 1 rfl rfl ?_
    refine tkA 2 rfl rfl (yieldsIf_load_mid (by rfl) _ _ rfl g2 0 rfl f.t.cells _ (fun w0 hSw => facts_tx (range_of (keep hSw HF1.out))) Tryz.underlying56 rfl SZT.out) ?_
    refine tkR 3 rfl (fun K hK => ?_)
    go_simp
    go_wp2_with ((go_at_call 33; (with_reducible refine (HOW.out _ (bthen HB1.out hHeld)).mono ?_); rintro e y1 ⟨rfl, hb⟩; have HX := Lib.hid (bthen hHeld hb); clear hb))
    refine hK.out _ _ (by (try dsimp only); exact HX.out) (fun hHeld => ?_)
    clear hK K
    refine tkP (v := .bool true) 4 rfl rfl ?_
    refine tkP 5 rfl rfl ?_
    refine tkA (v := undef) 6 rfl rfl (Or.inr ⟨by rfl, rfl⟩) ?_
    refine tkA (v := undef) 7 rfl rfl (Or.inr ⟨by rfl, rfl⟩) ?_
    refine tkA (v := undef) 8 rfl rfl (Or.inr ⟨by rfl, rfl⟩) ?_
    refine tkA (v := undef) 9 rfl rfl (Or.inr ⟨by rfl, rfl⟩) ?_
    refine tkA (v := undef) 10 rfl rfl (Or.inr ⟨by rfl, rfl⟩) ?_
    refine tkA (v := undef) 11 rfl rfl (Or.inr ⟨by rfl, rfl⟩) ?_
    refine tkA (v := undef) 12 rfl rfl (Or.inr ⟨by rfl, rfl⟩) ?_
    refine tkP 13 rfl rfl ?_
    refine wpAnyH_done (by kernel_rfl) ?_ _
    have HB5 := Lib.hid (bthen HB1.out hHeld)
    clear hHeld
    go_wp2_with fail
    go_ret
    exact ⟨by rw [KC.out, if_neg (fun h => e5 h.1)] <;> rfl, HB5.out⟩
  have HJD := Lib.hid (HJC.out e5)
  clear HJC
  by_cases e6 : T = p.commit
  rotate_left
  · have e5b : (O != 1) = false := by simpa using e5
    have E6 := Lib.hid e6
    clear e6
    refine wp_region_held_drew (S := fun w' => Below w1.heap.size w1 w') (by kernel_rfl) (below_drew (Below.refl _ _)) (fun hHeld => ?_)
    refine tkA 0 rfl rfl (yieldsIf_load_mid (by rfl) _ _ rfl g1 0 rfl c.cells _ (fun w0 hSw => range_of (keep hSw HC1.out)) Tryz.underlying49 rfl SZC.out) ?_
    refine tkP 1 rfl rfl ?_
    refine tkA 2 rfl rfl (yieldsIf_load_mid (by rfl) _ _ rfl g2 0 rfl f.t.cells _ (fun w0 hSw => facts_tx (range_of (keep hSw HF1.out))) Tryz.underlying56 rfl SZT.out) ?_
    refine tkR 3 rfl (fun K hK => ?_)
    go_simp
    go_wp2_with ((go_at_call 33; (with_reducible refine (HOW.out _ (bthen HB1.out hHeld)).mono ?_); rintro e y1 ⟨rfl, hb⟩; have HX := Lib.hid (bthen hHeld hb); clear hb))
    refine hK.out _ _ (by (try dsimp only); exact HX.out) (fun hHeld => ?_)
    clear hK K
    refine tkP (v := .bool false) 4 rfl rfl ?_
    refine tkP 5 rfl rfl ?_
    refine tkP 6 rfl rfl ?_
    refine tkA 7 rfl rfl (yieldsIf_load_mid (by rfl) _ _ rfl g2 0 rfl f.t.cells _ (fun w0 hSw => facts_tx (range_of (keep hSw HF1.out))) Tryz.underlying56 rfl SZT.out) ?_
    refine tkP 10 rfl rfl ?_
    refine tkA 11 rfl rfl (yieldsIf_load_mid (by rfl) _ _ rfl g 69 rfl (cellsOf p.commit) _ (fun w0 hSw => prf_commit HRI.out (range_of (keep hSw HP1.out))) Tryz.underlying23 rfl SXC.out) ?_
    refine tkR 8 rfl (fun K hK => ?_)
    go_simp
    go_wp2_with ((go_at_call 41; (with_reducible refine (HRE.out _ (bthen HB1.out hHeld)).mono ?_); rintro e y2 ⟨rfl, hb⟩; have HX := Lib.hid (bthen hHeld hb); clear hb))
    refine hK.out _ _ (by (try dsimp only); exact HX.out) (fun hHeld => ?_)
    clear hK K
    refine tkA 9 rfl rfl (yields_field17 (by rfl) rfl rfl (ref_sum17 0 HTL.out)) ?_
    refine tkA 12 rfl rfl (yields_neq (by rfl) rfl rfl rfl HTL.out HCL.out true (by simp [E6.out])) ?_
    refine tkP 13 rfl rfl ?_
    refine wpAnyH_done (by kernel_rfl) ?_ _
    have HB5 := Lib.hid (bthen HB1.out hHeld)
    clear hHeld
    go_wp2_with fail
    go_ret
    exact ⟨by rw [KC.out, if_neg (fun h => E6.out h.2)] <;> rfl, HB5.out⟩
  have e5b : (O != 1) = false := by simpa using e5
  have E6 := Lib.hid e6
  clear e6
  refine wp_region_held_drew (S := fun w' => Below w1.heap.size w1 w') (by kernel_rfl) (below_drew (Below.refl _ _)) (fun hHeld => ?_)
  refine tkA 0 rfl rfl (yieldsIf_load_mid (by rfl) _ _ rfl g1 0 rfl c.cells _ (fun w0 hSw => range_of (keep hSw HC1.out)) Tryz.underlying49 rfl SZC.out) ?_
  refine tkP 1 rfl rfl ?_
  refine tkA 2 rfl rfl (yieldsIf_load_mid (by rfl) _ _ rfl g2 0 rfl f.t.cells _ (fun w0 hSw => facts_tx (range_of (keep hSw HF1.out))) Tryz.underlying56 rfl SZT.out) ?_
  refine tkR 3 rfl (fun K hK => ?_)
  go_simp
  go_wp2_with ((go_at_call 33; (with_reducible refine (HOW.out _ (bthen HB1.out hHeld)).mono ?_); rintro e y1 ⟨rfl, hb⟩; have HX := Lib.hid (bthen hHeld hb); clear hb))
  refine hK.out _ _ (by (try dsimp only); exact HX.out) (fun hHeld => ?_)
  clear hK K
  refine tkP (v := .bool false) 4 rfl rfl ?_
  refine tkP 5 rfl rfl ?_
  refine tkP 6 rfl rfl ?_
  refine tkA 7 rfl rfl (yieldsIf_load_mid (by rfl) _ _ rfl g2 0 rfl f.t.cells _ (fun w0 hSw => facts_tx (range_of (keep hSw HF1.out))) Tryz.underlying56 rfl SZT.out) ?_
  refine tkP 10 rfl rfl ?_
  refine tkA 11 rfl rfl (yieldsIf_load_mid (by rfl) _ _ rfl g 69 rfl (cellsOf p.commit) _ (fun w0 hSw => prf_commit HRI.out (range_of (keep hSw HP1.out))) Tryz.underlying23 rfl SXC.out) ?_
  refine tkR 8 rfl (fun K hK => ?_)
  go_simp
  go_wp2_with ((go_at_call 41; (with_reducible refine (HRE.out _ (bthen HB1.out hHeld)).mono ?_); rintro e y2 ⟨rfl, hb⟩; have HX := Lib.hid (bthen hHeld hb); clear hb))
  refine hK.out _ _ (by (try dsimp only); exact HX.out) (fun hHeld => ?_)
  clear hK K
  refine tkA 9 rfl rfl (yields_field17 (by rfl) rfl rfl (ref_sum17 0 HTL.out)) ?_
  refine tkA 12 rfl rfl (yields_neq (by rfl) rfl rfl rfl HTL.out HCL.out false (by simp [E6.out])) ?_
  refine tkP 13 rfl rfl ?_
  refine wpAnyH_done (by kernel_rfl) ?_ _
  have hb := hHeld
  have HB5 := Lib.hid (bthen HB1.out hb)
  have HP5 := Lib.hid (keep hb HP1.out)
  have HC5 := Lib.hid (keep hb HC1.out)
  have HF5 := Lib.hid (keep hb HF1.out)
  have KD := Lib.hid KC.out
  rw [if_pos (And.intro e5 E6.out)] at KD
  clear hHeld hb KC HB1 HP1 HC1 HF1 HOW HRE e5 E6 e5b
  revert HB5 HP5 HC5 HF5
  generalize y2 = w5
  intro HB5 HP5 HC5 HF5
  go_upto_region 3 with (fail)
  have rc5 := Lib.hid (prf_commit HRI.out (range_of HP5.out))
  have k4 : w5.cell? ⟨g, 68, none⟩ = some (.slice p.ba p.bn p.bc) := prf_blob HRI.out (range_of HP5.out)
  go_upto_region 4 with (first | (refine wpList_load_mid rfl 23 _ rfl g 69 rfl (cellsOf p.commit) _ rc5.out Tryz.underlying23 rfl SXC.out ?_) | (go_at_call 35; (with_reducible refine (HUN.out _ HB5.out).mono ?_); rintro e w6 ⟨x, rfl, hx, hpx, hb⟩; have HB6 := Lib.hid (bthen HB5.out hb); have HP6 := Lib.hid (keep hb HP5.out); have HC6 := Lib.hid (keep hb HC5.out); have HF6 := Lib.hid (keep hb HF5.out); have HXT6 := Lib.hid hx; have HPX := Lib.hid hpx; have XTL := Lib.hid (PTx.len hx.op.root); have SZX := Lib.hid (tx_sizeA hx.op.root); clear hx hpx hb) | (refine wpList_var rfl rfl 56 rfl _ _ rfl noTx.cells.toArray Tryz.zeroTx14 rfl x.cells (fun _ => rfl) (fun _ => rfl) XTL.out (PTx.one _) ?_; intro q w7 hq hh hb; go_frame; have HB7 := Lib.hid (bthen HB6.out hb); have HP7 := Lib.hid (keep hb HP6.out); have HC7 := Lib.hid (keep hb HC6.out); have HF7 := Lib.hid (keep hb HF6.out); have HXT7 := Lib.hid (HXT6.out.below hb); have HQ7 := Lib.hid hh; clear hq hh hb) | fail)
  clear k4 rc5 HB5 HP5 HC5 HF5 HB6 HP6 HC6 HF6 HXT6 HUN
  by_cases e7 : U = 0
  rotate_left
  · have hb : (U != 0) = true := by simpa using e7
    go_wp2_with fail
    go_ret
    exact ⟨by rw [KD.out, if_neg e7] <;> rfl, HB7.out⟩
  have KE := Lib.hid KD.out
  rw [if_pos e7] at KE
  have HPXX := Lib.hid (HPX.out e7)
  subst e7
  have hb : ((0 : Int) != 0) = false := by decide
  clear KD HPX
  have rf7 := Lib.hid (facts_tx (range_of HF7.out))
  go_wp2_with (first | (refine wpList_load_row rfl 49 _ rfl g1 rfl 49 c.cells.toArray (0, 0) _ HC7.out Tryz.underlying49 rfl SZCA.out ?_) | (refine wpList_load_mid rfl 56 _ rfl g2 0 rfl f.t.cells _ rf7.out Tryz.underlying56 rfl SZT.out ?_) | (refine wpList_load_row rfl 56 _ rfl q rfl 56 x.cells.toArray (0, 0) _ HQ7.out Tryz.underlying56 rfl SZX.out ?_) | (go_at_call 36; (with_reducible refine (HJD.out _ _ HB7.out HXT7.out HPXX.out).mono ?_); rintro e w8 ⟨rfl, hb8⟩; have HB8 := Lib.hid (bthen HB7.out hb8); clear hb8) | fail)
  go_ret
  exact ⟨by rw [KE.out] <;> rfl, HB8.out⟩
end Go.Proofs.YtcmdpmialehjgaaGreatDoor
