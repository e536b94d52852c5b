/- What law 17's why comes to, over what it calls. -/
import Derived.Test.YtcmdpmialehjgaaGreatDoorWhyPlain
import Derived.Test.YtcmdpmialehjgaaGreatDoorSha
import Derived.Test.YtcmdpmialehjgaaGreatDoorCommit
import Derived.Test.YtcmdpmialehjgaaGreatDoorSteps
import Derived.Test.YtcmdpmialehjgaaGreatDoorMemory
namespace Go.Proofs.YtcmdpmialehjgaaGreatDoor
open Go.RowKit

set_option linter.unusedSimpArgs false in
set_option maxRecDepth 100000 in
set_option maxHeartbeats 25600000 in
theorem why_walk {w : World} {p : PPrf} {tower height : Int} {c : PChan} {root H M T : List UInt8} {f : PFacts} {V : Bool} {O U G : Int} {PP : PTx → Prop} (hp : PrfIn w p) (hc : ChanIn c) (hr : root.length = 32) (hf : FactsIn w f) (hH : H.length = 32) (hM : M.length = 32) (hT : T.length = 32)
    (hve : ∀ W : World, Below w.heap.size w W → Calls Tryz.prog 30 #[.agg (cellsOf root).toArray, .agg p.r.cells.toArray, .slice p.sa p.sn p.sc] W fun e w' => e = .returned (.bool V) ∧ Below W.heap.size W w')
    (hhi : ∀ W : World, Below w.heap.size w W → Calls Tryz.prog 31 #[.agg (cellsOf p.commit).toArray] W fun e w' => e = .returned (.agg (cellsOf H).toArray) ∧ Below W.heap.size W w')
    (hmk : ∀ W : World, Below w.heap.size w W → Calls Tryz.prog 32 #[.slice p.ba p.bn p.bc] W fun e w' => e = .returned (.agg (cellsOf M).toArray) ∧ Below W.heap.size W w')
    (how : ∀ W : World, Below w.heap.size w W → Calls Tryz.prog 33 #[.agg c.cells.toArray, .agg f.t.cells.toArray] W fun e w' => e = .returned (.int .i64 O) ∧ Below W.heap.size W w')
    (hsu : ∀ W : World, Below w.heap.size w W → Calls Tryz.prog 34 #[.agg f.t.cells.toArray] W fun e w' => e = .returned (.agg (cellsOf T).toArray) ∧ Below W.heap.size W w')
    (hun : ∀ W : World, Below w.heap.size w W → Calls Tryz.prog 35 #[.agg (cellsOf p.commit).toArray, .slice p.ba p.bn p.bc] W fun e w' => ∃ x : PTx, e = .returned (.tuple #[.agg x.cells.toArray, .int .i64 U]) ∧ TxIn w' x ∧ (U = 0 → PP x) ∧ Below W.heap.size W w')
    (hjc : O = 1 → ∀ (W : World) (x : PTx), Below w.heap.size w W → TxIn W x → PP x → Calls Tryz.prog 36 #[.agg c.cells.toArray, .agg f.t.cells.toArray, .agg x.cells.toArray] W fun e w' => e = .returned (.int .i64 G) ∧ Below W.heap.size W w') :
    Calls Tryz.prog 17 #[.agg p.cells.toArray, .int .i64 tower, .agg c.cells.toArray, .agg (cellsOf root).toArray, .agg f.cells.toArray, .int .i64 height] w fun e w' => e = .returned (.int .i64 (whyV p tower c f height V H M O T U G)) ∧ Below w.heap.size w w' := by
  obtain ⟨R, hR⟩ : ∃ R, whyV p tower c f height V H M O T U G = R := ⟨_, rfl⟩
  have K21 : Hid (¬ (p.r.tower = tower ∧ p.r.channel = c.id) → R = 21) := Lib.hid fun h => by rw [← hR]; unfold whyV; rw [if_neg h]
  have K11 : Hid (p.r.tower = tower ∧ p.r.channel = c.id → V = false → R = 11) := Lib.hid fun h h2 => by rw [← hR]; unfold whyV; rw [if_pos h, h2]; rfl
  have KA : Hid (p.r.tower = tower ∧ p.r.channel = c.id → V = true → R = if p.r.hint = H ∧ p.r.blob = M then if O = 1 ∧ T = p.commit then if U = 0 then if G = 0 then if savedB f c = true then 18 else if wrap64 (height - f.at') ≤ c.window then 17 else 0 else G else U else 13 else 16) := Lib.hid fun h h2 => by rw [← hR]; unfold whyV; rw [if_pos h, if_pos h2]
  rw [hR]
  have SZP := Lib.hid (prf_sizeA hp)
  have SZRC := Lib.hid (rec_size hp.r)
  have SZRA := Lib.hid (rec_sizeA hp.r)
  have RL := Lib.hid (PRec.len hp.r)
  have SZC := Lib.hid (chan_size hc.ftx)
  have SZCA := Lib.hid (chan_sizeA hc.ftx)
  have SZR := Lib.hid (size_of hr)
  have SZT := Lib.hid (tx_size hf.t.op.root)
  have SZF := Lib.hid (facts_sizeA hf)
  have SXH := Lib.hid (sumLen17 hp.r.hint)
  have SXB := Lib.hid (sumLen17 hp.r.blob)
  have SXC := Lib.hid (sumLen17 hp.commit)
  have HRI := Lib.hid hp.r
  have HCL := Lib.hid hp.commit
  have HCF := Lib.hid hc.ftx
  have HTR := Lib.hid hf.t.op.root
  have HHL := Lib.hid hH
  have HML := Lib.hid hM
  have HTL := Lib.hid hT
  have HVE := Lib.hid hve
  have HHI := Lib.hid hhi
  have HMK := Lib.hid hmk
  have HOW := Lib.hid how
  have HSU := Lib.hid hsu
  have HUN := Lib.hid hun
  have HJC := Lib.hid hjc
  clear hp hc hr hf hH hM hT hve hhi hmk how hsu hun hjc hR
  go_enter Tryz.func17, Tryz.ntmps17
  go_upto_region 1 with (fail)
  obtain ⟨w1, g1, g2, g3, hw1, hg1, hg2, hg3, hb1, h1, h2, h3, h4⟩ := four_boxes17 w p.cells.toArray c.cells.toArray (cellsOf root).toArray f.cells.toArray 28 49 23 58
  rw [← hw1, ← hg3, ← hg2, ← hg1]
  obtain ⟨g, hg⟩ : ∃ g, g = w.heap.size := ⟨_, rfl⟩
  rw [← hg] at h1 ⊢
  have HB1 := Lib.hid hb1
  have HP1 := Lib.hid h1
  have HC1 := Lib.hid h2
  have HR1 := Lib.hid h3
  have HF1 := Lib.hid h4
  clear hw1 hg1 hg2 hg3 hb1 h1 h2 h3 h4 hg
  have rp1 := Lib.hid (prf_rec (range_of HP1.out))
  go_upto_region 2 with (first | (refine wpList_load_mid rfl 25 _ rfl g 0 rfl p.r.cells _ rp1.out Tryz.underlying25 rfl SZRC.out ?_) | (refine wpList_var rfl rfl 25 rfl _ _ rfl noRec.cells.toArray Tryz.infoRec rfl p.r.cells (fun _ => rfl) (fun _ => rfl) RL.out (PRec.one _) ?_; intro v w2 hq hh hb; go_frame; have HB2 := Lib.hid (bthen HB1.out hb); have HP2 := Lib.hid (keep hb HP1.out); have HC2 := Lib.hid (keep hb HC1.out); have HR2 := Lib.hid (keep hb HR1.out); have HF2 := Lib.hid (keep hb HF1.out); have HV2 := Lib.hid hh; clear hq hh hb) | fail)
  have k0 : w2.cell? ⟨v, 0, none⟩ = some (.int .i64 p.r.tower) := rec_tower (range_nil (range_of HV2.out))
  have k1 : w2.cell? ⟨v, 1, none⟩ = some (.int .i64 p.r.channel) := rec_channel (g := v) (o := 0) (range_nil (range_of HV2.out))
  have k2 : w2.cell? ⟨g1, 0, none⟩ = some (.int .i64 c.id) := chan_id (range_of HC2.out)
  by_cases e1 : p.r.tower = tower
  rotate_left
  · go_wp2_with fail
    go_ret
    exact ⟨by rw [K21.out (fun h => e1 h.1)] <;> rfl, HB2.out⟩
  by_cases e2 : p.r.channel = c.id
  rotate_left
  · go_wp2_with fail
    go_ret
    exact ⟨by rw [K21.out (fun h => e2 h.2)] <;> rfl, HB2.out⟩
  have E12 := Lib.hid (And.intro e1 e2)
  have k3 : w2.cell? ⟨g, 67, none⟩ = some (.slice p.sa p.sn p.sc) := prf_sig HRI.out (range_of HP2.out)
  cases V
  · have KZ := Lib.hid (K11.out E12.out rfl)
    clear K21 K11 KA
    go_wp2_with (first | (refine wpList_load_row rfl 23 _ rfl g2 rfl 23 (cellsOf root).toArray (0, 0) _ HR2.out Tryz.underlying23 rfl SZR.out ?_) | (refine wpList_load_row rfl 25 _ rfl v rfl 25 p.r.cells.toArray (0, 0) _ HV2.out Tryz.underlying25 rfl SZRA.out ?_) | (go_at_call 30; (with_reducible refine (HVE.out _ HB2.out).mono ?_); rintro e w3 ⟨rfl, hb⟩; have HB3 := Lib.hid (bthen HB2.out hb); clear hb) | fail)
    go_ret
    exact ⟨by rw [KZ.out] <;> rfl, HB3.out⟩
  · have KB := Lib.hid (KA.out E12.out rfl)
    clear K21 K11 KA
    go_upto_region 6 with (first | (refine wpList_load_row rfl 23 _ rfl g2 rfl 23 (cellsOf root).toArray (0, 0) _ HR2.out Tryz.underlying23 rfl SZR.out ?_) | (refine wpList_load_row rfl 25 _ rfl v rfl 25 p.r.cells.toArray (0, 0) _ HV2.out Tryz.underlying25 rfl SZRA.out ?_) | (go_at_call 30; (with_reducible refine (HVE.out _ HB2.out).mono ?_); rintro e w3 ⟨rfl, hb⟩; have HB3 := Lib.hid (bthen HB2.out hb); have HP3 := Lib.hid (keep hb HP2.out); have HC3 := Lib.hid (keep hb HC2.out); have HR3 := Lib.hid (keep hb HR2.out); have HF3 := Lib.hid (keep hb HF2.out); have HV3 := Lib.hid (keep hb HV2.out); clear hb) | fail)
    clear k0 k1 k2 k3 rp1 HB1 HP1 HC1 HR1 HF1 HB2 HP2 HC2 HR2 HF2 HV2 e1 e2 E12 HVE
    by_cases e3 : p.r.hint = H
    rotate_left
    · have E3 := Lib.hid e3
      clear e3
      refine wp_region_held_drew (S := fun w' => Below w3.heap.size w3 w') (by kernel_rfl) (below_drew (Below.refl _ _)) (fun hHeld => ?_)
      refine tkP 0 rfl rfl ?_
      refine tkA 1 rfl rfl (yieldsIf_load_mid (by rfl) _ _ rfl v 3 rfl (cellsOf p.r.hint) _ (fun w0 hSw => rec_hint (g := v) (o := 0) (range_nil (range_of (keep hSw HV3.out)))) Tryz.underlying23 rfl SXH.out) ?_
      refine tkP 2 rfl rfl ?_
      refine tkA 3 rfl rfl (yieldsIf_load_mid (by rfl) _ _ rfl g 69 rfl (cellsOf p.commit) _ (fun w0 hSw => prf_commit HRI.out (range_of (keep hSw HP3.out))) Tryz.underlying23 rfl SXC.out) ?_
      refine tkR 4 rfl (fun K hK => ?_)
      go_simp
      go_wp2_with ((go_at_call 31; (with_reducible refine (HHI.out _ (bthen HB3.out hHeld)).mono ?_); rintro e y1 ⟨rfl, hb⟩; have HX := Lib.hid (bthen hHeld hb); clear hb))
      refine hK.out _ _ (by (try dsimp only); exact HX.out) (fun hHeld => ?_)
      clear hK K
      refine tkA 5 rfl rfl (yields_neq (by rfl) rfl rfl rfl HRI.out.hint HHL.out true (by simp [E3.out])) ?_
      refine tkP 6 rfl rfl ?_
      refine tkA (v := undef) 7 rfl rfl (Or.inr ⟨by rfl, rfl⟩) ?_
      refine tkA (v := undef) 8 rfl rfl (Or.inr ⟨by rfl, rfl⟩) ?_
      refine tkA (v := undef) 9 rfl rfl (Or.inr ⟨by rfl, rfl⟩) ?_
      refine tkA (v := undef) 10 rfl rfl (Or.inr ⟨by rfl, rfl⟩) ?_
      refine tkA (v := undef) 11 rfl rfl (Or.inr ⟨by rfl, rfl⟩) ?_
      refine tkA (v := undef) 12 rfl rfl (Or.inr ⟨by rfl, rfl⟩) ?_
      refine tkP 13 rfl rfl ?_
      refine wpAnyH_done (by kernel_rfl) ?_ _
      have HB4 := Lib.hid (bthen HB3.out hHeld)
      clear hHeld
      go_wp2_with fail
      go_ret
      exact ⟨by rw [KB.out, if_neg (fun h => E3.out h.1)] <;> rfl, HB4.out⟩
    have E3 := Lib.hid e3
    clear e3
    by_cases e4 : p.r.blob = M
    rotate_left
    · have E4 := Lib.hid e4
      clear e4
      refine wp_region_held_drew (S := fun w' => Below w3.heap.size w3 w') (by kernel_rfl) (below_drew (Below.refl _ _)) (fun hHeld => ?_)
      refine tkP 0 rfl rfl ?_
      refine tkA 1 rfl rfl (yieldsIf_load_mid (by rfl) _ _ rfl v 3 rfl (cellsOf p.r.hint) _ (fun w0 hSw => rec_hint (g := v) (o := 0) (range_nil (range_of (keep hSw HV3.out)))) Tryz.underlying23 rfl SXH.out) ?_
      refine tkP 2 rfl rfl ?_
      refine tkA 3 rfl rfl (yieldsIf_load_mid (by rfl) _ _ rfl g 69 rfl (cellsOf p.commit) _ (fun w0 hSw => prf_commit HRI.out (range_of (keep hSw HP3.out))) Tryz.underlying23 rfl SXC.out) ?_
      refine tkR 4 rfl (fun K hK => ?_)
      go_simp
      go_wp2_with ((go_at_call 31; (with_reducible refine (HHI.out _ (bthen HB3.out hHeld)).mono ?_); rintro e y1 ⟨rfl, hb⟩; have HX := Lib.hid (bthen hHeld hb); clear hb))
      refine hK.out _ _ (by (try dsimp only); exact HX.out) (fun hHeld => ?_)
      clear hK K
      refine tkA 5 rfl rfl (yields_neq (by rfl) rfl rfl rfl HRI.out.hint HHL.out false (by simp [E3.out])) ?_
      refine tkP 6 rfl rfl ?_
      refine tkP 7 rfl rfl ?_
      refine tkA 8 rfl rfl (yieldsIf_load_mid (by rfl) _ _ rfl v 35 rfl (cellsOf p.r.blob) _ (fun w0 hSw => rec_blob (g := v) (o := 0) HRI.out (range_nil (range_of (keep hSw HV3.out)))) Tryz.underlying23 rfl SXB.out) ?_
      refine tkP 9 rfl rfl ?_
      refine tkA 10 rfl rfl (yields_cell (by rfl) rfl rfl (b := g) (o := 68) (fun w0 hSw => prf_blob HRI.out (range_of (keep hSw HP3.out))) Tryz.isAgg26) ?_
      refine tkR 11 rfl (fun K hK => ?_)
      go_simp
      go_wp2_with ((go_at_call 32; (with_reducible refine (HMK.out _ (bthen HB3.out hHeld)).mono ?_); rintro e y2 ⟨rfl, hb⟩; have HX := Lib.hid (bthen hHeld hb); clear hb))
      refine hK.out _ _ (by (try dsimp only); exact HX.out) (fun hHeld => ?_)
      clear hK K
      refine tkA 12 rfl rfl (yields_neq (by rfl) rfl rfl rfl HRI.out.blob HML.out true (by simp [E4.out])) ?_
      refine tkP 13 rfl rfl ?_
      refine wpAnyH_done (by kernel_rfl) ?_ _
      have HB4 := Lib.hid (bthen HB3.out hHeld)
      clear hHeld
      go_wp2_with fail
      go_ret
      exact ⟨by rw [KB.out, if_neg (fun h => E4.out h.2)] <;> rfl, HB4.out⟩
    have E4 := Lib.hid e4
    clear e4
    refine wp_region_held_drew (S := fun w' => Below w3.heap.size w3 w') (by kernel_rfl) (below_drew (Below.refl _ _)) (fun hHeld => ?_)
    refine tkP 0 rfl rfl ?_
    refine tkA 1 rfl rfl (yieldsIf_load_mid (by rfl) _ _ rfl v 3 rfl (cellsOf p.r.hint) _ (fun w0 hSw => rec_hint (g := v) (o := 0) (range_nil (range_of (keep hSw HV3.out)))) Tryz.underlying23 rfl SXH.out) ?_
    refine tkP 2 rfl rfl ?_
    refine tkA 3 rfl rfl (yieldsIf_load_mid (by rfl) _ _ rfl g 69 rfl (cellsOf p.commit) _ (fun w0 hSw => prf_commit HRI.out (range_of (keep hSw HP3.out))) Tryz.underlying23 rfl SXC.out) ?_
    refine tkR 4 rfl (fun K hK => ?_)
    go_simp
    go_wp2_with ((go_at_call 31; (with_reducible refine (HHI.out _ (bthen HB3.out hHeld)).mono ?_); rintro e y1 ⟨rfl, hb⟩; have HX := Lib.hid (bthen hHeld hb); clear hb))
    refine hK.out _ _ (by (try dsimp only); exact HX.out) (fun hHeld => ?_)
    clear hK K
    refine tkA 5 rfl rfl (yields_neq (by rfl) rfl rfl rfl HRI.out.hint HHL.out false (by simp [E3.out])) ?_
    refine tkP 6 rfl rfl ?_
    refine tkP 7 rfl rfl ?_
    refine tkA 8 rfl rfl (yieldsIf_load_mid (by rfl) _ _ rfl v 35 rfl (cellsOf p.r.blob) _ (fun w0 hSw => rec_blob (g := v) (o := 0) HRI.out (range_nil (range_of (keep hSw HV3.out)))) Tryz.underlying23 rfl SXB.out) ?_
    refine tkP 9 rfl rfl ?_
    refine tkA 10 rfl rfl (yields_cell (by rfl) rfl rfl (b := g) (o := 68) (fun w0 hSw => prf_blob HRI.out (range_of (keep hSw HP3.out))) Tryz.isAgg26) ?_
    refine tkR 11 rfl (fun K hK => ?_)
    go_simp
    go_wp2_with ((go_at_call 32; (with_reducible refine (HMK.out _ (bthen HB3.out hHeld)).mono ?_); rintro e y2 ⟨rfl, hb⟩; have HX := Lib.hid (bthen hHeld hb); clear hb))
    refine hK.out _ _ (by (try dsimp only); exact HX.out) (fun hHeld => ?_)
    clear hK K
    refine tkA 12 rfl rfl (yields_neq (by rfl) rfl rfl rfl HRI.out.blob HML.out false (by simp [E4.out])) ?_
    refine tkP 13 rfl rfl ?_
    refine wpAnyH_done (by kernel_rfl) ?_ _
    have hb := hHeld
    have HB4 := Lib.hid (bthen HB3.out hb)
    have HP4 := Lib.hid (keep hb HP3.out)
    have HC4 := Lib.hid (keep hb HC3.out)
    have HR4 := Lib.hid (keep hb HR3.out)
    have HF4 := Lib.hid (keep hb HF3.out)
    have HV4 := Lib.hid (keep hb HV3.out)
    have KC := Lib.hid KB.out
    rw [if_pos (And.intro E3.out E4.out)] at KC
    clear hHeld hb KB HB3 HP3 HC3 HR3 HF3 HV3 HHI HMK E3 E4
    revert HB4 HP4 HC4 HR4 HF4 HV4
    generalize y2 = w4
    intro HB4 HP4 HC4 HR4 HF4 HV4
    go_upto_region 8 with (fail)
    by_cases e5 : O = 1
    rotate_left
    · have e5b : (O != 1) = true := by simpa using e5
      refine wp_region_held_drew (S := fun w' => Below w4.heap.size w4 w') (by kernel_rfl) (below_drew (Below.refl _ _)) (fun hHeld => ?_)
      refine tkA 0 rfl rfl (yieldsIf_load_mid (by rfl) _ _ rfl g1 0 rfl c.cells _ (fun w0 hSw => range_of (keep hSw HC4.out)) Tryz.underlying49 rfl SZC.out) ?_
      refine tkP 1 rfl rfl ?_
      refine tkA 2 rfl rfl (yieldsIf_load_mid (by rfl) _ _ rfl g3 0 rfl f.t.cells _ (fun w0 hSw => facts_tx (range_of (keep hSw HF4.out))) Tryz.underlying56 rfl SZT.out) ?_
      refine tkR 3 rfl (fun K hK => ?_)
      go_simp
      go_wp2_with ((go_at_call 33; (with_reducible refine (HOW.out _ (bthen HB4.out hHeld)).mono ?_); rintro e y1 ⟨rfl, hb⟩; have HX := Lib.hid (bthen hHeld hb); clear hb))
      refine hK.out _ _ (by (try dsimp only); exact HX.out) (fun hHeld => ?_)
      clear hK K
      refine tkP (v := .bool true) 4 rfl rfl ?_
      refine tkP 5 rfl rfl ?_
      refine tkA (v := undef) 6 rfl rfl (Or.inr ⟨by rfl, rfl⟩) ?_
      refine tkA (v := undef) 7 rfl rfl (Or.inr ⟨by rfl, rfl⟩) ?_
      refine tkA (v := undef) 8 rfl rfl (Or.inr ⟨by rfl, rfl⟩) ?_
      refine tkA (v := undef) 9 rfl rfl (Or.inr ⟨by rfl, rfl⟩) ?_
      refine tkA (v := undef) 10 rfl rfl (Or.inr ⟨by rfl, rfl⟩) ?_
      refine tkA (v := undef) 11 rfl rfl (Or.inr ⟨by rfl, rfl⟩) ?_
      refine tkP 12 rfl rfl ?_
      refine wpAnyH_done (by kernel_rfl) ?_ _
      have HB5 := Lib.hid (bthen HB4.out hHeld)
      clear hHeld
      go_wp2_with fail
      go_ret
      exact ⟨by rw [KC.out, if_neg (fun h => e5 h.1)] <;> rfl, HB5.out⟩
    have HJD := Lib.hid (HJC.out e5)
    clear HJC
    by_cases e6 : T = p.commit
    rotate_left
    · have e5b : (O != 1) = false := by simpa using e5
      have E6 := Lib.hid e6
      clear e6
      refine wp_region_held_drew (S := fun w' => Below w4.heap.size w4 w') (by kernel_rfl) (below_drew (Below.refl _ _)) (fun hHeld => ?_)
      refine tkA 0 rfl rfl (yieldsIf_load_mid (by rfl) _ _ rfl g1 0 rfl c.cells _ (fun w0 hSw => range_of (keep hSw HC4.out)) Tryz.underlying49 rfl SZC.out) ?_
      refine tkP 1 rfl rfl ?_
      refine tkA 2 rfl rfl (yieldsIf_load_mid (by rfl) _ _ rfl g3 0 rfl f.t.cells _ (fun w0 hSw => facts_tx (range_of (keep hSw HF4.out))) Tryz.underlying56 rfl SZT.out) ?_
      refine tkR 3 rfl (fun K hK => ?_)
      go_simp
      go_wp2_with ((go_at_call 33; (with_reducible refine (HOW.out _ (bthen HB4.out hHeld)).mono ?_); rintro e y1 ⟨rfl, hb⟩; have HX := Lib.hid (bthen hHeld hb); clear hb))
      refine hK.out _ _ (by (try dsimp only); exact HX.out) (fun hHeld => ?_)
      clear hK K
      refine tkP (v := .bool false) 4 rfl rfl ?_
      refine tkP 5 rfl rfl ?_
      refine tkP 6 rfl rfl ?_
      refine tkA 7 rfl rfl (yieldsIf_load_mid (by rfl) _ _ rfl g3 0 rfl f.t.cells _ (fun w0 hSw => facts_tx (range_of (keep hSw HF4.out))) Tryz.underlying56 rfl SZT.out) ?_
      refine tkP 9 rfl rfl ?_
      refine tkA 10 rfl rfl (yieldsIf_load_mid (by rfl) _ _ rfl g 69 rfl (cellsOf p.commit) _ (fun w0 hSw => prf_commit HRI.out (range_of (keep hSw HP4.out))) Tryz.underlying23 rfl SXC.out) ?_
      refine tkR 8 rfl (fun K hK => ?_)
      go_simp
      go_wp2_with ((go_at_call 34; (with_reducible refine (HSU.out _ (bthen HB4.out hHeld)).mono ?_); rintro e y2 ⟨rfl, hb⟩; have HX := Lib.hid (bthen hHeld hb); clear hb))
      refine hK.out _ _ (by (try dsimp only); exact HX.out) (fun hHeld => ?_)
      clear hK K
      refine tkA 11 rfl rfl (yields_neq (by rfl) rfl rfl rfl HTL.out HCL.out true (by simp [E6.out])) ?_
      refine tkP 12 rfl rfl ?_
      refine wpAnyH_done (by kernel_rfl) ?_ _
      have HB5 := Lib.hid (bthen HB4.out hHeld)
      clear hHeld
      go_wp2_with fail
      go_ret
      exact ⟨by rw [KC.out, if_neg (fun h => E6.out h.2)] <;> rfl, HB5.out⟩
    have e5b : (O != 1) = false := by simpa using e5
    have E6 := Lib.hid e6
    clear e6
    refine wp_region_held_drew (S := fun w' => Below w4.heap.size w4 w') (by kernel_rfl) (below_drew (Below.refl _ _)) (fun hHeld => ?_)
    refine tkA 0 rfl rfl (yieldsIf_load_mid (by rfl) _ _ rfl g1 0 rfl c.cells _ (fun w0 hSw => range_of (keep hSw HC4.out)) Tryz.underlying49 rfl SZC.out) ?_
    refine tkP 1 rfl rfl ?_
    refine tkA 2 rfl rfl (yieldsIf_load_mid (by rfl) _ _ rfl g3 0 rfl f.t.cells _ (fun w0 hSw => facts_tx (range_of (keep hSw HF4.out))) Tryz.underlying56 rfl SZT.out) ?_
    refine tkR 3 rfl (fun K hK => ?_)
    go_simp
    go_wp2_with ((go_at_call 33; (with_reducible refine (HOW.out _ (bthen HB4.out hHeld)).mono ?_); rintro e y1 ⟨rfl, hb⟩; have HX := Lib.hid (bthen hHeld hb); clear hb))
    refine hK.out _ _ (by (try dsimp only); exact HX.out) (fun hHeld => ?_)
    clear hK K
    refine tkP (v := .bool false) 4 rfl rfl ?_
    refine tkP 5 rfl rfl ?_
    refine tkP 6 rfl rfl ?_
    refine tkA 7 rfl rfl (yieldsIf_load_mid (by rfl) _ _ rfl g3 0 rfl f.t.cells _ (fun w0 hSw => facts_tx (range_of (keep hSw HF4.out))) Tryz.underlying56 rfl SZT.out) ?_
    refine tkP 9 rfl rfl ?_
    refine tkA 10 rfl rfl (yieldsIf_load_mid (by rfl) _ _ rfl g 69 rfl (cellsOf p.commit) _ (fun w0 hSw => prf_commit HRI.out (range_of (keep hSw HP4.out))) Tryz.underlying23 rfl SXC.out) ?_
    refine tkR 8 rfl (fun K hK => ?_)
    go_simp
    go_wp2_with ((go_at_call 34; (with_reducible refine (HSU.out _ (bthen HB4.out hHeld)).mono ?_); rintro e y2 ⟨rfl, hb⟩; have HX := Lib.hid (bthen hHeld hb); clear hb))
    refine hK.out _ _ (by (try dsimp only); exact HX.out) (fun hHeld => ?_)
    clear hK K
    refine tkA 11 rfl rfl (yields_neq (by rfl) rfl rfl rfl HTL.out HCL.out false (by simp [E6.out])) ?_
    refine tkP 12 rfl rfl ?_
    refine wpAnyH_done (by kernel_rfl) ?_ _
    have hb := hHeld
    have HB5 := Lib.hid (bthen HB4.out hb)
    have HP5 := Lib.hid (keep hb HP4.out)
    have HC5 := Lib.hid (keep hb HC4.out)
    have HR5 := Lib.hid (keep hb HR4.out)
    have HF5 := Lib.hid (keep hb HF4.out)
    have HV5 := Lib.hid (keep hb HV4.out)
    have KD := Lib.hid KC.out
    rw [if_pos (And.intro e5 E6.out)] at KD
    clear hHeld hb KC HB4 HP4 HC4 HR4 HF4 HV4 HOW HSU e5 E6 e5b
    revert HB5 HP5 HC5 HR5 HF5 HV5
    generalize y2 = w5
    intro HB5 HP5 HC5 HR5 HF5 HV5
    go_upto_region 10 with (fail)
    have rc5 := Lib.hid (prf_commit HRI.out (range_of HP5.out))
    have k4 : w5.cell? ⟨g, 68, none⟩ = some (.slice p.ba p.bn p.bc) := prf_blob HRI.out (range_of HP5.out)
    go_upto_region 11 with (first | (refine wpList_load_mid rfl 23 _ rfl g 69 rfl (cellsOf p.commit) _ rc5.out Tryz.underlying23 rfl SXC.out ?_) | (go_at_call 35; (with_reducible refine (HUN.out _ HB5.out).mono ?_); rintro e w6 ⟨x, rfl, hx, hpx, hb⟩; have HB6 := Lib.hid (bthen HB5.out hb); have HP6 := Lib.hid (keep hb HP5.out); have HC6 := Lib.hid (keep hb HC5.out); have HR6 := Lib.hid (keep hb HR5.out); have HF6 := Lib.hid (keep hb HF5.out); have HV6 := Lib.hid (keep hb HV5.out); have HXT6 := Lib.hid hx; have HPX := Lib.hid hpx; have XTL := Lib.hid (PTx.len hx.op.root); have SZX := Lib.hid (tx_sizeA hx.op.root); clear hx hpx hb) | (refine wpList_var rfl rfl 56 rfl _ _ rfl noTx.cells.toArray Tryz.zeroTx14 rfl x.cells (fun _ => rfl) (fun _ => rfl) XTL.out (PTx.one _) ?_; intro q w7 hq hh hb; go_frame; have HB7 := Lib.hid (bthen HB6.out hb); have HP7 := Lib.hid (keep hb HP6.out); have HC7 := Lib.hid (keep hb HC6.out); have HR7 := Lib.hid (keep hb HR6.out); have HF7 := Lib.hid (keep hb HF6.out); have HV7 := Lib.hid (keep hb HV6.out); have HXT7 := Lib.hid (HXT6.out.below hb); have HQ7 := Lib.hid hh; clear hq hh hb) | fail)
    clear k4 rc5 HB5 HP5 HC5 HR5 HF5 HV5 HB6 HP6 HC6 HR6 HF6 HV6 HXT6 HUN
    by_cases e7 : U = 0
    rotate_left
    · have hb : (U != 0) = true := by simpa using e7
      go_wp2_with fail
      go_ret
      exact ⟨by rw [KD.out, if_neg e7] <;> rfl, HB7.out⟩
    have KE := Lib.hid KD.out
    rw [if_pos e7] at KE
    have HPXX := Lib.hid (HPX.out e7)
    subst e7
    have hb : ((0 : Int) != 0) = false := by decide
    clear KD HPX
    have rf7 := Lib.hid (facts_tx (range_of HF7.out))
    go_upto_region 14 with (first | (refine wpList_load_row rfl 49 _ rfl g1 rfl 49 c.cells.toArray (0, 0) _ HC7.out Tryz.underlying49 rfl SZCA.out ?_) | (refine wpList_load_mid rfl 56 _ rfl g3 0 rfl f.t.cells _ rf7.out Tryz.underlying56 rfl SZT.out ?_) | (refine wpList_load_row rfl 56 _ rfl q rfl 56 x.cells.toArray (0, 0) _ HQ7.out Tryz.underlying56 rfl SZX.out ?_) | (go_at_call 36; (with_reducible refine (HJD.out _ _ HB7.out HXT7.out HPXX.out).mono ?_); rintro e w8 ⟨rfl, hb⟩; have HB8 := Lib.hid (bthen HB7.out hb); have HP8 := Lib.hid (keep hb HP7.out); have HC8 := Lib.hid (keep hb HC7.out); have HR8 := Lib.hid (keep hb HR7.out); have HF8 := Lib.hid (keep hb HF7.out); have HV8 := Lib.hid (keep hb HV7.out); clear hb) | fail)
    clear rf7 HB7 HP7 HC7 HR7 HF7 HV7 HXT7 HQ7 HJD
    by_cases e8 : G = 0
    rotate_left
    · have hb : (G != 0) = true := by simpa using e8
      go_wp2_with fail
      go_ret
      exact ⟨by rw [KE.out, if_neg e8] <;> rfl, HB8.out⟩
    have KF := Lib.hid KE.out
    rw [if_pos e8] at KF
    clear KE
    subst e8
    have hb : ((0 : Int) != 0) = false := by decide
    have m0 : w8.cell? ⟨g3, 41, none⟩ = some (.bool f.taken) := facts_taken HTR.out (range_of HF8.out)
    have m1 : w8.cell? ⟨g3, 42, none⟩ = some (.int .i64 f.when) := facts_when HTR.out (range_of HF8.out)
    have m2 : w8.cell? ⟨g3, 40, none⟩ = some (.int .i64 f.at') := facts_at HTR.out (range_of HF8.out)
    have m3 : w8.cell? ⟨g1, 38, none⟩ = some (.int .i64 c.window) := chan_window17 HCF.out (range_of HC8.out)
    cases ht : f.taken
    · have KG : Hid (R = if wrap64 (height - f.at') ≤ c.window then 17 else 0) := Lib.hid (by rw [KF.out]; unfold savedB; rw [ht]; rfl)
      rw [ht] at m0
      clear KF
      by_cases e9 : wrap64 (height - f.at') ≤ c.window
      · have KQ : Hid (R = 17) := Lib.hid (by rw [KG.out, if_pos e9])
        clear KG
        go_wp2_with fail
        go_ret
        exact ⟨by rw [KQ.out] <;> rfl, HB8.out⟩
      · have KQ : Hid (R = 0) := Lib.hid (by rw [KG.out, if_neg e9])
        have e9b : c.window < wrap64 (height - f.at') := by omega
        clear KG
        go_wp2_with fail
        go_ret
        exact ⟨by rw [KQ.out] <;> rfl, HB8.out⟩
    · rw [ht] at m0
      by_cases e10 : wrap64 (f.when - f.at') ≤ c.window
      · have KG : Hid (R = 18) := Lib.hid (by rw [KF.out]; unfold savedB; rw [ht, decide_eq_true e10]; rfl)
        clear KF
        go_wp2_with fail
        go_ret
        exact ⟨by rw [KG.out] <;> rfl, HB8.out⟩
      · have KG : Hid (R = if wrap64 (height - f.at') ≤ c.window then 17 else 0) := Lib.hid (by rw [KF.out]; unfold savedB; rw [ht, decide_eq_false e10]; rfl)
        have e10b : c.window < wrap64 (f.when - f.at') := by omega
        clear KF
        by_cases e9 : wrap64 (height - f.at') ≤ c.window
        · have KQ : Hid (R = 17) := Lib.hid (by rw [KG.out, if_pos e9])
          clear KG
          go_wp2_with fail
          go_ret
          exact ⟨by rw [KQ.out] <;> rfl, HB8.out⟩
        · have KQ : Hid (R = 0) := Lib.hid (by rw [KG.out, if_neg e9])
          have e9b : c.window < wrap64 (height - f.at') := by omega
          clear KG
          go_wp2_with fail
          go_ret
          exact ⟨by rw [KQ.out] <;> rfl, HB8.out⟩
end Go.Proofs.YtcmdpmialehjgaaGreatDoor
