/- What the landed checkReceipt comes to, over what it calls. -/
import Derived.Test.YtcmdpmialehjgaaGreatDoorWhyPlain
import Derived.Test.YtcmdpmialehjgaaGreatDoorSha
import Derived.Test.YtcmdpmialehjgaaGreatDoorCommit
import Derived.Test.YtcmdpmialehjgaaGreatDoorSteps
import Derived.Test.YtcmdpmialehjgaaGreatDoorMemory
namespace Go.Proofs.YtcmdpmialehjgaaGreatDoor
open Go.RowKit

theorem three_boxes17 (w : World) (a b c : Array Value) (A B C : TypeId) : ∃ w1 g1 g2, w1 = ((w.alloc (.cells a A)).alloc (.cells b B)).alloc (.cells c C) ∧ g1 = w.heap.size + 1 ∧ g2 = w.heap.size + 1 + 1 ∧ Below w.heap.size w w1 ∧ w1.heap[w.heap.size]? = some (.cells a A (0, 0)) ∧ w1.heap[g1]? = some (.cells b B (0, 0)) ∧ w1.heap[g2]? = some (.cells c C (0, 0)) := by
  refine ⟨_, _, _, rfl, rfl, rfl, ?_, ?_, ?_, ?_⟩
  · exact (((Below.refl _ _).alloc (Nat.le_refl _) _).alloc (by simp) _).alloc (by simp; omega) _
  · rw [heap_alloc_old _ _ (by simp; omega), heap_alloc_old _ _ (by simp), heap_alloc_new]
  · rw [heap_alloc_old _ _ (by simp), heap_alloc_at _ _ _ (by simp)]
  · exact heap_alloc_at _ _ _ (by simp)
/-- What checkReceipt tells, plainly. -/
def recV (p : PPrf) (tower : Int) (c : PChan) (V : Bool) (H M : List UInt8) : Int := if p.r.tower = tower ∧ p.r.channel = c.id then if V = true then if p.r.hint = H ∧ p.r.blob = M then 0 else 16 else 11 else 21
/-- What checkAnswer tells, plainly. -/
def ansV (p : PPrf) (O : Int) (T : List UInt8) (U G : Int) : Int := if O = 1 ∧ T = p.commit then if U = 0 then G else U else 13
theorem why_split17 (p : PPrf) (tower : Int) (c : PChan) (f : PFacts) (height : Int) (V : Bool) (H M : List UInt8) (O : Int) (T : List UInt8) (U G : Int) :
    whyV p tower c f height V H M O T U G = if recV p tower c V H M = 0 then if ansV p O T U G = 0 then if savedB f c = true then 18 else if decide (wrap64 (height - f.at') ≤ c.window) = true then 17 else 0 else ansV p O T U G else recV p tower c V H M := by
  unfold whyV recV ansV
  by_cases h1 : p.r.tower = tower ∧ p.r.channel = c.id
  · by_cases h2 : V = true
    · by_cases h3 : p.r.hint = H ∧ p.r.blob = M
      · rw [if_pos h1, if_pos h1, if_pos h2, if_pos h2, if_pos h3, if_pos h3, if_pos rfl]
        by_cases h4 : O = 1 ∧ T = p.commit
        · rw [if_pos h4, if_pos h4]
          by_cases h5 : U = 0
          · rw [if_pos h5, if_pos h5]
            by_cases h6 : G = 0
            · rw [if_pos h6, if_pos h6]
              simp only [decide_eq_true_eq]
            · rw [if_neg h6, if_neg h6]
          · rw [if_neg h5, if_neg h5, if_neg h5]
        · rw [if_neg h4, if_neg h4, if_neg (by decide)]
      · rw [if_pos h1, if_pos h1, if_pos h2, if_pos h2, if_neg h3, if_neg h3, if_neg (by decide)]
    · rw [if_pos h1, if_pos h1, if_neg h2, if_neg h2, if_neg (by decide)]
  · rw [if_neg h1, if_neg h1, if_neg (by decide)]
set_option linter.unusedSimpArgs false in
set_option maxRecDepth 100000 in
set_option maxHeartbeats 12800000 in
theorem receipt_walk17 {w : World} {p : PPrf} {tower : Int} {c : PChan} {root H M : List UInt8} {V : Bool} (hp : PrfIn w p) (hr : root.length = 32) (hH : H.length = 32) (hM : M.length = 32)
    (hve : ∀ W : World, Below w.heap.size w W → Calls Tryz.prog 30 #[.agg (cellsOf root).toArray, .agg p.r.cells.toArray, .slice p.sa p.sn p.sc] W fun e w' => e = .returned (.bool V) ∧ Below W.heap.size W w')
    (hhi : ∀ W : World, Below w.heap.size w W → Calls Tryz.prog 31 #[.agg (cellsOf p.commit).toArray] W fun e w' => e = .returned (.agg (cellsOf H).toArray) ∧ Below W.heap.size W w')
    (hmk : ∀ W : World, Below w.heap.size w W → Calls Tryz.prog 32 #[.slice p.ba p.bn p.bc] W fun e w' => e = .returned (.agg (cellsOf M).toArray) ∧ Below W.heap.size W w') :
    Calls Tryz.prog 27 #[.agg p.cells.toArray, .int .i64 tower, .agg c.cells.toArray, .agg (cellsOf root).toArray] w fun e w' => e = .returned (.int .i64 (recV p tower c V H M)) ∧ Below w.heap.size w w' := by
  obtain ⟨R, hR⟩ : ∃ R, recV p tower c V H M = R := ⟨_, rfl⟩
  have K21 : Hid (¬ (p.r.tower = tower ∧ p.r.channel = c.id) → R = 21) := Lib.hid fun h => by rw [← hR]; unfold recV; rw [if_neg h]
  have K11 : Hid (p.r.tower = tower ∧ p.r.channel = c.id → V = false → R = 11) := Lib.hid fun h h2 => by rw [← hR]; unfold recV; rw [if_pos h, h2]; rfl
  have KA : Hid (p.r.tower = tower ∧ p.r.channel = c.id → V = true → R = if p.r.hint = H ∧ p.r.blob = M then 0 else 16) := Lib.hid fun h h2 => by rw [← hR]; unfold recV; rw [if_pos h, if_pos h2]
  rw [hR]
  have SZRC := Lib.hid (rec_size hp.r)
  have SZRA := Lib.hid (rec_sizeA hp.r)
  have RL := Lib.hid (PRec.len hp.r)
  have SZR := Lib.hid (size_of hr)
  have SXH := Lib.hid (sumLen17 hp.r.hint)
  have SXB := Lib.hid (sumLen17 hp.r.blob)
  have SXC := Lib.hid (sumLen17 hp.commit)
  have HRI := Lib.hid hp.r
  have HCL := Lib.hid hp.commit
  have HHL := Lib.hid hH
  have HML := Lib.hid hM
  have HVE := Lib.hid hve
  have HHI := Lib.hid hhi
  have HMK := Lib.hid hmk
  clear hp hr hH hM hve hhi hmk hR
  go_enter Tryz.func27, Tryz.ntmps27
  go_upto_region 1 with (fail)
  obtain ⟨w1, g1, g2, hw1, hg1, hg2, hb1, h1, h2, h3⟩ := three_boxes17 w p.cells.toArray c.cells.toArray (cellsOf root).toArray 28 49 23
  rw [← hw1, ← hg2, ← hg1]
  obtain ⟨g, hg⟩ : ∃ g, g = w.heap.size := ⟨_, rfl⟩
  rw [← hg] at h1 ⊢
  have HB1 := Lib.hid hb1
  have HP1 := Lib.hid h1
  have HC1 := Lib.hid h2
  have HR1 := Lib.hid h3
  clear hw1 hg1 hg2 hb1 h1 h2 h3 hg
  have rp1 := Lib.hid (prf_rec (range_of HP1.out))
  go_upto_region 2 with (first | (refine wpList_load_mid rfl 25 _ rfl g 0 rfl p.r.cells _ rp1.out Tryz.underlying25 rfl SZRC.out ?_) | (refine wpList_var rfl rfl 25 rfl _ _ rfl noRec.cells.toArray Tryz.infoRec rfl p.r.cells (fun _ => rfl) (fun _ => rfl) RL.out (PRec.one _) ?_; intro v w2 hq hh hb; go_frame; have HB2 := Lib.hid (bthen HB1.out hb); have HP2 := Lib.hid (keep hb HP1.out); have HC2 := Lib.hid (keep hb HC1.out); have HR2 := Lib.hid (keep hb HR1.out); have HV2 := Lib.hid hh; clear hq hh hb) | fail)
  have k0 : w2.cell? ⟨v, 0, none⟩ = some (.int .i64 p.r.tower) := rec_tower (range_nil (range_of HV2.out))
  have k1 : w2.cell? ⟨v, 1, none⟩ = some (.int .i64 p.r.channel) := rec_channel (g := v) (o := 0) (range_nil (range_of HV2.out))
  have k2 : w2.cell? ⟨g1, 0, none⟩ = some (.int .i64 c.id) := chan_id (range_of HC2.out)
  by_cases e1 : p.r.tower = tower
  rotate_left
  · go_wp2_with fail
    go_ret
    exact ⟨by rw [K21.out (fun h => e1 h.1)] <;> rfl, HB2.out⟩
  by_cases e2 : p.r.channel = c.id
  rotate_left
  · go_wp2_with fail
    go_ret
    exact ⟨by rw [K21.out (fun h => e2 h.2)] <;> rfl, HB2.out⟩
  have E12 := Lib.hid (And.intro e1 e2)
  have k3 : w2.cell? ⟨g, 67, none⟩ = some (.slice p.sa p.sn p.sc) := prf_sig HRI.out (range_of HP2.out)
  cases V
  · have KZ := Lib.hid (K11.out E12.out rfl)
    clear K21 K11 KA
    go_wp2_with (first | (refine wpList_load_row rfl 23 _ rfl g2 rfl 23 (cellsOf root).toArray (0, 0) _ HR2.out Tryz.underlying23 rfl SZR.out ?_) | (refine wpList_load_row rfl 25 _ rfl v rfl 25 p.r.cells.toArray (0, 0) _ HV2.out Tryz.underlying25 rfl SZRA.out ?_) | (go_at_call 30; (with_reducible refine (HVE.out _ HB2.out).mono ?_); rintro e w3 ⟨rfl, hb⟩; have HB3 := Lib.hid (bthen HB2.out hb); clear hb) | fail)
    go_ret
    exact ⟨by rw [KZ.out] <;> rfl, HB3.out⟩
  · have KB := Lib.hid (KA.out E12.out rfl)
    clear K21 K11 KA
    go_upto_region 6 with (first | (refine wpList_load_row rfl 23 _ rfl g2 rfl 23 (cellsOf root).toArray (0, 0) _ HR2.out Tryz.underlying23 rfl SZR.out ?_) | (refine wpList_load_row rfl 25 _ rfl v rfl 25 p.r.cells.toArray (0, 0) _ HV2.out Tryz.underlying25 rfl SZRA.out ?_) | (go_at_call 30; (with_reducible refine (HVE.out _ HB2.out).mono ?_); rintro e w3 ⟨rfl, hb⟩; have HB3 := Lib.hid (bthen HB2.out hb); have HP3 := Lib.hid (keep hb HP2.out); have HC3 := Lib.hid (keep hb HC2.out); have HR3 := Lib.hid (keep hb HR2.out); have HV3 := Lib.hid (keep hb HV2.out); clear hb) | fail)
    clear k0 k1 k2 k3 rp1 HB1 HP1 HC1 HR1 HB2 HP2 HC2 HR2 HV2 e1 e2 E12 HVE
    by_cases e3 : p.r.hint = H
    rotate_left
    · have E3 := Lib.hid e3
      clear e3
      refine wp_region_held_drew (S := fun w' => Below w3.heap.size w3 w') (by kernel_rfl) (below_drew (Below.refl _ _)) (fun hHeld => ?_)
      refine tkP 0 rfl rfl ?_
      refine tkA 1 rfl rfl (yieldsIf_load_mid (by rfl) _ _ rfl v 3 rfl (cellsOf p.r.hint) _ (fun w0 hSw => rec_hint (g := v) (o := 0) (range_nil (range_of (keep hSw HV3.out)))) Tryz.underlying23 rfl SXH.out) ?_
      refine tkP 2 rfl rfl ?_
      refine tkA 3 rfl rfl (yieldsIf_load_mid (by rfl) _ _ rfl g 69 rfl (cellsOf p.commit) _ (fun w0 hSw => prf_commit HRI.out (range_of (keep hSw HP3.out))) Tryz.underlying23 rfl SXC.out) ?_
      refine tkR 4 rfl (fun K hK => ?_)
      go_simp
      go_wp2_with ((go_at_call 31; (with_reducible refine (HHI.out _ (bthen HB3.out hHeld)).mono ?_); rintro e y1 ⟨rfl, hb⟩; have HX := Lib.hid (bthen hHeld hb); clear hb))
      refine hK.out _ _ (by (try dsimp only); exact HX.out) (fun hHeld => ?_)
      clear hK K
      refine tkA 5 rfl rfl (yields_neq (by rfl) rfl rfl rfl HRI.out.hint HHL.out true (by simp [E3.out])) ?_
      refine tkP 6 rfl rfl ?_
      refine tkA (v := undef) 7 rfl rfl (Or.inr ⟨by rfl, rfl⟩) ?_
      refine tkA (v := undef) 8 rfl rfl (Or.inr ⟨by rfl, rfl⟩) ?_
      refine tkA (v := undef) 9 rfl rfl (Or.inr ⟨by rfl, rfl⟩) ?_
      refine tkA (v := undef) 10 rfl rfl (Or.inr ⟨by rfl, rfl⟩) ?_
      refine tkA (v := undef) 11 rfl rfl (Or.inr ⟨by rfl, rfl⟩) ?_
      refine tkA (v := undef) 12 rfl rfl (Or.inr ⟨by rfl, rfl⟩) ?_
      refine tkP 13 rfl rfl ?_
      refine wpAnyH_done (by kernel_rfl) ?_ _
      have HB4 := Lib.hid (bthen HB3.out hHeld)
      clear hHeld
      go_wp2_with fail
      go_ret
      exact ⟨by rw [KB.out, if_neg (fun h => E3.out h.1)] <;> rfl, HB4.out⟩
    have E3 := Lib.hid e3
    clear e3
    by_cases e4 : p.r.blob = M
    rotate_left
    · have E4 := Lib.hid e4
      clear e4
      refine wp_region_held_drew (S := fun w' => Below w3.heap.size w3 w') (by kernel_rfl) (below_drew (Below.refl _ _)) (fun hHeld => ?_)
      refine tkP 0 rfl rfl ?_
      refine tkA 1 rfl rfl (yieldsIf_load_mid (by rfl) _ _ rfl v 3 rfl (cellsOf p.r.hint) _ (fun w0 hSw => rec_hint (g := v) (o := 0) (range_nil (range_of (keep hSw HV3.out)))) Tryz.underlying23 rfl SXH.out) ?_
      refine tkP 2 rfl rfl ?_
      refine tkA 3 rfl rfl (yieldsIf_load_mid (by rfl) _ _ rfl g 69 rfl (cellsOf p.commit) _ (fun w0 hSw => prf_commit HRI.out (range_of (keep hSw HP3.out))) Tryz.underlying23 rfl SXC.out) ?_
      refine tkR 4 rfl (fun K hK => ?_)
      go_simp
      go_wp2_with ((go_at_call 31; (with_reducible refine (HHI.out _ (bthen HB3.out hHeld)).mono ?_); rintro e y1 ⟨rfl, hb⟩; have HX := Lib.hid (bthen hHeld hb); clear hb))
      refine hK.out _ _ (by (try dsimp only); exact HX.out) (fun hHeld => ?_)
      clear hK K
      refine tkA 5 rfl rfl (yields_neq (by rfl) rfl rfl rfl HRI.out.hint HHL.out false (by simp [E3.out])) ?_
      refine tkP 6 rfl rfl ?_
      refine tkP 7 rfl rfl ?_
      refine tkA 8 rfl rfl (yieldsIf_load_mid (by rfl) _ _ rfl v 35 rfl (cellsOf p.r.blob) _ (fun w0 hSw => rec_blob (g := v) (o := 0) HRI.out (range_nil (range_of (keep hSw HV3.out)))) Tryz.underlying23 rfl SXB.out) ?_
      refine tkP 9 rfl rfl ?_
      refine tkA 10 rfl rfl (yields_cell (by rfl) rfl rfl (b := g) (o := 68) (fun w0 hSw => prf_blob HRI.out (range_of (keep hSw HP3.out))) Tryz.isAgg26) ?_
      refine tkR 11 rfl (fun K hK => ?_)
      go_simp
      go_wp2_with ((go_at_call 32; (with_reducible refine (HMK.out _ (bthen HB3.out hHeld)).mono ?_); rintro e y2 ⟨rfl, hb⟩; have HX := Lib.hid (bthen hHeld hb); clear hb))
      refine hK.out _ _ (by (try dsimp only); exact HX.out) (fun hHeld => ?_)
      clear hK K
      refine tkA 12 rfl rfl (yields_neq (by rfl) rfl rfl rfl HRI.out.blob HML.out true (by simp [E4.out])) ?_
      refine tkP 13 rfl rfl ?_
      refine wpAnyH_done (by kernel_rfl) ?_ _
      have HB4 := Lib.hid (bthen HB3.out hHeld)
      clear hHeld
      go_wp2_with fail
      go_ret
      exact ⟨by rw [KB.out, if_neg (fun h => E4.out h.2)] <;> rfl, HB4.out⟩
    have E4 := Lib.hid e4
    clear e4
    refine wp_region_held_drew (S := fun w' => Below w3.heap.size w3 w') (by kernel_rfl) (below_drew (Below.refl _ _)) (fun hHeld => ?_)
    refine tkP 0 rfl rfl ?_
    refine tkA 1 rfl rfl (yieldsIf_load_mid (by rfl) _ _ rfl v 3 rfl (cellsOf p.r.hint) _ (fun w0 hSw => rec_hint (g := v) (o := 0) (range_nil (range_of (keep hSw HV3.out)))) Tryz.underlying23 rfl SXH.out) ?_
    refine tkP 2 rfl rfl ?_
    refine tkA 3 rfl rfl (yieldsIf_load_mid (by rfl) _ _ rfl g 69 rfl (cellsOf p.commit) _ (fun w0 hSw => prf_commit HRI.out (range_of (keep hSw HP3.out))) Tryz.underlying23 rfl SXC.out) ?_
    refine tkR 4 rfl (fun K hK => ?_)
    go_simp
    go_wp2_with ((go_at_call 31; (with_reducible refine (HHI.out _ (bthen HB3.out hHeld)).mono ?_); rintro e y1 ⟨rfl, hb⟩; have HX := Lib.hid (bthen hHeld hb); clear hb))
    refine hK.out _ _ (by (try dsimp only); exact HX.out) (fun hHeld => ?_)
    clear hK K
    refine tkA 5 rfl rfl (yields_neq (by rfl) rfl rfl rfl HRI.out.hint HHL.out false (by simp [E3.out])) ?_
    refine tkP 6 rfl rfl ?_
    refine tkP 7 rfl rfl ?_
    refine tkA 8 rfl rfl (yieldsIf_load_mid (by rfl) _ _ rfl v 35 rfl (cellsOf p.r.blob) _ (fun w0 hSw => rec_blob (g := v) (o := 0) HRI.out (range_nil (range_of (keep hSw HV3.out)))) Tryz.underlying23 rfl SXB.out) ?_
    refine tkP 9 rfl rfl ?_
    refine tkA 10 rfl rfl (yields_cell (by rfl) rfl rfl (b := g) (o := 68) (fun w0 hSw => prf_blob HRI.out (range_of (keep hSw HP3.out))) Tryz.isAgg26) ?_
    refine tkR 11 rfl (fun K hK => ?_)
    go_simp
    go_wp2_with ((go_at_call 32; (with_reducible refine (HMK.out _ (bthen HB3.out hHeld)).mono ?_); rintro e y2 ⟨rfl, hb⟩; have HX := Lib.hid (bthen hHeld hb); clear hb))
    refine hK.out _ _ (by (try dsimp only); exact HX.out) (fun hHeld => ?_)
    clear hK K
    refine tkA 12 rfl rfl (yields_neq (by rfl) rfl rfl rfl HRI.out.blob HML.out false (by simp [E4.out])) ?_
    refine tkP 13 rfl rfl ?_
    refine wpAnyH_done (by kernel_rfl) ?_ _
    have HB4 := Lib.hid (bthen HB3.out hHeld)
    clear hHeld
    go_wp2_with fail
    go_ret
    exact ⟨by rw [KB.out, if_pos (And.intro E3.out E4.out)] <;> rfl, HB4.out⟩
end Go.Proofs.YtcmdpmialehjgaaGreatDoor
