/- What package proof's Check tells of another tower's proof. -/
import Derived.Test.YtcmdpmialehjgaaGreatDoorPrfReceipt
import Derived.Test.YtcmdpmialehjgaaGreatDoorSteps
namespace Go.Proofs.YtcmdpmialehjgaaGreatDoor
open Go.RowKit

set_option linter.unusedSimpArgs false in
set_option maxRecDepth 100000 in
set_option maxHeartbeats 6400000 in
theorem receipt_tower17 {w : World} {p : PPrf} {tower : Int} {c : PChan} {root : List UInt8} (hp : PrfIn w p) (h1 : p.r.tower ≠ tower) :
    Calls Tryz.prog 27 #[.agg p.cells.toArray, .int .i64 tower, .agg c.cells.toArray, .agg (cellsOf root).toArray] w fun e w' => e = .returned (.int .i64 21) ∧ Below w.heap.size w w' := by
  have SZRC := Lib.hid (rec_size hp.r)
  have RL := Lib.hid (PRec.len hp.r)
  clear hp
  go_enter Tryz.func27, Tryz.ntmps27
  go_upto_region 1 with (fail)
  obtain ⟨w1, g1, g2, hw1, hg1, hg2, hb1, h1, h2, h3⟩ := three_boxes17 w p.cells.toArray c.cells.toArray (cellsOf root).toArray 28 49 23
  rw [← hw1, ← hg2, ← hg1]
  obtain ⟨g, hg⟩ : ∃ g, g = w.heap.size := ⟨_, rfl⟩
  rw [← hg] at h1 ⊢
  have HB1 := Lib.hid hb1
  have HP1 := Lib.hid h1
  have HC1 := Lib.hid h2
  have HR1 := Lib.hid h3
  clear hw1 hg1 hg2 hb1 h1 h2 h3 hg
  have rp1 := Lib.hid (prf_rec (range_of HP1.out))
  go_upto_region 2 with (first | (refine wpList_load_mid rfl 25 _ rfl g 0 rfl p.r.cells _ rp1.out Tryz.underlying25 rfl SZRC.out ?_) | (refine wpList_var rfl rfl 25 rfl _ _ rfl noRec.cells.toArray Tryz.infoRec rfl p.r.cells (fun _ => rfl) (fun _ => rfl) RL.out (PRec.one _) ?_; intro v w2 hq hh hb; go_frame; have HB2 := Lib.hid (bthen HB1.out hb); have HV2 := Lib.hid hh; clear hq hh hb) | fail)
  have k0 : w2.cell? ⟨v, 0, none⟩ = some (.int .i64 p.r.tower) := rec_tower (range_nil (range_of HV2.out))
  go_wp2_with fail
  go_ret
  exact ⟨rfl, HB2.out⟩
set_option linter.unusedSimpArgs false in
set_option maxRecDepth 100000 in
set_option maxHeartbeats 6400000 in
theorem check_tower {w : World} {p : PPrf} {tower height : Int} {c : PChan} {root : List UInt8} {f : PFacts} (hp : PrfIn w p) (hc : ChanIn c) (hr : root.length = 32) (h1 : p.r.tower ≠ tower) :
    Calls Tryz.prog 15 #[.agg p.cells.toArray, .int .i64 tower, .agg c.cells.toArray, .agg (cellsOf root).toArray, .agg f.cells.toArray, .int .i64 height] w fun e w' => e = .returned (.int .i64 21) ∧ Below w.heap.size w w' := by
  have SZP := Lib.hid (prf_sizeA hp)
  have SZCA := Lib.hid (chan_sizeA hc.ftx)
  have SZR := Lib.hid (size_of hr)
  have HCR : Hid (∀ W : World, Below w.heap.size w W → Calls Tryz.prog 27 #[.agg p.cells.toArray, .int .i64 tower, .agg c.cells.toArray, .agg (cellsOf root).toArray] W fun e w' => e = .returned (.int .i64 21) ∧ Below W.heap.size W w') := Lib.hid fun W hW => receipt_tower17 (hp.below hW) h1
  clear hp hc hr h1
  go_enter Tryz.func15, Tryz.ntmps15
  go_upto_region 1 with (fail)
  obtain ⟨w1, g1, g2, g3, hw1, hg1, hg2, hg3, hb1, k1, k2, k3, k4⟩ := four_boxes17 w p.cells.toArray c.cells.toArray (cellsOf root).toArray f.cells.toArray 28 49 23 58
  rw [← hw1, ← hg3, ← hg2, ← hg1]
  obtain ⟨g, hg⟩ : ∃ g, g = w.heap.size := ⟨_, rfl⟩
  rw [← hg] at k1 ⊢
  have HB1 := Lib.hid hb1
  have HP1 := Lib.hid k1
  have HC1 := Lib.hid k2
  have HR1 := Lib.hid k3
  clear hw1 hg1 hg2 hg3 hb1 k1 k2 k3 k4 hg
  have hb : ((21 : Int) != 0) = true := by decide
  go_wp2_with (first | (refine wpList_load_row rfl 28 _ rfl g rfl 28 p.cells.toArray (0, 0) _ HP1.out Tryz.underlying28 rfl SZP.out ?_) | (refine wpList_load_row rfl 49 _ rfl g1 rfl 49 c.cells.toArray (0, 0) _ HC1.out Tryz.underlying49 rfl SZCA.out ?_) | (refine wpList_load_row rfl 23 _ rfl g2 rfl 23 (cellsOf root).toArray (0, 0) _ HR1.out Tryz.underlying23 rfl SZR.out ?_) | (go_at_call 27; (with_reducible refine (HCR.out _ HB1.out).mono ?_); rintro e w2 ⟨rfl, hb2⟩; have HB2 := Lib.hid (bthen HB1.out hb2); clear hb2) | fail)
  go_ret
  exact ⟨rfl, HB2.out⟩
end Go.Proofs.YtcmdpmialehjgaaGreatDoor
