/- Law 18: LedgerNobody. -/
import Derived.Test.YteddkkcheaghaaaGreatDoorLedNone
namespace Go.Proofs.YteddkkcheaghaaaGreatDoor
open Go.RowKit Go.Maps

theorem noLed_nil (w : World) : NoLed w (.pointer none) := .inl rfl
theorem Tryz.zeroLedN18 : (Tryz.prog.info? 68).map (fun i => (i.zero, i.size, i.bytes)) = some (some (.agg #[.pointer none, .pointer none, .map none, .map none, .slice none 0 0, .int .i64 0]), 6, 64) := by kernel_rfl
theorem build_ins18 (ia : Option Addr) (inn ic : Nat) (ins : List PIn) (w : World) : (Instr.build 50 ([(0, (.slice ia inn ic : Value))] : List (Nat × Value)).toArray).run Tryz.prog w = .ok (.agg (PTx.cells ⟨ia, inn, ic, ins, none, 0, 0, [], noOp, none, 0, 0, []⟩).toArray) w := by kernel_rfl
theorem wpList_int18 {ops : Array Oper} {rest : List Oper} {o : Oper} {A : Act} {w : World} {Q : Exit → Act → World → Prop} (hgd : o.guard = none) (u : Operand) (ho : o.op = .buildSlice 38 1 #[(0, u)]) (y : Int) (hu : A.eval u = .int .i64 y)
    (h : ∀ (p : Nat) (w' : World), w.heap.size ≤ p → w'.heap[p]? = some (.cells #[.int .i64 y] 3 (0, 0)) → Below w.heap.size w w' → wpList Tryz.prog ops Q rest (A.put o.dst (.slice (some ⟨p, 0, none⟩) 1 1)) w') : wpList Tryz.prog ops Q (o :: rest) A w := by
  refine wpList_plain hgd fun K' hK => ?_
  unfold Oper.wp execOp
  simp only [ho, List.map_toArray, List.map_cons, List.map_nil, hu, Sem.run_bind, run_int14 y w, Sem.run_pure, Result.andThen_ok]
  exact hK _ _ (h _ _ (Nat.le_refl _) (heap_alloc_new _ _) ((Below.refl _ _).alloc (Nat.le_refl _) _))
set_option linter.unusedSimpArgs false in
set_option maxRecDepth 100000 in
set_option maxHeartbeats 6400000 in
theorem nobody18_walk {w : World} {s : List UInt8} {z : Int} (hs : s.length = 32) (hz : Fits z) (hk : KsAt w)
    (haw : ∀ W : World, KsAt W → Calls Tryz.prog 9 #[] W fun e w' => e = .returned (.bool true) ∧ Below W.heap.size W w') :
    Calls Tryz.prog 7 #[.agg (refCells s z).toArray] w fun e w' => e = .returned (.bool true) ∧ Below w.heap.size w w' := by
  have HSL := Lib.hid hs
  have SR := Lib.hid (refSize (z := z) hs)
  have SSL : Hid ((Tryz.prog.info? 28).map (·.size) = some (cellsOf s).length) := Lib.hid (by rw [cellsOf_len, hs]; exact Tryz.size28)
  have f0 : Fits 0 := by constructor <;> decide
  have f1 : Fits 1 := by constructor <;> decide
  have HAW : Hid (∀ W : World, Below w.heap.size w W → Calls Tryz.prog 9 #[] W fun e w' => e = .returned (.bool true) ∧ Below W.heap.size W w') := Lib.hid fun W hW => haw W (hk.below hW)
  have HSGN : Hid (∀ (W : World) (p3 p7 : Nat), Below w.heap.size w W → W.heap[p3]? = some (.cells (PIn.cells (⟨s, z, 0, none, 0, 0, []⟩ : PIn)).toArray 93 (0, 0)) → W.heap[p7]? = some (.cells #[.int .i64 1] 3 (0, 0)) → Calls Tryz.prog 31 #[.agg (PTx.cells (⟨some ⟨p3, 0, none⟩, 1, 1, [⟨s, z, 0, none, 0, 0, []⟩], none, 0, 0, [], noOp, none, 0, 0, []⟩ : PTx)).toArray, .slice (some ⟨p7, 0, none⟩) 1 1] W fun e w' => ∃ y : PTx, e = .returned (.agg y.cells.toArray) ∧ y.op.root.length = 32 ∧ Below W.heap.size W w') := Lib.hid fun W p3 p7 hW h3 h7 => by
    have g3 : SliceOf inK W (some ⟨p3, 0, none⟩) 1 1 [⟨s, z, 0, none, 0, 0, []⟩] := slice_one (K := inK) h3 ⟨hs, hz, f0, Row.nil W⟩
    have ht : TxIn W (⟨some ⟨p3, 0, none⟩, 1, 1, [⟨s, z, 0, none, 0, 0, []⟩], none, 0, 0, [], noOp, none, 0, 0, []⟩ : PTx) := ⟨g3, SliceOf.nil _ _, ⟨f0, f0, f0, f0, rfl, Row.nil W⟩, SliceOf.nil _ _⟩
    have hff : FrontFew false (⟨some ⟨p3, 0, none⟩, 1, 1, [⟨s, z, 0, none, 0, 0, []⟩], none, 0, 0, [], noOp, none, 0, 0, []⟩ : PTx) := frontFew false ht (by show 1 ≤ 20; omega) (by show 0 ≤ 20; omega) (fun y hy => (by simp at hy; subst hy; show 0 ≤ 100; omega)) (fun q hq => (by cases hq)) (by show 0 ≤ 65536; omega)
    have hf : FewTx (⟨some ⟨p3, 0, none⟩, 1, 1, [⟨s, z, 0, none, 0, 0, []⟩], none, 0, 0, [], noOp, none, 0, 0, []⟩ : PTx) := ⟨by show 1 ≤ 1000; omega, by show 0 ≤ 1000; omega, .inr (Nat.le_refl _), .inl rfl, fun y hy => (by simp at hy; subst hy; show 0 ≤ 100000; omega), fun q hq => (by cases hq), fun q hq u hu => (by cases hq), by show 0 ≤ 100000; omega, rfl, rfl, rfl, rfl⟩
    refine (txSigned_any ht hf hff (hk.below hW) (numbers_one h7 f1) f1).mono ?_
    rintro e w' ⟨y, rfl, k1, _, _, k4⟩
    exact ⟨y, rfl, k1.op.root, k4⟩
  clear hs hz hk haw f0 f1
  go_enter Tryz.func7, Tryz.ntmps7
  go_upto_region 2 with (fail)
  have b0 : Below w.heap.size w (w.alloc (.cells (refCells s z).toArray 71)) := (Below.refl _ _).alloc (Nat.le_refl _) _
  have h0 := heap_alloc_new w (.cells (refCells s z).toArray 71)
  revert b0 h0
  generalize (w.alloc (.cells (refCells s z).toArray 71)) = w1
  obtain ⟨g, hg⟩ : ∃ g, g = w.heap.size := ⟨_, rfl⟩
  rw [← hg]
  intro b0 h0
  rw [hg] at b0
  have HU1 := Lib.hid b0
  have HG1 := Lib.hid h0
  clear b0 h0 hg
  go_upto_region 3 with (first | (refine wpList_new rfl 68 rfl #[.pointer none, .pointer none, .map none, .map none, .slice none 0 0, .int .i64 0] Tryz.zeroLedN18 ?_; intro gl w2 hq hh hb; go_frame; have HL2 := Lib.hid hh; have HU2 := Lib.hid (bthen HU1.out hb); have HG2 := Lib.hid (keep hb HG1.out); clear hq hh hb) | fail)
  have R2 : Hid (∀ W : World, Below w2.heap.size w2 W → W.rangeAt g 0 (refCells s z)) := Lib.hid fun W hW => range_of (keep hW HG2.out)
  have RS2 : Hid (∀ W : World, Below w2.heap.size w2 W → W.rangeAt g 0 (cellsOf s)) := Lib.hid fun W hW => (range_append (show W.rangeAt g 0 (cellsOf s ++ ([.int .i64 z] : List Value)) from R2.out W hW)).1
  have HZ2 : Hid (∀ W : World, Below w2.heap.size w2 W → NoLed W (.pointer (some ⟨gl, 0, none⟩))) := Lib.hid fun W hW => .inr ⟨gl, rfl, keep hW HL2.out⟩
  have HREF := Lib.hid (Below.refl w2.heap.size w2)
  clear HG1 HG2 HL2 HU1
  go_upto_region 4 with (first
    | (refine wpList_load_mid rfl 71 _ rfl g 0 rfl (refCells s z) _ (R2.out _ HREF.out) Tryz.underlying71 rfl SR.out ?_)
    | (refine wpList_build10 rfl rfl (vs := [(0, .agg (refCells s z).toArray)]) (by rfl) (build_in14 z HSL.out) ?_; go_frame)
    | (refine wpList_lit_of Tryz.inAt14 rfl _ rfl (⟨s, z, 0, none, 0, 0, []⟩ : PIn) rfl (PIn.len HSL.out) ?_; intro p3 w3 hq hh hb; go_frame; have HP3 := Lib.hid (show w3.heap[p3]? = some (.cells (PIn.cells (⟨s, z, 0, none, 0, 0, []⟩ : PIn)).toArray 93 (0, 0)) from hh); have HV3 := Lib.hid hb; clear hq hh hb)
    | (refine wpList_build10 rfl rfl (vs := [(0, .slice (some ⟨p3, 0, none⟩) 1 1)]) (by rfl) (build_ins18 (some ⟨p3, 0, none⟩) 1 1 [(⟨s, z, 0, none, 0, 0, []⟩ : PIn)]) ?_; go_frame)
    | (refine wpList_int18 rfl _ rfl 1 rfl ?_; intro p7 w4 hq hh hb; go_frame; have HP7 := Lib.hid hh; have HP4 := Lib.hid (keep hb HP3.out); have HV4 := Lib.hid (bthen HV3.out hb); clear hq hh hb)
    | (go_at_call 31; (with_reducible refine (HSGN.out _ p3 p7 (bthen HU2.out HV4.out) HP4.out HP7.out).mono ?_); rintro e w5 ⟨y, rfl, hy, hb⟩; have HYL := Lib.hid hy; have HV5 := Lib.hid (bthen HV4.out hb); have SY := Lib.hid (tx_size (x := y) hy); clear hy hb)
    | (refine wpList_new rfl 50 rfl noTx.cells.toArray Tryz.zeroTx14 ?_; intro p9 w6 hq hh hb; go_frame; have HP9 := Lib.hid hh; have HN9 : Hid (w5.heap.size ≤ p9) := Lib.hid hq; have HV6 := Lib.hid hb; clear hq hh hb)
    | (refine wpList_row10 rfl 50 _ _ rfl p9 y.cells rfl rfl 50 noTx.cells HP9.out SY.out (by rw [PTx.len HYL.out]; rfl) y.one ?_; intro w7 hh hb; have HT7 := Lib.hid hh; have HX7 := Lib.hid (But.in HV6.out hb HN9.out); have HV7 := Lib.hid (bthen HV5.out HX7.out); clear hh hb)
    | fail)
  have RT7 : Hid (∀ W : World, Below w7.heap.size w7 W → W.rangeAt p9 0 y.cells) := Lib.hid fun W hW => range_of (keep hW HT7.out)
  have HR7 := Lib.hid (Below.refl w7.heap.size w7)
  clear HP3 HV3 HP4 HP7 HV4 HV5 HP9 HN9 HV6 HX7 HT7 HSGN HREF
  go_upto_region 5 with (first
    | (refine wpList_load_mid rfl 28 _ rfl g 0 rfl (cellsOf s) _ (RS2.out _ HV7.out) Tryz.underlying28 rfl SSL.out ?_)
    | (go_at_call 32; (with_reducible refine (done_no (s := s) (noLed_nil _)).mono ?_); rintro e w8 ⟨rfl, hb⟩; have HU8 := Lib.hid (bthen HR7.out hb); clear hb)
    | (refine wpList_new rfl 95 rfl (doneCells noTx 0).toArray Tryz.zeroDone18 ?_; intro q1 w9a hq hh hb; go_frame; have HQq1 := Lib.hid hh; have HNq1 : Hid (w8.heap.size ≤ q1) := Lib.hid hq; have HBq1 := Lib.hid hb; clear hq hh hb)
    | (refine wpList_row10 rfl 95 _ _ rfl q1 (doneCells noTx 0) rfl rfl 95 (doneCells noTx 0) HQq1.out Tryz.sizeDone18 rfl (doneOne18 noTx 0) ?_; intro w9 hh5 hb5; have HXq1 := Lib.hid (But.in HBq1.out hb5 HNq1.out); have HUw9 := Lib.hid (bthen HU8.out HXq1.out); clear hh5 hb5)
    | fail)
  go_upto_region 6 with (first
    | (refine wpList_load_mid rfl 71 _ rfl g 0 rfl (refCells s z) _ (R2.out _ (bthen HV7.out HUw9.out)) Tryz.underlying71 rfl SR.out ?_)
    | (go_at_call 33; (with_reducible refine (spent_no (s := s) (z := z) (HZ2.out _ (bthen HV7.out HUw9.out))).mono ?_); rintro e w10 ⟨rfl, hb⟩; have HU10 := Lib.hid (bthen HUw9.out hb); clear hb)
    | (refine wpList_new rfl 99 rfl (spendCells zero32 0 0).toArray Tryz.zeroSpend18 ?_; intro q2 w11a hq hh hb; go_frame; have HQq2 := Lib.hid hh; have HNq2 : Hid (w10.heap.size ≤ q2) := Lib.hid hq; have HBq2 := Lib.hid hb; clear hq hh hb)
    | (refine wpList_row10 rfl 99 _ _ rfl q2 (spendCells zero32 0 0) rfl rfl 99 (spendCells zero32 0 0) HQq2.out Tryz.sizeSpend18 rfl spendOne18 ?_; intro w11 hh5 hb5; have HXq2 := Lib.hid (But.in HBq2.out hb5 HNq2.out); have HUw11 := Lib.hid (bthen HU10.out HXq2.out); clear hh5 hb5)
    | fail)
  go_upto_region 7 with (first
    | (refine wpList_load_mid rfl 28 _ rfl g 0 rfl (cellsOf s) _ (RS2.out _ (bthen HV7.out HUw11.out)) Tryz.underlying28 rfl SSL.out ?_)
    | (go_at_call 15; (with_reducible refine (facts_no HSL.out (noLed_nil _)).mono ?_); rintro e w12 ⟨rfl, hb⟩; have HU12 := Lib.hid (bthen HUw11.out hb); clear hb)
    | (refine wpList_new rfl 55 rfl (factsCells0).toArray Tryz.zeroFacts18 ?_; intro q3 w13a hq hh hb; go_frame; have HQq3 := Lib.hid hh; have HNq3 : Hid (w12.heap.size ≤ q3) := Lib.hid hq; have HBq3 := Lib.hid hb; clear hq hh hb)
    | (refine wpList_row10 rfl 55 _ _ rfl q3 (factsCells0) rfl rfl 55 (factsCells0) HQq3.out Tryz.sizeFacts18 rfl factsOne18 ?_; intro w13 hh5 hb5; have HXq3 := Lib.hid (But.in HBq3.out hb5 HNq3.out); have HUw13 := Lib.hid (bthen HU12.out HXq3.out); clear hh5 hb5)
    | fail)
  have HZ13 := Lib.hid (HZ2.out _ (bthen HV7.out HUw13.out))
  have HBW := Lib.hid (bthen HU2.out (bthen HV7.out HUw13.out))
  have RT13 := Lib.hid (RT7.out _ HUw13.out)
  clear HZ2 RS2 R2 HV7 HU2 HR7
  go_wp2_with (first
    | (refine wpList_loadw18 (by rfl) 50 _ rfl p9 0 rfl y.cells _ RT13.out Tryz.underlying50 rfl SY.out ?_)
    | (go_at_call 12; (with_reducible refine (apply_no (x := y) (noLed_nil _)).mono ?_); rintro e w14 ⟨rfl, hb⟩; have RT14 := Lib.hid (RT7.out _ (bthen HUw13.out hb)); have HZ14 := Lib.hid (HZ13.out.below hb); have HBW14 := Lib.hid (bthen HBW.out hb); clear hb)
    | (refine wpList_loadw18 (by rfl) 50 _ rfl p9 0 rfl y.cells _ RT14.out Tryz.underlying50 rfl SY.out ?_)
    | (go_at_call 12; (with_reducible refine (apply_no (x := y) HZ14.out).mono ?_); rintro e w15 ⟨rfl, hb⟩; have HZ15 := Lib.hid (HZ14.out.below hb); have HBW15 := Lib.hid (bthen HBW14.out hb); clear hb)
    | (go_at_call 20; (with_reducible refine (order_no (noLed_nil _)).mono ?_); rintro e w16 ⟨rfl, rfl⟩)
    | (go_at_call 20; (with_reducible refine (order_no HZ15.out).mono ?_); rintro e w16 ⟨rfl, rfl⟩)
    | (go_at_call 34; (with_reducible refine (fees_no (noLed_nil _)).mono ?_); rintro e w16 ⟨rfl, rfl⟩)
    | (go_at_call 18; (with_reducible refine (worth_no HZ15.out).mono ?_); rintro e w16 ⟨rfl, rfl⟩)
    | (go_at_call 18; (with_reducible refine (worth_no (noLed_nil _)).mono ?_); rintro e w16 ⟨rfl, rfl⟩)
    | (go_at_call 19; (with_reducible refine (ledClone_no (noLed_nil _)).mono ?_); rintro e w16 ⟨rfl, rfl⟩)
    | (go_at_call 35; (with_reducible refine (key18 _).mono ?_); rintro e w16 ⟨rfl, rfl⟩)
    | (go_at_call 9; (with_reducible refine (HAW.out _ HBW15.out).mono ?_); rintro e w17 ⟨rfl, hb⟩; have HBZ := Lib.hid (bthen HBW15.out hb); clear hb)
    | fail)
  go_ret
  exact ⟨rfl, HBZ.out⟩
end Go.Proofs.YteddkkcheaghaaaGreatDoor
