/- What the code's Build of package justice comes to. -/
import Derived.Test.YtnjnomebcggccaaGreatDoorTaken15
import Derived.Deep.CutRange
namespace Go.Proofs.YtnjnomebcggccaaGreatDoor
open Go.RowKit

theorem build_none15 (w : World) : (Instr.build 35 ([] : List (Nat × Value)).toArray).run Tryz.prog w = .ok (.agg noTx.cells.toArray) w := by kernel_rfl
/-- Four arguments, boxed. -/
theorem four_boxes15 (w : World) (a b c d : Array Value) (A B C D : TypeId) : ∃ w1 g1 g2 g3, w1 = (((w.alloc (.cells a A)).alloc (.cells b B)).alloc (.cells c C)).alloc (.cells d D) ∧ g1 = w.heap.size + 1 ∧ g2 = w.heap.size + 1 + 1 ∧ g3 = w.heap.size + 1 + 1 + 1 ∧ Below w.heap.size w w1 ∧ w1.heap[w.heap.size]? = some (.cells a A (0, 0)) ∧ w1.heap[g1]? = some (.cells b B (0, 0)) ∧ w1.heap[g2]? = some (.cells c C (0, 0)) ∧ w1.heap[g3]? = some (.cells d D (0, 0)) := by
  refine ⟨_, _, _, _, rfl, rfl, rfl, rfl, ?_, ?_, ?_, ?_, ?_⟩
  · exact ((((Below.refl _ _).alloc (Nat.le_refl _) _).alloc (by simp) _).alloc (by simp <;> omega) _).alloc (by simp <;> omega) _
  · rw [heap_alloc_old _ _ (by simp <;> omega), heap_alloc_old _ _ (by simp <;> omega), heap_alloc_old _ _ (by simp), heap_alloc_new]
  · rw [heap_alloc_old _ _ (by simp <;> omega), heap_alloc_old _ _ (by simp), heap_alloc_at _ _ _ (by simp)]
  · rw [heap_alloc_old _ _ (by simp), heap_alloc_at _ _ _ (by simp)]
  · exact heap_alloc_at _ _ _ (by simp)
set_option linter.unusedSimpArgs false in
set_option maxRecDepth 100000 in
set_option maxHeartbeats 6400000 in
theorem build15_none {w : World} {c : PChan} {t : PTx} {pre : List UInt8} {z r f : Int} (hc : ChanIn c) (ht : TxIn w t) (hO : ownerP c t = -1) :
    Calls Tryz.prog 6 #[.agg c.cells.toArray, .agg t.cells.toArray, .agg (cellsOf pre).toArray, .int .i64 z, .agg #[.int .i64 r, .int .i64 f]] w fun e w' => e = .returned (.tuple #[.agg noTx.cells.toArray, .int .i64 1]) ∧ Below w.heap.size w w' := by
  have HOW : Hid (∀ W : World, Below w.heap.size w W → Calls Tryz.prog 7 #[.agg c.cells.toArray, .agg t.cells.toArray] W fun e w' => e = .returned (.int .i64 (-1)) ∧ Below W.heap.size W w') := Lib.hid fun W hW => by rw [← hO]; exact owner_any hc (ht.below hW)
  have SZC := Lib.hid (chan_sizeA hc.ftx)
  have SZT := Lib.hid (tx_sizeA ht.op.root)
  have SZ0 : Hid ((Tryz.prog.info? 35).map (·.size) = some noTx.cells.length) := Lib.hid (tx_size zero32_len)
  clear hc ht hO
  go_enter Tryz.func6, Tryz.ntmps6
  go_upto_region 1 with (first | (refine wpList_new rfl 35 rfl noTx.cells.toArray Tryz.zeroTx14 ?_; intro r0 w1 hr hh hb; go_frame) | fail)
  obtain ⟨wz, g1, g2, g3, hwz, hg1, hg2, hg3, hb0, k1, k2, k3, k4⟩ := four_boxes15 w c.cells.toArray t.cells.toArray (cellsOf pre).toArray #[.int .i64 r, .int .i64 f] 27 35 23 37
  rw [← hwz] at hr hb
  rw [← hg3, ← hg2, ← hg1]
  have hr' : w.heap.size ≤ r0 := Nat.le_trans hb0.size hr
  obtain ⟨g, hg⟩ : ∃ g, g = w.heap.size := ⟨_, rfl⟩
  rw [← hg] at k1 ⊢
  have HB1 := Lib.hid (bthen hb0 hb)
  have H1 := Lib.hid (keep hb k1)
  have H2 := Lib.hid (keep hb k2)
  have H3 := Lib.hid (keep hb k3)
  have H4 := Lib.hid (keep hb k4)
  have HR := Lib.hid hh
  have HN : Hid (w.heap.size ≤ r0) := Lib.hid hr'
  have HL1 : Hid (g1 < r0) := Lib.hid (by have h9 := lt_of_block k2; omega)
  clear hwz hg1 hg2 hg3 hb0 k1 k2 k3 k4 hr' hg hr hh hb
  go_wp2_with (first | (refine wpList_load_row rfl 27 _ rfl g rfl 27 c.cells.toArray (0, 0) _ H1.out Tryz.underlying27 rfl SZC.out ?_) | (refine wpList_load_row rfl 35 _ rfl g1 rfl 35 t.cells.toArray (0, 0) _ H2.out Tryz.underlying35 rfl SZT.out ?_) | (go_at_call 7; (with_reducible refine (HOW.out _ HB1.out).mono ?_); rintro e w2 ⟨rfl, hb⟩; have HB2 := Lib.hid (bthen HB1.out hb); have H22 := Lib.hid (keep hb H2.out); have H32 := Lib.hid (keep hb H3.out); have H42 := Lib.hid (keep hb H4.out); have HR2 := Lib.hid (keep hb HR.out); clear hb) | (refine wpList_build10 rfl rfl (vs := []) rfl build_none15 ?_; go_frame) | (refine wpList_row10 rfl 35 _ _ rfl r0 noTx.cells rfl rfl 35 noTx.cells HR2.out SZ0.out rfl (PTx.one _) ?_; intro w9 hh9 hb9) | fail)
  refine bodyPost_ret (results_cell_then rfl _ _ r0 35 noTx.cells.toArray (0, 0) _ (.int .i64 1) rfl rfl hh9 Tryz.underlying35 rfl (by rw [List.size_toArray]; exact SZ0.out)) rfl ?_
  exact ⟨rfl, But.in HB2.out hb9 HN.out⟩
set_option linter.unusedSimpArgs false in
set_option maxRecDepth 100000 in
set_option maxHeartbeats 6400000 in
theorem build15_tower {w : World} {c : PChan} {t : PTx} {pre : List UInt8} {z r f : Int} (hc : ChanIn c) (ht : TxIn w t) (hO : ownerP c t ≠ -1) (hz : z < -1 ∨ 15 < z) :
    Calls Tryz.prog 6 #[.agg c.cells.toArray, .agg t.cells.toArray, .agg (cellsOf pre).toArray, .int .i64 z, .agg #[.int .i64 r, .int .i64 f]] w fun e w' => e = .returned (.tuple #[.agg noTx.cells.toArray, .int .i64 1]) ∧ Below w.heap.size w w' := by
  obtain ⟨O, hOv⟩ : ∃ O, ownerP c t = O := ⟨_, rfl⟩
  rw [hOv] at hO
  have eO : (O == -1) = false := by simp [hO]
  have HOW : Hid (∀ W : World, Below w.heap.size w W → Calls Tryz.prog 7 #[.agg c.cells.toArray, .agg t.cells.toArray] W fun e w' => e = .returned (.int .i64 O) ∧ Below W.heap.size W w') := Lib.hid fun W hW => by rw [← hOv]; exact owner_any hc (ht.below hW)
  have SZC := Lib.hid (chan_sizeA hc.ftx)
  have SZT := Lib.hid (tx_sizeA ht.op.root)
  have SZ0 : Hid ((Tryz.prog.info? 35).map (·.size) = some noTx.cells.length) := Lib.hid (tx_size zero32_len)
  clear hOv hc ht hO
  go_enter Tryz.func6, Tryz.ntmps6
  go_upto_region 1 with (first | (refine wpList_new rfl 35 rfl noTx.cells.toArray Tryz.zeroTx14 ?_; intro r0 w1 hr hh hb; go_frame) | fail)
  obtain ⟨wz, g1, g2, g3, hwz, hg1, hg2, hg3, hb0, k1, k2, k3, k4⟩ := four_boxes15 w c.cells.toArray t.cells.toArray (cellsOf pre).toArray #[.int .i64 r, .int .i64 f] 27 35 23 37
  rw [← hwz] at hr hb
  rw [← hg3, ← hg2, ← hg1]
  have hr' : w.heap.size ≤ r0 := Nat.le_trans hb0.size hr
  obtain ⟨g, hg⟩ : ∃ g, g = w.heap.size := ⟨_, rfl⟩
  rw [← hg] at k1 ⊢
  have HB1 := Lib.hid (bthen hb0 hb)
  have H1 := Lib.hid (keep hb k1)
  have H2 := Lib.hid (keep hb k2)
  have H3 := Lib.hid (keep hb k3)
  have H4 := Lib.hid (keep hb k4)
  have HR := Lib.hid hh
  have HN : Hid (w.heap.size ≤ r0) := Lib.hid hr'
  have HL1 : Hid (g1 < r0) := Lib.hid (by have h9 := lt_of_block k2; omega)
  clear hwz hg1 hg2 hg3 hb0 k1 k2 k3 k4 hr' hg hr hh hb
  by_cases q0 : z < -1
  · have e0 : decide (z < -1) = true := decide_eq_true q0
    go_wp2_with (first | (refine wpList_load_row rfl 27 _ rfl g rfl 27 c.cells.toArray (0, 0) _ H1.out Tryz.underlying27 rfl SZC.out ?_) | (refine wpList_load_row rfl 35 _ rfl g1 rfl 35 t.cells.toArray (0, 0) _ H2.out Tryz.underlying35 rfl SZT.out ?_) | (go_at_call 7; (with_reducible refine (HOW.out _ HB1.out).mono ?_); rintro e w2 ⟨rfl, hb⟩; have HB2 := Lib.hid (bthen HB1.out hb); have H22 := Lib.hid (keep hb H2.out); have H32 := Lib.hid (keep hb H3.out); have H42 := Lib.hid (keep hb H4.out); have HR2 := Lib.hid (keep hb HR.out); clear hb) | (refine wpList_build10 rfl rfl (vs := []) rfl build_none15 ?_; go_frame) | (refine wpList_row10 rfl 35 _ _ rfl r0 noTx.cells rfl rfl 35 noTx.cells HR2.out SZ0.out rfl (PTx.one _) ?_; intro w9 hh9 hb9) | fail)
    refine bodyPost_ret (results_cell_then rfl _ _ r0 35 noTx.cells.toArray (0, 0) _ (.int .i64 1) rfl rfl hh9 Tryz.underlying35 rfl (by rw [List.size_toArray]; exact SZ0.out)) rfl ?_
    exact ⟨rfl, But.in HB2.out hb9 HN.out⟩
  · have e0 : decide (z < -1) = false := decide_eq_false q0
    have q1 : 16 ≤ z := by omega
    have e1 : decide (16 ≤ z) = true := decide_eq_true q1
    clear hz
    go_wp2_with (first | (refine wpList_load_row rfl 27 _ rfl g rfl 27 c.cells.toArray (0, 0) _ H1.out Tryz.underlying27 rfl SZC.out ?_) | (refine wpList_load_row rfl 35 _ rfl g1 rfl 35 t.cells.toArray (0, 0) _ H2.out Tryz.underlying35 rfl SZT.out ?_) | (go_at_call 7; (with_reducible refine (HOW.out _ HB1.out).mono ?_); rintro e w2 ⟨rfl, hb⟩; have HB2 := Lib.hid (bthen HB1.out hb); have H22 := Lib.hid (keep hb H2.out); have H32 := Lib.hid (keep hb H3.out); have H42 := Lib.hid (keep hb H4.out); have HR2 := Lib.hid (keep hb HR.out); clear hb) | (refine wpList_build10 rfl rfl (vs := []) rfl build_none15 ?_; go_frame) | (refine wpList_row10 rfl 35 _ _ rfl r0 noTx.cells rfl rfl 35 noTx.cells HR2.out SZ0.out rfl (PTx.one _) ?_; intro w9 hh9 hb9) | fail)
    refine bodyPost_ret (results_cell_then rfl _ _ r0 35 noTx.cells.toArray (0, 0) _ (.int .i64 1) rfl rfl hh9 Tryz.underlying35 rfl (by rw [List.size_toArray]; exact SZ0.out)) rfl ?_
    exact ⟨rfl, But.in HB2.out hb9 HN.out⟩
/-- What Build tells, where there is a part and a tower may be. -/
def builtR (B : Nat) (k m z r f : Int) (u : PWay) (t : PTx) (pre : List UInt8) (e : Ending) (w' : World) : Prop :=
  if shownSum pre = u.h then
    (if sharesOk m (askP z r) f then (∃ y : PTx, e = .returned (.tuple #[.agg y.cells.toArray, .int .i64 0]) ∧ TxIn w' y ∧ NewTx B y ∧ y.strip = (signedP (takeS (txSum t) pre (sharedP k z m (askP z r) f)) k (txSum (takeS (txSum t) pre (sharedP k z m (askP z r) f)))).strip)
     else e = .returned (.tuple #[.agg noTx.cells.toArray, .int .i64 1]))
  else e = .returned (.tuple #[.agg noTx.cells.toArray, .int .i64 16])
set_option linter.unusedSimpArgs false in
set_option maxRecDepth 100000 in
set_option maxHeartbeats 6400000 in
theorem build15_at {w : World} {c : PChan} {t : PTx} {pre : List UInt8} {z r f m k : Int} {b o b2 o2 wk : Nat} {u0 u1 : PWay} {x1 : POut} (hc : ChanIn c) (ht : TxIn w t) (hk : KsAt w) (hf : FrontFew false t) (hpl : pre.length = 32) (hrf : Fits r) (hff : Fits f) (hp : PartAt w t m k b o b2 o2 wk u0 u1 x1) (hO : ownerP c t ≠ -1) (z0 : -1 ≤ z) (z1 : z ≤ 15) :
    Calls Tryz.prog 6 #[.agg c.cells.toArray, .agg t.cells.toArray, .agg (cellsOf pre).toArray, .int .i64 z, .agg #[.int .i64 r, .int .i64 f]] w fun e w' => builtR w.heap.size k m z r f u1 t pre e w' ∧ Below w.heap.size w w' := by
  obtain ⟨O, hOv⟩ : ∃ O, ownerP c t = O := ⟨_, rfl⟩
  rw [hOv] at hO
  have eO : (O == -1) = false := by simp [hO]
  have HOW : Hid (∀ W : World, Below w.heap.size w W → Calls Tryz.prog 7 #[.agg c.cells.toArray, .agg t.cells.toArray] W fun e w' => e = .returned (.int .i64 O) ∧ Below W.heap.size W w') := Lib.hid fun W hW => by rw [← hOv]; exact owner_any hc (ht.below hW)
  have SZC := Lib.hid (chan_sizeA hc.ftx)
  have SZT := Lib.hid (tx_sizeA ht.op.root)
  have SZ0 : Hid ((Tryz.prog.info? 35).map (·.size) = some noTx.cells.length) := Lib.hid (tx_size zero32_len)
  have e0 : decide (z < -1) = false := decide_eq_false (by omega)
  have e1 : decide (16 ≤ z) = false := decide_eq_false (by omega)
  obtain ⟨T, hT, hTl⟩ : ∃ T, txSum t = T ∧ T.length = 32 := ⟨_, rfl, txSum_len _⟩
  have HREF : Hid (∀ W : World, Below w.heap.size w W → Calls Tryz.prog 17 #[.agg t.cells.toArray] W fun e w' => e = .returned (.agg (refCells T 0).toArray) ∧ Below W.heap.size W w') := Lib.hid fun W hW => by rw [← hT]; exact ref14_any (ht.below hW) (hk.below hW) hf
  have HTV := Lib.hid hT
  have HTL := Lib.hid hTl
  have HP := Lib.hid hp
  have HT := Lib.hid ht
  have HK := Lib.hid hk
  have HPL := Lib.hid hpl
  have HZ0 := Lib.hid z0
  have HZ1 := Lib.hid z1
  have HRF := Lib.hid hrf
  have HFF := Lib.hid hff
  have SZU := Lib.hid (way_size hp.way.sum)
  have SZUh : Hid ((Tryz.prog.info? 23).map (·.size) = some (cellsOf u1.h).length) := Lib.hid (by rw [cellsOf_len, hp.way.sum]; exact Tryz.size23)
  have ZW : Hid (u1.cells.length = 35) := Lib.hid (PWay.cells_len hp.way.sum)
  have SZTl := Lib.hid (tx_size ht.op.root)
  have SZD : Hid ((Tryz.prog.info? 37).map (·.size) = some ([.int .i64 r, .int .i64 f] : List Value).length) := Lib.hid (by kernel_rfl)
  have SZO : Hid ((Tryz.prog.info? 46).map (·.size) = some (POut.cells (twoO m (some ⟨b2, o2, none⟩) wk u0 u1)).length) := Lib.hid Tryz.sizeOut
  have SHN : Hid ((shownSum pre).length = 32) := Lib.hid (shownSum_len pre)
  obtain ⟨S, hS⟩ : ∃ S, shownSum pre = S := ⟨_, rfl⟩
  have HHA : Hid (∀ (W : World) (gp : Nat) (ty : TypeId) (fr : Nat × Nat), Below w.heap.size w W → W.heap[gp]? = some (.cells (cellsOf pre).toArray ty fr) → Calls Tryz.prog 8 #[.slice (some ⟨gp, 0, none⟩) 32 32] W fun e w' => e = .returned (.agg (cellsOf S).toArray) ∧ Below W.heap.size W w') := Lib.hid fun W gp ty fr hW hg => by rw [← hS]; exact hash_any (row_block15 hg hpl (by omega)) (hk.below hW) (by omega)
  rw [hS] at SHN
  have HSV := Lib.hid hS
  clear hOv hO hT hTl hp ht hk hpl z0 z1 hrf hff hc hf hS
  go_enter Tryz.func6, Tryz.ntmps6
  go_upto_region 1 with (first | (refine wpList_new rfl 35 rfl noTx.cells.toArray Tryz.zeroTx14 ?_; intro r0 w1 hr hh hb; go_frame) | fail)
  obtain ⟨wz, g1, g2, g3, hwz, hg1, hg2, hg3, hb0, k1, k2, k3, k4⟩ := four_boxes15 w c.cells.toArray t.cells.toArray (cellsOf pre).toArray #[.int .i64 r, .int .i64 f] 27 35 23 37
  rw [← hwz] at hr hb
  rw [← hg3, ← hg2, ← hg1]
  have hr' : w.heap.size ≤ r0 := Nat.le_trans hb0.size hr
  obtain ⟨g, hg⟩ : ∃ g, g = w.heap.size := ⟨_, rfl⟩
  rw [← hg] at k1 ⊢
  have HB1 := Lib.hid (bthen hb0 hb)
  have H1 := Lib.hid (keep hb k1)
  have H2 := Lib.hid (keep hb k2)
  have H3 := Lib.hid (keep hb k3)
  have H4 := Lib.hid (keep hb k4)
  have HR := Lib.hid hh
  have HN : Hid (w.heap.size ≤ r0) := Lib.hid hr'
  have HL1 : Hid (g1 < r0) := Lib.hid (by have h9 := lt_of_block k2; omega)
  clear hwz hg1 hg2 hg3 hb0 k1 k2 k3 k4 hr' hg hr hh hb
  go_upto_region 3 with (first | (refine wpList_load_row rfl 27 _ rfl g rfl 27 c.cells.toArray (0, 0) _ H1.out Tryz.underlying27 rfl SZC.out ?_) | (refine wpList_load_row rfl 35 _ rfl g1 rfl 35 t.cells.toArray (0, 0) _ H2.out Tryz.underlying35 rfl SZT.out ?_) | (go_at_call 7; (with_reducible refine (HOW.out _ HB1.out).mono ?_); rintro e w2 ⟨rfl, hb⟩; have HB2 := Lib.hid (bthen HB1.out hb); have H22 := Lib.hid (keep hb H2.out); have H32 := Lib.hid (keep hb H3.out); have H42 := Lib.hid (keep hb H4.out); have HR2 := Lib.hid (keep hb HR.out); clear hb) | fail)
  have HPA := Lib.hid (HP.out.below HB2.out)
  have RO := Lib.hid HPA.out.out
  have co : w2.cell? ⟨g1, 1, none⟩ = some (.slice (some ⟨b, o, none⟩) 2 t.oc) := by have h9 := tx_outs (range_of H22.out); rw [Nat.zero_add, HP.out.oa, HP.out.on] at h9; exact h9
  go_upto_region 4 with (first | (refine wpList_load_mid rfl 46 _ rfl b o rfl (POut.cells (twoO m (some ⟨b2, o2, none⟩) wk u0 u1)) _ RO.out Tryz.underlying46 rfl SZO.out ?_) | (refine wpList_var rfl rfl 46 rfl _ _ rfl noOut.cells.toArray Tryz.zeroOut14 rfl (POut.cells (twoO m (some ⟨b2, o2, none⟩) wk u0 u1)) (fun _ => rfl) (fun _ => rfl) rfl (POut.one _) ?_; intro p w3 hq hh hb; go_frame; have HP3 := Lib.hid hh; have HB3 := Lib.hid (bthen HB2.out hb); have H23 := Lib.hid (keep hb H22.out); have H33 := Lib.hid (keep hb H32.out); have H43 := Lib.hid (keep hb H42.out); have HR3 := Lib.hid (keep hb HR2.out); clear hq hh hb) | fail)
  have HPB := Lib.hid (HP.out.below HB3.out)
  have RW := Lib.hid HPB.out.at2
  have cpw : w3.cell? ⟨p, 1, none⟩ = some (.slice (some ⟨b2, o2, none⟩) 2 wk) := (range_cons (range_cons (range_of HP3.out)).2).1
  clear co RO
  go_upto_region 5 with (first | (refine wpList_load_mid rfl 49 _ rfl b2 (o2 + 35) rfl u1.cells _ RW.out Tryz.underlying49 rfl SZU.out ?_) | (refine wpList_var rfl rfl 49 rfl _ _ rfl noWay.cells.toArray Tryz.zeroWay14 rfl u1.cells (fun _ => rfl) (fun _ => rfl) ZW.out (PWay.cells_one _) ?_; intro q w4 hq hh hb; go_frame; have HQ4 := Lib.hid hh; have HB4 := Lib.hid (bthen HB3.out hb); have HP4 := Lib.hid (keep hb HP3.out); have H24 := Lib.hid (keep hb H23.out); have H34 := Lib.hid (keep hb H33.out); have H44 := Lib.hid (keep hb H43.out); have HR4 := Lib.hid (keep hb HR3.out); clear hq hh hb) | fail)
  clear cpw RW
  obtain ⟨EQ, hEQ⟩ : ∃ EQ, decide (S = u1.h) = EQ := ⟨_, rfl⟩
  have qs : ∀ W : World, (Op.equalIn 10000 23 (.agg (cellsOf S).toArray) (.agg (cellsOf u1.h).toArray)).run Tryz.prog W = .ok EQ W := fun W => by rw [run_eqSums _ _ SHN.out HP.out.way.sum W, hEQ]
  have HEQ := Lib.hid hEQ
  clear hEQ
  cases EQ
  · refine wp_region_held_drew (S := fun w' => Below w4.heap.size w4 w') (by kernel_rfl) (below_drew (Below.refl _ _)) (fun hHeld => ?_)
    refine take_at (i := 0) (v := ?_) rfl rfl (by kernel_rfl) (by kernel_rfl) (by kernel_rfl) (fun _ _ _ h => h) (Or.inl ⟨by rfl, ?_⟩) (by assumption) ?_
    rotate_left
    · intro w0 hSw; (try dsimp only at hSw); first | (go_simp; done) | (go_simp; with_reducible rfl)
    simp only [nrmA, nrmB, nrmC]
    refine take_at (i := 2) (v := ?_) rfl rfl (by kernel_rfl) (by kernel_rfl) (by kernel_rfl) (fun _ _ _ h => h) (Or.inl ⟨by rfl, ?_⟩) (by assumption) ?_
    rotate_left
    · intro w0 hSw; (try dsimp only at hSw); first | (go_simp; done) | (go_simp; with_reducible rfl)
    simp only [nrmA, nrmB, nrmC]
    refine take_at (i := 3) rfl rfl (by kernel_rfl) (by kernel_rfl) (by kernel_rfl) (fun _ _ _ h => h) (yieldsIf_load_mid (by rfl) _ _ rfl q 1 rfl (cellsOf u1.h) _ (fun w0 hSw => (range_append (range_cons (range_of (keep hSw HQ4.out))).2).1) Tryz.underlying23 rfl SZUh.out) (by assumption) ?_
    simp only [nrmA, nrmB, nrmC]
    refine wpAnyH_ready (rs := [1]) (by kernel_rfl) (by simp) ?_
    refine AllReadyH.cons rfl (fun K hK => ?_) ?_
    · have HCx := Lib.hid (HHA.out _ g2 _ _ (bthen HB4.out hHeld) (keep hHeld H34.out))
      go_simp
      go_wp2_with ((go_at_call 8; (with_reducible refine (HCx.out).mono ?_); rintro e y1 ⟨rfl, hb⟩; have HX := Lib.hid (bthen hHeld hb); clear hb HCx))
      refine hK.out _ _ (by (try dsimp only); exact HX.out) (fun hHeld => ?_)
      clear hK K
      refine take_at (i := 4) (v := .bool true) rfl rfl (by kernel_rfl) (by kernel_rfl) (by kernel_rfl) (fun _ _ _ h => h) (Or.inl ⟨by rfl, ?_⟩) (by assumption) ?_
      · intro w0 hSw; (try dsimp only at hSw); first | (go_simp; done) | (go_simp; with_reducible rfl) | (go_simp; omega)
      simp only [nrmA, nrmB, nrmC]
      refine wpAnyH_done (by kernel_rfl) ?_ _
      clear hHeld
      have HB5 := Lib.hid (bthen HB4.out HX.out)
      have HR5 := Lib.hid (keep HX.out HR4.out)
      go_wp2_with (first | (refine wpList_build10 rfl rfl (vs := []) rfl build_none15 ?_; go_frame) | (refine wpList_row10 rfl 35 _ _ rfl r0 noTx.cells rfl rfl 35 noTx.cells HR5.out SZ0.out rfl (PTx.one _) ?_; intro w9 hh9 hb9) | fail)
      refine bodyPost_ret (results_cell_then rfl _ _ r0 35 noTx.cells.toArray (0, 0) _ (.int .i64 16) rfl rfl hh9 Tryz.underlying35 rfl (by rw [List.size_toArray]; exact SZ0.out)) rfl ?_
      refine ⟨?_, But.in HB5.out hb9 HN.out⟩
      unfold builtR
      rw [HSV.out, if_neg (of_decide_eq_false HEQ.out)]
    exact AllReadyH.nil
  · refine wp_region_held_drew (S := fun w' => Below w4.heap.size w4 w') (by kernel_rfl) (below_drew (Below.refl _ _)) (fun hHeld => ?_)
    refine take_at (i := 0) (v := ?_) rfl rfl (by kernel_rfl) (by kernel_rfl) (by kernel_rfl) (fun _ _ _ h => h) (Or.inl ⟨by rfl, ?_⟩) (by assumption) ?_
    rotate_left
    · intro w0 hSw; (try dsimp only at hSw); first | (go_simp; done) | (go_simp; with_reducible rfl)
    simp only [nrmA, nrmB, nrmC]
    refine take_at (i := 2) (v := ?_) rfl rfl (by kernel_rfl) (by kernel_rfl) (by kernel_rfl) (fun _ _ _ h => h) (Or.inl ⟨by rfl, ?_⟩) (by assumption) ?_
    rotate_left
    · intro w0 hSw; (try dsimp only at hSw); first | (go_simp; done) | (go_simp; with_reducible rfl)
    simp only [nrmA, nrmB, nrmC]
    refine take_at (i := 3) rfl rfl (by kernel_rfl) (by kernel_rfl) (by kernel_rfl) (fun _ _ _ h => h) (yieldsIf_load_mid (by rfl) _ _ rfl q 1 rfl (cellsOf u1.h) _ (fun w0 hSw => (range_append (range_cons (range_of (keep hSw HQ4.out))).2).1) Tryz.underlying23 rfl SZUh.out) (by assumption) ?_
    simp only [nrmA, nrmB, nrmC]
    refine wpAnyH_ready (rs := [1]) (by kernel_rfl) (by simp) ?_
    refine AllReadyH.cons rfl (fun K hK => ?_) ?_
    · have HCx := Lib.hid (HHA.out _ g2 _ _ (bthen HB4.out hHeld) (keep hHeld H34.out))
      go_simp
      go_wp2_with ((go_at_call 8; (with_reducible refine (HCx.out).mono ?_); rintro e y1 ⟨rfl, hb⟩; have HX := Lib.hid (bthen hHeld hb); clear hb HCx))
      refine hK.out _ _ (by (try dsimp only); exact HX.out) (fun hHeld => ?_)
      clear hK K
      refine take_at (i := 4) (v := .bool false) rfl rfl (by kernel_rfl) (by kernel_rfl) (by kernel_rfl) (fun _ _ _ h => h) (Or.inl ⟨by rfl, ?_⟩) (by assumption) ?_
      · intro w0 hSw; (try dsimp only at hSw); first | (go_simp; done) | (go_simp; with_reducible rfl) | (go_simp; omega)
      simp only [nrmA, nrmB, nrmC]
      refine wpAnyH_done (by kernel_rfl) ?_ _
      clear hHeld
      go_upto_region 7 with (fail)
      have HB5 := Lib.hid (bthen HB4.out HX.out)
      have H25 := Lib.hid (keep HX.out H24.out)
      have H35 := Lib.hid (keep HX.out H34.out)
      have H45 := Lib.hid (keep HX.out H44.out)
      have HP5 := Lib.hid (keep HX.out HP4.out)
      have HQ5 := Lib.hid (keep HX.out HQ4.out)
      have HR5 := Lib.hid (keep HX.out HR4.out)
      revert HB5 H25 H35 H45 HP5 HQ5 HR5
      generalize y1 = w5
      intro HB5 H25 H35 H45 HP5 HQ5 HR5
      have CM : Hid (w5.cell? ⟨p, 0, none⟩ = some (.int .i64 m)) := Lib.hid ((range_cons (range_of HP5.out)).1)
      have hkeys := (HP.out.below HB5.out).way.keys
      rw [HP.out.kn, HP.out.ks] at hkeys
      obtain ⟨kb, ko, eka, hkb, hkc⟩ := hkeys.2.2.2.2.2 (by omega)
      have CK : Hid (w5.cell? ⟨q, 0, none⟩ = some (.slice (some ⟨kb, ko, none⟩) 1 u1.c)) := Lib.hid (by have h9 := (range_cons (range_of HQ5.out)).1; rw [eka, HP.out.kn] at h9; exact h9)
      have HKB := Lib.hid hkb
      have CZ : Hid (w5.cell? ⟨kb, ko, none⟩ = some (.int .i64 k)) := Lib.hid (hkc 0 (by omega))
      have HKS : Hid (Numbers w5 (some ⟨kb, ko, none⟩) 1 u1.c [k]) := Lib.hid (by rw [eka] at hkeys; exact hkeys)
      have HKF : Hid (Fits k) := Lib.hid (by have h9 := HP.out.z0; have h8 := HP.out.z1; constructor <;> omega)
      clear hkeys eka hkb hkc
      by_cases hq : 0 ≤ m ∧ m ≤ 1125899906842624 ∧ 0 ≤ f ∧ f ≤ 1125899906842624 ∧ 0 ≤ askP z r ∧ askP z r ≤ 1000
      · have HSO := Lib.hid (fun (W : World) => shareOuts_ok (w := W) HP.out.fit HRF.out HFF.out HKF.out HZ0.out HZ1.out hq)
        have HSHOK : Hid (sharesOk m (askP z r) f = true) := Lib.hid (decide_eq_true hq)
        clear hq
        refine wp_region_held_drew (S := fun w' => Below w5.heap.size w5 w') (by kernel_rfl) (below_drew (Below.refl _ _)) (fun hHeld => ?_)
        refine take_at (i := 0) (v := ?_) rfl rfl (by kernel_rfl) (by kernel_rfl) (by kernel_rfl) (fun _ _ _ h => h) (Or.inl ⟨by rfl, ?_⟩) (by assumption) ?_
        rotate_left
        · intro w0 hSw; (try dsimp only at hSw); first | (go_simp; done) | (go_simp; with_reducible rfl)
        simp only [nrmA, nrmB, nrmC]
        refine take_at (i := 1) rfl rfl (by kernel_rfl) (by kernel_rfl) (by kernel_rfl) (fun _ _ _ h => h) (yields_cell (b := p) (o := 0) (by rfl) rfl rfl (fun w0 hSw => (Below.cell hSw (p := ⟨p, 0, none⟩) (lt_of_block HP5.out)).trans CM.out) (fun w0 => Tryz.isAgg2 w0)) (by assumption) ?_
        simp only [nrmA, nrmB, nrmC]
        refine take_at (i := 2) (v := ?_) rfl rfl (by kernel_rfl) (by kernel_rfl) (by kernel_rfl) (fun _ _ _ h => h) (Or.inl ⟨by rfl, ?_⟩) (by assumption) ?_
        rotate_left
        · intro w0 hSw; (try dsimp only at hSw); first | (go_simp; done) | (go_simp; with_reducible rfl)
        simp only [nrmA, nrmB, nrmC]
        refine take_at (i := 3) rfl rfl (by kernel_rfl) (by kernel_rfl) (by kernel_rfl) (fun _ _ _ h => h) (yields_cell (b := q) (o := 0) (by rfl) rfl rfl (fun w0 hSw => (Below.cell hSw (p := ⟨q, 0, none⟩) (lt_of_block HQ5.out)).trans CK.out) (fun w0 => Tryz.isAgg47 w0)) (by assumption) ?_
        simp only [nrmA, nrmB, nrmC]
        refine take_at (i := 4) (v := ?_) rfl rfl (by kernel_rfl) (by kernel_rfl) (by kernel_rfl) (fun _ _ _ h => h) (Or.inl ⟨by rfl, ?_⟩) (by assumption) ?_
        rotate_left
        · intro w0 hSw; (try dsimp only at hSw); first | (go_simp; done) | (go_simp; with_reducible rfl)
        simp only [nrmA, nrmB, nrmC]
        refine take_at (i := 5) rfl rfl (by kernel_rfl) (by kernel_rfl) (by kernel_rfl) (fun _ _ _ h => h) (yields_cell (b := kb) (o := ko) (by rfl) rfl rfl (fun w0 hSw => (Below.cell hSw (p := ⟨kb, ko, none⟩) HKB.out).trans CZ.out) (fun w0 => Tryz.isAgg3 w0)) (by assumption) ?_
        simp only [nrmA, nrmB, nrmC]
        refine take_at (i := 6) (v := ?_) rfl rfl (by kernel_rfl) (by kernel_rfl) (by kernel_rfl) (fun _ _ _ h => h) (Or.inl ⟨by rfl, ?_⟩) (by assumption) ?_
        rotate_left
        · intro w0 hSw; (try dsimp only at hSw); first | (go_simp; done) | (go_simp; with_reducible rfl)
        simp only [nrmA, nrmB, nrmC]
        refine take_at (i := 7) rfl rfl (by kernel_rfl) (by kernel_rfl) (by kernel_rfl) (fun _ _ _ h => h) (yieldsIf_load_mid (by rfl) _ _ rfl g3 0 rfl [.int .i64 r, .int .i64 f] _ (fun w0 hSw => range_of (keep hSw H45.out)) Tryz.underlying37 rfl SZD.out) (by assumption) ?_
        simp only [nrmA, nrmB, nrmC]
        refine wpAnyH_ready (rs := [8]) (by kernel_rfl) (by simp) ?_
        refine AllReadyH.cons rfl (fun K hK => ?_) ?_
        · have HCx := Lib.hid (HSO.out w5.drew)
          go_simp
          go_wp2_with ((go_at_call 16; (with_reducible refine (HCx.out).mono ?_); rintro e y1 ⟨sa, sn, sc, xs, rfl, hxs, hst, hfw, hb⟩; have HXS := Lib.hid hxs; have HST := Lib.hid hst; have HFW := Lib.hid hfw; have HX := Lib.hid (bthen hHeld hb); clear hxs hst hfw hb HCx))
          refine hK.out _ _ (by (try dsimp only); exact HX.out) (fun hHeld => ?_)
          clear hK K
          refine take_at (i := 9) (v := ?_) rfl rfl (by kernel_rfl) (by kernel_rfl) (by kernel_rfl) (fun _ _ _ h => h) (Or.inl ⟨by rfl, ?_⟩) (by assumption) ?_
          rotate_left
          · intro w0 hSw; (try dsimp only at hSw); first | (go_simp; done) | (go_simp; with_reducible rfl)
          simp only [nrmA, nrmB, nrmC]
          refine take_at (i := 10) (v := ?_) rfl rfl (by kernel_rfl) (by kernel_rfl) (by kernel_rfl) (fun _ _ _ h => h) (Or.inl ⟨by rfl, ?_⟩) (by assumption) ?_
          rotate_left
          · intro w0 hSw; (try dsimp only at hSw); first | (go_simp; done) | (go_simp; with_reducible rfl)
          simp only [nrmA, nrmB, nrmC]
          refine take_at (i := 11) (v := ?_) rfl rfl (by kernel_rfl) (by kernel_rfl) (by kernel_rfl) (fun _ _ _ h => h) (Or.inl ⟨by rfl, ?_⟩) (by assumption) ?_
          rotate_left
          · intro w0 hSw; (try dsimp only at hSw); first | (go_simp; done) | (go_simp; with_reducible rfl)
          simp only [nrmA, nrmB, nrmC]
          refine take_at (i := 12) (v := ?_) rfl rfl (by kernel_rfl) (by kernel_rfl) (by kernel_rfl) (fun _ _ _ h => h) (Or.inl ⟨by rfl, ?_⟩) (by assumption) ?_
          rotate_left
          · intro w0 hSw; (try dsimp only at hSw); first | (go_simp; done) | (go_simp; with_reducible rfl)
          simp only [nrmA, nrmB, nrmC]
          refine take_at (i := 13) (v := ?_) rfl rfl (by kernel_rfl) (by kernel_rfl) (by kernel_rfl) (fun _ _ _ h => h) (Or.inl ⟨by rfl, ?_⟩) (by assumption) ?_
          rotate_left
          · intro w0 hSw; (try dsimp only at hSw); first | (go_simp; done) | (go_simp; with_reducible rfl)
          simp only [nrmA, nrmB, nrmC]
          refine wpAnyH_done (by kernel_rfl) ?_ _
          clear hHeld
          have HB6 := Lib.hid (bthen HB5.out HX.out)
          have H26 := Lib.hid (keep HX.out H25.out)
          have H36 := Lib.hid (keep HX.out H35.out)
          have HQ6 := Lib.hid (keep HX.out HQ5.out)
          have HR6 := Lib.hid (keep HX.out HR5.out)
          have HKS6 := Lib.hid (HKS.out.below HX.out)
          have HB56 := Lib.hid HX.out
          revert HB6 H26 H36 HQ6 HR6 HXS HKS6 HB56
          generalize y1 = w6
          intro HXS HB6 H26 H36 HQ6 HR6 HKS6 HB56
          have SZI : Hid ((Tryz.prog.info? 55).map (·.size) = some (takeIn T pre (some ⟨g2, 0, none⟩)).cells.length) := Lib.hid (in_size HTL.out)
          have ZI : Hid (noIn.cells.length = (takeIn T pre (some ⟨g2, 0, none⟩)).cells.length) := Lib.hid (by rw [PIn.len (x := takeIn T pre (some ⟨g2, 0, none⟩)) HTL.out]; rfl)
          go_upto_region 10 with (fail)
          go_cut [16] from 60 to 63 (fun u w' => ∃ q6 : Nat, u = .pointer (some ⟨q6, 0, none⟩) ∧ w'.heap[q6]? = some (.cells (takeIn T pre (some ⟨g2, 0, none⟩)).cells.toArray 55 (0, 0)) ∧ Below w6.heap.size w6 w')
          case first =>
            try simp only [Act.put]
            refine wp_region_held_drew (S := fun w' => Below w6.heap.size w6 w') (by kernel_rfl) (below_drew (Below.refl _ _)) (fun hHeld => ?_)
            refine take_at (i := 0) rfl rfl (by kernel_rfl) (by kernel_rfl) (by kernel_rfl) (fun _ _ _ h => h) (yieldsIf_load_mid (by rfl) _ _ rfl g1 0 rfl t.cells _ (fun w0 hSw => range_of (keep hSw H26.out)) Tryz.underlying35 rfl SZTl.out) (by assumption) ?_
            simp only [nrmA, nrmB, nrmC]
            refine take_at (i := 2) (v := ?_) rfl rfl (by kernel_rfl) (by kernel_rfl) (by kernel_rfl) (fun _ _ _ h => h) (Or.inl ⟨by rfl, ?_⟩) (by assumption) ?_
            rotate_left
            · intro w0 hSw; (try dsimp only at hSw); first | (go_simp; done) | (go_simp; with_reducible rfl)
            simp only [nrmA, nrmB, nrmC]
            refine wpAnyH_ready (rs := [1, 4]) (by kernel_rfl) (by simp) ?_
            refine AllReadyH.cons rfl (fun K hK => ?_) ?_
            · have HCx := Lib.hid (HREF.out _ (bthen HB6.out hHeld))
              go_simp
              go_wp2_with ((go_at_call 17; (with_reducible refine (HCx.out).mono ?_); rintro e y1 ⟨rfl, hb⟩; have HX := Lib.hid (bthen hHeld hb); clear hb HCx))
              refine hK.out _ _ (by (try dsimp only); exact HX.out) (fun hHeld => ?_)
              clear hK K
              refine take_at (i := 3) rfl rfl (by kernel_rfl) (by kernel_rfl) (by kernel_rfl) (fun _ _ _ h => h) (yields_build10 (by rfl) rfl (vs := [(0, .agg (refCells T 0).toArray), (1, .int .i64 1), (2, .slice (some ⟨g2, 0, none⟩) 32 32)]) (by rfl) (build_take15 (pre := pre) _ HTL.out)) (by assumption) ?_
              simp only [nrmA, nrmB, nrmC]
              refine wpAnyH_ready (rs := [4]) (by kernel_rfl) (by simp) ?_
              refine AllReadyH.cons rfl (fun K hK => ?_) ?_
              · refine step_alloc10 (d := 16) rfl (by rfl) 55 rfl noIn.cells.toArray Tryz.zeroIn14 ?_
                intro q6 y2 hp hh hb
                have VI := Lib.hid hh
                have NI : Hid (w6.heap.size ≤ q6) := Lib.hid (Nat.le_trans (Below.size hHeld) hp)
                have HX := Lib.hid (bthen hHeld hb)
                clear hp hh hb
                refine hK.out _ _ (by (try dsimp only); exact HX.out) (fun hHeld => ?_)
                clear hK K
                refine wpAnyH_ready (rs := [5]) (by kernel_rfl) (by simp) ?_
                refine AllReadyH.cons rfl (fun K hK => ?_) ?_
                · refine step_row10 (by rfl) 55 _ _ rfl q6 (takeIn T pre (some ⟨g2, 0, none⟩)).cells (by rfl) (by rfl) 55 noIn.cells VI.out SZI.out ZI.out (PIn.one _) (fun y3 hh hb => ?_)
                  have HX := Lib.hid (But.in hHeld hb NI.out)
                  have VI := Lib.hid hh
                  clear hh hb
                  refine hK.out _ _ (by (try dsimp only); exact HX.out) (fun hHeld => ?_)
                  clear hK K
                  refine wpAnyH_done (by kernel_rfl) ?_ _
                  clear hHeld
                  go_wp2_with fail
                  go_meet
                  exact ⟨q6, rfl, VI.out, HX.out⟩
                exact AllReadyH.nil
              exact AllReadyH.nil
            refine AllReadyH.cons rfl (fun K hK => ?_) ?_
            · refine step_alloc10 (d := 16) rfl (by rfl) 55 rfl noIn.cells.toArray Tryz.zeroIn14 ?_
              intro q6 y1 hp hh hb
              have VI := Lib.hid hh
              have NI : Hid (w6.heap.size ≤ q6) := Lib.hid (Nat.le_trans (Below.size hHeld) hp)
              have HX := Lib.hid (bthen hHeld hb)
              clear hp hh hb
              refine hK.out _ _ (by (try dsimp only); exact HX.out) (fun hHeld => ?_)
              clear hK K
              refine wpAnyH_ready (rs := [1]) (by kernel_rfl) (by simp) ?_
              refine AllReadyH.cons rfl (fun K hK => ?_) ?_
              · have HCx := Lib.hid (HREF.out _ (bthen HB6.out hHeld))
                go_simp
                go_wp2_with ((go_at_call 17; (with_reducible refine (HCx.out).mono ?_); rintro e y2 ⟨rfl, hb⟩; have VI := Lib.hid (keep hb VI.out); have HX := Lib.hid (bthen hHeld hb); clear hb HCx))
                refine hK.out _ _ (by (try dsimp only); exact HX.out) (fun hHeld => ?_)
                clear hK K
                refine take_at (i := 3) rfl rfl (by kernel_rfl) (by kernel_rfl) (by kernel_rfl) (fun _ _ _ h => h) (yields_build10 (by rfl) rfl (vs := [(0, .agg (refCells T 0).toArray), (1, .int .i64 1), (2, .slice (some ⟨g2, 0, none⟩) 32 32)]) (by rfl) (build_take15 (pre := pre) _ HTL.out)) (by assumption) ?_
                simp only [nrmA, nrmB, nrmC]
                refine wpAnyH_ready (rs := [5]) (by kernel_rfl) (by simp) ?_
                refine AllReadyH.cons rfl (fun K hK => ?_) ?_
                · refine step_row10 (by rfl) 55 _ _ rfl q6 (takeIn T pre (some ⟨g2, 0, none⟩)).cells (by rfl) (by rfl) 55 noIn.cells VI.out SZI.out ZI.out (PIn.one _) (fun y3 hh hb => ?_)
                  have HX := Lib.hid (But.in hHeld hb NI.out)
                  have VI := Lib.hid hh
                  clear hh hb
                  refine hK.out _ _ (by (try dsimp only); exact HX.out) (fun hHeld => ?_)
                  clear hK K
                  refine wpAnyH_done (by kernel_rfl) ?_ _
                  clear hHeld
                  go_wp2_with fail
                  go_meet
                  exact ⟨q6, rfl, VI.out, HX.out⟩
                exact AllReadyH.nil
              exact AllReadyH.nil
            exact AllReadyH.nil
          case rest =>
            obtain ⟨q6, rfl, hq6, hb7⟩ := hcut
            have HB7 := Lib.hid (bthen HB6.out hb7)
            have HI7 := Lib.hid hq6
            have H37 := Lib.hid (keep hb7 H36.out)
            have HR7 := Lib.hid (keep hb7 HR6.out)
            have HXS7 := Lib.hid (HXS.out.below hb7)
            have HKS7 := Lib.hid (HKS6.out.below hb7)
            have ckq : wc.cell? ⟨q, 0, none⟩ = some (.slice (some ⟨kb, ko, none⟩) 1 u1.c) := (Below.cell hb7 (p := ⟨q, 0, none⟩) (lt_of_block HQ6.out)).trans ((Below.cell HB56.out (p := ⟨q, 0, none⟩) (lt_of_block HQ5.out)).trans CK.out)
            have HQ7L : Hid (q < wc.heap.size) := Lib.hid (Nat.lt_of_lt_of_le (lt_of_block HQ6.out) hb7.size)
            have SZIA : Hid ((Tryz.prog.info? 55).map (·.size) = some (takeIn T pre (some ⟨g2, 0, none⟩)).cells.toArray.size) := Lib.hid (in_sizeA HTL.out)
            clear hq6 hb7
            go_wp2_with (first | (refine wpList_load_row rfl 55 _ rfl q6 rfl 55 (takeIn T pre (some ⟨g2, 0, none⟩)).cells.toArray (0, 0) _ HI7.out Tryz.underlying55 rfl SZIA.out ?_) | (refine wpList_lits Tryz.inAt14 rfl rfl [takeIn T pre (some ⟨g2, 0, none⟩)] rfl (by decide) (by decide) (by intro x hx; simp at hx; subst hx; exact PIn.len HTL.out) rfl ?_; intro p8 w8 hp hh hb; go_frame; have HB8 := Lib.hid (bthen HB7.out hb); have HR8 := Lib.hid (keep hb HR7.out); have HTX := Lib.hid (take_in15 HTL.out HPL.out hh (keep hb H37.out) (HXS7.out.below hb)); have HTF := Lib.hid (take_front15 HTX.out HFW.out); have HSGC := Lib.hid (txSigned_any HTX.out (take_few15 HFW.out (.inr HFW.out.lo)) HTF.out (HK.out.below HB8.out) (HKS7.out.below hb) HKF.out); have ckq := (Below.cell hb (p := ⟨q, 0, none⟩) HQ7L.out).trans ckq; clear hp hh hb) | (refine wpList_build10 rfl rfl (vs := [(0, .slice (some ⟨p8, 0, none⟩) 1 1), (1, .slice sa sn sc)]) rfl (build_takeP (T := T) (pre := pre) (some ⟨p8, 0, none⟩) (some ⟨g2, 0, none⟩) sa sn sc xs) ?_; go_frame) | (go_at_call 12; (with_reducible refine (HSGC.out).mono ?_); rintro e w9 ⟨y, rfl, hy, hst2, hnew, hb⟩; have HY := Lib.hid hy; have HSY := Lib.hid hst2; have HNW := Lib.hid hnew; have HB9 := Lib.hid (bthen HB8.out hb); have HR9 := Lib.hid (keep hb HR8.out); have HRL := Lib.hid (lt_of_block HR8.out); have SZY := Lib.hid (tx_size hy.op.root); have ZY : Hid (noTx.cells.length = y.cells.length) := Lib.hid (by rw [PTx.len hy.op.root]; rfl); clear hy hst2 hnew hb) | (refine wpList_row10 rfl 35 _ _ rfl r0 y.cells rfl rfl 35 noTx.cells HR9.out SZY.out ZY.out (PTx.one _) ?_; intro w10 hh9 hb9) | fail)
            refine bodyPost_ret (results_cell_then rfl _ _ r0 35 y.cells.toArray (0, 0) _ (.int .i64 0) rfl rfl hh9 Tryz.underlying35 rfl (by rw [List.size_toArray]; exact SZY.out)) rfl ?_
            refine ⟨?_, But.in HB9.out hb9 HN.out⟩
            unfold builtR
            rw [HSV.out, if_pos (of_decide_eq_true HEQ.out), HSHOK.out, HTV.out]
            refine ⟨y, rfl, HY.out.older HNW.out HRL.out hb9, HNW.out.mono HB8.out.size, ?_⟩
            have e5 := takeP_strip (T := T) (pre := pre) (ia := some ⟨p8, 0, none⟩) (pa := some ⟨g2, 0, none⟩) (oa := sa) (n := sn) (c := sc) HST.out
            rw [HSY.out, txSum_alike15 e5]
            exact signedP_strip e5
        exact AllReadyH.nil
      · have HSO := Lib.hid (fun (W : World) => shareOuts_bad (w := W) (n := m) (key := k) (z := z) (r := r) (f := f) HP.out.fit HRF.out HFF.out HZ0.out (by omega))
        have HSHOK : Hid (sharesOk m (askP z r) f = false) := Lib.hid (decide_eq_false hq)
        clear hq
        refine wp_region_held_drew (S := fun w' => Below w5.heap.size w5 w') (by kernel_rfl) (below_drew (Below.refl _ _)) (fun hHeld => ?_)
        refine take_at (i := 0) (v := ?_) rfl rfl (by kernel_rfl) (by kernel_rfl) (by kernel_rfl) (fun _ _ _ h => h) (Or.inl ⟨by rfl, ?_⟩) (by assumption) ?_
        rotate_left
        · intro w0 hSw; (try dsimp only at hSw); first | (go_simp; done) | (go_simp; with_reducible rfl)
        simp only [nrmA, nrmB, nrmC]
        refine take_at (i := 1) rfl rfl (by kernel_rfl) (by kernel_rfl) (by kernel_rfl) (fun _ _ _ h => h) (yields_cell (b := p) (o := 0) (by rfl) rfl rfl (fun w0 hSw => (Below.cell hSw (p := ⟨p, 0, none⟩) (lt_of_block HP5.out)).trans CM.out) (fun w0 => Tryz.isAgg2 w0)) (by assumption) ?_
        simp only [nrmA, nrmB, nrmC]
        refine take_at (i := 2) (v := ?_) rfl rfl (by kernel_rfl) (by kernel_rfl) (by kernel_rfl) (fun _ _ _ h => h) (Or.inl ⟨by rfl, ?_⟩) (by assumption) ?_
        rotate_left
        · intro w0 hSw; (try dsimp only at hSw); first | (go_simp; done) | (go_simp; with_reducible rfl)
        simp only [nrmA, nrmB, nrmC]
        refine take_at (i := 3) rfl rfl (by kernel_rfl) (by kernel_rfl) (by kernel_rfl) (fun _ _ _ h => h) (yields_cell (b := q) (o := 0) (by rfl) rfl rfl (fun w0 hSw => (Below.cell hSw (p := ⟨q, 0, none⟩) (lt_of_block HQ5.out)).trans CK.out) (fun w0 => Tryz.isAgg47 w0)) (by assumption) ?_
        simp only [nrmA, nrmB, nrmC]
        refine take_at (i := 4) (v := ?_) rfl rfl (by kernel_rfl) (by kernel_rfl) (by kernel_rfl) (fun _ _ _ h => h) (Or.inl ⟨by rfl, ?_⟩) (by assumption) ?_
        rotate_left
        · intro w0 hSw; (try dsimp only at hSw); first | (go_simp; done) | (go_simp; with_reducible rfl)
        simp only [nrmA, nrmB, nrmC]
        refine take_at (i := 5) rfl rfl (by kernel_rfl) (by kernel_rfl) (by kernel_rfl) (fun _ _ _ h => h) (yields_cell (b := kb) (o := ko) (by rfl) rfl rfl (fun w0 hSw => (Below.cell hSw (p := ⟨kb, ko, none⟩) HKB.out).trans CZ.out) (fun w0 => Tryz.isAgg3 w0)) (by assumption) ?_
        simp only [nrmA, nrmB, nrmC]
        refine take_at (i := 6) (v := ?_) rfl rfl (by kernel_rfl) (by kernel_rfl) (by kernel_rfl) (fun _ _ _ h => h) (Or.inl ⟨by rfl, ?_⟩) (by assumption) ?_
        rotate_left
        · intro w0 hSw; (try dsimp only at hSw); first | (go_simp; done) | (go_simp; with_reducible rfl)
        simp only [nrmA, nrmB, nrmC]
        refine take_at (i := 7) rfl rfl (by kernel_rfl) (by kernel_rfl) (by kernel_rfl) (fun _ _ _ h => h) (yieldsIf_load_mid (by rfl) _ _ rfl g3 0 rfl [.int .i64 r, .int .i64 f] _ (fun w0 hSw => range_of (keep hSw H45.out)) Tryz.underlying37 rfl SZD.out) (by assumption) ?_
        simp only [nrmA, nrmB, nrmC]
        refine wpAnyH_ready (rs := [8]) (by kernel_rfl) (by simp) ?_
        refine AllReadyH.cons rfl (fun K hK => ?_) ?_
        · have HCx := Lib.hid (HSO.out w5.drew)
          go_simp
          go_wp2_with ((go_at_call 16; (with_reducible refine (HCx.out).mono ?_); rintro e y1 ⟨rfl, hb⟩; have HX := Lib.hid (bthen hHeld hb); clear hb HCx))
          refine hK.out _ _ (by (try dsimp only); exact HX.out) (fun hHeld => ?_)
          clear hK K
          refine take_at (i := 9) (v := ?_) rfl rfl (by kernel_rfl) (by kernel_rfl) (by kernel_rfl) (fun _ _ _ h => h) (Or.inl ⟨by rfl, ?_⟩) (by assumption) ?_
          rotate_left
          · intro w0 hSw; (try dsimp only at hSw); first | (go_simp; done) | (go_simp; with_reducible rfl)
          simp only [nrmA, nrmB, nrmC]
          refine take_at (i := 10) (v := ?_) rfl rfl (by kernel_rfl) (by kernel_rfl) (by kernel_rfl) (fun _ _ _ h => h) (Or.inl ⟨by rfl, ?_⟩) (by assumption) ?_
          rotate_left
          · intro w0 hSw; (try dsimp only at hSw); first | (go_simp; done) | (go_simp; with_reducible rfl)
          simp only [nrmA, nrmB, nrmC]
          refine take_at (i := 11) (v := ?_) rfl rfl (by kernel_rfl) (by kernel_rfl) (by kernel_rfl) (fun _ _ _ h => h) (Or.inl ⟨by rfl, ?_⟩) (by assumption) ?_
          rotate_left
          · intro w0 hSw; (try dsimp only at hSw); first | (go_simp; done) | (go_simp; with_reducible rfl)
          simp only [nrmA, nrmB, nrmC]
          refine take_at (i := 12) (v := ?_) rfl rfl (by kernel_rfl) (by kernel_rfl) (by kernel_rfl) (fun _ _ _ h => h) (Or.inl ⟨by rfl, ?_⟩) (by assumption) ?_
          rotate_left
          · intro w0 hSw; (try dsimp only at hSw); first | (go_simp; done) | (go_simp; with_reducible rfl)
          simp only [nrmA, nrmB, nrmC]
          refine take_at (i := 13) (v := ?_) rfl rfl (by kernel_rfl) (by kernel_rfl) (by kernel_rfl) (fun _ _ _ h => h) (Or.inl ⟨by rfl, ?_⟩) (by assumption) ?_
          rotate_left
          · intro w0 hSw; (try dsimp only at hSw); first | (go_simp; done) | (go_simp; with_reducible rfl)
          simp only [nrmA, nrmB, nrmC]
          refine wpAnyH_done (by kernel_rfl) ?_ _
          clear hHeld
          have HB6 := Lib.hid (bthen HB5.out HX.out)
          have HR6 := Lib.hid (keep HX.out HR5.out)
          go_wp2_with (first | (refine wpList_build10 rfl rfl (vs := []) rfl build_none15 ?_; go_frame) | (refine wpList_row10 rfl 35 _ _ rfl r0 noTx.cells rfl rfl 35 noTx.cells HR6.out SZ0.out rfl (PTx.one _) ?_; intro w9 hh9 hb9) | fail)
          refine bodyPost_ret (results_cell_then rfl _ _ r0 35 noTx.cells.toArray (0, 0) _ (.int .i64 1) rfl rfl hh9 Tryz.underlying35 rfl (by rw [List.size_toArray]; exact SZ0.out)) rfl ?_
          refine ⟨?_, But.in HB6.out hb9 HN.out⟩
          unfold builtR
          rw [HSV.out, if_pos (of_decide_eq_true HEQ.out), HSHOK.out]
          rfl
        exact AllReadyH.nil
    exact AllReadyH.nil
end Go.Proofs.YtnjnomebcggccaaGreatDoor
