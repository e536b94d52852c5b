/- Which receipts may be: the code's upto and Right, the law's right. The text of a receipt: the code's Text and the law's text. What receipt.Verify comes to, of any bytes. -/
import Derived.Test.YtcmdpmialehjgaaGreatDoorRecMem
import Derived.Test.YtcmdpmialehjgaaGreatDoorWire
import Derived.Test.YtcmdpmialehjgaaGreatDoorMany
import Derived.Test.YtcmdpmialehjgaaGreatDoorMemory
namespace Go.Proofs.YtcmdpmialehjgaaGreatDoor
open Go.RowKit

theorem recupto_any (w : World) (z m : Int) : Calls Tryz.prog 18 #[.int .i64 z, .int .i64 m] w fun e w' => e = .returned (.bool (decide (0 ≤ z) && decide (z ≤ m))) ∧ w' = w := by
  obtain ⟨t1, h1⟩ : ∃ r, decide (0 ≤ z) = r := ⟨_, rfl⟩
  obtain ⟨t2, h2⟩ : ∃ r, decide (z ≤ m) = r := ⟨_, rfl⟩
  go_enter Tryz.func18, Tryz.ntmps18
  rw [h1, h2]
  cases t1
  · go_wp2
    go_ret
    exact ⟨rfl, rfl⟩
  · cases t2
    · go_wp2
      go_ret
      exact ⟨rfl, rfl⟩
    · go_wp2
      go_ret
      exact ⟨rfl, rfl⟩
set_option linter.unusedSimpArgs false in
set_option maxRecDepth 100000 in
set_option maxHeartbeats 6400000 in
theorem recright_any (w : World) (x : PRec) : Calls Tryz.prog 8 #[.agg x.cells.toArray] w fun e w' => e = .returned (.bool (recOk x)) ∧ Below w.heap.size w w' := by
  obtain ⟨u1, h1, k1⟩ : ∃ u, (decide (0 ≤ x.tower) && decide (x.tower ≤ 15)) = u ∧ ∀ W : World, Calls Tryz.prog 18 #[.int .i64 x.tower, .int .i64 15] W fun e w' => e = .returned (.bool u) ∧ w' = W := ⟨_, rfl, fun W => recupto_any W _ _⟩
  obtain ⟨u2, h2, k2⟩ : ∃ u, (decide (0 ≤ x.channel) && decide (x.channel ≤ 1048576)) = u ∧ ∀ W : World, Calls Tryz.prog 18 #[.int .i64 x.channel, .int .i64 1048576] W fun e w' => e = .returned (.bool u) ∧ w' = W := ⟨_, rfl, fun W => recupto_any W _ _⟩
  obtain ⟨u3, h3, k3⟩ : ∃ u, (decide (0 ≤ x.state) && decide (x.state ≤ 1048576)) = u ∧ ∀ W : World, Calls Tryz.prog 18 #[.int .i64 x.state, .int .i64 1048576] W fun e w' => e = .returned (.bool u) ∧ w' = W := ⟨_, rfl, fun W => recupto_any W _ _⟩
  have HR : Hid (recOk x = (u1 && (u2 && u3))) := Lib.hid (by rw [← h1, ← h2, ← h3]; simp [recOk, Bool.and_assoc])
  have H1 := Lib.hid k1
  have H2 := Lib.hid k2
  have H3 := Lib.hid k3
  clear h1 h2 h3 k1 k2 k3
  go_enter Tryz.func8, Tryz.ntmps8
  go_upto_region 1 with (fail)
  have b1 : Below w.heap.size w (w.alloc (.cells x.cells.toArray 25)) := (Below.refl _ _).alloc (Nat.le_refl _) _
  have hrg := range_nil (range_of (heap_alloc_new w (.cells x.cells.toArray 25)))
  revert b1 hrg
  generalize (w.alloc (.cells x.cells.toArray 25)) = w1
  obtain ⟨g, hg⟩ : ∃ g, g = w.heap.size := ⟨_, rfl⟩
  rw [← hg]
  intro b1 hrg
  rw [hg] at b1
  have HB := Lib.hid b1
  have c0 := rec_tower hrg
  have c1 := rec_channel hrg
  have c2 := rec_state hrg
  rw [Nat.zero_add] at c1 c2
  clear hrg hg b1
  cases u1
  · go_wp2_with (first | (go_at_call 18; (first | (with_reducible refine (H1.out _).mono ?_) | (with_reducible refine (H2.out _).mono ?_) | (with_reducible refine (H3.out _).mono ?_)); rintro e w2 ⟨rfl, rfl⟩) | fail)
    go_ret
    exact ⟨by rw [HR.out]; simp, HB.out⟩
  · cases u2
    · go_wp2_with (first | (go_at_call 18; (first | (with_reducible refine (H1.out _).mono ?_) | (with_reducible refine (H2.out _).mono ?_) | (with_reducible refine (H3.out _).mono ?_)); rintro e w2 ⟨rfl, rfl⟩) | fail)
      go_ret
      exact ⟨by rw [HR.out]; simp, HB.out⟩
    · cases u3
      · go_wp2_with (first | (go_at_call 18; (first | (with_reducible refine (H1.out _).mono ?_) | (with_reducible refine (H2.out _).mono ?_) | (with_reducible refine (H3.out _).mono ?_)); rintro e w2 ⟨rfl, rfl⟩) | fail)
        go_ret
        exact ⟨by rw [HR.out]; simp, HB.out⟩
      · go_wp2_with (first | (go_at_call 18; (first | (with_reducible refine (H1.out _).mono ?_) | (with_reducible refine (H2.out _).mono ?_) | (with_reducible refine (H3.out _).mono ?_)); rintro e w2 ⟨rfl, rfl⟩) | fail)
        go_ret
        exact ⟨by rw [HR.out]; simp, HB.out⟩
end Go.Proofs.YtcmdpmialehjgaaGreatDoor
namespace Go.Proofs.YtcmdpmialehjgaaGreatDoor
open Go.RowKit

/-- A slice of bytes is told, in new blocks. -/
def TextOut (w : World) (l : List UInt8) (e : Ending) (w' : World) : Prop := ∃ a n c, e = .returned (.slice a n c) ∧ Row w' a n c l ∧ (∀ y, a = some y → w.heap.size ≤ y.block) ∧ Below w.heap.size w w'
theorem Tryz.zeroInt12 : (Tryz.prog.info? 3).map (fun i => (i.zero, i.size, i.bytes)) = some (some (.int .i64 0), 1, 8) := by kernel_rfl
/-- A slice literal of three numbers, in a region. -/
theorem step_three {ops : Array Oper} {o : Oper} {tmps : Array Value} {ds : List Deferred} {w : World} {K : Act → World → Prop} {Q : Exit → Act → World → Prop} {E : Prop} {d : Nat} {u v t : Operand} {x y z : Int} (hd : o.dst = some d) (hw : Region.wanted o (yielded ops tmps) = true) (ho : o.op = .buildSlice 80 3 #[(0, u), (1, v), (2, t)])
    (hu : Act.eval { tmps := tmps, defers := ds } u = .int .i64 x) (hv : Act.eval { tmps := tmps, defers := ds } v = .int .i64 y) (ht : Act.eval { tmps := tmps, defers := ds } t = .int .i64 z)
    (h : ∀ (p : Nat) (w' : World), w.heap.size ≤ p → w'.heap[p]? = some (.cells #[.int .i64 x, .int .i64 y, .int .i64 z] 3 (0, 0)) → Below w.heap.size w w' → K { tmps := tmps.setIfInBounds d (.slice (some ⟨p, 0, none⟩) 3 3), defers := ds } w') :
    if Region.wanted o (yielded ops tmps) = true then Oper.wp Tryz.prog o { tmps := tmps, defers := ds } w K Q else E := by
  rw [if_pos hw]
  obtain ⟨ie, h1, h2, h3, _⟩ := info_parts Tryz.zeroInt12
  have hrun : (Instr.buildSlice 80 3 #[(0, .int .i64 x), (1, .int .i64 y), (2, .int .i64 z)]).run Tryz.prog w = .ok (.slice (some ⟨w.heap.size, 0, none⟩) 3 3) (w.alloc (.cells #[.int .i64 x, .int .i64 y, .int .i64 z] 3)) :=
    run_buildSlice w 80 3 3 _ _ ie _ Tryz.underlying80 h1 h2 (by rw [h3]; omega) (by rw [h3]; omega) (by rw [h3]; simp [Instr.fill, Value.cells]; rw [show Array.range 3 = #[0, 1, 2] by rfl]; simp)
  unfold Oper.wp execOp
  simp only [ho, List.map_toArray, List.map_cons, List.map_nil, hu, hv, ht, Sem.run_bind, hrun, Sem.run_pure, Result.andThen_ok]
  show K (Act.put _ o.dst _) _
  rw [hd]
  exact h _ _ (Nat.le_refl _) (heap_alloc_new _ _) ((Below.refl _ _).alloc (Nat.le_refl _) _)
theorem lit3 {w : World} {g B pb : Nat} {x y z : Int} {fr : Nat × Nat} (h : w.heap[g]? = some (.cells #[.int .i64 x, .int .i64 y, .int .i64 z] 3 fr)) : ∀ wr, But B pb w wr → Keeps w wr → ∀ j, j < 3 → wr.cell? ⟨g, 0 + j, none⟩ = some (.int .i64 ([x, y, z].getD j 0)) := fun wr _ hk j hj => by
  rw [Nat.zero_add, cell_of_row _ _ _ _ _ _ ((hk g _ _ _ h (by decide) (by decide) (by decide)).trans h)]
  rcases (show j = 0 ∨ j = 1 ∨ j = 2 by omega) with rfl | rfl | rfl <;> rfl
theorem three_small {x y z : Int} (hx : Fits x) (hy : Fits y) (hz : Fits z) : ∀ v ∈ [x, y, z], v ≤ 9223372036854775807 := fun v hv => by
  simp at hv
  rcases hv with rfl | rfl | rfl
  · exact hx.2
  · exact hy.2
  · exact hz.2
theorem sumLen12 {s : List UInt8} (h : s.length = 32) : (Tryz.prog.info? 23).map (·.size) = some (cellsOf s).length := by rw [cellsOf_len, h]; exact Tryz.size23
set_option linter.unusedSimpArgs false in
set_option maxRecDepth 100000 in
set_option maxHeartbeats 6400000 in
theorem text_any {w : World} {x : PRec} (h : RecIn x) : Calls Tryz.prog 10 #[.agg x.cells.toArray] w (TextOut w (textB x)) := by
  have hs3 := Lib.hid (three_small h.tower h.channel h.state)
  obtain ⟨NB, hNB⟩ : ∃ NB, NB = numsB [x.tower, x.channel, x.state] := ⟨_, rfl⟩
  have hNBl : NB.length ≤ 27 := by
    have n1 := (numB_len x.tower).2
    have n2 := (numB_len x.channel).2
    have n3 := (numB_len x.state).2
    rw [hNB, nums3]
    simp only [List.length_append]
    omega
  have TE : Hid (textB x = ((([] ++ NB) ++ x.hint) ++ x.blob)) := Lib.hid (by rw [hNB]; simp [textB])
  have HLN : Hid (([] ++ NB).length ≤ 1000000) := Lib.hid (by simp; omega)
  have HLM : Hid ((([] ++ NB) ++ x.hint).length ≤ 1000000) := Lib.hid (by simp [h.hint]; omega)
  have HLL : Hid (((([] ++ NB) ++ x.hint) ++ x.blob).length ≤ 140737488355328) := Lib.hid (by simp [h.hint, h.blob]; omega)
  have HNB := Lib.hid hNB
  clear hNB hNBl
  have SXH := Lib.hid (sumLen12 h.hint)
  have SXB := Lib.hid (sumLen12 h.blob)
  have HX := Lib.hid h
  have hx1 := h.tower.2
  have hx2 := h.channel.2
  have hx3 := h.state.2
  clear h
  go_enter Tryz.func10, Tryz.ntmps10
  go_upto_region 2 with (fail)
  have b1 : Below w.heap.size w ((w.alloc (.cells x.cells.toArray 25)).alloc (.cells #[.pointer none, .int .i64 0] 36)) := ((Below.refl _ _).alloc (Nat.le_refl _) _).alloc (by simp) _
  have h1 : ((w.alloc (.cells x.cells.toArray 25)).alloc (.cells #[.pointer none, .int .i64 0] 36)).heap[w.heap.size]? = some (.cells x.cells.toArray 25 (0, 0)) := by
    rw [heap_alloc_old _ _ (by simp), heap_alloc_new]
  have h2 : ((w.alloc (.cells x.cells.toArray 25)).alloc (.cells #[.pointer none, .int .i64 0] 36)).heap[w.heap.size + 1]? = some (.cells #[.pointer none, .int .i64 0] 36 (0, 0)) := heap_alloc_at _ _ _ (by simp)
  revert b1 h1 h2
  generalize ((w.alloc (.cells x.cells.toArray 25)).alloc (.cells #[.pointer none, .int .i64 0] 36)) = w1
  obtain ⟨g, hg⟩ : ∃ g, g = w.heap.size := ⟨_, rfl⟩
  obtain ⟨pb, hpb⟩ : ∃ pb, pb = g + 1 := ⟨_, rfl⟩
  rw [← hg, ← hpb]
  intro b1 h1 h2
  rw [hg] at b1
  have HB1 := Lib.hid b1
  have HG1 := Lib.hid h1
  have HGL := Lib.hid (lt_of_block h1)
  have HGN : Hid (g ≠ pb) := Lib.hid (by omega)
  have HPG : Hid (w.heap.size ≤ pb) := Lib.hid (by omega)
  obtain ⟨B, hB⟩ : ∃ B, B = w1.heap.size := ⟨_, rfl⟩
  have HBE := Lib.hid hB
  have HGB : Hid (g < B) := Lib.hid (by rw [hB]; exact HGL.out)
  have HP0 : Hid (PenAt w1.drew B pb []) := Lib.hid (.inl ⟨h2, rfl⟩)
  clear hB b1 h1 h2 hg hpb
  refine wp_region_held_drew (S := fun w' => But B pb w1 w') (by kernel_rfl) (by have h9 := But.refl B pb w1; exact ⟨h9.os, h9.tape, h9.output, h9.size, h9.block⟩) (fun hHeld => ?_)
  refine tkP 0 rfl rfl ?_
  refine tkA 1 rfl rfl (yields_cell (by rfl) rfl rfl (b := g) (o := 0) (fun w0 hSw => rec_tower (range_nil (range_of (But.heap hSw HG1.out HGB.out HGN.out)))) Tryz.isAgg3) ?_
  refine tkP 2 rfl rfl ?_
  refine tkA 3 rfl rfl (yields_cell (by rfl) rfl rfl (b := g) (o := 1) (fun w0 hSw => rec_channel (g := g) (o := 0) (range_nil (range_of (But.heap hSw HG1.out HGB.out HGN.out)))) Tryz.isAgg3) ?_
  refine tkP 4 rfl rfl ?_
  refine tkA 5 rfl rfl (yields_cell (by rfl) rfl rfl (b := g) (o := 2) (fun w0 hSw => rec_state (g := g) (o := 0) (range_nil (range_of (But.heap hSw HG1.out HGB.out HGN.out)))) Tryz.isAgg3) ?_
  refine tkP 8 rfl rfl ?_
  refine tkA 9 rfl rfl (yieldsIf_load_mid (by rfl) _ _ rfl g 3 rfl (cellsOf x.hint) _ (fun w0 hSw => rec_hint (g := g) (o := 0) (range_nil (range_of (But.heap hSw HG1.out HGB.out HGN.out)))) Tryz.underlying23 rfl SXH.out) ?_
  refine tkP 11 rfl rfl ?_
  refine tkA 12 rfl rfl (yieldsIf_load_mid (by rfl) _ _ rfl g 35 rfl (cellsOf x.blob) _ (fun w0 hSw => rec_blob (g := g) (o := 0) HX.out (range_nil (range_of (But.heap hSw HG1.out HGB.out HGN.out)))) Tryz.underlying23 rfl SXB.out) ?_
  refine tkR 6 rfl (fun K hK => ?_)
  refine step_three (d := 10) (x := x.tower) (y := x.channel) (z := x.state) rfl (by rfl) rfl (by rfl) (by rfl) (by rfl) ?_
  intro p v0 hgp hlit hbl
  have LIT := Lib.hid hlit
  have HZv0 : Hid (B ≤ w1.drew.heap.size) := Lib.hid (by rw [HBE.out]; exact Nat.le_refl _)
  have HPv0 := Lib.hid (PenAt.below HP0.out HZv0.out hbl)
  have HSv0 := Lib.hid (But.of (p := pb) (hbl.mono HZv0.out))
  clear hlit hbl hgp
  refine hK.out _ _ (by (try dsimp only); exact But.trans hHeld HSv0.out) (fun hHeld => ?_)
  clear hK K
  refine tkR 7 rfl (fun K hK => ?_)
  have HZv1 : Hid (B ≤ (v0).heap.size) := Lib.hid (by have h9 := But.size hHeld; rw [← HBE.out] at h9; exact h9)
  go_simp
  go_wp2_with ((go_at_call 21; (with_reducible refine (((pnums_typed (n := 3) (c := 3) (off := 0) _ rfl (Nat.le_refl _) (by unfold maxLen; omega) hs3.out (lit3 LIT.out) HPv0.out HZv1.out (by omega) (by simp)))).mono ?_); rintro e v1 ⟨rfl, hp, hb, _⟩; have HPv1 := Lib.hid hp; have HSv1 := Lib.hid hb; clear hp hb))
  refine hK.out _ _ (by (try dsimp only); exact But.trans hHeld HSv1.out) (fun hHeld => ?_)
  clear hK K
  refine tkR 10 rfl (fun K hK => ?_)
  have HZv2 : Hid (B ≤ (v1).heap.size) := Lib.hid (by have h9 := But.size hHeld; rw [← HBE.out] at h9; exact h9)
  go_simp
  go_wp2_with ((go_at_call 11; (with_reducible refine (psum_at _ HX.out.hint (show PenAt v1 B pb ([] ++ NB) by rw [HNB.out]; exact HPv1.out) HZv2.out HLN.out).mono ?_); rintro e v2 ⟨rfl, hp, hb⟩; have HPv2 := Lib.hid hp; have HSv2 := Lib.hid hb; clear hp hb))
  refine hK.out _ _ (by (try dsimp only); exact But.trans hHeld HSv2.out) (fun hHeld => ?_)
  clear hK K
  refine tkR 13 rfl (fun K hK => ?_)
  have HZv3 : Hid (B ≤ (v2).heap.size) := Lib.hid (by have h9 := But.size hHeld; rw [← HBE.out] at h9; exact h9)
  go_simp
  go_wp2_with ((go_at_call 11; (with_reducible refine (psum_at _ HX.out.blob HPv2.out HZv3.out HLM.out).mono ?_); rintro e v3 ⟨rfl, hp, hb⟩; have HPv3 := Lib.hid hp; have HSv3 := Lib.hid hb; clear hp hb))
  refine hK.out _ _ (by (try dsimp only); exact But.trans hHeld HSv3.out) (fun hHeld => ?_)
  clear hK K
  refine tkR 14 rfl (fun K hK => ?_)
  have HZbb : Hid (B ≤ (v3).heap.size) := Lib.hid (by have h9 := But.size hHeld; rw [← HBE.out] at h9; exact h9)
  go_simp
  go_wp2_with ((go_at_call 12; (with_reducible refine (bytes_any HPv3.out HLL.out).mono ?_); rintro e v9 ⟨a9, n9, c9, rfl, hr9, hf9, hb9⟩; have HR := Lib.hid hr9; have HFR := Lib.hid hf9; have HB9 := Lib.hid hb9; clear hr9 hf9 hb9))
  refine hK.out _ _ (by (try dsimp only); exact But.trans hHeld (But.of (HB9.out.mono HZbb.out))) (fun hHeld => ?_)
  clear hK K
  refine tkP 15 rfl rfl ?_
  refine wpAnyH_done (by kernel_rfl) ?_ _
  have HEND : Hid (Below w.heap.size w v9) := Lib.hid (HB1.out.trans (But.below (But.mono hHeld (by rw [HBE.out]; exact HB1.out.size)) HPG.out))
  clear hHeld
  go_wp2_with fail
  go_ret
  refine ⟨_, _, _, rfl, ?_, fun y hy => Nat.le_trans (Nat.le_trans HB1.out.size (by rw [← HBE.out]; exact HZbb.out)) (HFR.out y hy), HEND.out⟩
  rw [TE.out]
  exact HR.out
end Go.Proofs.YtcmdpmialehjgaaGreatDoor
namespace Go.Proofs.YtcmdpmialehjgaaGreatDoor
open Go.RowKit

set_option linter.unusedSimpArgs false in
set_option maxRecDepth 100000 in
set_option maxHeartbeats 6400000 in
theorem recverify_any {w : World} {x : PRec} {r l : List UInt8} {b : Option Addr} {m c : Nat} (hx : RecIn x) (hr : r.length = 32) (hs : Row w b m c l) (hm : m ≤ 1000000) (hk : KsAt w) :
    Calls Tryz.prog 30 #[.agg (cellsOf r).toArray, .agg x.cells.toArray, .slice b m c] w fun e w' => e = .returned (.bool (recOk x && sigOk r (textB x) l)) ∧ Below w.heap.size w w' := by
  obtain ⟨R, hR⟩ : ∃ R, recOk x = R := ⟨_, rfl⟩
  obtain ⟨D, hD⟩ : ∃ D, sigOk r (textB x) l = D := ⟨_, rfl⟩
  obtain ⟨TX, hTX⟩ : ∃ r, textB x = r := ⟨_, rfl⟩
  have htl := textB_len hx
  have HRC : Hid (∀ W : World, Calls Tryz.prog 8 #[.agg x.cells.toArray] W fun e w' => e = .returned (.bool R) ∧ Below W.heap.size W w') := Lib.hid fun W => by rw [← hR]; exact recright_any W x
  have HTC : Hid (∀ W : World, Calls Tryz.prog 10 #[.agg x.cells.toArray] W (TextOut W TX)) := Lib.hid fun W => by rw [← hTX]; exact text_any hx
  have HVT : Hid (∀ (W : World) (a : Option Addr) (k d : Nat), Row W a k d TX → Row W b m c l → KsAt W → Calls Tryz.prog 42 #[.agg (cellsOf r).toArray, .slice a k d, .slice b m c] W fun e w' => e = .returned (.bool D) ∧ Below W.heap.size W w') := Lib.hid fun W a k d h1 h2 h3 => by
    rw [← hD]
    rw [← hTX] at h1
    exact manyverify_any hr h1 (by have h9 := h1.1; omega) h2 hm h3
  rw [hR, hD]
  have SX := Lib.hid (rec_size hx)
  have SZR := Lib.hid (sumLenV hr)
  have HS := Lib.hid hs
  have HK := Lib.hid hk
  clear hx hr hs hm hk hR hD hTX htl
  go_enter Tryz.func30, Tryz.ntmps30
  go_upto_region 1 with (fail)
  have b1 : Below w.heap.size w ((w.alloc (.cells (cellsOf r).toArray 23)).alloc (.cells x.cells.toArray 25)) := ((Below.refl _ _).alloc (Nat.le_refl _) _).alloc (by simp) _
  have h1 : ((w.alloc (.cells (cellsOf r).toArray 23)).alloc (.cells x.cells.toArray 25)).heap[w.heap.size]? = some (.cells (cellsOf r).toArray 23 (0, 0)) := by
    rw [heap_alloc_old _ _ (by simp), heap_alloc_new]
  have h2 : ((w.alloc (.cells (cellsOf r).toArray 23)).alloc (.cells x.cells.toArray 25)).heap[w.heap.size + 1]? = some (.cells x.cells.toArray 25 (0, 0)) := heap_alloc_at _ _ _ (by simp)
  revert b1 h1 h2
  generalize ((w.alloc (.cells (cellsOf r).toArray 23)).alloc (.cells x.cells.toArray 25)) = w1
  obtain ⟨g, hg⟩ : ∃ g, g = w.heap.size := ⟨_, rfl⟩
  rw [← hg]
  intro b1 h1 h2
  rw [hg] at b1
  have HB1 := Lib.hid b1
  have RR : Hid (∀ W : World, Below w1.heap.size w1 W → W.rangeAt g 0 (cellsOf r)) := Lib.hid fun W hW => range_of (keep hW h1)
  have RX : Hid (∀ W : World, Below w1.heap.size w1 W → W.rangeAt (g + 1) 0 x.cells) := Lib.hid fun W hW => range_of (keep hW h2)
  have HS1 := Lib.hid (HS.out.below b1)
  have HK1 := Lib.hid (HK.out.below b1)
  clear b1 h1 h2 hg HS HK
  cases R
  · refine wp_region_held_drew (S := fun w' => Below w1.heap.size w1 w') (by kernel_rfl) (below_drew (Below.refl _ _)) (fun hHeld => ?_)
    refine tkA 0 rfl rfl (yieldsIf_load_mid (by rfl) _ _ rfl (g + 1) 0 rfl x.cells _ (fun w0 hSw => RX.out _ hSw) Tryz.underlying25 rfl SX.out) ?_
    refine tkR 1 rfl (fun K hK => ?_)
    go_simp
    go_wp2_with ((go_at_call 8; (with_reducible refine (HRC.out _).mono ?_); rintro e y1 ⟨rfl, hb⟩; have HBy1 := Lib.hid hb; clear hb))
    refine hK.out _ _ (by (try dsimp only); exact Below.trans hHeld (HBy1.out.mono (Below.size hHeld))) (fun hHeld => ?_)
    clear hK K
    refine tkP 2 rfl rfl ?_
    refine tkA (v := undef) 3 rfl rfl (Or.inr ⟨by rfl, rfl⟩) ?_
    refine tkA (v := undef) 4 rfl rfl (Or.inr ⟨by rfl, rfl⟩) ?_
    refine tkA (v := undef) 5 rfl rfl (Or.inr ⟨by rfl, rfl⟩) ?_
    refine tkA (v := undef) 6 rfl rfl (Or.inr ⟨by rfl, rfl⟩) ?_
    refine tkA (v := undef) 7 rfl rfl (Or.inr ⟨by rfl, rfl⟩) ?_
    refine tkP 8 rfl rfl ?_
    refine tkP 9 rfl rfl ?_
    refine wpAnyH_done (by kernel_rfl) ?_ _
    have HST := Lib.hid (show Below w1.heap.size w1 y1 from hHeld)
    clear hHeld
    go_wp2_with fail
    go_ret
    exact ⟨rfl, bthen HB1.out HST.out⟩
  · refine wp_region_held_drew (S := fun w' => Below w1.heap.size w1 w') (by kernel_rfl) (below_drew (Below.refl _ _)) (fun hHeld => ?_)
    refine tkA 0 rfl rfl (yieldsIf_load_mid (by rfl) _ _ rfl (g + 1) 0 rfl x.cells _ (fun w0 hSw => RX.out _ hSw) Tryz.underlying25 rfl SX.out) ?_
    refine tkR 1 rfl (fun K hK => ?_)
    go_simp
    go_wp2_with ((go_at_call 8; (with_reducible refine (HRC.out _).mono ?_); rintro e y1 ⟨rfl, hb⟩; have HBy1 := Lib.hid hb; clear hb))
    refine hK.out _ _ (by (try dsimp only); exact Below.trans hHeld (HBy1.out.mono (Below.size hHeld))) (fun hHeld => ?_)
    clear hK K
    refine tkP 2 rfl rfl ?_
    refine tkA 3 rfl rfl (yieldsIf_load_mid (by rfl) _ _ rfl g 0 rfl (cellsOf r) _ (fun w0 hSw => RR.out _ hSw) Tryz.underlying23 rfl SZR.out) ?_
    refine tkA 4 rfl rfl (yieldsIf_load_mid (by rfl) _ _ rfl (g + 1) 0 rfl x.cells _ (fun w0 hSw => RX.out _ hSw) Tryz.underlying25 rfl SX.out) ?_
    refine tkP 6 rfl rfl ?_
    refine tkR 5 rfl (fun K hK => ?_)
    go_simp
    go_wp2_with ((go_at_call 10; (with_reducible refine (HTC.out _).mono ?_); rintro e y5 ⟨a_y5, n_y5, c_y5, rfl, hr, _, hb⟩; have HRy5 := Lib.hid hr; have HBy5 := Lib.hid hb; clear hr hb))
    refine hK.out _ _ (by (try dsimp only); exact Below.trans hHeld (HBy5.out.mono (Below.size hHeld))) (fun hHeld => ?_)
    clear hK K
    refine tkR 7 rfl (fun K hK => ?_)
    have HH7 := Lib.hid hHeld
    go_simp
    go_wp2_with ((go_at_call 42; (with_reducible refine (HVT.out _ _ _ _ HRy5.out (HS1.out.below HH7.out) (HK1.out.below HH7.out)).mono ?_); rintro e y7 ⟨rfl, hb⟩; have HBy7 := Lib.hid hb; clear hb))
    refine hK.out _ _ (by (try dsimp only); exact Below.trans hHeld (HBy7.out.mono (Below.size hHeld))) (fun hHeld => ?_)
    clear hK K
    refine tkP 8 rfl rfl ?_
    refine tkP 9 rfl rfl ?_
    refine wpAnyH_done (by kernel_rfl) ?_ _
    have HST := Lib.hid (show Below w1.heap.size w1 y7 from hHeld)
    clear hHeld
    go_wp2_with fail
    go_ret
    exact ⟨rfl, bthen HB1.out HST.out⟩
end Go.Proofs.YtcmdpmialehjgaaGreatDoor
