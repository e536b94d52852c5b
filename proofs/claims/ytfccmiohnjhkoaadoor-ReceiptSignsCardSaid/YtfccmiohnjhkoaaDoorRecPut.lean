/- What Put comes to: the bytes of one that is signed. -/
import Derived.Test.YtfccmiohnjhkoaaDoorRecSig
import Derived.Test.YtfccmiohnjhkoaaDoorRecText
namespace Go.Proofs.YtfccmiohnjhkoaaDoor
open Go.RowKit

set_option linter.unusedSimpArgs false in
set_option maxRecDepth 100000 in
set_option maxHeartbeats 6400000 in
theorem recput_any {w : World} {x : PRec} {a : Option Addr} {n c : Nat} {q : List UInt8} (hx : RecIn x) (h : Row w a n c q) (hn6 : n ≤ 1000000) :
    Calls Tryd.prog 15 #[.agg (sigCells x a n c).toArray] w (TextOut w (signedB x q)) := by
  have hl := textB_len hx
  obtain ⟨TT, hTT⟩ : ∃ r, textB x = r := ⟨_, rfl⟩
  have HTL : Hid (TT.length ≤ 91) := Lib.hid (by rw [← hTT]; exact hl)
  have OUT : Hid (signedB x q = ([] ++ (numB (TT.length : Nat) ++ TT)) ++ (numB (q.length : Nat) ++ q)) := Lib.hid (by unfold signedB; rw [hTT]; simp [List.append_assoc])
  have TE := Lib.hid hTT
  have SLX := Lib.hid (rec_size hx)
  have HX := Lib.hid hx
  have HQ0 := Lib.hid h
  clear hl hTT hx h
  go_enter Tryd.func15, Tryd.ntmps15
  go_upto_region 2 with (fail)
  have b1 : Below w.heap.size w ((w.alloc (.cells (sigCells x a n c).toArray 38)).alloc (.cells #[.pointer none, .int .i64 0] 64)) := ((Below.refl _ _).alloc (Nat.le_refl _) _).alloc (by simp) _
  have h1 : ((w.alloc (.cells (sigCells x a n c).toArray 38)).alloc (.cells #[.pointer none, .int .i64 0] 64)).heap[w.heap.size]? = some (.cells (sigCells x a n c).toArray 38 (0, 0)) := by
    rw [heap_alloc_old _ _ (by simp), heap_alloc_new]
  have h2 : ((w.alloc (.cells (sigCells x a n c).toArray 38)).alloc (.cells #[.pointer none, .int .i64 0] 64)).heap[w.heap.size + 1]? = some (.cells #[.pointer none, .int .i64 0] 64 (0, 0)) := heap_alloc_at _ _ _ (by simp)
  revert b1 h1 h2
  generalize ((w.alloc (.cells (sigCells x a n c).toArray 38)).alloc (.cells #[.pointer none, .int .i64 0] 64)) = w1
  obtain ⟨g, hg⟩ : ∃ g, g = w.heap.size := ⟨_, rfl⟩
  obtain ⟨pb, hpb⟩ : ∃ pb, pb = g + 1 := ⟨_, rfl⟩
  rw [← hg, ← hpb]
  intro b1 h1 h2
  rw [hg] at b1
  have HB1 := Lib.hid b1
  have HG := Lib.hid h1
  have HGL := Lib.hid (lt_of_block h1)
  have HGN : Hid (g ≠ pb) := Lib.hid (by omega)
  have HPG : Hid (w.heap.size ≤ pb) := Lib.hid (by omega)
  have HQN : Hid (0 < n → ∀ y, a = some y → y.block ≠ pb) := Lib.hid fun h0 y e => by
    have h9 := row_under HQ0.out h0 y e
    omega
  have HQ := Lib.hid (HQ0.out.below b1)
  have HPB : Hid (w1.drew.heap[pb]? = some (.cells #[.pointer none, .int .i64 0] 64 (0, 0))) := Lib.hid h2
  clear b1 h1 h2 hg hpb HQ0
  refine wp_region_held_drew (S := fun w' => But (w1).heap.size pb w1 w') (by kernel_rfl) (by have h9 := But.refl (w1).heap.size pb w1; exact ⟨h9.os, h9.tape, h9.output, h9.size, h9.block⟩) (fun hHeld => ?_)
  refine take_at (i := 0) (v := ?_) rfl rfl (by kernel_rfl) (by kernel_rfl) (by kernel_rfl) (fun _ _ _ h => h) (Or.inl ⟨by rfl, ?_⟩) (by assumption) ?_
  rotate_left
  · intro w0 hSw; (try dsimp only at hSw); first | (go_simp; done) | (go_simp; with_reducible rfl)
  simp only [List.setIfInBounds_toArray, List.set_cons_zero, List.set_cons_succ]
  refine take_at (i := 1) rfl rfl (by kernel_rfl) (by kernel_rfl) (by kernel_rfl) (fun _ _ _ h => h) (yieldsIf_load_mid (by rfl) _ _ rfl g 0 rfl x.cells _ (fun w0 hSw => rec_whole (r := [.slice a n c]) (range_of (But.heap hSw HG.out HGL.out HGN.out))) Tryd.underlying26 rfl SLX.out) (by assumption) ?_
  simp only [List.setIfInBounds_toArray, List.set_cons_zero, List.set_cons_succ]
  refine take_at (i := 4) (v := ?_) rfl rfl (by kernel_rfl) (by kernel_rfl) (by kernel_rfl) (fun _ _ _ h => h) (Or.inl ⟨by rfl, ?_⟩) (by assumption) ?_
  rotate_left
  · intro w0 hSw; (try dsimp only at hSw); first | (go_simp; done) | (go_simp; with_reducible rfl)
  simp only [List.setIfInBounds_toArray, List.set_cons_zero, List.set_cons_succ]
  refine take_at (i := 5) rfl rfl (by kernel_rfl) (by kernel_rfl) (by kernel_rfl) (fun _ _ _ h => h) (yields_cell (by rfl) rfl rfl (b := g) (o := 67) (fun w0 hSw => rec_after HX.out (range_of (But.heap hSw HG.out HGL.out HGN.out))) Tryd.isAgg32) (by assumption) ?_
  simp only [List.setIfInBounds_toArray, List.set_cons_zero, List.set_cons_succ]
  refine wpAnyH_ready (rs := [2]) (by kernel_rfl) (by simp) ?_
  refine AllReadyH.cons rfl (fun K hK => ?_) ?_
  · go_simp
    go_wp2_with ((go_at_call 20; (with_reducible refine (text_any HX.out).mono ?_); rintro e v1 ⟨a1, n1, c1, rfl, hr1, _, hb1⟩; have HR1 := Lib.hid hr1; have HV1 := Lib.hid hb1; clear hr1 hb1))
    have HP1 : Hid (PenAt v1 v1.heap.size pb []) := Lib.hid (.inl ⟨keep HV1.out HPB.out, rfl⟩)
    have HQ1 := Lib.hid ((HQ.out.below (below_drew (Below.refl _ _))).below HV1.out)
    have HZ1 : Hid ((w1).heap.size ≤ v1.heap.size) := Lib.hid HV1.out.size
    rw [TE.out] at HR1
    have HN1 : Hid (n1 ≤ 1000000) := Lib.hid (by have h9 := HR1.out.1; have h8 := HTL.out; omega)
    refine hK.out _ _ (by (try dsimp only); exact But.trans hHeld (But.of HV1.out)) (fun hHeld => ?_)
    clear hK K
    refine wpAnyH_ready (rs := [3]) (by kernel_rfl) (by simp) ?_
    refine AllReadyH.cons rfl (fun K hK => ?_) ?_
    · go_simp
      go_wp2_with ((go_at_call 32; (with_reducible refine (ptext_at _ HR1.out HP1.out (Nat.le_refl _) (row_under HR1.out) HN1.out (Nat.zero_le _)).mono ?_); rintro e v2 ⟨rfl, hp2, hb2⟩; have HP2 := Lib.hid hp2; have HV2 := Lib.hid hb2; clear hp2 hb2))
      have HQ2 := Lib.hid (HQ1.out.but HV2.out (fun h0 b off e => HQN.out h0 _ e))
      have HZ2 : Hid (v1.heap.size ≤ v2.heap.size) := Lib.hid HV2.out.size
      refine hK.out _ _ (by (try dsimp only); exact But.trans hHeld (But.mono HV2.out HZ1.out)) (fun hHeld => ?_)
      clear hK K
      refine wpAnyH_ready (rs := [6]) (by kernel_rfl) (by simp) ?_
      refine AllReadyH.cons rfl (fun K hK => ?_) ?_
      · go_simp
        go_wp2_with ((go_at_call 32; (with_reducible refine (ptext_at _ HQ2.out HP2.out HZ2.out (fun h0 y e => row_under HQ1.out h0 y e) hn6 (by have h8 := HTL.out; have h9 := (numB_len ((TT.length : Nat) : Int)).2; simp only [List.length_append, List.length_nil]; omega)).mono ?_); rintro e v3 ⟨rfl, hp3, hb3⟩; have HP3 := Lib.hid hp3; have HV3 := Lib.hid hb3; clear hp3 hb3))
        refine hK.out _ _ (by (try dsimp only); exact But.trans hHeld (But.mono HV3.out HZ1.out)) (fun hHeld => ?_)
        clear hK K
        refine wpAnyH_ready (rs := [7]) (by kernel_rfl) (by simp) ?_
        refine AllReadyH.cons rfl (fun K hK => ?_) ?_
        · have HLL : Hid ((([] ++ (numB (TT.length : Nat) ++ TT)) ++ (numB (q.length : Nat) ++ q)).length ≤ 140737488355328) := Lib.hid (by have h8 := HTL.out; have h9 := (numB_len ((TT.length : Nat) : Int)).2; have h7 := (numB_len ((q.length : Nat) : Int)).2; have h6 := HQ.out.1; simp only [List.length_append, List.length_nil]; omega)
          have HZ3 : Hid ((w1).heap.size ≤ v3.heap.size) := Lib.hid (by have h9 := HV3.out.size; have h8 := HZ2.out; have h7 := HZ1.out; omega)
          go_simp
          go_wp2_with ((go_at_call 27; (with_reducible refine (bytes_any HP3.out HLL.out).mono ?_); rintro e v4 ⟨a4, n4, c4, rfl, hr4, hf4, hb4⟩; have HR4 := Lib.hid hr4; have HF4 := Lib.hid hf4; have HV4 := Lib.hid hb4; clear hr4 hf4 hb4))
          refine hK.out _ _ (by (try dsimp only); exact But.trans hHeld (But.of (HV4.out.mono HZ3.out))) (fun hHeld => ?_)
          clear hK K
          refine take_at (i := 8) (v := ?_) rfl rfl (by kernel_rfl) (by kernel_rfl) (by kernel_rfl) (fun _ _ _ h => h) (Or.inl ⟨by rfl, ?_⟩) (by assumption) ?_
          rotate_left
          · intro w0 hSw; (try dsimp only at hSw); first | (go_simp; done) | (go_simp; with_reducible rfl)
          simp only [List.setIfInBounds_toArray, List.set_cons_zero, List.set_cons_succ]
          refine wpAnyH_done (by kernel_rfl) ?_ _
          have HEND : Hid (Below w.heap.size w v4) := Lib.hid (HB1.out.trans (But.below (But.mono hHeld HB1.out.size) HPG.out))
          clear hHeld
          go_wp2_with fail
          go_ret
          refine ⟨_, _, _, rfl, ?_, fun y hy => Nat.le_trans (Nat.le_trans HB1.out.size HZ3.out) (HF4.out y hy), HEND.out⟩
          rw [OUT.out]
          exact HR4.out
        exact AllReadyH.nil
      exact AllReadyH.nil
    exact AllReadyH.nil
  exact AllReadyH.nil
end Go.Proofs.YtfccmiohnjhkoaaDoor
