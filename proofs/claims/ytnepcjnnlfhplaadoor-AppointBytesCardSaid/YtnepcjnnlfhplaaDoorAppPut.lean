/- What package appoint's Put comes to: a job's bytes. -/
import Derived.Test.YtnepcjnnlfhplaaDoorJobMem
import Derived.Test.YtnepcjnnlfhplaaDoorWire
import Derived.Test.YtnepcjnnlfhplaaDoorLock
namespace Go.Proofs.YtnepcjnnlfhplaaDoor
open Go.RowKit

/-- A slice of bytes is told, in new blocks. -/
def TextOut16 (w : World) (l : List UInt8) (e : Ending) (w' : World) : Prop := ∃ a n c, e = .returned (.slice a n c) ∧ Row w' a n c l ∧ (∀ y, a = some y → w.heap.size ≤ y.block) ∧ Below w.heap.size w w'
theorem row_under16 {w : World} {a : Option Addr} {n c : Nat} {l : List UInt8} (h : Row w a n c l) : 0 < n → ∀ x, a = some x → x.block < w.heap.size := fun h0 x e => by
  obtain ⟨b, off, e2, hlt, _⟩ := h.2.2.2.2 h0
  rw [e] at e2
  cases e2
  exact hlt
theorem sumLenP16 {s : List UInt8} (h : s.length = 32) : (Tryd.prog.info? 23).map (·.size) = some (cellsOf s).length := by rw [cellsOf_len, h]; exact Tryd.size23
set_option linter.unusedSimpArgs false in
set_option maxRecDepth 100000 in
set_option maxHeartbeats 6400000 in
theorem putjob_any {w : World} {x : PJob} (h : JobIn w x) (hn : x.n ≤ 1000000) : Calls Tryd.prog 27 #[.agg x.cells.toArray] w (TextOut16 w (jobB x)) := by
  have hs2 := Lib.hid (two_small h.channel h.state)
  obtain ⟨NB, hNB⟩ : ∃ NB, NB = numsB [x.channel, x.state] := ⟨_, rfl⟩
  have e2 : numsB [x.channel, x.state] = numB x.channel ++ numB x.state := by simp [numsB]
  have hNBl : NB.length ≤ 18 := by
    have n1 := (numB_len x.channel).2
    have n2 := (numB_len x.state).2
    rw [hNB, e2]
    simp only [List.length_append]
    omega
  have hbl : x.blob.length ≤ 1000000 := by rw [h.blob.1]; exact hn
  have TE : Hid (jobB x = ((([] ++ NB) ++ x.hint) ++ (numB (x.blob.length : Nat) ++ x.blob))) := Lib.hid (by rw [hNB, e2]; simp [jobB])
  have HLN : Hid (([] ++ NB).length ≤ 1000000) := Lib.hid (by simp; omega)
  have HLM : Hid ((([] ++ NB) ++ x.hint).length ≤ 1000000) := Lib.hid (by simp [h.hint]; omega)
  have HLL : Hid (((([] ++ NB) ++ x.hint) ++ (numB (x.blob.length : Nat) ++ x.blob)).length ≤ 140737488355328) := Lib.hid (by have n1 := (numB_len ((x.blob.length : Nat) : Int)).2; simp only [List.length_append, List.length_nil, h.hint]; omega)
  have HNB := Lib.hid hNB
  have SXH := Lib.hid (sumLenP16 h.hint)
  have HX := Lib.hid h
  have HXN := Lib.hid hn
  clear h hn hNB hNBl hbl e2
  go_enter Tryd.func27, Tryd.ntmps27
  go_upto_region 2 with (fail)
  have b1 : Below w.heap.size w ((w.alloc (.cells x.cells.toArray 51)).alloc (.cells #[.pointer none, .int .i64 0] 59)) := ((Below.refl _ _).alloc (Nat.le_refl _) _).alloc (by simp) _
  have h1 : ((w.alloc (.cells x.cells.toArray 51)).alloc (.cells #[.pointer none, .int .i64 0] 59)).heap[w.heap.size]? = some (.cells x.cells.toArray 51 (0, 0)) := by
    rw [heap_alloc_old _ _ (by simp), heap_alloc_new]
  have h2 : ((w.alloc (.cells x.cells.toArray 51)).alloc (.cells #[.pointer none, .int .i64 0] 59)).heap[w.heap.size + 1]? = some (.cells #[.pointer none, .int .i64 0] 59 (0, 0)) := heap_alloc_at _ _ _ (by simp)
  revert b1 h1 h2
  generalize ((w.alloc (.cells x.cells.toArray 51)).alloc (.cells #[.pointer none, .int .i64 0] 59)) = w1
  obtain ⟨g, hg⟩ : ∃ g, g = w.heap.size := ⟨_, rfl⟩
  obtain ⟨pb, hpb⟩ : ∃ pb, pb = g + 1 := ⟨_, rfl⟩
  rw [← hg, ← hpb]
  intro b1 h1 h2
  rw [hg] at b1
  have HB1 := Lib.hid b1
  have HG1 := Lib.hid h1
  have HGL := Lib.hid (lt_of_block h1)
  have HGN : Hid (g ≠ pb) := Lib.hid (by omega)
  have HPG : Hid (w.heap.size ≤ pb) := Lib.hid (by omega)
  have HQN : Hid (0 < x.n → ∀ y, x.a = some y → y.block ≠ pb) := Lib.hid fun h0 y e => by
    have h9 := row_under16 HX.out.blob h0 y e
    omega
  have HQ1 := Lib.hid (HX.out.blob.below b1)
  obtain ⟨B, hB⟩ : ∃ B, B = w1.heap.size := ⟨_, rfl⟩
  have HQU : Hid (0 < x.n → ∀ y, x.a = some y → y.block < B) := Lib.hid fun h0 y e => by
    rw [hB]
    exact row_under16 HQ1.out h0 y e
  have HBE := Lib.hid hB
  have HGB : Hid (g < B) := Lib.hid (by rw [hB]; exact HGL.out)
  have HP0 : Hid (PenAt w1.drew B pb []) := Lib.hid (.inl ⟨h2, rfl⟩)
  clear hB b1 h1 h2 hg hpb
  refine wp_region_held_drew (S := fun w' => But B pb w1 w') (by kernel_rfl) (by have h9 := But.refl B pb w1; exact ⟨h9.os, h9.tape, h9.output, h9.size, h9.block⟩) (fun hHeld => ?_)
  refine take_at (i := 0) (v := ?_) rfl rfl (by kernel_rfl) (by kernel_rfl) (by kernel_rfl) (fun _ _ _ h => h) (Or.inl ⟨by rfl, ?_⟩) (by assumption) ?_
  rotate_left
  · intro w0 hSw; (try dsimp only at hSw); first | (go_simp; done) | (go_simp; with_reducible rfl)
  simp only [List.setIfInBounds_toArray, List.set_cons_zero, List.set_cons_succ]
  refine take_at (i := 1) rfl rfl (by kernel_rfl) (by kernel_rfl) (by kernel_rfl) (fun _ _ _ h => h) (yields_cell (by rfl) rfl rfl (b := g) (o := 0) (fun w0 hSw => job_channel (range_of (But.heap hSw HG1.out HGB.out HGN.out))) Tryd.isAgg3) (by assumption) ?_
  simp only [List.setIfInBounds_toArray, List.set_cons_zero, List.set_cons_succ]
  refine take_at (i := 2) (v := ?_) rfl rfl (by kernel_rfl) (by kernel_rfl) (by kernel_rfl) (fun _ _ _ h => h) (Or.inl ⟨by rfl, ?_⟩) (by assumption) ?_
  rotate_left
  · intro w0 hSw; (try dsimp only at hSw); first | (go_simp; done) | (go_simp; with_reducible rfl)
  simp only [List.setIfInBounds_toArray, List.set_cons_zero, List.set_cons_succ]
  refine take_at (i := 3) rfl rfl (by kernel_rfl) (by kernel_rfl) (by kernel_rfl) (fun _ _ _ h => h) (yields_cell (by rfl) rfl rfl (b := g) (o := 1) (fun w0 hSw => job_state (g := g) (o := 0) (range_of (But.heap hSw HG1.out HGB.out HGN.out))) Tryd.isAgg3) (by assumption) ?_
  simp only [List.setIfInBounds_toArray, List.set_cons_zero, List.set_cons_succ]
  refine take_at (i := 6) (v := ?_) rfl rfl (by kernel_rfl) (by kernel_rfl) (by kernel_rfl) (fun _ _ _ h => h) (Or.inl ⟨by rfl, ?_⟩) (by assumption) ?_
  rotate_left
  · intro w0 hSw; (try dsimp only at hSw); first | (go_simp; done) | (go_simp; with_reducible rfl)
  simp only [List.setIfInBounds_toArray, List.set_cons_zero, List.set_cons_succ]
  refine take_at (i := 7) rfl rfl (by kernel_rfl) (by kernel_rfl) (by kernel_rfl) (fun _ _ _ h => h) (yieldsIf_load_mid (by rfl) _ _ rfl g 2 rfl (cellsOf x.hint) _ (fun w0 hSw => job_hint (g := g) (o := 0) (range_of (But.heap hSw HG1.out HGB.out HGN.out))) Tryd.underlying23 rfl SXH.out) (by assumption) ?_
  simp only [List.setIfInBounds_toArray, List.set_cons_zero, List.set_cons_succ]
  refine take_at (i := 9) (v := ?_) rfl rfl (by kernel_rfl) (by kernel_rfl) (by kernel_rfl) (fun _ _ _ h => h) (Or.inl ⟨by rfl, ?_⟩) (by assumption) ?_
  rotate_left
  · intro w0 hSw; (try dsimp only at hSw); first | (go_simp; done) | (go_simp; with_reducible rfl)
  simp only [List.setIfInBounds_toArray, List.set_cons_zero, List.set_cons_succ]
  refine take_at (i := 10) rfl rfl (by kernel_rfl) (by kernel_rfl) (by kernel_rfl) (fun _ _ _ h => h) (yields_cell (by rfl) rfl rfl (b := g) (o := 34) (fun w0 hSw => job_blob (g := g) (o := 0) HX.out.hint (range_of (But.heap hSw HG1.out HGB.out HGN.out))) Tryd.isAgg26) (by assumption) ?_
  simp only [List.setIfInBounds_toArray, List.set_cons_zero, List.set_cons_succ]
  refine wpAnyH_ready (rs := [4]) (by kernel_rfl) (by simp) ?_
  refine AllReadyH.cons rfl (fun K hK => ?_) ?_
  · refine step_two_gen (d := 8) (y := x.channel) (z := x.state) rfl (by rfl) rfl (by rfl) (by rfl) ?_
    intro p v0 hgp hlit hbl
    have LIT := Lib.hid hlit
    have HZv0 : Hid (B ≤ w1.drew.heap.size) := Lib.hid (by rw [HBE.out]; exact Nat.le_refl _)
    have HPv0 := Lib.hid (PenAt.below HP0.out HZv0.out hbl)
    have HSv0 := Lib.hid (But.of (p := pb) (hbl.mono HZv0.out))
    clear hlit hbl hgp
    refine hK.out _ _ (by (try dsimp only); exact But.trans hHeld HSv0.out) (fun hHeld => ?_)
    clear hK K
    refine wpAnyH_ready (rs := [5]) (by kernel_rfl) (by simp) ?_
    refine AllReadyH.cons rfl (fun K hK => ?_) ?_
    · have HZv1 : Hid (B ≤ (v0).heap.size) := Lib.hid (by have h9 := But.size hHeld; rw [← HBE.out] at h9; exact h9)
      go_simp
      go_wp2_with ((go_at_call 49; (with_reducible refine (((pnums_typed (n := 2) (c := 2) (off := 0) _ rfl (Nat.le_refl _) (by unfold maxLen; omega) hs2.out (lit2 LIT.out) HPv0.out HZv1.out (by omega) (by simp)))).mono ?_); rintro e v1 ⟨rfl, hp, hb, _⟩; have HPv1 := Lib.hid hp; have HSv1 := Lib.hid hb; clear hp hb))
      refine hK.out _ _ (by (try dsimp only); exact But.trans hHeld HSv1.out) (fun hHeld => ?_)
      clear hK K
      refine wpAnyH_ready (rs := [8]) (by kernel_rfl) (by simp) ?_
      refine AllReadyH.cons rfl (fun K hK => ?_) ?_
      · have HZv2 : Hid (B ≤ (v1).heap.size) := Lib.hid (by have h9 := But.size hHeld; rw [← HBE.out] at h9; exact h9)
        go_simp
        go_wp2_with ((go_at_call 23; (with_reducible refine (psum_at _ HX.out.hint (show PenAt v1 B pb ([] ++ NB) by rw [HNB.out]; exact HPv1.out) HZv2.out HLN.out).mono ?_); rintro e v2 ⟨rfl, hp, hb⟩; have HPv2 := Lib.hid hp; have HSv2 := Lib.hid hb; clear hp hb))
        refine hK.out _ _ (by (try dsimp only); exact But.trans hHeld HSv2.out) (fun hHeld => ?_)
        clear hK K
        refine wpAnyH_ready (rs := [11]) (by kernel_rfl) (by simp) ?_
        refine AllReadyH.cons rfl (fun K hK => ?_) ?_
        · have HZv3 : Hid (B ≤ (v2).heap.size) := Lib.hid (by have h9 := But.size hHeld; rw [← HBE.out] at h9; exact h9)
          have HQv2 : Hid (Row (v2) x.a x.n x.c x.blob) := Lib.hid (HQ1.out.but (show But w1.heap.size pb w1 v2 from by rw [← HBE.out]; exact hHeld) (fun h0 b off e => HQN.out h0 _ e))
          go_simp
          go_wp2_with ((go_at_call 24; (with_reducible refine (ptext_at _ HQv2.out HPv2.out HZv3.out HQU.out HXN.out HLM.out).mono ?_); rintro e v3 ⟨rfl, hp, hb⟩; have HPv3 := Lib.hid hp; have HSv3 := Lib.hid hb; clear hp hb))
          refine hK.out _ _ (by (try dsimp only); exact But.trans hHeld HSv3.out) (fun hHeld => ?_)
          clear hK K
          refine wpAnyH_ready (rs := [12]) (by kernel_rfl) (by simp) ?_
          refine AllReadyH.cons rfl (fun K hK => ?_) ?_
          · have HZbb : Hid (B ≤ (v3).heap.size) := Lib.hid (by have h9 := But.size hHeld; rw [← HBE.out] at h9; exact h9)
            go_simp
            go_wp2_with ((go_at_call 25; (with_reducible refine (bytes_any HPv3.out HLL.out).mono ?_); rintro e v9 ⟨a9, n9, c9, rfl, hr9, hf9, hb9⟩; have HR := Lib.hid hr9; have HFR := Lib.hid hf9; have HB9 := Lib.hid hb9; clear hr9 hf9 hb9))
            refine hK.out _ _ (by (try dsimp only); exact But.trans hHeld (But.of (HB9.out.mono HZbb.out))) (fun hHeld => ?_)
            clear hK K
            refine take_at (i := 13) (v := ?_) rfl rfl (by kernel_rfl) (by kernel_rfl) (by kernel_rfl) (fun _ _ _ h => h) (Or.inl ⟨by rfl, ?_⟩) (by assumption) ?_
            rotate_left
            · intro w0 hSw; (try dsimp only at hSw); first | (go_simp; done) | (go_simp; with_reducible rfl)
            simp only [List.setIfInBounds_toArray, List.set_cons_zero, List.set_cons_succ]
            refine wpAnyH_done (by kernel_rfl) ?_ _
            have HEND : Hid (Below w.heap.size w v9) := Lib.hid (HB1.out.trans (But.below (But.mono hHeld (by rw [HBE.out]; exact HB1.out.size)) HPG.out))
            clear hHeld
            go_wp2_with fail
            go_ret
            refine ⟨_, _, _, rfl, ?_, fun y hy => Nat.le_trans (Nat.le_trans HB1.out.size (by rw [← HBE.out]; exact HZbb.out)) (HFR.out y hy), HEND.out⟩
            rw [TE.out]
            exact HR.out
          exact AllReadyH.nil
        exact AllReadyH.nil
      exact AllReadyH.nil
    exact AllReadyH.nil
  exact AllReadyH.nil
end Go.Proofs.YtnepcjnnlfhplaaDoor
