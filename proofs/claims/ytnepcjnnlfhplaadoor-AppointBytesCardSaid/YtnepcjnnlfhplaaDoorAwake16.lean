/- The statement's own example (law 16). -/
import Derived.Test.YtnepcjnnlfhplaaDoorAppMake
import Derived.Test.YtnepcjnnlfhplaaDoorAppFits
import Derived.Test.YtnepcjnnlfhplaaDoorAppSize
import Derived.Test.YtnepcjnnlfhplaaDoorLitsOf
namespace Go.Proofs.YtnepcjnnlfhplaaDoor
open Go.RowKit

def oneTx16 (a : Option Addr) : PTx := ⟨a, 1, 1, [noIn], none, 0, 0, [], noOp, none, 0, 0, []⟩
theorem oneTx16_ok (a : Option Addr) : txOk (oneTx16 a) = true := rfl
theorem build_sum0 (w : World) : (Instr.build 23 ([] : List (Nat × Value)).toArray).run Tryd.prog w = .ok (.agg (cellsOf zero32).toArray) w := by kernel_rfl
theorem build_in0 (w : World) : (Instr.build 70 ([] : List (Nat × Value)).toArray).run Tryd.prog w = .ok (.agg noIn.cells.toArray) w := by kernel_rfl
theorem build_one16 (g : Nat) (w : World) : (Instr.build 31 ([(0, (.slice (some ⟨g, 0, none⟩) 1 1 : Value))] : List (Nat × Value)).toArray).run Tryd.prog w = .ok (.agg (oneTx16 (some ⟨g, 0, none⟩)).cells.toArray) w := by kernel_rfl
theorem noIn_ok (w : World) : inK.ok w noIn := ⟨zero32_len, ⟨by decide, by decide⟩, ⟨by decide, by decide⟩, Row.nil _⟩
theorem oneTx16_in {w : World} {g : Nat} {fr : Nat × Nat} (h : w.heap[g]? = some (.cells ([noIn].flatMap inK.cells).toArray 70 fr)) : TxIn w (oneTx16 (some ⟨g, 0, none⟩)) :=
  ⟨slice_lits (K := inK) h rfl (by show 1 ≤ 1000; omega) (fun x hx => by rw [List.mem_singleton.1 hx]; exact noIn_ok w), SliceOf.nil _ _, (noTx_in w).op, SliceOf.nil _ _⟩
theorem small16 {w : World} {a : Option Addr} (h : TxIn w (oneTx16 a)) : (txB (oneTx16 a)).length ≤ 65536 := by
  have h9 := txB_small h (oneTx16_ok a) (Nat.zero_le _)
  omega
theorem awake_recs (x : PJob) : recEq (recOf x 3) (recOf x (recOf x 3).tower) = true := recEq_same _
set_option linter.unusedSimpArgs false in
set_option maxRecDepth 100000 in
set_option maxHeartbeats 6400000 in
theorem awake16 {w : World} (hk : KsAt w) : Calls Tryd.prog 8 #[] w fun e w' => e = .returned (.bool true) ∧ Below w.heap.size w w' := by
  have HW0 := Lib.hid (Below.refl w.heap.size w)
  have HMA := Lib.hid (fun (W : World) (g : Nat) => make_arg (w := W) (s := zero32) (x := oneTx16 (some ⟨g, 0, none⟩)) (ch := 1) (st := -1) (by decide))
  have HMO := Lib.hid (fun (W : World) (g : Nat) (hW : Below w.heap.size w W) (ht : TxIn W (oneTx16 (some ⟨g, 0, none⟩))) => make_ok (w := W) (s := zero32) (x := oneTx16 (some ⟨g, 0, none⟩)) (ch := 1) (st := 1) zero32_len ht (hk.below hW) (by decide) (oneTx16_ok _) (small16 ht))
  have HK := Lib.hid hk
  clear hk
  go_enter Tryd.func8, Tryd.ntmps8
  go_upto_region 2 with (first | (refine wpList_build10 rfl rfl (vs := []) rfl build_sum0 ?_; go_frame) | (refine wpList_build10 rfl rfl (vs := []) rfl build_in0 ?_; go_frame) | (refine wpList_lits Tryd.inAt14 rfl rfl [noIn] rfl (by omega) (by omega) (fun x hx => by rw [List.mem_singleton.1 hx]; rfl) rfl ?_; intro g w1 hq hh hb; go_frame; have HI1 := Lib.hid (oneTx16_in hh); have HB1 := Lib.hid (bthen HW0.out hb); clear hq hh hb) | (refine wpList_build10 rfl rfl (vs := [(0, .slice (some ⟨g, 0, none⟩) 1 1)]) rfl (build_one16 g) ?_; go_frame) | (go_at_call 19; (with_reducible refine (HMA.out _ _).mono ?_); rintro e w2 ⟨rfl, hb⟩; have HB2 := Lib.hid (bthen HB1.out hb); clear hb) | (refine wpList_var rfl rfl 51 rfl _ _ rfl noJob.cells.toArray Tryd.infoJob rfl noJob.cells (fun _ => rfl) (fun _ => rfl) rfl (PJob.one _) ?_; intro p1 w3 hq hh hb; go_frame; have HB3 := Lib.hid (bthen HB2.out hb); clear hq hh hb) | fail)
  go_upto_region 3 with (first | (refine wpList_build10 rfl rfl (vs := []) rfl build_sum0 ?_; go_frame) | (refine wpList_build10 rfl rfl (vs := []) rfl build_in0 ?_; go_frame) | (refine wpList_lits Tryd.inAt14 rfl rfl [noIn] rfl (by omega) (by omega) (fun x hx => by rw [List.mem_singleton.1 hx]; rfl) rfl ?_; intro g w4 hq hh hb; go_frame; have HI4 := Lib.hid (oneTx16_in hh); have HB4 := Lib.hid (bthen HB3.out hb); clear hq hh hb) | (refine wpList_build10 rfl rfl (vs := [(0, .slice (some ⟨g, 0, none⟩) 1 1)]) rfl (build_one16 g) ?_; go_frame) | (go_at_call 19; (with_reducible refine (HMO.out _ _ HB4.out HI4.out).mono ?_); rintro e w5 ⟨a, c, rfl, hx, hb⟩; have HB5 := Lib.hid (bthen HB4.out hb); have HX5 := Lib.hid hx; obtain ⟨X, hX⟩ : ∃ X, X = madeJob 1 1 zero32 (oneTx16 (some ⟨g, 0, none⟩)) a c := ⟨_, rfl⟩; rw [← hX] at HX5 ⊢; have HXE := Lib.hid hX; have XL := Lib.hid (PJob.len HX5.out.hint); clear hx hb hX) | (refine wpList_var rfl rfl 51 rfl _ _ rfl noJob.cells.toArray Tryd.infoJob rfl X.cells (fun _ => rfl) (fun _ => rfl) XL.out (PJob.one _) ?_; intro p2 w6 hq hh hb; go_frame; have HB6 := Lib.hid (bthen HB5.out hb); have HX6 := Lib.hid (HX5.out.below hb); have HP6 := Lib.hid hh; clear hq hh hb) | fail)
  have HXS : Hid (X.state = 1) := Lib.hid (by rw [HXE.out]; rfl)
  have HX1 : Hid ((some (Value.int .i64 X.state) : Option Value) = some (.int .i64 1)) := Lib.hid (by rw [HXS.out])
  have HXN : Hid (X.n ≤ 1000000) := Lib.hid (by rw [HXE.out]; have h9 := small16 HI4.out; show 16 + (txB (oneTx16 (some ⟨g, 0, none⟩))).length ≤ _; omega)
  obtain ⟨R, hR⟩ : ∃ R, recOf X 3 = R := ⟨_, rfl⟩
  have hRI : RecIn R := by rw [← hR]; exact recOf_in HX6.out (by constructor <;> decide)
  have hRQ : recEq R (recOf X R.tower) = true := by rw [← hR]; exact recEq_same _
  have HRC : Hid (∀ W : World, Below w6.heap.size w6 W → Calls Tryd.prog 20 #[.agg X.cells.toArray, .int .i64 3] W fun e w' => e = .returned (.agg R.cells.toArray) ∧ Below W.heap.size W w') := Lib.hid fun W hW => by
    rw [← hR]
    exact receipt_any (HX6.out.below hW) ((HK.out.below HB6.out).below hW) HXN.out
  have HFT : Hid (∀ W : World, Below w6.heap.size w6 W → Calls Tryd.prog 21 #[.agg X.cells.toArray, .agg R.cells.toArray] W fun e w' => e = .returned (.bool true) ∧ Below W.heap.size W w') := Lib.hid fun W hW => by
    rw [← hRQ]
    exact fits_any (HX6.out.below hW) hRI ((HK.out.below HB6.out).below hW) HXN.out
  have SZX := Lib.hid (job_size HX6.out.hint)
  clear HMA HMO HXE hR hRI hRQ HK HX5
  refine wp_region_held_drew (S := fun w' => Below w6.heap.size w6 w') (by kernel_rfl) (below_drew (Below.refl _ _)) (fun hHeld => ?_)
  refine take_at (i := 0) (v := ?_) rfl rfl (by kernel_rfl) (by kernel_rfl) (by kernel_rfl) (fun _ _ _ h => h) (Or.inl ⟨by rfl, ?_⟩) (by assumption) ?_
  rotate_left
  · intro w0 hSw; (try dsimp only at hSw); first | (go_simp; done) | (go_simp; with_reducible rfl)
  simp only [List.setIfInBounds_toArray, List.set_cons_zero, List.set_cons_succ]
  refine take_at (i := 1) (v := ?_) rfl rfl (by kernel_rfl) (by kernel_rfl) (by kernel_rfl) (fun _ _ _ h => h) (Or.inl ⟨by rfl, ?_⟩) (by assumption) ?_
  rotate_left
  · intro w0 hSw; (try dsimp only at hSw); first | (go_simp; done) | (go_simp; with_reducible rfl)
  simp only [List.setIfInBounds_toArray, List.set_cons_zero, List.set_cons_succ]
  refine take_at (i := 2) (v := ?_) rfl rfl (by kernel_rfl) (by kernel_rfl) (by kernel_rfl) (fun _ _ _ h => h) (Or.inl ⟨by rfl, ?_⟩) (by assumption) ?_
  rotate_left
  · intro w0 hSw; (try dsimp only at hSw); first | (go_simp; done) | (go_simp; with_reducible rfl)
  simp only [List.setIfInBounds_toArray, List.set_cons_zero, List.set_cons_succ]
  refine take_at (i := 3) (v := ?_) rfl rfl (by kernel_rfl) (by kernel_rfl) (by kernel_rfl) (fun _ _ _ h => h) (Or.inl ⟨by rfl, ?_⟩) (by assumption) ?_
  rotate_left
  · intro w0 hSw; (try dsimp only at hSw); first | (go_simp; done) | (go_simp; with_reducible rfl)
  simp only [List.setIfInBounds_toArray, List.set_cons_zero, List.set_cons_succ]
  refine take_at (i := 4) (v := ?_) rfl rfl (by kernel_rfl) (by kernel_rfl) (by kernel_rfl) (fun _ _ _ h => h) (Or.inl ⟨by rfl, ?_⟩) (by assumption) ?_
  rotate_left
  · intro w0 hSw; (try dsimp only at hSw); first | (go_simp; done) | (go_simp; with_reducible rfl)
  simp only [List.setIfInBounds_toArray, List.set_cons_zero, List.set_cons_succ]
  refine take_at (i := 5) (v := ?_) rfl rfl (by kernel_rfl) (by kernel_rfl) (by kernel_rfl) (fun _ _ _ h => h) (Or.inl ⟨by rfl, ?_⟩) (by assumption) ?_
  rotate_left
  · intro w0 hSw; (try dsimp only at hSw); first | (go_simp; done) | (go_simp; with_reducible rfl)
  simp only [List.setIfInBounds_toArray, List.set_cons_zero, List.set_cons_succ]
  refine take_at (i := 6) (v := ?_) rfl rfl (by kernel_rfl) (by kernel_rfl) (by kernel_rfl) (fun _ _ _ h => h) (Or.inl ⟨by rfl, ?_⟩) (by assumption) ?_
  rotate_left
  · intro w0 hSw; (try dsimp only at hSw); first | (go_simp; done) | (go_simp; with_reducible rfl)
  simp only [List.setIfInBounds_toArray, List.set_cons_zero, List.set_cons_succ]
  refine take_at (i := 7) (v := ?_) rfl rfl (by kernel_rfl) (by kernel_rfl) (by kernel_rfl) (fun _ _ _ h => h) (Or.inl ⟨by rfl, ?_⟩) (by assumption) ?_
  rotate_left
  · intro w0 hSw; (try dsimp only at hSw); first | (go_simp; done) | (go_simp; with_reducible rfl)
  simp only [List.setIfInBounds_toArray, List.set_cons_zero, List.set_cons_succ]
  refine take_at (i := 8) rfl rfl (by kernel_rfl) (by kernel_rfl) (by kernel_rfl) (fun _ _ _ h => h) (yields_cell (by rfl) rfl rfl (b := p2) (o := 1) (fun w0 hSw => (job_state (g := p2) (o := 0) (range_of (keep hSw HP6.out))).trans (HX1.out)) Tryd.isAgg3) (by assumption) ?_
  simp only [List.setIfInBounds_toArray, List.set_cons_zero, List.set_cons_succ]
  refine take_at (i := 9) (v := ?_) rfl rfl (by kernel_rfl) (by kernel_rfl) (by kernel_rfl) (fun _ _ _ h => h) (Or.inl ⟨by rfl, ?_⟩) (by assumption) ?_
  rotate_left
  · intro w0 hSw; (try dsimp only at hSw); first | (go_simp; done) | (go_simp; with_reducible rfl)
  simp only [List.setIfInBounds_toArray, List.set_cons_zero, List.set_cons_succ]
  refine take_at (i := 10) (v := ?_) rfl rfl (by kernel_rfl) (by kernel_rfl) (by kernel_rfl) (fun _ _ _ h => h) (Or.inl ⟨by rfl, ?_⟩) (by assumption) ?_
  rotate_left
  · intro w0 hSw; (try dsimp only at hSw); first | (go_simp; done) | (go_simp; with_reducible rfl)
  simp only [List.setIfInBounds_toArray, List.set_cons_zero, List.set_cons_succ]
  refine take_at (i := 11) (v := ?_) rfl rfl (by kernel_rfl) (by kernel_rfl) (by kernel_rfl) (fun _ _ _ h => h) (Or.inl ⟨by rfl, ?_⟩) (by assumption) ?_
  rotate_left
  · intro w0 hSw; (try dsimp only at hSw); first | (go_simp; done) | (go_simp; with_reducible rfl)
  simp only [List.setIfInBounds_toArray, List.set_cons_zero, List.set_cons_succ]
  refine take_at (i := 12) rfl rfl (by kernel_rfl) (by kernel_rfl) (by kernel_rfl) (fun _ _ _ h => h) (yieldsIf_load_mid (by rfl) _ _ rfl p2 0 rfl X.cells _ (fun w0 hSw => range_of (keep hSw HP6.out)) Tryd.underlying51 rfl SZX.out) (by assumption) ?_
  simp only [List.setIfInBounds_toArray, List.set_cons_zero, List.set_cons_succ]
  refine take_at (i := 13) rfl rfl (by kernel_rfl) (by kernel_rfl) (by kernel_rfl) (fun _ _ _ h => h) (yieldsIf_load_mid (by rfl) _ _ rfl p2 0 rfl X.cells _ (fun w0 hSw => range_of (keep hSw HP6.out)) Tryd.underlying51 rfl SZX.out) (by assumption) ?_
  simp only [List.setIfInBounds_toArray, List.set_cons_zero, List.set_cons_succ]
  refine wpAnyH_ready (rs := [14]) (by kernel_rfl) (by simp) ?_
  refine AllReadyH.cons rfl (fun K hK => ?_) ?_
  · go_simp
    go_wp2_with ((go_at_call 20; (with_reducible refine (HRC.out _ hHeld).mono ?_); rintro e w7 ⟨rfl, hb⟩; have HS7 := Lib.hid hb; clear hb))
    refine hK.out _ _ (by (try dsimp only); exact hHeld.trans (HS7.out.mono hHeld.size)) (fun hHeld => ?_)
    clear hK K
    refine wpAnyH_ready (rs := [15]) (by kernel_rfl) (by simp) ?_
    refine AllReadyH.cons rfl (fun K hK => ?_) ?_
    · go_simp
      go_wp2_with ((go_at_call 21; (with_reducible refine (HFT.out _ hHeld).mono ?_); rintro e w8 ⟨rfl, hb⟩; have HS8 := Lib.hid hb; clear hb))
      refine hK.out _ _ (by (try dsimp only); exact hHeld.trans (HS8.out.mono hHeld.size)) (fun hHeld => ?_)
      clear hK K
      refine take_at (i := 16) (v := ?_) rfl rfl (by kernel_rfl) (by kernel_rfl) (by kernel_rfl) (fun _ _ _ h => h) (Or.inl ⟨by rfl, ?_⟩) (by assumption) ?_
      rotate_left
      · intro w0 hSw; (try dsimp only at hSw); first | (go_simp; done) | (go_simp; with_reducible rfl)
      simp only [List.setIfInBounds_toArray, List.set_cons_zero, List.set_cons_succ]
      refine take_at (i := 17) (v := ?_) rfl rfl (by kernel_rfl) (by kernel_rfl) (by kernel_rfl) (fun _ _ _ h => h) (Or.inl ⟨by rfl, ?_⟩) (by assumption) ?_
      rotate_left
      · intro w0 hSw; (try dsimp only at hSw); first | (go_simp; done) | (go_simp; with_reducible rfl)
      simp only [List.setIfInBounds_toArray, List.set_cons_zero, List.set_cons_succ]
      refine wpAnyH_done (by kernel_rfl) ?_ _
      have HEND : Hid (Below w.heap.size w w8) := Lib.hid (bthen HB6.out hHeld)
      clear hHeld
      go_wp2_with fail
      go_ret
      exact ⟨rfl, HEND.out⟩
    exact AllReadyH.nil
  exact AllReadyH.nil
end Go.Proofs.YtnepcjnnlfhplaaDoor
