/- What Sole comes to. -/
import Derived.Test.YtdaafeaeinomoaaDoorLockOut
import Derived.Test.YtdaafeaeinomoaaDoorTakeAt
namespace Go.Proofs.YtdaafeaeinomoaaDoor
open Go.RowKit

/-- An out is spent by a key alone. -/
def soleW (key : Int) : List PWay → Bool
  | [x] => decide (x.ks = [key]) && (decide (x.h = zero32) && (decide (x.after = 0) && decide (x.wait = 0)))
  | _ => false
theorem sole_alike (b : Option Addr) (key : Int) (xs : List PWay) : alikeWs xs [⟨b, 1, 1, [key], zero32, 0, 0⟩] = soleW key xs := by
  match xs with
  | [] => rfl
  | [x] => simp [alikeWs, soleW, alikeW]
  | x :: y :: l => simp [alikeWs, soleW]
set_option linter.unusedSimpArgs false in
set_option maxRecDepth 100000 in
set_option maxHeartbeats 3200000 in
theorem lockSole_any {w : World} {key m : Int} {a : Option Addr} {n c : Nat} {xs : List PWay} (h : Ways w a n c xs) (hk : Fits key) :
    Calls Tryd.prog 29 #[.agg #[.int .i64 m, .slice a n c], .int .i64 key] w fun e w' => e = .returned (.bool (soleW key xs)) ∧ Below w.heap.size w w' := by
  obtain ⟨r, hr⟩ : ∃ r, soleW key xs = r := ⟨_, rfl⟩
  rw [hr]
  have HR := Lib.hid hr
  have HT := Lib.hid (fun W : World => to_any key m W hk)
  have H := Lib.hid h
  clear h hr
  go_enter Tryd.func29, Tryd.ntmps29
  go_upto_region 1 with (fail)
  have b1 : Below w.heap.size w (w.alloc (.cells #[.int .i64 m, .slice a n c] 38)) := (Below.refl _ _).alloc (Nat.le_refl _) _
  have h1 := heap_alloc_new w (.cells #[.int .i64 m, .slice a n c] 38)
  have H1 := Lib.hid (H.out.below b1)
  revert b1 h1 H1
  generalize (w.alloc (.cells #[.int .i64 m, .slice a n c] 38)) = w1
  obtain ⟨g, hg⟩ : ∃ g, g = w.heap.size := ⟨_, rfl⟩
  rw [← hg]
  intro b1 h1 H1
  rw [hg] at b1
  have HB1 := Lib.hid b1
  have hlt := lt_of_block h1
  have c0 : Hid (w1.cell? ⟨g, 0, none⟩ = some (.int .i64 m)) := Lib.hid (by rw [cell_of_row _ _ _ _ _ _ h1]; rfl)
  have HRG : Hid (w1.rangeAt g 0 [.int .i64 m, .slice a n c]) := Lib.hid (range_of (cs := [.int .i64 m, .slice a n c]) h1)
  clear b1 h1 hg
  refine wp_region_held_drew (S := fun w' => Below w1.heap.size w1 w') (by kernel_rfl) (below_drew (Below.refl _ _)) (fun hHeld => ?_)
  refine take_at (i := 1) (v := ?_) rfl rfl (by kernel_rfl) (by kernel_rfl) (by kernel_rfl) (fun _ _ _ h => h) (Or.inl ⟨by rfl, ?_⟩) (by assumption) ?_
  rotate_left
  · intro w0 hSw; (try dsimp only at hSw); first | (go_simp; done) | (go_simp; with_reducible rfl)
  simp only [List.setIfInBounds_toArray, List.set_cons_zero, List.set_cons_succ]
  refine take_at (i := 2) (v := ?_) rfl rfl (by kernel_rfl) (by kernel_rfl) (by kernel_rfl) (fun _ _ _ h => h) (Or.inl ⟨by rfl, ?_⟩) (by assumption) ?_
  rotate_left
  · intro w0 hSw; (try dsimp only at hSw); first | (go_simp; done) | (go_simp; with_reducible rfl)
  simp only [List.setIfInBounds_toArray, List.set_cons_zero, List.set_cons_succ]
  refine take_at (i := 3) rfl rfl (by kernel_rfl) (by kernel_rfl) (by kernel_rfl) (fun _ _ _ h => h) (yields_cell (by rfl) rfl rfl (fun w0 hSw => (Below.cell hSw (p := ⟨g, 0, none⟩) hlt).trans c0.out) Tryd.isAgg2) (by assumption) ?_
  simp only [List.setIfInBounds_toArray, List.set_cons_zero, List.set_cons_succ]
  refine take_at (i := 0) rfl rfl (by kernel_rfl) (by kernel_rfl) (by kernel_rfl) (fun _ _ _ h => h) (yieldsIf_load_mid (by rfl) _ _ rfl g 0 rfl [.int .i64 m, .slice a n c] _ (fun w0 hSw => rangeAt_below HRG.out hlt hSw) Tryd.underlying38 rfl (by kernel_rfl)) (by assumption) ?_
  simp only [List.setIfInBounds_toArray, List.set_cons_zero, List.set_cons_succ]
  refine wpAnyH_ready (rs := [4]) (by kernel_rfl) (by simp) ?_
  refine AllReadyH.cons rfl (fun K hK => ?_) ?_
  · go_simp
    go_wp2_with ((go_at_call 28; (with_reducible refine (HT.out _).mono ?_); rintro e x4 ⟨a7, b7, rfl, hw7, hb4⟩; have HW7 := Lib.hid hw7; have HC4 := Lib.hid hb4; clear hb4 hw7))
    refine hK.out _ _ (by (try dsimp only); exact Below.trans hHeld (HC4.out.mono (Below.size hHeld))) (fun hHeld => ?_)
    clear hK K
    refine wpAnyH_ready (rs := [5]) (by kernel_rfl) (by simp) ?_
    refine AllReadyH.cons rfl (fun K hK => ?_) ?_
    · have hS5 : Below w1.heap.size w1 x4 := hHeld
      have HSX := Lib.hid hS5
      have HS5 : Hid (Calls Tryd.prog 17 #[.agg #[.int .i64 m, .slice a n c], .agg #[.int .i64 m, .slice a7 1 1]] x4 fun e w' => e = .returned (.bool r) ∧ Below x4.heap.size x4 w') := Lib.hid (by have h5 := lockSame_any (m := m) (m' := m) (H1.out.below HSX.out) HW7.out; rw [decide_eq_true rfl, Bool.true_and, sole_alike, HR.out] at h5; exact h5)
      clear hS5
      go_simp
      go_wp2_with ((go_at_call 17; (with_reducible refine (HS5.out).mono ?_); rintro e x5 ⟨rfl, hb5⟩; have HC5 := Lib.hid hb5; clear hb5))
      refine hK.out _ _ (by (try dsimp only); exact Below.trans hHeld (HC5.out.mono (Below.size hHeld))) (fun hHeld => ?_)
      clear hK K
      refine take_at (i := 6) (v := ?_) rfl rfl (by kernel_rfl) (by kernel_rfl) (by kernel_rfl) (fun _ _ _ h => h) (Or.inl ⟨by rfl, ?_⟩) (by assumption) ?_
      rotate_left
      · intro w0 hSw; (try dsimp only at hSw); first | (go_simp; done) | (go_simp; with_reducible rfl)
      simp only [List.setIfInBounds_toArray, List.set_cons_zero, List.set_cons_succ]
      refine wpAnyH_done (by kernel_rfl) ?_ _
      have hS6 : Below w1.heap.size w1 x5 := hHeld
      have HS6 := Lib.hid hS6
      clear hS6 hHeld
      go_wp2_with fail
      go_ret
      exact ⟨rfl, HB1.out.trans (HS6.out.mono HB1.out.size)⟩
    exact AllReadyH.nil
  exact AllReadyH.nil
end Go.Proofs.YtdaafeaeinomoaaDoor
