/- What Hash and shows come to. -/
import Derived.Test.YtnjnomebcggccaaGreatDoorLock
import Derived.Test.YtnjnomebcggccaaGreatDoorHashAny
namespace Go.Proofs.YtnjnomebcggccaaGreatDoor
open Go.RowKit

set_option linter.unusedSimpArgs false in
set_option maxRecDepth 100000 in
set_option maxHeartbeats 3200000 in
theorem shows_any {w : World} {h : List UInt8} {a : Option Addr} {n c : Nat} {l : List UInt8} (hl : h.length = 32) (hr : Row w a n c l) (hk : KsAt w) (hn : n ≤ 1000000) :
    Calls Tryz.prog 72 #[.agg (cellsOf h).toArray, .slice a n c] w fun e w' => e = .returned (.bool (decide (h = zero32) || decide (h = shownSum l))) ∧ Below w.heap.size w w' := by
  obtain ⟨s, hs, hsl, hh⟩ : ∃ s, shownSum l = s ∧ s.length = 32 ∧ ∀ W : World, Below w.heap.size w W → Calls Tryz.prog 8 #[.slice a n c] W fun e w' => e = .returned (.agg (cellsOf s).toArray) ∧ Below W.heap.size W w' := ⟨_, rfl, shownSum_len l, fun W hW => hash_any (hr.below hW) (hk.below hW) hn⟩
  rw [hs]
  obtain ⟨r1, hr1⟩ : ∃ r, decide (h = zero32) = r := ⟨_, rfl⟩
  obtain ⟨r2, hr2⟩ : ∃ r, decide (h = s) = r := ⟨_, rfl⟩
  rw [hr1, hr2]
  have HZ := Lib.hid hr1
  have HE := Lib.hid hr2
  have HL := Lib.hid hl
  have HSL := Lib.hid hsl
  have SZ : Hid ((Tryz.prog.info? 23).map (·.size) = some (cellsOf h).length) := Lib.hid (by rw [cellsOf_len, hl]; exact Tryz.size23)
  have b1 : Below w.heap.size w (w.alloc (.cells (cellsOf h).toArray 23)) := (Below.refl _ _).alloc (Nat.le_refl _) _
  have h1 := heap_alloc_new w (.cells (cellsOf h).toArray 23)
  have HH0 := Lib.hid hh
  clear hs hsl hh hr hk hr1 hr2
  go_enter Tryz.func72, Tryz.ntmps72
  go_upto_region 1 with (fail)
  revert b1 h1
  generalize (w.alloc (.cells (cellsOf h).toArray 23)) = w1
  obtain ⟨g, hg⟩ : ∃ g, g = w.heap.size := ⟨_, rfl⟩
  rw [← hg]
  intro b1 h1
  rw [hg] at b1
  have HB1 := Lib.hid b1
  have hlt := lt_of_block h1
  have HRG := Lib.hid (range_of h1)
  have HH : Hid (∀ W : World, Below w1.heap.size w1 W → Calls Tryz.prog 8 #[.slice a n c] W fun e w' => e = .returned (.agg (cellsOf s).toArray) ∧ Below W.heap.size W w') := Lib.hid (fun W hW => HH0.out W (HB1.out.trans (hW.mono HB1.out.size)))
  clear b1 h1 hg hl
  cases r1
  · refine wp_region_held_drew (S := fun w' => Below w1.heap.size w1 w') (by kernel_rfl) (below_drew (Below.refl _ _)) (fun hHeld => ?_)
    refine take_at (i := 0) rfl rfl (by kernel_rfl) (by kernel_rfl) (by kernel_rfl) (fun _ _ _ h => h) (yieldsIf_load_mid (by rfl) _ _ rfl g 0 rfl (cellsOf h) _ (fun w0 hSw => rangeAt_below HRG.out hlt hSw) Tryz.underlying23 rfl SZ.out) (by assumption) ?_
    simp only [nrmA, nrmB, nrmC]
    refine take_at (i := 1) (v := ?_) rfl rfl (by kernel_rfl) (by kernel_rfl) (by kernel_rfl) (fun _ _ _ h => h) (Or.inl ⟨by rfl, ?_⟩) (by assumption) ?_
    rotate_left
    · intro w0 hSw; (try dsimp only at hSw); first | (go_simp; done) | (go_simp; with_reducible rfl)
    simp only [nrmA, nrmB, nrmC]
    rw [← zero32_is]
    refine take_at (i := 2) rfl rfl (by kernel_rfl) (by kernel_rfl) (by kernel_rfl) (fun _ _ _ h => h) (yields_eql (by rfl) rfl rfl rfl HL.out zero32_len false HZ.out) (by assumption) ?_
    simp only [nrmA, nrmB, nrmC]
    refine take_at (i := 3) (v := ?_) rfl rfl (by kernel_rfl) (by kernel_rfl) (by kernel_rfl) (fun _ _ _ h => h) (Or.inl ⟨by rfl, ?_⟩) (by assumption) ?_
    rotate_left
    · intro w0 hSw; (try dsimp only at hSw); first | (go_simp; done) | (go_simp; with_reducible rfl)
    simp only [nrmA, nrmB, nrmC]
    refine take_at (i := 4) rfl rfl (by kernel_rfl) (by kernel_rfl) (by kernel_rfl) (fun _ _ _ h => h) (yieldsIf_load_mid (by rfl) _ _ rfl g 0 rfl (cellsOf h) _ (fun w0 hSw => rangeAt_below HRG.out hlt hSw) Tryz.underlying23 rfl SZ.out) (by assumption) ?_
    simp only [nrmA, nrmB, nrmC]
    refine take_at (i := 5) (v := ?_) rfl rfl (by kernel_rfl) (by kernel_rfl) (by kernel_rfl) (fun _ _ _ h => h) (Or.inl ⟨by rfl, ?_⟩) (by assumption) ?_
    rotate_left
    · intro w0 hSw; (try dsimp only at hSw); first | (go_simp; done) | (go_simp; with_reducible rfl)
    simp only [nrmA, nrmB, nrmC]
    refine wpAnyH_ready (rs := [6]) (by kernel_rfl) (by simp) ?_
    refine AllReadyH.cons rfl (fun K hK => ?_) ?_
    · have hS5 : Below w1.heap.size w1 w1.drew := hHeld
      have HHX := Lib.hid (HH.out _ hS5)
      clear hS5
      go_simp
      go_wp2_with ((go_at_call 8; (with_reducible refine (HHX.out).mono ?_); rintro e x5 ⟨rfl, hb5⟩; have HC5 := Lib.hid hb5; clear hb5))
      refine hK.out _ _ (by (try dsimp only); exact Below.trans hHeld (HC5.out.mono (Below.size hHeld))) (fun hHeld => ?_)
      clear hK K
      refine take_at (i := 7) rfl rfl (by kernel_rfl) (by kernel_rfl) (by kernel_rfl) (fun _ _ _ h => h) (yields_eql (by rfl) rfl rfl rfl HL.out HSL.out r2 HE.out) (by assumption) ?_
      simp only [nrmA, nrmB, nrmC]
      refine take_at (i := 8) (v := ?_) rfl rfl (by kernel_rfl) (by kernel_rfl) (by kernel_rfl) (fun _ _ _ h => h) (Or.inl ⟨by rfl, ?_⟩) (by assumption) ?_
      rotate_left
      · intro w0 hSw; (try dsimp only at hSw); first | (go_simp; done) | (go_simp; with_reducible rfl)
      simp only [nrmA, nrmB, nrmC]
      refine take_at (i := 9) (v := ?_) rfl rfl (by kernel_rfl) (by kernel_rfl) (by kernel_rfl) (fun _ _ _ h => h) (Or.inl ⟨by rfl, ?_⟩) (by assumption) ?_
      rotate_left
      · intro w0 hSw; (try dsimp only at hSw); first | (go_simp; done) | (go_simp; with_reducible rfl)
      simp only [nrmA, nrmB, nrmC]
      refine wpAnyH_done (by kernel_rfl) ?_ _
      have HS6 := Lib.hid (show Below w1.heap.size w1 x5 from hHeld)
      clear hHeld
      go_wp2_with fail
      go_ret
      exact ⟨rfl, HB1.out.trans (HS6.out.mono HB1.out.size)⟩
    exact AllReadyH.nil
  · refine wp_region_held_drew (S := fun w' => Below w1.heap.size w1 w') (by kernel_rfl) (below_drew (Below.refl _ _)) (fun hHeld => ?_)
    refine take_at (i := 0) rfl rfl (by kernel_rfl) (by kernel_rfl) (by kernel_rfl) (fun _ _ _ h => h) (yieldsIf_load_mid (by rfl) _ _ rfl g 0 rfl (cellsOf h) _ (fun w0 hSw => rangeAt_below HRG.out hlt hSw) Tryz.underlying23 rfl SZ.out) (by assumption) ?_
    simp only [nrmA, nrmB, nrmC]
    refine take_at (i := 1) (v := ?_) rfl rfl (by kernel_rfl) (by kernel_rfl) (by kernel_rfl) (fun _ _ _ h => h) (Or.inl ⟨by rfl, ?_⟩) (by assumption) ?_
    rotate_left
    · intro w0 hSw; (try dsimp only at hSw); first | (go_simp; done) | (go_simp; with_reducible rfl)
    simp only [nrmA, nrmB, nrmC]
    rw [← zero32_is]
    refine take_at (i := 2) rfl rfl (by kernel_rfl) (by kernel_rfl) (by kernel_rfl) (fun _ _ _ h => h) (yields_eql (by rfl) rfl rfl rfl HL.out zero32_len true HZ.out) (by assumption) ?_
    simp only [nrmA, nrmB, nrmC]
    refine take_at (i := 3) (v := ?_) rfl rfl (by kernel_rfl) (by kernel_rfl) (by kernel_rfl) (fun _ _ _ h => h) (Or.inl ⟨by rfl, ?_⟩) (by assumption) ?_
    rotate_left
    · intro w0 hSw; (try dsimp only at hSw); first | (go_simp; done) | (go_simp; with_reducible rfl)
    simp only [nrmA, nrmB, nrmC]
    refine take_at (i := 4) (v := undef) rfl rfl (by kernel_rfl) (by kernel_rfl) (by kernel_rfl) (fun _ _ _ h => h) (Or.inr ⟨by rfl, rfl⟩) (by assumption) ?_
    simp only [nrmA, nrmB, nrmC]
    refine take_at (i := 5) (v := undef) rfl rfl (by kernel_rfl) (by kernel_rfl) (by kernel_rfl) (fun _ _ _ h => h) (Or.inr ⟨by rfl, rfl⟩) (by assumption) ?_
    simp only [nrmA, nrmB, nrmC]
    refine take_at (i := 6) (v := undef) rfl rfl (by kernel_rfl) (by kernel_rfl) (by kernel_rfl) (fun _ _ _ h => h) (Or.inr ⟨by rfl, rfl⟩) (by assumption) ?_
    simp only [nrmA, nrmB, nrmC]
    refine take_at (i := 7) (v := undef) rfl rfl (by kernel_rfl) (by kernel_rfl) (by kernel_rfl) (fun _ _ _ h => h) (Or.inr ⟨by rfl, rfl⟩) (by assumption) ?_
    simp only [nrmA, nrmB, nrmC]
    refine take_at (i := 8) (v := ?_) rfl rfl (by kernel_rfl) (by kernel_rfl) (by kernel_rfl) (fun _ _ _ h => h) (Or.inl ⟨by rfl, ?_⟩) (by assumption) ?_
    rotate_left
    · intro w0 hSw; (try dsimp only at hSw); first | (go_simp; done) | (go_simp; with_reducible rfl)
    simp only [nrmA, nrmB, nrmC]
    refine take_at (i := 9) (v := ?_) rfl rfl (by kernel_rfl) (by kernel_rfl) (by kernel_rfl) (fun _ _ _ h => h) (Or.inl ⟨by rfl, ?_⟩) (by assumption) ?_
    rotate_left
    · intro w0 hSw; (try dsimp only at hSw); first | (go_simp; done) | (go_simp; with_reducible rfl)
    simp only [nrmA, nrmB, nrmC]
    refine wpAnyH_done (by kernel_rfl) ?_ _
    have HS6 := Lib.hid (show Below w1.heap.size w1 w1.drew from hHeld)
    clear hHeld
    go_wp2_with fail
    go_ret
    exact ⟨rfl, HB1.out.trans (HS6.out.mono HB1.out.size)⟩
end Go.Proofs.YtnjnomebcggccaaGreatDoor
