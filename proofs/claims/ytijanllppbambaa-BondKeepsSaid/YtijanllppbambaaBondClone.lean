/- bond.Clone: a board of its own that is alike. -/
import Derived.Test.YtijanllppbambaaBondAt
import Derived.Test.YtijanllppbambaaShelf
namespace Go.Proofs.Ytijanllppbambaa
open Go.RowKit Go.Maps

theorem cloneT_any {w : World} {b N n : Nat} {F : NumD → Option Value} (h : MapK numK w b N n F) :
    Calls Try.prog 31 #[.map (some b)] w fun e w' => e = .returned (.map (some w.heap.size)) ∧ MapK numK w' w.heap.size N n F ∧ Below w.heap.size w w' := by
  obtain ⟨D, h1, h2, h3⟩ := h
  have h9 := AnyW.maps_Clone_owns Try.laysTowers 3 heldR b N D w h1
  refine Calls.mono (R := fun e w' => e = .returned (.map (some w.heap.size)) ∧ w'.ownsMap Try.prog 3 heldR w.heap.size N D ∧ w'.ownsMap Try.prog 3 heldR b N D ∧ Below w.heap.size w w') h9 ?_
  rintro e w' ⟨rfl, k1, _, k3⟩
  exact ⟨rfl, ⟨D, k1, h2, h3⟩, k3⟩
theorem cloneH_any {w : World} {b N n : Nat} {F : TwoD → Option Value} (h : MapK twoK w b N n F) :
    Calls Try.prog 32 #[.map (some b)] w fun e w' => e = .returned (.map (some w.heap.size)) ∧ MapK twoK w' w.heap.size N n F ∧ Below w.heap.size w w' := by
  obtain ⟨D, h1, h2, h3⟩ := h
  have h9 := AnyW.maps_Clone_owns Try.laysHolds 76 heldR b N D w h1
  refine Calls.mono (R := fun e w' => e = .returned (.map (some w.heap.size)) ∧ w'.ownsMap Try.prog 76 heldR w.heap.size N D ∧ w'.ownsMap Try.prog 76 heldR b N D ∧ Below w.heap.size w w') h9 ?_
  rintro e w' ⟨rfl, k1, _, k3⟩
  exact ⟨rfl, ⟨D, k1, h2, h3⟩, k3⟩
set_option linter.unusedSimpArgs false in
set_option maxRecDepth 100000 in
set_option maxHeartbeats 12800000 in
theorem clone_any {B : Nat} {w : World} {pv : Value} {tb hb N : Nat} {ts : List PTE} {hs : List PHE} (h : BoardAt B w pv tb hb N ts hs) :
    Calls Try.prog 11 #[pv] w fun e w' => ∃ (vb' tb' hb' : Nat), e = .returned (.pointer (some ⟨vb', 0, none⟩)) ∧ BoardAt w.heap.size w' (.pointer (some ⟨vb', 0, none⟩)) tb' hb' N ts hs ∧ Below w.heap.size w w' := by
  have HG := Lib.hid h.given
  have HA := Lib.hid h
  obtain ⟨vb, rfl, h2⟩ := h.has
  obtain ⟨k, hk, hm⟩ := h.mt
  obtain ⟨m, hm9, hn⟩ := h.mh
  have HK := Lib.hid (And.intro hk hm9)
  have HT := Lib.hid hm
  have HC1 : Hid (∀ W : World, Below w.heap.size w W → Calls Try.prog 31 #[.map (some tb)] W fun e w' => e = .returned (.map (some W.heap.size)) ∧ MapK numK w' W.heap.size k ts.length (towF ts) ∧ Below W.heap.size W w') := Lib.hid (fun W hW => cloneT_any (hm.below hW))
  have HC2 : Hid (∀ W : World, Below w.heap.size w W → Calls Try.prog 32 #[.map (some hb)] W fun e w' => e = .returned (.map (some W.heap.size)) ∧ MapK twoK w' W.heap.size m hs.length (holF hs) ∧ Below W.heap.size W w') := Lib.hid (fun W hW => cloneH_any (hn.below hW))
  have C0 : Hid (∀ W : World, Below w.heap.size w W → W.cell? ⟨vb, 0, none⟩ = some (.map (some tb))) := Lib.hid (fun W hW => cell_of_row W vb 0 _ _ _ (keep hW h2))
  have C1 : Hid (∀ W : World, Below w.heap.size w W → W.cell? ⟨vb, 1, none⟩ = some (.map (some hb))) := Lib.hid (fun W hW => cell_of_row W vb 1 _ _ _ (keep hW h2))
  clear h h2 hm hn hk hm9
  go_enter Try.func11, Try.ntmps11
  go_upto_region 3 with (first | (go_at_call 30; refine (HG.out _ (Below.refl _ _)).mono ?_; rintro e w5 ⟨rfl, rfl⟩) | fail)
  refine wp_region_held_drew (S := fun w' => Below w.heap.size w w') (by kernel_rfl) (below_drew (Below.refl _ _)) (fun hHeld => ?_)
  refine take_at (i := 0) (v := ?_) rfl rfl (by kernel_rfl) (by kernel_rfl) (by kernel_rfl) (fun _ _ _ h => h) (Or.inl ⟨by rfl, ?_⟩) (by assumption) ?_
  rotate_left
  · intro w0 hSw; (try dsimp only at hSw); first | (go_simp; done) | (go_simp; with_reducible rfl)
  simp only [List.setIfInBounds_toArray, List.set_cons_zero, List.set_cons_succ]
  refine take_at (i := 1) (v := ?_) rfl rfl (by kernel_rfl) (by kernel_rfl) (by kernel_rfl) (fun _ _ _ h => h) (Or.inl ⟨by rfl, ?_⟩) (by assumption) ?_
  rotate_left
  · intro w0 hSw; (try dsimp only at hSw); first | (go_simp; done) | (go_simp; with_reducible rfl)
  simp only [List.setIfInBounds_toArray, List.set_cons_zero, List.set_cons_succ]
  refine take_at (i := 2) (v := ?_) rfl rfl (by kernel_rfl) (by kernel_rfl) (by kernel_rfl) (fun _ _ _ h => h) (Or.inl ⟨by rfl, ?_⟩) (by assumption) ?_
  rotate_left
  · intro w0 hSw; (try dsimp only at hSw); first | (go_simp; done) | (go_simp; with_reducible rfl)
  simp only [List.setIfInBounds_toArray, List.set_cons_zero, List.set_cons_succ]
  refine take_at (i := 3) rfl rfl (by kernel_rfl) (by kernel_rfl) (by kernel_rfl) (fun _ _ _ h => h) (yields_cell (b := vb) (o := 0) (by rfl) rfl rfl (fun w0 hSw => C0.out w0 hSw) (fun w0 => Try.isAgg48 w0)) (by assumption) ?_
  simp only [List.setIfInBounds_toArray, List.set_cons_zero, List.set_cons_succ]
  refine take_at (i := 5) (v := ?_) rfl rfl (by kernel_rfl) (by kernel_rfl) (by kernel_rfl) (fun _ _ _ h => h) (Or.inl ⟨by rfl, ?_⟩) (by assumption) ?_
  rotate_left
  · intro w0 hSw; (try dsimp only at hSw); first | (go_simp; done) | (go_simp; with_reducible rfl)
  simp only [List.setIfInBounds_toArray, List.set_cons_zero, List.set_cons_succ]
  refine take_at (i := 6) (v := ?_) rfl rfl (by kernel_rfl) (by kernel_rfl) (by kernel_rfl) (fun _ _ _ h => h) (Or.inl ⟨by rfl, ?_⟩) (by assumption) ?_
  rotate_left
  · intro w0 hSw; (try dsimp only at hSw); first | (go_simp; done) | (go_simp; with_reducible rfl)
  simp only [List.setIfInBounds_toArray, List.set_cons_zero, List.set_cons_succ]
  refine take_at (i := 7) (v := ?_) rfl rfl (by kernel_rfl) (by kernel_rfl) (by kernel_rfl) (fun _ _ _ h => h) (Or.inl ⟨by rfl, ?_⟩) (by assumption) ?_
  rotate_left
  · intro w0 hSw; (try dsimp only at hSw); first | (go_simp; done) | (go_simp; with_reducible rfl)
  simp only [List.setIfInBounds_toArray, List.set_cons_zero, List.set_cons_succ]
  refine take_at (i := 8) rfl rfl (by kernel_rfl) (by kernel_rfl) (by kernel_rfl) (fun _ _ _ h => h) (yields_cell (b := vb) (o := 1) (by rfl) rfl rfl (fun w0 hSw => C1.out w0 hSw) (fun w0 => Try.isAgg49 w0)) (by assumption) ?_
  simp only [List.setIfInBounds_toArray, List.set_cons_zero, List.set_cons_succ]
  refine wpAnyH_ready (rs := [4]) (by kernel_rfl) (by simp) ?_
  refine AllReadyH.cons rfl (fun K hK => ?_) ?_
  · go_simp
    refine (HC1.out _ hHeld).mono ?_
    rintro e w6 ⟨rfl, hm6, hb6⟩
    dsimp only
    have HM6 := Lib.hid hm6
    have HB6 := Lib.hid (bthen hHeld hb6)
    have HBB := Lib.hid hb6
    clear hm6 hb6
    refine hK.out _ _ (by (try dsimp only); exact HB6.out) (fun hHeld => ?_)
    clear hK K
    refine wpAnyH_ready (rs := [9]) (by kernel_rfl) (by simp) ?_
    refine AllReadyH.cons rfl (fun K hK => ?_) ?_
    · go_simp
      refine (HC2.out _ hHeld).mono ?_
      rintro e w7 ⟨rfl, hm7, hb7⟩
      dsimp only
      have HM7 := Lib.hid hm7
      have HB7 := Lib.hid (bthen hHeld hb7)
      have HM67 := Lib.hid (HM6.out.below hb7)
      clear hm7 hb7
      refine hK.out _ _ (by (try dsimp only); exact HB7.out) (fun hHeld => ?_)
      clear hK K
      refine take_at (i := 10) rfl rfl (by kernel_rfl) (by kernel_rfl) (by kernel_rfl) (fun _ _ _ h => h) (yields_build10 (by rfl) rfl (vs := [(0, .map (some w.heap.size)), (1, .map (some w6.heap.size))]) (by rfl) (build_board _ _)) (by assumption) ?_
      simp only [List.setIfInBounds_toArray, List.set_cons_zero, List.set_cons_succ]
      refine wpAnyH_ready (rs := [11]) (by kernel_rfl) (by simp) ?_
      refine AllReadyH.cons rfl (fun K hK => ?_) ?_
      · refine step_box10 rfl (by rfl) 51 _ rfl #[.map (some w.heap.size), .map (some w6.heap.size)] (by rfl) ?_
        intro g8 w8 n8 h8 k8
        have H8 := Lib.hid h8
        have K8 := Lib.hid k8
        clear h8 k8 n8
        refine hK.out _ _ (by (try dsimp only); exact bthen HB7.out K8.out) (fun hHeld => ?_)
        clear hK K
        refine take_at (i := 12) (v := ?_) rfl rfl (by kernel_rfl) (by kernel_rfl) (by kernel_rfl) (fun _ _ _ h => h) (Or.inl ⟨by rfl, ?_⟩) (by assumption) ?_
        rotate_left
        · intro w0 hSw; (try dsimp only at hSw); first | (go_simp; done) | (go_simp; with_reducible rfl)
        simp only [List.setIfInBounds_toArray, List.set_cons_zero, List.set_cons_succ]
        refine wpAnyH_done (by kernel_rfl) ?_ _
        go_wp2_with fail
        go_ret
        refine ⟨g8, w.heap.size, w6.heap.size, rfl, ⟨⟨g8, rfl, H8.out⟩, Nat.le_refl _, HB6.out.size, ?_, HA.out.few, ⟨k, HK.out.1, HM67.out.below K8.out⟩, ⟨m, HK.out.2, HM7.out.below K8.out⟩, HA.out.inv⟩, bthen HB7.out K8.out⟩
        have h9 : w.heap.size < w6.heap.size := HM6.out.lt
        omega
      exact AllReadyH.nil
    exact AllReadyH.nil
  exact AllReadyH.nil
set_option linter.unusedSimpArgs false in
set_option maxRecDepth 100000 in
set_option maxHeartbeats 12800000 in
theorem clone_none {w : World} {pv : Value} (h : BoardNone w pv) : Calls Try.prog 11 #[pv] w fun e w' => e = .returned pv ∧ Below w.heap.size w w' := by
  have HG := Lib.hid (given_no h)
  clear h
  go_enter Try.func11, Try.ntmps11
  go_wp2_with (first | (go_at_call 30; refine (HG.out _ (Below.refl _ _)).mono ?_; rintro e w5 ⟨rfl, rfl⟩) | fail)
  go_ret
  exact ⟨rfl, Below.refl _ _⟩
end Go.Proofs.Ytijanllppbambaa
