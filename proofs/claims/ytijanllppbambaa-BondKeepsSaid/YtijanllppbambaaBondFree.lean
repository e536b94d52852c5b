/- bond.Free. -/
import Derived.Test.YtijanllppbambaaBondSums
namespace Go.Proofs.Ytijanllppbambaa
open Go.RowKit Go.Maps

/-- What Held, Free and Total tell, in all later worlds. -/
def HeldIs (w : World) (pv : Value) (n z : Int) : Prop := ∀ W : World, Below w.heap.size w W → Calls Try.prog 21 #[pv, .int .i64 n] W fun e w' => e = .returned (.int .i64 z) ∧ Below W.heap.size W w'
def FreeIs (w : World) (pv : Value) (n z : Int) : Prop := ∀ W : World, Below w.heap.size w W → Calls Try.prog 20 #[pv, .int .i64 n] W fun e w' => e = .returned (.int .i64 z) ∧ Below W.heap.size W w'
def TotalIs (w : World) (pv : Value) (z : Int) : Prop := ∀ W : World, Below w.heap.size w W → Calls Try.prog 10 #[pv] W fun e w' => e = .returned (.int .i64 z) ∧ Below W.heap.size W w'
theorem HeldIs.below {w w' : World} {pv : Value} {n z : Int} (h : HeldIs w pv n z) (hb : Below w.heap.size w w') : HeldIs w' pv n z := fun W hW => h W (bthen hb hW)
theorem FreeIs.below {w w' : World} {pv : Value} {n z : Int} (h : FreeIs w pv n z) (hb : Below w.heap.size w w') : FreeIs w' pv n z := fun W hW => h W (bthen hb hW)
theorem TotalIs.below {w w' : World} {pv : Value} {z : Int} (h : TotalIs w pv z) (hb : Below w.heap.size w w') : TotalIs w' pv z := fun W hW => h W (bthen hb hW)
theorem heldIs {B : Nat} {w : World} {pv : Value} {tb hb N : Nat} {ts : List PTE} {hs : List PHE} (h : BoardAt B w pv tb hb N ts hs) (n : Int) : HeldIs w pv n (heldH n hs) := fun _ hW => held_any (h.below hW) n
theorem totalIs {B : Nat} {w : World} {pv : Value} {tb hb N : Nat} {ts : List PTE} {hs : List PHE} (h : BoardAt B w pv tb hb N ts hs) : TotalIs w pv (totT ts) := fun _ hW => total_any (h.below hW)
set_option linter.unusedSimpArgs false in
set_option maxRecDepth 100000 in
set_option maxHeartbeats 12800000 in
theorem free_of {w : World} {pv : Value} {n H : Int} {v : PTow} {ok : Bool} (hg : GetIs w pv n v ok) (hh : HeldIs w pv n H) (hr : v.root.length = 32) (h0 : 0 ≤ v.locked) (h1 : v.locked ≤ 1125899906842624) (h2 : 0 ≤ v.asked) (h3 : v.asked ≤ v.locked) (h4 : 0 ≤ H) (h5 : H ≤ 1125899906842624) : FreeIs w pv n (v.locked - v.asked - H) := fun W0 hW0 => by
  have HG := Lib.hid (hg.below hW0)
  have HH0 := Lib.hid (hh.below hW0)
  obtain ⟨a, ha⟩ : ∃ a, a = v.locked := ⟨_, rfl⟩
  obtain ⟨b, hb⟩ : ∃ b, b = v.asked := ⟨_, rfl⟩
  rw [← ha, ← hb]
  rw [← ha] at h0 h1 h3
  rw [← hb] at h2 h3
  have HA := Lib.hid ha
  have HB := Lib.hid hb
  have iw1 : IntKind.i64.wrap (a - b) = a - b := IntWalk.i64_in _ (by omega)
  have iw2 : IntKind.i64.wrap (a - b - H) = a - b - H := IntWalk.i64_in _ (by omega)
  clear hg hh ha hb hW0
  go_enter Try.func20, Try.ntmps20
  go_upto_region 2 with (first | (go_at_call 28; refine (HG.out _ (Below.refl _ _)).mono ?_; rintro e w2 ⟨rfl, hb2⟩; have HB2 := Lib.hid hb2; clear hb2) | (refine wpList_var rfl rfl 67 rfl _ _ rfl noTow.cells.toArray Try.zeroTow rfl v.cells (fun _ => rfl) (fun _ => rfl) (PTow.len hr) v.one ?_; intro g5 w5 n5 h5 k5; have H5 := Lib.hid h5; have K5 := Lib.hid (bthen HB2.out k5); clear h5 k5 n5; go_frame) | fail)
  have HV := Lib.hid (fun (W : World) (hW : Below w5.heap.size w5 W) => tow_at hr (range_of (keep hW H5.out)))
  have C1 : Hid (∀ W : World, Below w5.heap.size w5 W → W.cell? ⟨g5, 32, none⟩ = some (.int .i64 a)) := Lib.hid (fun W hW => by have h9 := (HV.out W hW).locked; rw [Nat.zero_add, ← HA.out] at h9; exact h9)
  have C2 : Hid (∀ W : World, Below w5.heap.size w5 W → W.cell? ⟨g5, 33, none⟩ = some (.int .i64 b)) := Lib.hid (fun W hW => by have h9 := (HV.out W hW).asked; rw [Nat.zero_add, ← HB.out] at h9; exact h9)
  have HH := Lib.hid (HH0.out.below K5.out)
  refine wp_region_held_drew (S := fun w' => Below w5.heap.size w5 w') (by kernel_rfl) (below_drew (Below.refl _ _)) (fun hHeld => ?_)
  refine take_at (i := 0) (v := ?_) rfl rfl (by kernel_rfl) (by kernel_rfl) (by kernel_rfl) (fun _ _ _ h => h) (Or.inl ⟨by rfl, ?_⟩) (by assumption) ?_
  rotate_left
  · intro w0 hSw; (try dsimp only at hSw); first | (go_simp; done) | (go_simp; with_reducible rfl)
  simp only [List.setIfInBounds_toArray, List.set_cons_zero, List.set_cons_succ]
  refine take_at (i := 1) rfl rfl (by kernel_rfl) (by kernel_rfl) (by kernel_rfl) (fun _ _ _ h => h) (yields_cell (b := g5) (o := 32) (by rfl) rfl rfl (fun w0 hSw => C1.out w0 hSw) (fun w0 => Try.isAgg2 w0)) (by assumption) ?_
  simp only [List.setIfInBounds_toArray, List.set_cons_zero, List.set_cons_succ]
  refine take_at (i := 2) (v := ?_) rfl rfl (by kernel_rfl) (by kernel_rfl) (by kernel_rfl) (fun _ _ _ h => h) (Or.inl ⟨by rfl, ?_⟩) (by assumption) ?_
  rotate_left
  · intro w0 hSw; (try dsimp only at hSw); first | (go_simp; done) | (go_simp; with_reducible rfl)
  simp only [List.setIfInBounds_toArray, List.set_cons_zero, List.set_cons_succ]
  refine take_at (i := 3) rfl rfl (by kernel_rfl) (by kernel_rfl) (by kernel_rfl) (fun _ _ _ h => h) (yields_cell (b := g5) (o := 33) (by rfl) rfl rfl (fun w0 hSw => C2.out w0 hSw) (fun w0 => Try.isAgg2 w0)) (by assumption) ?_
  simp only [List.setIfInBounds_toArray, List.set_cons_zero, List.set_cons_succ]
  refine take_at (i := 4) (v := ?_) rfl rfl (by kernel_rfl) (by kernel_rfl) (by kernel_rfl) (fun _ _ _ h => h) (Or.inl ⟨by rfl, ?_⟩) (by assumption) ?_
  rotate_left
  · intro w0 hSw; (try dsimp only at hSw); first | (go_simp; done) | (go_simp; with_reducible rfl)
  simp only [List.setIfInBounds_toArray, List.set_cons_zero, List.set_cons_succ]
  refine take_at (i := 5) (v := ?_) rfl rfl (by kernel_rfl) (by kernel_rfl) (by kernel_rfl) (fun _ _ _ h => h) (Or.inl ⟨by rfl, ?_⟩) (by assumption) ?_
  rotate_left
  · intro w0 hSw; (try dsimp only at hSw); first | (go_simp; done) | (go_simp; with_reducible rfl)
  simp only [List.setIfInBounds_toArray, List.set_cons_zero, List.set_cons_succ]
  refine take_at (i := 6) (v := ?_) rfl rfl (by kernel_rfl) (by kernel_rfl) (by kernel_rfl) (fun _ _ _ h => h) (Or.inl ⟨by rfl, ?_⟩) (by assumption) ?_
  rotate_left
  · intro w0 hSw; (try dsimp only at hSw); first | (go_simp; done) | (go_simp; with_reducible rfl)
  simp only [List.setIfInBounds_toArray, List.set_cons_zero, List.set_cons_succ]
  refine wpAnyH_ready (rs := [7]) (by kernel_rfl) (by simp) ?_
  refine AllReadyH.cons rfl (fun K hK => ?_) ?_
  · go_simp
    refine (HH.out _ hHeld).mono ?_
    rintro e w7 ⟨rfl, hb7⟩
    dsimp only
    have HB7 := Lib.hid (bthen hHeld hb7)
    clear hb7
    refine hK.out _ _ (by (try dsimp only); exact HB7.out) (fun hHeld => ?_)
    clear hK K
    refine take_at (i := 8) (v := ?_) rfl rfl (by kernel_rfl) (by kernel_rfl) (by kernel_rfl) (fun _ _ _ h => h) (Or.inl ⟨by rfl, ?_⟩) (by assumption) ?_
    rotate_left
    · intro w0 hSw; (try dsimp only at hSw); first | (go_simp; done) | (go_simp; with_reducible rfl)
    simp only [List.setIfInBounds_toArray, List.set_cons_zero, List.set_cons_succ]
    refine take_at (i := 9) (v := ?_) rfl rfl (by kernel_rfl) (by kernel_rfl) (by kernel_rfl) (fun _ _ _ h => h) (Or.inl ⟨by rfl, ?_⟩) (by assumption) ?_
    rotate_left
    · intro w0 hSw; (try dsimp only at hSw); first | (go_simp; done) | (go_simp; with_reducible rfl)
    simp only [List.setIfInBounds_toArray, List.set_cons_zero, List.set_cons_succ]
    refine wpAnyH_done (by kernel_rfl) ?_ _
    go_wp2_with fail
    go_ret
    exact ⟨rfl, bthen K5.out HB7.out⟩
  exact AllReadyH.nil
section
variable {B : Nat} {w : World} {pv : Value} {tb hb N : Nat} {ts : List PTE} {hs : List PHE}
theorem freeIs (h : BoardAt B w pv tb hb N ts hs) {n : Int} (hf : Fits n) : FreeIs w pv n (freeB n ts hs) := by
  have hi := h.inv
  have h5 := hi.heldMax n
  have h6 := hi.held0 n
  unfold freeB
  cases hl : lookT n ts with
  | none => exact free_of (v := noTow) (h.get_no hf hl) (heldIs h n) rfl (by decide) (by decide) (by decide) (by decide) h6 h5
  | some x =>
    obtain ⟨h1, h2⟩ := lookT_num hl
    have h3 := hi.tl x h1
    have h4 := hi.ta x h1
    rw [h2] at h3
    exact free_of (h.get_yes hl) (heldIs h n) (hi.tr x h1) (hi.locked0 h1) (hi.lockedMax h1) h4.1 (by omega) h6 h5
theorem free_none (h : BoardNone w pv) (n : Int) : FreeIs w pv n 0 :=
  free_of (v := noTow) (tow_none h n) (fun W hW => held_none (h.below hW) n) rfl (by decide) (by decide) (by decide) (by decide) (by decide) (by decide)
end
end Go.Proofs.Ytijanllppbambaa
