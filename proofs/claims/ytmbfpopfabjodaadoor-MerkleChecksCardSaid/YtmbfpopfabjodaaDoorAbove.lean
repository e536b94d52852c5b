/- What 'above' comes to: the row above one. -/
import Derived.Test.YtmbfpopfabjodaaDoorYields
namespace Go.Proofs.YtmbfpopfabjodaaDoor
open Go.RowKit

/-- A row of the call's own, and all below as it was. -/
structure Holds (w0 : World) (g n : Nat) (X : List (List UInt8)) (w : World) : Prop where
  own : OwnS w w0.heap.size (.slice (some ⟨g, 0, none⟩) n n) X
  below : Below w0.heap.size w0 w
theorem Holds.more {w0 w w' : World} {g n : Nat} {X : List (List UInt8)} (h : Holds w0 g n X w) (hb : Below w.heap.size w w') : Holds w0 g n X w' := ⟨h.own.below hb, h.below.trans (hb.mono h.below.size)⟩
theorem Holds.lt {w0 w : World} {g n : Nat} {X : List (List UInt8)} (h : Holds w0 g n X w) : w0.heap.size ≤ g ∧ g < w.heap.size := h.own.lt g rfl
theorem Holds.step {w0 w : World} {g n j : Nat} {X : List (List UInt8)} {s : List UInt8} (h : Holds w0 g n X w) (hj : j < n) (hs : s.length = 32) : Holds w0 g n (X.set j s) (w.setCells g (j * 32) (cellsOf s)) := by
  obtain ⟨h1, h2⟩ := h.own.store hj hs
  exact ⟨h1, h.below.trans ((h2.mono h.below.size).below h.lt.1)⟩
def soFar (xs : List (List UInt8)) (n j : Nat) : List (List UInt8) := xs.take j ++ List.replicate (n - j) zero32
theorem soFar_step (xs : List (List UInt8)) (n j : Nat) (hn : xs.length = n) (hj : j < n) (s : List UInt8) (hs : xs.getD j [] = s) : (soFar xs n j).set j s = soFar xs n (j + 1) := by
  rw [← hs]; exact row_step xs zero32 [] n j hn hj
theorem up_at (l : List (List UInt8)) (j : Nat) (hj : 2 * j < l.length) : (up pairSum l).getD j [] = if 2 * j + 1 < l.length then joinOf (2 * j) (l.getD (2 * j) []) (l.getD (2 * j + 1) []) else l.getD (2 * j) [] := by
  have h := up_get pairSum l (2 * j) hj
  rw [show 2 * j / 2 = j by omega, show beside (2 * j) = 2 * j + 1 by unfold beside; omega, show 2 * j % 2 = 0 by omega] at h
  rw [show (default : List UInt8) = [] from rfl] at h
  rw [h]
  unfold joinOf
  simp
set_option linter.unusedSimpArgs false in
set_option maxRecDepth 100000 in
set_option maxHeartbeats 3200000 in
theorem above_any {w : World} {a : Option Addr} {n c : Nat} {ls : List (List UInt8)} (h : Sums w a n c ls) (hk : KsAt w) (hn : n ≤ 100000) :
    Calls Tryd.prog 19 #[.slice a n c] w fun e w' => e = .returned (.slice (some ⟨w.heap.size, 0, none⟩) ((n + 1) / 2) ((n + 1) / 2)) ∧ Sums w' (some ⟨w.heap.size, 0, none⟩) ((n + 1) / 2) ((n + 1) / 2) (up pairSum ls) ∧ Below w.heap.size w w' := by
  obtain ⟨ie, i1, i2, i3, i4⟩ := info32
  have hul : (up pairSum ls).length = (n + 1) / 2 := by rw [up_len, h.len]
  have hu2 : ∀ j, 2 * j < n → (up pairSum ls).getD j [] = if 2 * j + 1 < n then joinOf (2 * j) (ls.getD (2 * j) []) (ls.getD (2 * j + 1) []) else ls.getD (2 * j) [] := fun j hj => by
    have := up_at ls j (by rw [h.len]; exact hj)
    rw [h.len] at this
    exact this
  obtain ⟨m, hm⟩ : ∃ m, m = (n + 1) / 2 := ⟨_, rfl⟩
  obtain ⟨xs, hxs⟩ : ∃ xs, xs = up pairSum ls := ⟨_, rfl⟩
  have hp : ∀ W : World, Calls Tryd.prog 24 #[.int .i64 (n : Int)] W fun e w' => e = .returned (.int .i64 (m : Int)) ∧ W = w' := fun W => by rw [hm]; exact pairs_any n (by omega) W
  rw [← hm, ← hxs]
  rw [← hm, ← hxs] at hul
  rw [← hxs] at hu2
  have hm1 : m ≤ 100000 := by omega
  have hm2 : 2 * m ≤ n + 1 := by omega
  have H := Lib.hid h
  have HK := Lib.hid hk
  have HP := Lib.hid hp
  have HUL := Lib.hid hul
  have HU2 := Lib.hid hu2
  have I1 := Lib.hid i1
  have I2 := Lib.hid i2
  have I3 := Lib.hid i3
  have I4 := Lib.hid i4
  clear h hk hp hul hu2 hxs hm i1 i2 i3 i4
  go_enter Tryd.func19, Tryd.ntmps19
  go_wp2_with (first | (go_at_call 24; refine (HP.out _).mono ?_; rintro e w' ⟨rfl, rfl⟩) | (at_make; refine wpList_make_full _ rfl _ _ 22 rfl w.heap.size 24 ie _ 32 Tryd.underlying22 I1.out I2.out I3.out _ _ _ _ m rfl rfl rfl rfl (by rw [I4.out]; omega) (by unfold maxLen; omega) (Nat.le_refl _) ?_; intro w1 hown hgrow))
  have hf0 : Holds w w.heap.size m (soFar xs m 0) w1 := ⟨by unfold soFar; rw [List.take_zero, List.nil_append, Nat.sub_zero]; exact made_own hown, ⟨hgrow.os, hgrow.tape, hgrow.output, hgrow.size, fun k hk => hgrow.block k hk (by simp)⟩⟩
  have HF0 := Lib.hid hf0
  clear hown hgrow hf0
  obtain ⟨g, hg⟩ : ∃ g, g = w.heap.size := ⟨_, rfl⟩
  rw [← hg] at HF0 ⊢
  have HG := Lib.hid hg
  clear hg
  go_loopw [12] (fun i wr => ∃ j : Nat, j ≤ m ∧ i = .int .i64 j ∧ Holds w g m (soFar xs m j) wr) (fun i _ => m - (intOf i).toNat)
  case atStart => exact ⟨0, Nat.zero_le _, rfl, HF0.out⟩
  case round =>
    obtain ⟨j, hj, rfl, hat⟩ := hrel
    have HAT := Lib.hid hat
    clear hat HF0
    by_cases hjm : j < m
    · have h2j : 2 * j < n := by omega
      obtain ⟨b, off, rfl, hlt, hcells⟩ := H.out.2.2.2.2.2 (by omega)
      have hr := hcells (2 * j) h2j
      have hs := H.out.each h2j
      have hu := HU2.out j h2j
      obtain ⟨s, hes⟩ : ∃ s, s = ls.getD (2 * j) [] := ⟨_, rfl⟩
      rw [← hes] at hr hs hu
      have szs : (Tryd.prog.info? 24).map (·.size) = some (cellsOf s).length := by rw [cellsOf_len, hs]; exact Tryd.size24
      have th : wr.there g (j * 32) (cellsOf s).toArray.size := by rw [List.size_toArray, cellsOf_len, hs]; exact HAT.out.own.there hjm
      have hr1 := rangeAt_below hr hlt HAT.out.below
      have e2 : ((2 * j : Nat) : Int) = 2 * (j : Int) := by omega
      have hbs : ∀ W : World, Calls Tryd.prog 20 #[.int .i64 (2 * (j : Int))] W fun e w' => e = .returned (.int .i64 ((2 * j + 1 : Nat) : Int)) ∧ W = w' := fun W => by
        have := beside_any (2 * j) (by omega) W
        rw [show beside (2 * j) = 2 * j + 1 by unfold beside; omega, e2] at this
        exact this
      have HR := Lib.hid hr1
      have HR0 := Lib.hid hr
      have HS := Lib.hid hs
      have SZ := Lib.hid szs
      have TH := Lib.hid th
      have HBS := Lib.hid hbs
      have ew := IntWalk.i64_in (n := 2 * (j : Int)) (by omega)
      have e0 : (0 : Int) ≤ 2 * (j : Int) := by omega
      have e1 : 2 * (j : Int) < (n : Int) := by omega
      have et : (2 * (j : Int)).toNat = 2 * j := by omega
      by_cases hb : 2 * j + 1 < n
      · rw [if_pos hb] at hu
        have hr2 := hcells (2 * j + 1) hb
        have hs2 := H.out.each hb
        obtain ⟨t, het⟩ : ∃ t, t = ls.getD (2 * j + 1) [] := ⟨_, rfl⟩
        rw [← het] at hr2 hs2 hu
        have szt : (Tryd.prog.info? 24).map (·.size) = some (cellsOf t).length := by rw [cellsOf_len, hs2]; exact Tryd.size24
        obtain ⟨r, hr', hrl, hjo⟩ : ∃ r, joinOf (2 * j) s t = r ∧ r.length = 32 ∧ ∀ W : World, KsAt W → Calls Tryd.prog 25 #[.agg (cellsOf s).toArray, .agg (cellsOf t).toArray, .int .i64 (2 * (j : Int))] W fun e w' => e = .returned (.agg (cellsOf r).toArray) ∧ Below W.heap.size W w' := ⟨_, rfl, joinOf_len _ _ _, fun W hW => by rw [← e2]; exact joined_any (2 * j) (by omega) hs hs2 hW⟩
        rw [hr'] at hu
        have szr : (Tryd.prog.info? 24).map (·.size) = some (cellsOf r).toArray.size := by rw [List.size_toArray, cellsOf_len, hrl]; exact Tryd.size24
        have HR2 := Lib.hid hr2
        have HS2 := Lib.hid hs2
        have SZT := Lib.hid szt
        have SZR := Lib.hid szr
        have HL := Lib.hid hrl
        have HJO := Lib.hid hjo
        have HU := Lib.hid hu
        have f0 : (0 : Int) ≤ ((2 * j + 1 : Nat) : Int) := by omega
        have f1 : ((2 * j + 1 : Nat) : Int) < (n : Int) := by omega
        have ft : (((2 * j + 1 : Nat) : Int)).toNat = 2 * j + 1 := by omega
        obtain ⟨J, hJ⟩ : ∃ J, J = 2 * j + 1 := ⟨_, rfl⟩
        rw [← hJ] at HR2 HBS f0 f1 ft
        clear hcells hr hr1 hs hu szs hes th hbs hr2 hs2 het szt hr' hrl hjo szr e2 hb hJ h2j ft
        go_wp2_with (first | (refine wpList_load_mid rfl 24 _ rfl b (off + 2 * j * 32) rfl (cellsOf s) _ HR.out Tryd.underlying24 rfl SZ.out ?_) | (refine wpList_store_mid rfl 24 _ _ rfl g (j * 32) (cellsOf s).toArray rfl rfl TH.out SZ.out (all_oneCell_toArray (cellsOf_one s)) ?_) | (go_at_call 20; (with_reducible refine (HBS.out _).mono ?_); rintro e w' ⟨rfl, rfl⟩))
        have h4 := HAT.out.step hjm HS.out
        revert h4
        generalize wr.setCells g (j * 32) (cellsOf s) = w4
        intro h4
        have H4 := Lib.hid h4
        clear h4
        refine wp_region_held_drew (S := fun w' => Below w.heap.size w w') (by kernel_rfl) (below_drew H4.out.below) (fun hHeld => ?_)
        refine take_at (i := 0) (v := ?_) rfl rfl (by kernel_rfl) (by kernel_rfl) (by kernel_rfl) (fun _ _ _ h => h) (Or.inl ⟨by rfl, ?_⟩) (by assumption) ?_
        rotate_left
        · intro w0 hSw; (try dsimp only at hSw); first | (go_simp; done) | (go_simp; with_reducible rfl)
        simp only [List.setIfInBounds_toArray, List.set_cons_zero, List.set_cons_succ]
        refine take_at (i := 1) (v := ?_) rfl rfl (by kernel_rfl) (by kernel_rfl) (by kernel_rfl) (fun _ _ _ h => h) (Or.inl ⟨by rfl, ?_⟩) (by assumption) ?_
        rotate_left
        · intro w0 hSw; (try dsimp only at hSw); first | (go_simp; done) | (go_simp; with_reducible rfl)
        simp only [List.setIfInBounds_toArray, List.set_cons_zero, List.set_cons_succ]
        refine take_at (i := 2) (v := ?_) rfl rfl (by kernel_rfl) (by kernel_rfl) (by kernel_rfl) (fun _ _ _ h => h) (Or.inl ⟨by rfl, ?_⟩) (by assumption) ?_
        rotate_left
        · intro w0 hSw; (try dsimp only at hSw); first | (go_simp; done) | (go_simp; with_reducible rfl)
        simp only [List.setIfInBounds_toArray, List.set_cons_zero, List.set_cons_succ]
        refine take_at (i := 3) (v := ?_) rfl rfl (by kernel_rfl) (by kernel_rfl) (by kernel_rfl) (fun _ _ _ h => h) (Or.inl ⟨by rfl, ?_⟩) (by assumption) ?_
        rotate_left
        · intro w0 hSw; (try dsimp only at hSw); first | (go_simp; done) | (go_simp; with_reducible rfl)
        simp only [List.setIfInBounds_toArray, List.set_cons_zero, List.set_cons_succ]
        refine take_at (i := 4) (v := ?_) rfl rfl (by kernel_rfl) (by kernel_rfl) (by kernel_rfl) (fun _ _ _ h => h) (Or.inl ⟨by rfl, ?_⟩) (by assumption) ?_
        rotate_left
        · intro w0 hSw; (try dsimp only at hSw); first | (go_simp; done) | (go_simp; with_reducible rfl)
        simp only [List.setIfInBounds_toArray, List.set_cons_zero, List.set_cons_succ]
        refine take_at (i := 5) (v := ?_) rfl rfl (by kernel_rfl) (by kernel_rfl) (by kernel_rfl) (fun _ _ _ h => h) (Or.inl ⟨by rfl, ?_⟩) (by assumption) ?_
        rotate_left
        · intro w0 hSw; (try dsimp only at hSw); first | (go_simp; done) | (go_simp; with_reducible rfl)
        simp only [List.setIfInBounds_toArray, List.set_cons_zero, List.set_cons_succ]
        refine take_at (i := 6) rfl rfl (by kernel_rfl) (by kernel_rfl) (by kernel_rfl) (fun _ _ _ h => h) (yieldsIf_load_mid (by rfl) _ _ rfl b (off + 2 * j * 32) rfl (cellsOf s) _ (fun w0 hSw => rangeAt_below HR0.out hlt hSw) Tryd.underlying24 rfl SZ.out) (by assumption) ?_
        simp only [List.setIfInBounds_toArray, List.set_cons_zero, List.set_cons_succ]
        refine take_at (i := 7) (v := ?_) rfl rfl (by kernel_rfl) (by kernel_rfl) (by kernel_rfl) (fun _ _ _ h => h) (Or.inl ⟨by rfl, ?_⟩) (by assumption) ?_
        rotate_left
        · intro w0 hSw; (try dsimp only at hSw); first | (go_simp; done) | (go_simp; with_reducible rfl)
        simp only [List.setIfInBounds_toArray, List.set_cons_zero, List.set_cons_succ]
        refine take_at (i := 8) (v := ?_) rfl rfl (by kernel_rfl) (by kernel_rfl) (by kernel_rfl) (fun _ _ _ h => h) (Or.inl ⟨by rfl, ?_⟩) (by assumption) ?_
        rotate_left
        · intro w0 hSw; (try dsimp only at hSw); first | (go_simp; done) | (go_simp; with_reducible rfl)
        simp only [List.setIfInBounds_toArray, List.set_cons_zero, List.set_cons_succ]
        refine take_at (i := 9) (v := ?_) rfl rfl (by kernel_rfl) (by kernel_rfl) (by kernel_rfl) (fun _ _ _ h => h) (Or.inl ⟨by rfl, ?_⟩) (by assumption) ?_
        rotate_left
        · intro w0 hSw; (try dsimp only at hSw); first | (go_simp; done) | (go_simp; with_reducible rfl)
        simp only [List.setIfInBounds_toArray, List.set_cons_zero, List.set_cons_succ]
        refine take_at (i := 10) rfl rfl (by kernel_rfl) (by kernel_rfl) (by kernel_rfl) (fun _ _ _ h => h) (yieldsIf_load_mid (by rfl) _ _ rfl b (off + J * 32) rfl (cellsOf t) _ (fun w0 hSw => rangeAt_below HR2.out hlt hSw) Tryd.underlying24 rfl SZT.out) (by assumption) ?_
        simp only [List.setIfInBounds_toArray, List.set_cons_zero, List.set_cons_succ]
        refine take_at (i := 11) (v := ?_) rfl rfl (by kernel_rfl) (by kernel_rfl) (by kernel_rfl) (fun _ _ _ h => h) (Or.inl ⟨by rfl, ?_⟩) (by assumption) ?_
        rotate_left
        · intro w0 hSw; (try dsimp only at hSw); first | (go_simp; done) | (go_simp; with_reducible rfl)
        simp only [List.setIfInBounds_toArray, List.set_cons_zero, List.set_cons_succ]
        refine take_at (i := 12) (v := ?_) rfl rfl (by kernel_rfl) (by kernel_rfl) (by kernel_rfl) (fun _ _ _ h => h) (Or.inl ⟨by rfl, ?_⟩) (by assumption) ?_
        rotate_left
        · intro w0 hSw; (try dsimp only at hSw); first | (go_simp; done) | (go_simp; with_reducible rfl)
        simp only [List.setIfInBounds_toArray, List.set_cons_zero, List.set_cons_succ]
        refine wpAnyH_ready (rs := [13]) (by kernel_rfl) (by simp) ?_
        refine AllReadyH.cons rfl (fun K hK => ?_) ?_
        · go_simp
          go_wp2_with ((go_at_call 25; (with_reducible refine (HJO.out _ (HK.out.below hHeld)).mono ?_); rintro e w5 ⟨rfl, hb5⟩; have HB5 := Lib.hid hb5; clear hb5))
          refine hK.out _ _ (by (try dsimp only); exact Below.trans hHeld (HB5.out.mono (Below.size hHeld))) (fun hHeld => ?_)
          clear hK K
          refine take_at (i := 14) (v := ?_) rfl rfl (by kernel_rfl) (by kernel_rfl) (by kernel_rfl) (fun _ _ _ h => h) (Or.inl ⟨by rfl, ?_⟩) (by assumption) ?_
          rotate_left
          · intro w0 hSw; (try dsimp only at hSw); first | (go_simp; done) | (go_simp; with_reducible rfl)
          simp only [List.setIfInBounds_toArray, List.set_cons_zero, List.set_cons_succ]
          refine wpAnyH_ready (rs := [15]) (by kernel_rfl) (by simp) ?_
          refine AllReadyH.cons rfl (fun K hK => ?_) ?_
          · have h5 := H4.out.more ((below_drew (Below.refl _ _)).trans HB5.out)
            have th5 : w5.there g (j * 32) (cellsOf r).toArray.size := by rw [List.size_toArray, cellsOf_len, HL.out]; exact h5.own.there hjm
            have h6 := h5.step hjm HL.out
            rw [List.set_set, soFar_step xs m j HUL.out hjm r HU.out] at h6
            have H6 := Lib.hid h6
            clear h5 h6
            rw [if_pos (by rfl)]
            refine wp_store_mid 24 _ _ rfl g (j * 32) (cellsOf r).toArray rfl rfl th5 SZR.out (all_oneCell_toArray (cellsOf_one r)) ?_
            refine hK.out _ _ (by (try dsimp only); exact H6.out.below) (fun hHeld => ?_)
            clear hK K
            refine wpAnyH_done (by kernel_rfl) ?_ _
            go_wp2_with fail
            go_roundw
            case rel => exact ⟨j + 1, by omega, by go_num, H6.out⟩
            case measure => simp [intOf]; omega
          exact AllReadyH.nil
        exact AllReadyH.nil
      · rw [if_neg hb] at hu
        have HU := Lib.hid hu
        have f1 : ¬ (((2 * j + 1 : Nat) : Int) < (n : Int)) := by omega
        obtain ⟨J, hJ⟩ : ∃ J, J = 2 * j + 1 := ⟨_, rfl⟩
        rw [← hJ] at HBS f1
        clear hcells hr hr1 hs hu szs hes th hbs e2 hb hJ h2j
        go_wp2_with (first | (refine wpList_load_mid rfl 24 _ rfl b (off + 2 * j * 32) rfl (cellsOf s) _ HR.out Tryd.underlying24 rfl SZ.out ?_) | (refine wpList_store_mid rfl 24 _ _ rfl g (j * 32) (cellsOf s).toArray rfl rfl TH.out SZ.out (all_oneCell_toArray (cellsOf_one s)) ?_) | (go_at_call 20; (with_reducible refine (HBS.out _).mono ?_); rintro e w' ⟨rfl, rfl⟩))
        have h4 := HAT.out.step hjm HS.out
        rw [soFar_step xs m j HUL.out hjm s HU.out] at h4
        have H4 := Lib.hid h4
        clear h4
        go_roundw
        case rel => exact ⟨j + 1, by omega, by go_num, H4.out⟩
        case measure => simp [intOf]; omega
    · have hjm' : j = m := by omega
      subst hjm'
      go_wp2_with fail
      go_ret
      have ho := HAT.out.own
      rw [show soFar xs j j = xs from row_end xs zero32 j HUL.out] at ho
      exact ⟨by rw [← HG.out]; rfl, by rw [← HG.out]; exact ho.sums, HAT.out.below⟩
end Go.Proofs.YtmbfpopfabjodaaDoor
