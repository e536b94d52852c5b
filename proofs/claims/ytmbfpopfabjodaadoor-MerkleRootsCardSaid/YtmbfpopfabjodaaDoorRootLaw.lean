/- What the document's own 'root' comes to: the root by halves. -/
import Derived.Test.YtmbfpopfabjodaaDoorHelpers
namespace Go.Proofs.YtmbfpopfabjodaaDoor
open Go.RowKit

theorem rootSum_some {ls : List (List UInt8)} (h : 0 < ls.length) : rootSum ls = top pairSum (ls.map leafSum) := by
  unfold rootSum
  rw [if_neg]
  intro h1
  rw [List.isEmpty_iff] at h1
  subst h1
  cases h
theorem rootSum_two {ls : List (List UInt8)} {k : Nat} (h1 : 2 ^ k < ls.length) (h2 : ls.length ≤ 2 ^ (k + 1)) : rootSum ls = pairSum (rootSum (ls.take (2 ^ k))) (rootSum (ls.drop (2 ^ k))) := by
  have hp : 0 < 2 ^ k := Nat.two_pow_pos k
  rw [rootSum_some (by omega), rootSum_some (ls := ls.take (2 ^ k)) (by rw [List.length_take]; omega), rootSum_some (ls := ls.drop (2 ^ k)) (by rw [List.length_drop]; omega), List.map_take, List.map_drop]
  exact top_two pairSum (ls.map leafSum) k (by rw [List.length_map]; exact h1) (by rw [List.length_map]; exact h2)
/-- The document's own root of so many sums. -/
def RootLaw (n : Nat) : Prop := ∀ (w : World) (a : Option Addr) (c : Nat) (ls : List (List UInt8)), Sums w a n c ls → KsAt w →
    Calls Tryd.prog 9 #[.slice a n c] w fun e w' => e = .returned (.agg (cellsOf (rootSum ls)).toArray) ∧ Below w.heap.size w w'
set_option maxRecDepth 100000 in
set_option maxHeartbeats 1600000 in
theorem rootLaw_none : RootLaw 0 := by
  intro w a c ls h hk
  obtain rfl : ls = [] := List.eq_nil_of_length_eq_zero h.len
  clear h
  obtain ⟨r, hr, hrl, hj⟩ : ∃ r, rootSum [] = r ∧ r.length = 32 ∧ ∀ W : World, KsAt W → Calls Tryd.prog 21 #[.int .u8 3, .slice none 0 0] W fun e w' => e = .returned (.agg (cellsOf r).toArray) ∧ Below W.heap.size W w' := ⟨_, rfl, sumOf_len _, fun W hW => join_any 3 3 rfl (Rows2.nil W) hW (by decide)⟩
  rw [hr]
  have HK := Lib.hid hk
  have HJ := Lib.hid hj
  have szr : (Tryd.prog.info? 24).map (·.size) = some (cellsOf r).toArray.size := by rw [List.size_toArray, cellsOf_len, hrl]; exact Tryd.size24
  have hz : (cellsOf zero32).toArray.size = (cellsOf r).toArray.size := by rw [List.size_toArray, List.size_toArray, cellsOf_len, cellsOf_len, hrl]; rfl
  have SZR := Lib.hid szr
  have HZ := Lib.hid hz
  clear hk hr hrl hj szr hz
  go_enter Tryd.func9, Tryd.ntmps9
  go_wp2_with fail
  rw [← zero32_is]
  have b1 : Below w.heap.size w (w.alloc (.cells (cellsOf zero32).toArray 24)) := (Below.refl _ _).alloc (Nat.le_refl _) _
  refine (HJ.out _ (HK.out.below b1)).mono ?_
  rintro e w5 ⟨rfl, hb5⟩
  have HB := Lib.hid (b1.trans (hb5.mono b1.size))
  have HT := Lib.hid ((hb5.block w.heap.size (by simp)).trans (heap_alloc_new _ _))
  clear b1 hb5
  go_wp2_with (refine wpList_store_row rfl 24 _ _ rfl w.heap.size (cellsOf r).toArray rfl rfl 24 (cellsOf zero32).toArray HT.out SZR.out HZ.out (all_oneCell_toArray (cellsOf_one r)) ?_)
  refine bodyPost_ret (results_cell_row rfl _ _ w.heap.size 24 (cellsOf r).toArray (0, 0) _ rfl (setRow_heap w5 w.heap.size _ _ 24 _ HT.out) Tryd.underlying24 rfl SZR.out) rfl ⟨rfl, ?_⟩
  exact HB.out.trans (((but_setRow _ w.heap.size _).mono HB.out.size).below (Nat.le_refl _))
set_option maxRecDepth 100000 in
set_option maxHeartbeats 1600000 in
theorem rootLaw_one : RootLaw 1 := by
  intro w a c ls h hk
  obtain ⟨b, off, rfl, hlt, hcells⟩ := h.2.2.2.2.2 (by omega)
  have hrs := hcells 0 (by omega)
  have hsl := h.each (j := 0) (by omega)
  obtain ⟨s, rfl⟩ := List.length_eq_one_iff.1 h.len
  have hs0 : [s].getD 0 [] = s := rfl
  rw [hs0] at hrs hsl
  rw [Nat.zero_mul, Nat.add_zero] at hrs
  obtain ⟨r, hr, hrl, hj⟩ : ∃ r, rootSum [s] = r ∧ r.length = 32 ∧ ∀ W : World, KsAt W → Calls Tryd.prog 11 #[.agg (cellsOf s).toArray] W fun e w' => e = .returned (.agg (cellsOf r).toArray) ∧ Below W.heap.size W w' := ⟨_, rfl, leafSum_len _, fun W hW => leaf_law hsl hW⟩
  rw [hr]
  have HK := Lib.hid hk
  have HJ := Lib.hid hj
  have szr : (Tryd.prog.info? 24).map (·.size) = some (cellsOf r).toArray.size := by rw [List.size_toArray, cellsOf_len, hrl]; exact Tryd.size24
  have szs : (Tryd.prog.info? 24).map (·.size) = some (cellsOf s).length := by rw [cellsOf_len, hsl]; exact Tryd.size24
  have hz : (cellsOf zero32).toArray.size = (cellsOf r).toArray.size := by rw [List.size_toArray, List.size_toArray, cellsOf_len, cellsOf_len, hrl]; rfl
  have b1 : Below w.heap.size w (w.alloc (.cells (cellsOf zero32).toArray 24)) := (Below.refl _ _).alloc (Nat.le_refl _) _
  have h1 : (w.alloc (.cells (cellsOf zero32).toArray 24)).heap[w.heap.size]? = some (.cells (cellsOf zero32).toArray 24 (0, 0)) := heap_alloc_new _ _
  have HRS := Lib.hid hrs
  have SZR := Lib.hid szr
  have SZS := Lib.hid szs
  have HZ := Lib.hid hz
  clear hk hr hrl hj szr hz szs hcells hrs hsl h
  go_enter Tryd.func9, Tryd.ntmps9
  go_upto_region 1 with (fail)
  rw [← zero32_is]
  revert b1 h1
  generalize (w.alloc (.cells (cellsOf zero32).toArray 24)) = w1
  obtain ⟨g, hg⟩ : ∃ g, g = w.heap.size := ⟨_, rfl⟩
  rw [← hg]
  intro b1 h1
  rw [hg] at b1
  have HG := Lib.hid hg
  have HB1 := Lib.hid b1
  have H1 := Lib.hid h1
  have HRS1 := Lib.hid (rangeAt_below HRS.out hlt b1)
  clear b1 h1 hg
  go_wp2_with (first | (refine wpList_load_mid rfl 24 _ rfl b off rfl (cellsOf s) _ HRS1.out Tryd.underlying24 rfl SZS.out ?_) | fail)
  refine (HJ.out _ (HK.out.below HB1.out)).mono ?_
  rintro e w5 ⟨rfl, hb5⟩
  have HB := Lib.hid (HB1.out.trans (hb5.mono HB1.out.size))
  have HT := Lib.hid ((hb5.block _ (lt_of_block H1.out)).trans H1.out)
  clear hb5
  go_wp2_with (refine wpList_store_row rfl 24 _ _ rfl g (cellsOf r).toArray rfl rfl 24 (cellsOf zero32).toArray HT.out SZR.out HZ.out (all_oneCell_toArray (cellsOf_one r)) ?_)
  refine bodyPost_ret (results_cell_row rfl _ _ g 24 (cellsOf r).toArray (0, 0) _ rfl (setRow_heap w5 g _ _ 24 _ HT.out) Tryd.underlying24 rfl SZR.out) rfl ⟨rfl, ?_⟩
  exact HB.out.trans (((but_setRow _ g _).mono HB.out.size).below (by rw [HG.out]; exact Nat.le_refl _))
/-- A half: a power of two below n. -/
def Half (n : Nat) (x : Value) : Prop := ∃ k : Nat, x = .int .i64 ((2 ^ k : Nat) : Int) ∧ 2 ^ k < n
set_option linter.unusedSimpArgs false in
set_option maxRecDepth 100000 in
set_option maxHeartbeats 3200000 in
theorem rootLaw_more (n : Nat) (h2 : 2 ≤ n) (h40 : n ≤ 40) (ih : ∀ m, m < n → RootLaw m) : RootLaw n := by
  intro w a c ls h hk
  obtain ⟨r, hr, hrl⟩ : ∃ r, rootSum ls = r ∧ r.length = 32 := ⟨_, rfl, rootSum_len ls⟩
  rw [hr]
  have szr : (Tryd.prog.info? 24).map (·.size) = some (cellsOf r).toArray.size := by rw [List.size_toArray, cellsOf_len, hrl]; exact Tryd.size24
  have hz : (cellsOf zero32).toArray.size = (cellsOf r).toArray.size := by rw [List.size_toArray, List.size_toArray, cellsOf_len, cellsOf_len, hrl]; rfl
  have b1 : Below w.heap.size w (w.alloc (.cells (cellsOf zero32).toArray 24)) := (Below.refl _ _).alloc (Nat.le_refl _) _
  have h1 : (w.alloc (.cells (cellsOf zero32).toArray 24)).heap[w.heap.size]? = some (.cells (cellsOf zero32).toArray 24 (0, 0)) := heap_alloc_new _ _
  have hnc := h.2.1
  have H := Lib.hid h
  have HK := Lib.hid hk
  have HR := Lib.hid hr
  have SZR := Lib.hid szr
  have HZ := Lib.hid hz
  have HIH := Lib.hid ih
  have e0 : ¬ ((n : Int) = 0) := by omega
  have e1 : ¬ ((n : Int) = 1) := by omega
  clear h hk hr hrl szr hz ih
  go_enter Tryd.func9, Tryd.ntmps9
  go_upto_region 1 with (fail)
  rw [← zero32_is]
  revert b1 h1
  generalize (w.alloc (.cells (cellsOf zero32).toArray 24)) = w1
  obtain ⟨g, hg⟩ : ∃ g, g = w.heap.size := ⟨_, rfl⟩
  rw [← hg]
  intro b1 h1
  rw [hg] at b1
  have HG := Lib.hid hg
  have HB1 := Lib.hid b1
  have H1 := Lib.hid h1
  clear b1 h1 hg
  go_wp2_with fail
  go_loop [3] (fun x => Half n x) (fun x => n - (intOf x).toNat)
  case atStart => exact ⟨0, rfl, by omega⟩
  case round =>
    obtain ⟨k, rfl, hkn⟩ := hrel
    obtain ⟨P, hP⟩ : ∃ P, P = 2 ^ k := ⟨_, rfl⟩
    rw [← hP] at hkn ⊢
    have hp0 : 0 < P := by rw [hP]; exact Nat.two_pow_pos k
    have HPK := Lib.hid hP
    clear hP
    have p1 : (P : Int) ≤ 40 := by omega
    by_cases hlt2 : P * 2 < n
    · have f1 : (P : Int) * 2 < (n : Int) := by omega
      have hh : Half n (.int .i64 ((P : Int) * 2)) := ⟨k + 1, by rw [Nat.pow_succ, ← HPK.out]; simp, by rw [Nat.pow_succ, ← HPK.out]; exact hlt2⟩
      have HH := Lib.hid hh
      clear hh
      go_wp2_with fail
      go_round
      case rel => exact HH.out
      case measure => simp [intOf]; omega
    · have f1 : ¬ ((P : Int) * 2 < (n : Int)) := by omega
      have hcut := rootSum_two (ls := ls) (k := k) (by rw [H.out.len, ← HPK.out]; exact hkn) (by rw [H.out.len, Nat.pow_succ, ← HPK.out]; omega)
      rw [← HPK.out, HR.out] at hcut
      have hx := HIH.out P hkn
      have hy := HIH.out (n - P) (by omega)
      have hpair : ∀ W : World, KsAt W → Calls Tryd.prog 22 #[.int .u8 2, .agg (cellsOf (rootSum (ls.take P))).toArray, .agg (cellsOf (rootSum (ls.drop P))).toArray] W fun e w' => e = .returned (.agg (cellsOf r).toArray) ∧ Below W.heap.size W w' := fun W hW => by rw [hcut]; exact pair_any 2 2 rfl (rootSum_len _) (rootSum_len _) hW
      have hst := H.out.take (k := P) (by omega)
      have hsf := H.out.from (A := P) (by omega)
      obtain ⟨a9, ha9⟩ : ∃ a9, (if c = P then a else a.map (·.add (P * 32))) = a9 := ⟨_, rfl⟩
      rw [ha9] at hsf
      have hPc : P ≤ c := by omega
      have hPn : P ≤ n := by omega
      have HA9 := Lib.hid ha9
      have HX := Lib.hid (hx)
      have HY := Lib.hid (hy)
      have HPR := Lib.hid hpair
      have HST := Lib.hid hst
      have HSF := Lib.hid hsf
      obtain ⟨t1, ht1⟩ : ∃ t1, rootSum (ls.take P) = t1 := ⟨_, rfl⟩
      obtain ⟨t2, ht2⟩ : ∃ t2, rootSum (ls.drop P) = t2 := ⟨_, rfl⟩
      have hx2 : ∀ (W : World), Below w.heap.size w W → Calls Tryd.prog 9 #[.slice a P c] W fun e w' => e = .returned (.agg (cellsOf t1).toArray) ∧ Below W.heap.size W w' := fun W hW => by rw [← ht1]; exact HX.out W a c _ (HST.out.below hW) (HK.out.below hW)
      have hy2 : ∀ (W : World), Below w.heap.size w W → Calls Tryd.prog 9 #[.slice a9 (n - P) (c - P)] W fun e w' => e = .returned (.agg (cellsOf t2).toArray) ∧ Below W.heap.size W w' := fun W hW => by rw [← ht2]; exact HY.out W a9 _ _ (HSF.out.below hW) (HK.out.below hW)
      rw [ht1, ht2] at hpair
      have HX2 := Lib.hid hx2
      have HY2 := Lib.hid hy2
      have HPR2 := Lib.hid hpair
      clear hcut hx hy hpair hst hsf ha9 HPR HX HY ht1 ht2 hx2 hy2 hlt2
      go_wp2_with fail
      refine wp_region_held_drew (S := fun w' => Below w.heap.size w w') (by kernel_rfl) (below_drew HB1.out) (fun hHeld => ?_)
      refine take_at (i := 0) (v := ?_) rfl rfl (by kernel_rfl) (by kernel_rfl) (by kernel_rfl) (fun _ _ _ h => h) (Or.inl ⟨by rfl, ?_⟩) (by assumption) ?_
      rotate_left
      · intro w0 hSw; (try dsimp only at hSw); first | (go_simp; done) | (go_simp; with_reducible rfl)
      simp only [List.setIfInBounds_toArray, List.set_cons_zero, List.set_cons_succ]
      refine take_at (i := 1) (v := ?_) rfl rfl (by kernel_rfl) (by kernel_rfl) (by kernel_rfl) (fun _ _ _ h => h) (Or.inl ⟨by rfl, ?_⟩) (by assumption) ?_
      rotate_left
      · intro w0 hSw; (try dsimp only at hSw); first | (go_simp; done) | (go_simp; with_reducible rfl)
      simp only [List.setIfInBounds_toArray, List.set_cons_zero, List.set_cons_succ]
      refine take_at (i := 2) rfl rfl (by kernel_rfl) (by kernel_rfl) (by kernel_rfl) (fun _ _ _ h => h) (yields_to (A := P) (by rfl) rfl rfl rfl hPc) (by assumption) ?_
      simp only [List.setIfInBounds_toArray, List.set_cons_zero, List.set_cons_succ]
      refine take_at (i := 4) (v := ?_) rfl rfl (by kernel_rfl) (by kernel_rfl) (by kernel_rfl) (fun _ _ _ h => h) (Or.inl ⟨by rfl, ?_⟩) (by assumption) ?_
      rotate_left
      · intro w0 hSw; (try dsimp only at hSw); first | (go_simp; done) | (go_simp; with_reducible rfl)
      simp only [List.setIfInBounds_toArray, List.set_cons_zero, List.set_cons_succ]
      refine take_at (i := 5) (v := ?_) rfl rfl (by kernel_rfl) (by kernel_rfl) (by kernel_rfl) (fun _ _ _ h => h) (Or.inl ⟨by rfl, ?_⟩) (by assumption) ?_
      rotate_left
      · intro w0 hSw; (try dsimp only at hSw); first | (go_simp; done) | (go_simp; with_reducible rfl)
      simp only [List.setIfInBounds_toArray, List.set_cons_zero, List.set_cons_succ]
      refine take_at (i := 6) (v := .slice a9 (n - P) (c - P)) rfl rfl (by kernel_rfl) (by kernel_rfl) (by kernel_rfl) (fun _ _ _ h => h) (by rw [← HA9.out]; exact yields_from (A := P) (by rfl) rfl rfl rfl hPn) (by assumption) ?_
      simp only [List.setIfInBounds_toArray, List.set_cons_zero, List.set_cons_succ]
      refine wpAnyH_ready (rs := [3]) (by kernel_rfl) (by simp) ?_
      refine AllReadyH.cons rfl (fun K hK => ?_) ?_
      · go_simp
        go_wp2_with ((go_at_call 9; (with_reducible refine (HX2.out _ hHeld).mono ?_); rintro e x3 ⟨rfl, hb3⟩; have HX3 := Lib.hid hb3; clear hb3))
        refine hK.out _ _ (by (try dsimp only); exact Below.trans hHeld (HX3.out.mono (Below.size hHeld))) (fun hHeld => ?_)
        clear hK K
        refine wpAnyH_ready (rs := [7]) (by kernel_rfl) (by simp) ?_
        refine AllReadyH.cons rfl (fun K hK => ?_) ?_
        · go_simp
          go_wp2_with ((go_at_call 9; (with_reducible refine (HY2.out _ hHeld).mono ?_); rintro e x7 ⟨rfl, hb7⟩; have HX7 := Lib.hid hb7; clear hb7))
          refine hK.out _ _ (by (try dsimp only); exact Below.trans hHeld (HX7.out.mono (Below.size hHeld))) (fun hHeld => ?_)
          clear hK K
          refine wpAnyH_ready (rs := [8]) (by kernel_rfl) (by simp) ?_
          refine AllReadyH.cons rfl (fun K hK => ?_) ?_
          · go_simp
            go_wp2_with ((go_at_call 22; (with_reducible refine (HPR2.out _ (HK.out.below hHeld)).mono ?_); rintro e x8 ⟨rfl, hb8⟩; have HX8 := Lib.hid hb8; clear hb8))
            refine hK.out _ _ (by (try dsimp only); exact Below.trans hHeld (HX8.out.mono (Below.size hHeld))) (fun hHeld => ?_)
            clear hK K
            refine wpAnyH_ready (rs := [9]) (by kernel_rfl) (by simp) ?_
            refine AllReadyH.cons rfl (fun K hK => ?_) ?_
            · have hq : Below w1.heap.size w1 x8 := ((below_drew (Below.refl _ _)).trans (HX3.out.mono (Nat.le_refl _))).trans ((HX7.out.mono (Nat.le_trans (Nat.le_refl _) HX3.out.size)).trans (HX8.out.mono (Nat.le_trans HX3.out.size HX7.out.size)))
              have HGX := Lib.hid ((hq.block _ (lt_of_block H1.out)).trans H1.out)
              have b9 : Below w.heap.size w (x8.setRow g (cellsOf r).toArray) := by
                have b8 : Below w.heap.size w x8 := hHeld
                exact b8.trans (((but_setRow _ g _).mono b8.size).below (by rw [HG.out]; exact Nat.le_refl _))
              have HB9 := Lib.hid b9
              clear hq b9
              rw [if_pos (by rfl)]
              refine wp_store_row 24 _ _ rfl g (cellsOf r).toArray rfl rfl 24 (cellsOf zero32).toArray HGX.out SZR.out HZ.out (all_oneCell_toArray (cellsOf_one r)) ?_
              refine hK.out _ _ (by (try dsimp only); exact HB9.out) (fun hHeld => ?_)
              clear hK K
              refine wpAnyH_done (by kernel_rfl) ?_ _
              go_wp2_with fail
              exact bodyPost_ret (results_cell_row rfl _ _ g 24 (cellsOf r).toArray (0, 0) _ rfl (setRow_heap x8 g _ _ 24 _ HGX.out) Tryd.underlying24 rfl SZR.out) rfl ⟨rfl, HB9.out⟩
            exact AllReadyH.nil
          exact AllReadyH.nil
        exact AllReadyH.nil
      exact AllReadyH.nil
theorem rootLaw_any : ∀ n : Nat, n ≤ 40 → RootLaw n := by
  intro n
  induction n using Nat.strongRecOn with
  | ind n ih =>
    intro h40
    by_cases h0 : n = 0
    · subst h0; exact rootLaw_none
    · by_cases h1 : n = 1
      · subst h1; exact rootLaw_one
      · exact rootLaw_more n (by omega) h40 (fun m hm => ih m hm (by omega))
end Go.Proofs.YtmbfpopfabjodaaDoor
