/- LockOuts, walked. -/
import Derived.Test.YtdaafeaeinomoaaDoorLockGet
import Derived.Test.YtdaafeaeinomoaaDoorLaw7Out
import Derived.Test.YtdaafeaeinomoaaDoorLaw7Same
import Derived.Test.YtdaafeaeinomoaaDoorAwake7
import Derived.Test.YtdaafeaeinomoaaDoorConvs
namespace Go.Proofs.YtdaafeaeinomoaaDoor
open Go.RowKit

theorem few_parts {xs : List PWay} (h : fewW xs = true) : xs.length ≤ 20 ∧ ∀ x ∈ xs, x.ks.length ≤ 20 := by
  unfold fewW at h
  simp only [Bool.and_eq_true, decide_eq_true_eq, List.all_eq_true] at h
  exact h
theorem few_len {m : Int} {xs : List PWay} (h : fewW xs = true) (hs : ∀ x ∈ xs, x.h.length = 32) : (outB m xs).length ≤ 10000 := by
  obtain ⟨h1, h2⟩ := few_parts h
  have e1 := waysB_len (K := 20) (xs := xs) (fun x hx => ⟨hs x hx, h2 x hx⟩)
  have e2 := numsB_len [m, (xs.length : Nat)]
  have e3 : xs.length * (59 + 9 * 20) ≤ 20 * (59 + 9 * 20) := Nat.mul_le_mul_right _ h1
  simp only [List.length_cons, List.length_nil] at e2
  unfold outB
  rw [List.length_append]
  omega
theorem same_ok {m m' : Int} {xs zs : List PWay} (h : (decide (m' = m) && alikeWs zs xs) = true) : outOk m xs = outOk m' zs := by
  simp only [Bool.and_eq_true, decide_eq_true_eq] at h
  obtain ⟨rfl, h2⟩ := h
  rw [← outOk_strip m' xs, ← alikeWs_strip.1 h2, outOk_strip]
set_option linter.unusedSimpArgs false in
set_option maxRecDepth 100000 in
set_option maxHeartbeats 64000000 in
theorem outsLaw_walk {w : World} {m m2 : Int} {a a2 : Option Addr} {n c n2 c2 : Nat} {xs ys : List PWay} (h : Ways w a n c xs) (h' : Ways w a2 n2 c2 ys) (hm : Fits m) (hk : KsAt w) :
    Calls Tryd.prog 4 #[.agg #[.int .i64 m, .slice a n c], .agg #[.int .i64 m2, .slice a2 n2 c2]] w fun e w' => e = .returned (.bool true) ∧ Below w.heap.size w w' := by
  have b1 : Below w.heap.size w ((w.alloc (.cells #[.int .i64 m, .slice a n c] 38)).alloc (.cells #[.int .i64 m2, .slice a2 n2 c2] 38)) := ((Below.refl _ _).alloc (Nat.le_refl _) _).alloc (by simp) _
  have h1 : ((w.alloc (.cells #[.int .i64 m, .slice a n c] 38)).alloc (.cells #[.int .i64 m2, .slice a2 n2 c2] 38)).heap[w.heap.size]? = some (.cells #[.int .i64 m, .slice a n c] 38 (0, 0)) := by
    rw [heap_alloc_old _ _ (by simp), heap_alloc_new]
  have h2 : ((w.alloc (.cells #[.int .i64 m, .slice a n c] 38)).alloc (.cells #[.int .i64 m2, .slice a2 n2 c2] 38)).heap[w.heap.size + 1]? = some (.cells #[.int .i64 m2, .slice a2 n2 c2] 38 (0, 0)) := heap_alloc_at _ _ _ (by simp)
  have H := Lib.hid h
  have H' := Lib.hid h'
  have HM := Lib.hid hm
  have HK := Lib.hid hk
  clear h h' hm hk
  go_enter Tryd.func4, Tryd.ntmps4
  go_upto_region 1 with (fail)
  revert b1 h1 h2
  generalize ((w.alloc (.cells #[.int .i64 m, .slice a n c] 38)).alloc (.cells #[.int .i64 m2, .slice a2 n2 c2] 38)) = w1
  obtain ⟨g, hg⟩ : ∃ g, g = w.heap.size := ⟨_, rfl⟩
  rw [← hg]
  intro b1 h1 h2
  rw [hg] at b1
  have HG := Lib.hid hg
  have HB1 := Lib.hid b1
  have hg1 := lt_of_block h1
  have hh1 := lt_of_block h2
  have RG1 := Lib.hid (range_of (cs := [.int .i64 m, .slice a n c]) h1)
  have RH1 := Lib.hid (range_of (cs := [.int .i64 m2, .slice a2 n2 c2]) h2)
  clear b1 h1 h2 hg
  go_wp2_with (first | (refine wpList_load_mid rfl 38 _ rfl g 0 rfl [.int .i64 m, .slice a n c] _ RG1.out Tryd.underlying38 rfl size_out ?_) | fail)
  refine (small_law (H.out.below HB1.out)).mono ?_
  rintro e w1b ⟨rfl, hb⟩
  obtain ⟨r1, hr1⟩ : ∃ r, fewW xs = r := ⟨_, rfl⟩
  rw [hr1]
  have HR1 := Lib.hid hr1
  have HB1b := Lib.hid hb
  have RHb := Lib.hid (rangeAt_below RH1.out hh1 hb)
  clear hb hr1
  cases r1
  · have HKb := Lib.hid (HK.out.below (HB1.out.trans (HB1b.out.mono HB1.out.size)))
    go_wp2_with (first | (go_at_call 9; (with_reducible refine (awake_any HKb.out).mono ?_); rintro e w3 ⟨rfl, hb3⟩; have HB3 := Lib.hid hb3; clear hb3) | fail)
    go_ret
    exact ⟨rfl, HB1.out.trans ((HB1b.out.trans (HB3.out.mono HB1b.out.size)).mono HB1.out.size)⟩
  go_wp2_with (first | (refine wpList_mid_wanted (by rfl) 38 _ rfl (g + 1) 0 rfl [.int .i64 m2, .slice a2 n2 c2] _ RHb.out Tryd.underlying38 rfl size_out ?_) | fail)
  refine (small_law (H'.out.below (HB1.out.trans (HB1b.out.mono HB1.out.size)))).mono ?_
  rintro e w2 ⟨rfl, hb⟩
  obtain ⟨r2, hr2⟩ : ∃ r, fewW ys = r := ⟨_, rfl⟩
  rw [hr2]
  have hb12 := HB1b.out.trans (hb.mono HB1b.out.size)
  have HB12 := Lib.hid hb12
  have HB2 := Lib.hid (HB1.out.trans (hb12.mono HB1.out.size))
  have HK2 := Lib.hid (HK.out.below HB2.out)
  clear hb hr2 HB1b RHb
  cases r2
  · go_wp2_with (first | (go_at_call 9; (with_reducible refine (awake_any HK2.out).mono ?_); rintro e w3 ⟨rfl, hb3⟩; have HB3 := Lib.hid hb3; clear hb3) | fail)
    go_ret
    exact ⟨rfl, HB2.out.trans (HB3.out.mono HB2.out.size)⟩
  · have hg2 : g < w2.heap.size := Nat.lt_of_lt_of_le hg1 hb12.size
    have hh2 : g + 1 < w2.heap.size := Nat.lt_of_lt_of_le hh1 hb12.size
    have RG2 := Lib.hid (rangeAt_below RG1.out hg1 hb12)
    have RH2 := Lib.hid (rangeAt_below RH1.out hh1 hb12)
    have HW2 := Lib.hid (H.out.below HB2.out)
    have HV2 := Lib.hid (H'.out.below HB2.out)
    obtain ⟨ok, hok⟩ : ∃ ok, outOk m xs = ok := ⟨_, rfl⟩
    obtain ⟨sm, hsm⟩ : ∃ sm, (decide (m = m2) && alikeWs xs ys) = sm := ⟨_, rfl⟩
    have HA1 : Hid (∀ W : World, Below w2.heap.size w2 W → Calls Tryd.prog 15 #[.agg #[.int .i64 m, .slice a n c]] W fun e w' => e = .returned (.bool ok) ∧ Below W.heap.size W w') := Lib.hid (fun W hW => by have h9 := lockRightOut_any (m := m) (HW2.out.below hW); rw [hok] at h9; exact h9)
    have HA2 : Hid (∀ W : World, Below w2.heap.size w2 W → Calls Tryd.prog 16 #[.agg #[.int .i64 m, .slice a n c]] W fun e w' => e = .returned (.bool ok) ∧ Below W.heap.size W w') := Lib.hid (fun W hW => by have h9 := rightOut_law (m := m) (HW2.out.below hW); rw [hok] at h9; exact h9)
    have HA3 : Hid (∀ W : World, Below w2.heap.size w2 W → Calls Tryd.prog 17 #[.agg #[.int .i64 m, .slice a n c], .agg #[.int .i64 m2, .slice a2 n2 c2]] W fun e w' => e = .returned (.bool sm) ∧ Below W.heap.size W w') := Lib.hid (fun W hW => by have h9 := lockSame_any (m := m) (m' := m2) (HW2.out.below hW) (HV2.out.below hW); rw [hsm] at h9; exact h9)
    have HA4 : Hid (∀ W : World, Below w2.heap.size w2 W → Calls Tryd.prog 18 #[.agg #[.int .i64 m, .slice a n c], .agg #[.int .i64 m2, .slice a2 n2 c2]] W fun e w' => e = .returned (.bool sm) ∧ Below W.heap.size W w') := Lib.hid (fun W hW => by have h9 := same_law (m := m) (m' := m2) (HW2.out.below hW) (HV2.out.below hW); rw [hsm] at h9; exact h9)
    have HOK := Lib.hid hok
    have HFW := Lib.hid (few_parts HR1.out)
    have hn20 : n ≤ 20 := by have h9 := HFW.out.1; rw [H.out.1] at h9; exact h9
    have hn63 : (n : Int) ≤ 20 := by omega
    have HHS : Hid (∀ x ∈ xs, x.h.length = 32) := Lib.hid (fun x hx => (H.out.2.2.2.2.1 x hx).sum)
    have HFL := Lib.hid (few_len (m := m) HR1.out HHS.out)
    clear hok hsm hb12 hg1 hh1 RG1 RH1 HB12
    go_upto_region 3 with (fail)
    clear HB1
    refine wp_region_held_drew (S := fun w' => Below w2.heap.size w2 w') (by kernel_rfl) (below_drew (Below.refl _ _)) (fun hHeld => ?_)
    refine take_at (i := 0) rfl rfl (by kernel_rfl) (by kernel_rfl) (by kernel_rfl) (fun _ _ _ h => h) (yieldsIf_load_mid (by rfl) _ _ rfl g 0 rfl [.int .i64 m, .slice a n c] _ (fun w0 hSw => rangeAt_below RG2.out hg2 hSw) Tryd.underlying38 rfl size_out) (by assumption) ?_
    simp only [List.setIfInBounds_toArray, List.set_cons_zero, List.set_cons_succ]
    refine take_at (i := 2) rfl rfl (by kernel_rfl) (by kernel_rfl) (by kernel_rfl) (fun _ _ _ h => h) (yieldsIf_load_mid (by rfl) _ _ rfl g 0 rfl [.int .i64 m, .slice a n c] _ (fun w0 hSw => rangeAt_below RG2.out hg2 hSw) Tryd.underlying38 rfl size_out) (by assumption) ?_
    simp only [List.setIfInBounds_toArray, List.set_cons_zero, List.set_cons_succ]
    refine wpAnyH_ready (rs := [1]) (by kernel_rfl) (by simp) ?_
    refine AllReadyH.cons rfl (fun K hK => ?_) ?_
    · have hS1 : Below w2.heap.size w2 w2.drew := hHeld
      have HC1 := Lib.hid (HA1.out _ hS1)
      clear hS1
      go_simp
      go_wp2_with ((go_at_call 15; (with_reducible refine (HC1.out).mono ?_); rintro e y1 ⟨rfl, hb1⟩; have HX1 := Lib.hid hb1; clear hb1))
      refine hK.out _ _ (by (try dsimp only); exact Below.trans hHeld (HX1.out.mono (Below.size hHeld))) (fun hHeld => ?_)
      clear hK K
      refine wpAnyH_ready (rs := [3]) (by kernel_rfl) (by simp) ?_
      refine AllReadyH.cons rfl (fun K hK => ?_) ?_
      · have hS3 : Below w2.heap.size w2 y1 := hHeld
        have HC3 := Lib.hid (HA2.out _ hS3)
        clear hS3
        go_simp
        go_wp2_with ((go_at_call 16; (with_reducible refine (HC3.out).mono ?_); rintro e y3 ⟨rfl, hb3⟩; have HX3 := Lib.hid hb3; clear hb3))
        refine hK.out _ _ (by (try dsimp only); exact Below.trans hHeld (HX3.out.mono (Below.size hHeld))) (fun hHeld => ?_)
        clear hK K
        refine take_at (i := 4) (v := .bool false) rfl rfl (by kernel_rfl) (by kernel_rfl) (by kernel_rfl) (fun _ _ _ h => h) (Or.inl ⟨by rfl, ?_⟩) (by assumption) ?_
        · intro w0 hSw; (try dsimp only at hSw); first | (go_simp; done) | (go_simp; with_reducible rfl) | (go_simp; omega)
        simp only [List.setIfInBounds_toArray, List.set_cons_zero, List.set_cons_succ]
        refine take_at (i := 5) (v := ?_) rfl rfl (by kernel_rfl) (by kernel_rfl) (by kernel_rfl) (fun _ _ _ h => h) (Or.inl ⟨by rfl, ?_⟩) (by assumption) ?_
        rotate_left
        · intro w0 hSw; (try dsimp only at hSw); first | (go_simp; done) | (go_simp; with_reducible rfl)
        simp only [List.setIfInBounds_toArray, List.set_cons_zero, List.set_cons_succ]
        refine take_at (i := 6) rfl rfl (by kernel_rfl) (by kernel_rfl) (by kernel_rfl) (fun _ _ _ h => h) (yieldsIf_load_mid (by rfl) _ _ rfl g 0 rfl [.int .i64 m, .slice a n c] _ (fun w0 hSw => rangeAt_below RG2.out hg2 hSw) Tryd.underlying38 rfl size_out) (by assumption) ?_
        simp only [List.setIfInBounds_toArray, List.set_cons_zero, List.set_cons_succ]
        refine take_at (i := 7) rfl rfl (by kernel_rfl) (by kernel_rfl) (by kernel_rfl) (fun _ _ _ h => h) (yieldsIf_load_mid (by rfl) _ _ rfl (g + 1) 0 rfl [.int .i64 m2, .slice a2 n2 c2] _ (fun w0 hSw => rangeAt_below RH2.out hh2 hSw) Tryd.underlying38 rfl size_out) (by assumption) ?_
        simp only [List.setIfInBounds_toArray, List.set_cons_zero, List.set_cons_succ]
        refine take_at (i := 9) rfl rfl (by kernel_rfl) (by kernel_rfl) (by kernel_rfl) (fun _ _ _ h => h) (yieldsIf_load_mid (by rfl) _ _ rfl g 0 rfl [.int .i64 m, .slice a n c] _ (fun w0 hSw => rangeAt_below RG2.out hg2 hSw) Tryd.underlying38 rfl size_out) (by assumption) ?_
        simp only [List.setIfInBounds_toArray, List.set_cons_zero, List.set_cons_succ]
        refine take_at (i := 10) rfl rfl (by kernel_rfl) (by kernel_rfl) (by kernel_rfl) (fun _ _ _ h => h) (yieldsIf_load_mid (by rfl) _ _ rfl (g + 1) 0 rfl [.int .i64 m2, .slice a2 n2 c2] _ (fun w0 hSw => rangeAt_below RH2.out hh2 hSw) Tryd.underlying38 rfl size_out) (by assumption) ?_
        simp only [List.setIfInBounds_toArray, List.set_cons_zero, List.set_cons_succ]
        refine wpAnyH_ready (rs := [8]) (by kernel_rfl) (by simp) ?_
        refine AllReadyH.cons rfl (fun K hK => ?_) ?_
        · have hS8 : Below w2.heap.size w2 y3 := hHeld
          have HC8 := Lib.hid (HA3.out _ hS8)
          clear hS8
          go_simp
          go_wp2_with ((go_at_call 17; (with_reducible refine (HC8.out).mono ?_); rintro e y8 ⟨rfl, hb8⟩; have HX8 := Lib.hid hb8; clear hb8))
          refine hK.out _ _ (by (try dsimp only); exact Below.trans hHeld (HX8.out.mono (Below.size hHeld))) (fun hHeld => ?_)
          clear hK K
          refine wpAnyH_ready (rs := [11]) (by kernel_rfl) (by simp) ?_
          refine AllReadyH.cons rfl (fun K hK => ?_) ?_
          · have hS11 : Below w2.heap.size w2 y8 := hHeld
            have HC11 := Lib.hid (HA4.out _ hS11)
            clear hS11
            go_simp
            go_wp2_with ((go_at_call 18; (with_reducible refine (HC11.out).mono ?_); rintro e y11 ⟨rfl, hb11⟩; have HX11 := Lib.hid hb11; clear hb11))
            refine hK.out _ _ (by (try dsimp only); exact Below.trans hHeld (HX11.out.mono (Below.size hHeld))) (fun hHeld => ?_)
            clear hK K
            refine take_at (i := 12) (v := .bool false) rfl rfl (by kernel_rfl) (by kernel_rfl) (by kernel_rfl) (fun _ _ _ h => h) (Or.inl ⟨by rfl, ?_⟩) (by assumption) ?_
            · intro w0 hSw; (try dsimp only at hSw); first | (go_simp; done) | (go_simp; with_reducible rfl) | (go_simp; omega)
            simp only [List.setIfInBounds_toArray, List.set_cons_zero, List.set_cons_succ]
            refine take_at (i := 13) (v := ?_) rfl rfl (by kernel_rfl) (by kernel_rfl) (by kernel_rfl) (fun _ _ _ h => h) (Or.inl ⟨by rfl, ?_⟩) (by assumption) ?_
            rotate_left
            · intro w0 hSw; (try dsimp only at hSw); first | (go_simp; done) | (go_simp; with_reducible rfl)
            simp only [List.setIfInBounds_toArray, List.set_cons_zero, List.set_cons_succ]
            refine wpAnyH_done (by kernel_rfl) ?_ _
            have HS3 := Lib.hid (show Below w2.heap.size w2 y11 from hHeld)
            clear hHeld
            have hb2 := HS3.out
            have HBX := Lib.hid (HB2.out.trans (hb2.mono HB2.out.size))
            have RGX := Lib.hid (rangeAt_below RG2.out hg2 hb2)
            have hgx : g < y11.heap.size := Nat.lt_of_lt_of_le hg2 hb2.size
            clear hb2 HA1 HA2 HA3 HA4 RG2 RH2 HW2 HV2 HB2 HK2 hg2 hh2 HS3 HX1 HX3 HX8 HX11 HC1 HC3 HC8 HC11
            go_upto_region 6 with (fail)
            have b3 : Below y11.heap.size y11 ((y11.alloc (.cells #[.pointer none, .int .i64 0] 43)).alloc (.cells #[.pointer none, .int .i64 0] 43)) := ((Below.refl _ _).alloc (Nat.le_refl _) _).alloc (by simp) _
            have h3 : ((y11.alloc (.cells #[.pointer none, .int .i64 0] 43)).alloc (.cells #[.pointer none, .int .i64 0] 43)).heap[y11.heap.size]? = some (.cells #[.pointer none, .int .i64 0] 43 (0, 0)) := by
              rw [heap_alloc_old _ _ (by simp), heap_alloc_new]
            have h4 : ((y11.alloc (.cells #[.pointer none, .int .i64 0] 43)).alloc (.cells #[.pointer none, .int .i64 0] 43)).heap[y11.heap.size + 1]? = some (.cells #[.pointer none, .int .i64 0] 43 (0, 0)) := heap_alloc_at _ _ _ (by simp)
            revert b3 h3 h4
            generalize ((y11.alloc (.cells #[.pointer none, .int .i64 0] 43)).alloc (.cells #[.pointer none, .int .i64 0] 43)) = w3
            obtain ⟨pb, hpb⟩ : ∃ pb, pb = y11.heap.size := ⟨_, rfl⟩
            rw [← hpb]
            intro b3 h3 h4
            rw [hpb] at b3
            have hwp : w.heap.size ≤ pb := by rw [hpb]; exact HBX.out.size
            have hltp := lt_of_block h3
            have hltq := lt_of_block h4
            have RG3 := Lib.hid (rangeAt_below RGX.out hgx b3)
            have hgp : g < pb := by omega
            have HB3 := Lib.hid (HBX.out.trans (b3.mono HBX.out.size))
            have HKS : Hid (∀ x ∈ xs, x.ks.length ≤ 1000) := Lib.hid (fun x hx => by have := HFW.out.2 x hx; omega)
            have HPT := Lib.hid (lockPut_at (B := w3.heap.size) (pb := pb) (l := []) (m := m) (H.out.below HB3.out) (H.out.oldWs (by omega) hwp) (.inl ⟨h3, rfl⟩) (Nat.le_refl _) HM.out (by omega) HKS.out (by have h9 := HFL.out; show 0 + _ ≤ _; omega))
            rw [List.nil_append] at HPT
            have HQ3 := Lib.hid h4
            clear b3 h3 h4 hpb RGX hgx HBX
            go_wp2_with (first | (refine wpList_load_mid rfl 38 _ rfl g 0 rfl [.int .i64 m, .slice a n c] _ RG3.out Tryd.underlying38 rfl size_out ?_) | fail)
            refine HPT.out.mono ?_
            rintro e w4 ⟨rfl, hp4, hb4, _⟩
            have HP4 := Lib.hid hp4
            have HQ4 := Lib.hid (hb4.heap HQ3.out hltq (by omega))
            have hlt4 : g < w4.heap.size := Nat.lt_of_lt_of_le (by omega) hb4.size
            have RG4 : Hid (w4.rangeAt g 0 [.int .i64 m, .slice a n c]) := Lib.hid (fun j v hv => (hb4.cell (a := ⟨g, 0 + j, none⟩) (by show g < w3.heap.size; omega) (by show g ≠ pb; omega)).trans (RG3.out j v hv))
            have HB34 : Hid (Below w.heap.size w w4) := Lib.hid (HB3.out.trans ((hb4.mono (by omega)).below (by omega)))
            have hqlt : pb + 1 < w4.heap.size := Nat.lt_of_lt_of_le hltq hb4.size
            have hsz34 : w3.heap.size ≤ w4.heap.size := hb4.size
            obtain ⟨qb, hqb⟩ : ∃ qb, qb = pb + 1 := ⟨_, rfl⟩
            rw [← hqb] at HQ4 hqlt ⊢
            have hwq : w.heap.size ≤ qb := by omega
            have hgq : g ≠ qb := by omega
            have hpq : pb ≠ qb := by omega
            obtain ⟨Bq, hBq⟩ : ∃ Bq, Bq = w4.heap.size := ⟨_, rfl⟩
            have c0 : w4.cell? ⟨g, 0, none⟩ = some (.int .i64 m) := RG4.out 0 _ rfl
            have c1 : w4.cell? ⟨g, 1, none⟩ = some (.slice a n c) := RG4.out 1 _ rfl
            have HBQ := Lib.hid hBq
            have hgB : g < Bq := by omega
            have hzB : w3.heap.size ≤ Bq := by omega
            have hwB : w.heap.size ≤ Bq := by have := HB34.out.size; omega
            clear hp4 hb4 HPT RG3 HB3 HQ3 hqb hBq hltp hltq hsz34 hgp
            go_wp2_with fail
            have b5 : Below w4.heap.size w4 (w4.alloc (.cells #[.int .i64 m, .int .i64 (n : Int)] 3)) := (Below.refl _ _).alloc (Nat.le_refl _) _
            have hz5 : Bq ≤ (w4.alloc (.cells #[.int .i64 m, .int .i64 (n : Int)] 3)).heap.size := by rw [HBQ.out]; exact b5.size
            have HB5 := Lib.hid b5
            have HZ5 := Lib.hid hz5
            clear b5 hz5
            refine (pnums_typed (n := 2) (c := 2) (off := 0) (zs := [m, (n : Int)]) (B := Bq) (pb := qb) (l := []) _ rfl (Nat.le_refl _) (by unfold maxLen; omega) (two_small HM.out ⟨by omega, by omega⟩) (lit2 (heap_alloc_new _ _)) (.inl ⟨(HB5.out.block _ hqlt).trans HQ4.out, rfl⟩) HZ5.out (by omega) (by show 0 ≤ _; omega)).mono ?_
            rintro e w6 ⟨rfl, hp6, hb6, hk6⟩
            rw [List.nil_append] at hp6
            have HP6 := Lib.hid hp6
            have HB6 : Hid (But Bq qb w4 w6) := Lib.hid ((But.of (HB5.out.mono (by rw [HBQ.out]; exact Nat.le_refl _))).trans hb6)
            have HK6 : Hid (Keeps w4 w6) := Lib.hid ((Keeps.below HB5.out).trans hk6)
            clear c0 c1 hp6 hb6 hk6 HB5 HZ5
            go_wp2_with fail
            go_loopw [7] (fun i wr => ∃ k : Nat, k ≤ n ∧ i = .int .i64 k ∧ PenAt wr Bq qb (numsB [m, (n : Int)] ++ waysB (xs.take k)) ∧ But Bq qb w4 wr ∧ Keeps w4 wr) (fun i _ => n - (intOf i).toNat)
            case atStart => exact ⟨0, Nat.zero_le _, rfl, by have h9 := HP6.out; simpa [waysB] using h9, HB6.out, HK6.out⟩
            case round =>
              obtain ⟨k, hk, rfl, hpk, hbk, hkk⟩ := hrel
              have HPK := Lib.hid hpk
              have HBK := Lib.hid hbk
              have HKK := Lib.hid hkk
              have hbzr : Bq ≤ wr.heap.size := by have h9 := hbk.size; have := HBQ.out; omega
              have c1 : wr.cell? ⟨g, 1, none⟩ = some (.slice a n c) := (hbk.cell (a := ⟨g, 1, none⟩) hgB hgq).trans (RG4.out 1 _ rfl)
              clear hpk hbk hkk HP6 HB6 HK6
              by_cases hkn : k < n
              · have f1 : (k : Int) < (n : Int) := by omega
                have f0 : (0 : Int) ≤ (k : Int) := by omega
                have ft : ((k : Int)).toNat = k := by omega
                have hkl : k < xs.length := by rw [H.out.1]; exact hkn
                have ho := H.out.oldWs hwB hwq
                have hwr := (H.out.below HB34.out).butO ho HBK.out
                obtain ⟨b1, o1, e1, hltb, hc1⟩ := hwr.2.2.2.2.2 (by omega)
                have hrx := hc1 k hkn
                have hx := hwr.way hkn
                have hxm : xs.getD k noWay ∈ xs := by
                  have e : xs.getD k noWay = xs[k] := by simp [List.getD, hkl]
                  rw [e]
                  exact List.getElem_mem hkl
                have hox := ho.2 _ hxm
                have hkx := HKS.out _ hxm
                have hnx := waysB_take xs k hkl
                have hll : (waysB (xs.take k)).length + (wayB (xs.getD k noWay)).length ≤ (waysB xs).length := by
                  have e := congrArg List.length hnx
                  have e2 : waysB xs = waysB (xs.take (k + 1)) ++ waysB (xs.drop (k + 1)) := by
                    have happ : ∀ (u v : List PWay), waysB (u ++ v) = waysB u ++ waysB v := fun u v => by induction u with
                      | nil => rfl
                      | cons y u ih => simp [waysB, ih]
                    rw [← happ, List.take_append_drop]
                  have e3 := congrArg List.length e2
                  rw [List.length_append] at e e3
                  omega
                revert hrx hx hox hkx hnx hll
                generalize xs.getD k noWay = x
                intro hrx hx hox hkx hnx hll
                have E1 := Lib.hid e1
                obtain ⟨P, hP⟩ : ∃ P, P = numsB [m, (n : Int)] ++ waysB (xs.take k) := ⟨_, rfl⟩
                have HNX : Hid (numsB [m, (n : Int)] ++ waysB (xs.take (k + 1)) = P ++ wayB x) := Lib.hid (by rw [hnx, hP]; simp only [List.append_assoc])
                have WB : Hid (wayB x = numB (x.n : Int) ++ (numsB x.ks ++ (x.h ++ numsB [x.after, x.wait]))) := Lib.hid (by unfold wayB; rw [hx.keys.1])
                have HLW : Hid (P.length + (wayB x).length ≤ 1000000) := Lib.hid (by
                  have h9 := HFL.out
                  unfold outB at h9
                  rw [H.out.1] at h9
                  rw [hP]
                  simp only [List.length_append] at h9 ⊢
                  omega)
                rw [← hP] at HPK
                have RX := Lib.hid hrx
                have SX := Lib.hid (way_size hx.sum)
                have AX := Lib.hid (way_sizeA hx.sum)
                have ZX := Lib.hid (way_zero hx.sum)
                have SXH := Lib.hid (sumLen hx.sum)
                have HXS := Lib.hid hx.sum
                have HXA := Lib.hid hx.after
                have HXW := Lib.hid hx.wait
                have HX := Lib.hid hx
                have HOX := Lib.hid hox
                have hx1000 : x.n ≤ 1000 := by rw [← hx.keys.1]; exact hkx
                have hx63 : (x.n : Int) ≤ 9223372036854775807 := by omega
                rw [e1] at c1
                clear hc1 hrx hx hxm hox hkx hnx hll hP hwr hkl ho e1
                go_upto_region 12 with (first | (refine wpList_load_mid rfl 26 _ rfl b1 (o1 + k * 35) rfl x.cells _ RX.out Tryd.underlying26 rfl SX.out ?_) | (refine wpList_store_row rfl 26 _ _ rfl wr.heap.size x.cells.toArray rfl rfl 26 noWay.cells.toArray (heap_alloc_new _ _) AX.out ZX.out (all_oneCell_toArray x.cells_one) ?_) | fail)
                clear c1
                rw [← noWay_is, layWay_is]
                have h5 := layWay_heap wr x
                have b5 := layWay_self wr x
                revert h5 b5
                generalize layWay wr x = w5
                obtain ⟨g5, hg5⟩ : ∃ g5, g5 = wr.heap.size := ⟨_, rfl⟩
                rw [← hg5]
                intro h5 b5
                rw [hg5] at b5
                have H5 := Lib.hid h5
                have hbz5 : Bq ≤ w5.heap.size := Nat.le_trans hbzr b5.size
                have HPEN0 : Hid (PenAt w5.drew Bq qb P) := Lib.hid ((HPK.out.below hbzr b5).below hbz5 (below_drew (Below.refl _ _)))
                have HKX := Lib.hid (HX.out.keys.below b5)
                have HBW := Lib.hid (HBK.out.trans (But.of (b5.mono hbzr)))
                have HKP := Lib.hid (HKK.out.trans (Keeps.below b5))
                clear h5 b5 hg5 HPK RX
                try simp only [Act.put]
                refine wp_region_held_drew (S := fun w' => PStep Bq qb w5 w') (by kernel_rfl) (⟨But.of (below_drew (Below.refl _ _)), fun _ _ _ _ _ _ _ _ => rfl⟩) (fun hHeld => ?_)
                refine take_at (i := 0) (v := ?_) rfl rfl (by kernel_rfl) (by kernel_rfl) (by kernel_rfl) (fun _ _ _ h => h) (Or.inl ⟨by rfl, ?_⟩) (by assumption) ?_
                rotate_left
                · intro w0 hSw; (try dsimp only at hSw); first | (go_simp; done) | (go_simp; with_reducible rfl)
                simp only [List.setIfInBounds_toArray, List.set_cons_zero, List.set_cons_succ]
                refine take_at (i := 1) rfl rfl (by kernel_rfl) (by kernel_rfl) (by kernel_rfl) (fun _ _ _ h => h) (yields_cell (by rfl) rfl rfl (b := g5) (o := 0) (fun w0 hSw => way_keys (range_of (kept_way hSw.2 H5.out))) Tryd.isAgg22) (by assumption) ?_
                simp only [List.setIfInBounds_toArray, List.set_cons_zero, List.set_cons_succ]
                refine take_at (i := 2) (v := ?_) rfl rfl (by kernel_rfl) (by kernel_rfl) (by kernel_rfl) (fun _ _ _ h => h) (Or.inl ⟨by rfl, ?_⟩) (by assumption) ?_
                rotate_left
                · intro w0 hSw; (try dsimp only at hSw); first | (go_simp; done) | (go_simp; with_reducible rfl)
                simp only [List.setIfInBounds_toArray, List.set_cons_zero, List.set_cons_succ]
                refine take_at (i := 4) (v := ?_) rfl rfl (by kernel_rfl) (by kernel_rfl) (by kernel_rfl) (fun _ _ _ h => h) (Or.inl ⟨by rfl, ?_⟩) (by assumption) ?_
                rotate_left
                · intro w0 hSw; (try dsimp only at hSw); first | (go_simp; done) | (go_simp; with_reducible rfl)
                simp only [List.setIfInBounds_toArray, List.set_cons_zero, List.set_cons_succ]
                refine take_at (i := 5) rfl rfl (by kernel_rfl) (by kernel_rfl) (by kernel_rfl) (fun _ _ _ h => h) (yields_cell (by rfl) rfl rfl (b := g5) (o := 0) (fun w0 hSw => way_keys (range_of (kept_way hSw.2 H5.out))) Tryd.isAgg22) (by assumption) ?_
                simp only [List.setIfInBounds_toArray, List.set_cons_zero, List.set_cons_succ]
                refine take_at (i := 7) (v := ?_) rfl rfl (by kernel_rfl) (by kernel_rfl) (by kernel_rfl) (fun _ _ _ h => h) (Or.inl ⟨by rfl, ?_⟩) (by assumption) ?_
                rotate_left
                · intro w0 hSw; (try dsimp only at hSw); first | (go_simp; done) | (go_simp; with_reducible rfl)
                simp only [List.setIfInBounds_toArray, List.set_cons_zero, List.set_cons_succ]
                refine take_at (i := 8) rfl rfl (by kernel_rfl) (by kernel_rfl) (by kernel_rfl) (fun _ _ _ h => h) (yieldsIf_load_mid (by rfl) _ _ rfl g5 1 rfl (cellsOf x.h) _ (fun w0 hSw => way_sum HXS.out (range_of (kept_way hSw.2 H5.out))) Tryd.underlying24 rfl SXH.out) (by assumption) ?_
                simp only [List.setIfInBounds_toArray, List.set_cons_zero, List.set_cons_succ]
                refine take_at (i := 10) (v := ?_) rfl rfl (by kernel_rfl) (by kernel_rfl) (by kernel_rfl) (fun _ _ _ h => h) (Or.inl ⟨by rfl, ?_⟩) (by assumption) ?_
                rotate_left
                · intro w0 hSw; (try dsimp only at hSw); first | (go_simp; done) | (go_simp; with_reducible rfl)
                simp only [List.setIfInBounds_toArray, List.set_cons_zero, List.set_cons_succ]
                refine take_at (i := 11) rfl rfl (by kernel_rfl) (by kernel_rfl) (by kernel_rfl) (fun _ _ _ h => h) (yields_cell (by rfl) rfl rfl (b := g5) (o := 33) (fun w0 hSw => way_after HXS.out (range_of (kept_way hSw.2 H5.out))) Tryd.isAgg3) (by assumption) ?_
                simp only [List.setIfInBounds_toArray, List.set_cons_zero, List.set_cons_succ]
                refine take_at (i := 12) (v := ?_) rfl rfl (by kernel_rfl) (by kernel_rfl) (by kernel_rfl) (fun _ _ _ h => h) (Or.inl ⟨by rfl, ?_⟩) (by assumption) ?_
                rotate_left
                · intro w0 hSw; (try dsimp only at hSw); first | (go_simp; done) | (go_simp; with_reducible rfl)
                simp only [List.setIfInBounds_toArray, List.set_cons_zero, List.set_cons_succ]
                refine take_at (i := 13) rfl rfl (by kernel_rfl) (by kernel_rfl) (by kernel_rfl) (fun _ _ _ h => h) (yields_cell (by rfl) rfl rfl (b := g5) (o := 34) (fun w0 hSw => way_wait HXS.out (range_of (kept_way hSw.2 H5.out))) Tryd.isAgg3) (by assumption) ?_
                simp only [List.setIfInBounds_toArray, List.set_cons_zero, List.set_cons_succ]
                refine wpAnyH_ready (rs := [3, 14]) (by kernel_rfl) (by simp) ?_
                refine AllReadyH.cons rfl (fun K hK => ?_) ?_
                · have HZw5drew : Hid (Bq ≤ (w5.drew).heap.size) := Lib.hid (Nat.le_trans hbz5 hHeld.1.size)
                  have hHbw5drew : Hid (But Bq qb w5 (w5.drew)) := Lib.hid hHeld.1
                  have HLENw5drew : Hid ((P).length + 0 ≤ P.length + (wayB x).length) := Lib.hid (by rw [WB.out]; simp only [List.length_append]; omega)
                  go_simp
                  go_wp2_with ((go_at_call 21; (with_reducible refine (pnum_typed (x.n : Int) HPEN0.out HZw5drew.out (by have h0 := HLW.out; have h1 := HLENw5drew.out; omega) hx63).mono ?_); rintro e y3 ⟨rfl, hp, hb, hk⟩; have HPy3 := Lib.hid hp; have HSy3 : Hid (PStep Bq qb _ y3) := Lib.hid ⟨hb, hk⟩; clear hp hb hk))
                  refine hK.out _ _ (by (try dsimp only); exact ⟨hHeld.1.trans HSy3.out.1, hHeld.2.trans HSy3.out.2⟩) (fun hHeld => ?_)
                  clear hK K
                  refine wpAnyH_ready (rs := [6, 14]) (by kernel_rfl) (by simp) ?_
                  refine AllReadyH.cons rfl (fun K hK => ?_) ?_
                  · have HZy3 : Hid (Bq ≤ (y3).heap.size) := Lib.hid (Nat.le_trans hbz5 hHeld.1.size)
                    have hHby3 : Hid (But Bq qb w5 (y3)) := Lib.hid hHeld.1
                    have HLENy3 : Hid (((P ++ (numB (x.n : Int)))).length + 0 ≤ P.length + (wayB x).length) := Lib.hid (by rw [WB.out]; simp only [List.length_append]; omega)
                    go_simp
                    go_wp2_with ((go_at_call 20; (with_reducible refine (pnums_olds HKX.out HOX.out (hHby3.out) HPy3.out HZy3.out hx1000 (by have h0 := HLW.out; have h1 := HLENy3.out; omega)).mono ?_); rintro e y6 ⟨rfl, hp, hb, hk⟩; have HPy6 := Lib.hid hp; have HSy6 : Hid (PStep Bq qb _ y6) := Lib.hid ⟨hb, hk⟩; clear hp hb hk))
                    refine hK.out _ _ (by (try dsimp only); exact ⟨hHeld.1.trans HSy6.out.1, hHeld.2.trans HSy6.out.2⟩) (fun hHeld => ?_)
                    clear hK K
                    refine wpAnyH_ready (rs := [9, 14]) (by kernel_rfl) (by simp) ?_
                    refine AllReadyH.cons rfl (fun K hK => ?_) ?_
                    · have HZy6 : Hid (Bq ≤ (y6).heap.size) := Lib.hid (Nat.le_trans hbz5 hHeld.1.size)
                      have hHby6 : Hid (But Bq qb w5 (y6)) := Lib.hid hHeld.1
                      have HLENy6 : Hid ((((P ++ (numB (x.n : Int))) ++ (numsB x.ks))).length + 0 ≤ P.length + (wayB x).length) := Lib.hid (by rw [WB.out]; simp only [List.length_append]; omega)
                      go_simp
                      go_wp2_with ((go_at_call 22; (with_reducible refine (psum_typed _ HXS.out HPy6.out HZy6.out (by have h0 := HLW.out; have h1 := HLENy6.out; omega)).mono ?_); rintro e y9 ⟨rfl, hp, hb, hk⟩; have HPy9 := Lib.hid hp; have HSy9 : Hid (PStep Bq qb _ y9) := Lib.hid ⟨hb, hk⟩; clear hp hb hk))
                      refine hK.out _ _ (by (try dsimp only); exact ⟨hHeld.1.trans HSy9.out.1, hHeld.2.trans HSy9.out.2⟩) (fun hHeld => ?_)
                      clear hK K
                      refine wpAnyH_ready (rs := [14]) (by kernel_rfl) (by simp) ?_
                      refine AllReadyH.cons rfl (fun K hK => ?_) ?_
                      · refine step_two_gen (d := 69) (y := x.after) (z := x.wait) rfl (by rfl) rfl (by rfl) (by rfl) ?_
                        intro p z3 hgp hlit hbl
                        have LIT := Lib.hid hlit
                        have HPz3 := Lib.hid (PenAt.below HPy9.out (Nat.le_trans hbz5 hHeld.1.size) hbl)
                        have HSz3 : Hid (PStep Bq qb _ z3) := Lib.hid ⟨But.of (hbl.mono (Nat.le_trans hbz5 hHeld.1.size)), Keeps.below hbl⟩
                        clear hlit hbl hgp
                        refine hK.out _ _ (by (try dsimp only); exact ⟨hHeld.1.trans HSz3.out.1, hHeld.2.trans HSz3.out.2⟩) (fun hHeld => ?_)
                        clear hK K
                        refine wpAnyH_ready (rs := [15]) (by kernel_rfl) (by simp) ?_
                        refine AllReadyH.cons rfl (fun K hK => ?_) ?_
                        · have HZz3 : Hid (Bq ≤ (z3).heap.size) := Lib.hid (Nat.le_trans hbz5 hHeld.1.size)
                          have hHbz3 : Hid (But Bq qb w5 (z3)) := Lib.hid hHeld.1
                          have HLENz3 : Hid (((((P ++ (numB (x.n : Int))) ++ (numsB x.ks)) ++ x.h)).length + 0 ≤ P.length + (wayB x).length) := Lib.hid (by rw [WB.out]; simp only [List.length_append]; omega)
                          go_simp
                          go_wp2_with ((go_at_call 20; (with_reducible refine (pnums_typed (n := 2) (c := 2) (off := 0) _ rfl (Nat.le_refl _) (by unfold maxLen; omega) (two_small HXA.out HXW.out) (lit2 LIT.out) HPz3.out HZz3.out (by omega) (by have h0 := HLW.out; have h1 := HLENz3.out; omega)).mono ?_); rintro e y15b ⟨rfl, hp, hb, hk⟩; have HPy15b := Lib.hid hp; have HSy15b : Hid (PStep Bq qb _ y15b) := Lib.hid ⟨hb, hk⟩; clear hp hb hk))
                          refine hK.out _ _ (by (try dsimp only); exact ⟨hHeld.1.trans HSy15b.out.1, hHeld.2.trans HSy15b.out.2⟩) (fun hHeld => ?_)
                          clear hK K
                          refine wpAnyH_done (by kernel_rfl) ?_ _
                          have HS := Lib.hid (show PStep Bq qb w5 y15b from hHeld)
                          clear hHeld
                          have HPE : Hid (PenAt y15b Bq qb (numsB [m, (n : Int)] ++ waysB (xs.take (k + 1)))) := Lib.hid (by have h9 := HPy15b.out; rw [HNX.out, WB.out]; simpa only [List.append_assoc] using h9)
                          go_wp2_with fail
                          go_roundw
                          case rel => exact ⟨k + 1, by omega, by go_num, HPE.out, HBW.out.trans HS.out.1, HKP.out.trans HS.out.2⟩
                          case measure => simp [intOf]; omega
                        exact AllReadyH.nil
                      exact AllReadyH.nil
                    refine AllReadyH.cons rfl (fun K hK => ?_) ?_
                    · refine step_two_gen (d := 69) (y := x.after) (z := x.wait) rfl (by rfl) rfl (by rfl) (by rfl) ?_
                      intro p z2 hgp hlit hbl
                      have LIT := Lib.hid hlit
                      have HPz2 := Lib.hid (PenAt.below HPy6.out (Nat.le_trans hbz5 hHeld.1.size) hbl)
                      have HSz2 : Hid (PStep Bq qb _ z2) := Lib.hid ⟨But.of (hbl.mono (Nat.le_trans hbz5 hHeld.1.size)), Keeps.below hbl⟩
                      clear hlit hbl hgp
                      refine hK.out _ _ (by (try dsimp only); exact ⟨hHeld.1.trans HSz2.out.1, hHeld.2.trans HSz2.out.2⟩) (fun hHeld => ?_)
                      clear hK K
                      refine wpAnyH_ready (rs := [9]) (by kernel_rfl) (by simp) ?_
                      refine AllReadyH.cons rfl (fun K hK => ?_) ?_
                      · have HZz2 : Hid (Bq ≤ (z2).heap.size) := Lib.hid (Nat.le_trans hbz5 hHeld.1.size)
                        have hHbz2 : Hid (But Bq qb w5 (z2)) := Lib.hid hHeld.1
                        have HLENz2 : Hid ((((P ++ (numB (x.n : Int))) ++ (numsB x.ks))).length + 0 ≤ P.length + (wayB x).length) := Lib.hid (by rw [WB.out]; simp only [List.length_append]; omega)
                        go_simp
                        go_wp2_with ((go_at_call 22; (with_reducible refine (psum_typed _ HXS.out HPz2.out HZz2.out (by have h0 := HLW.out; have h1 := HLENz2.out; omega)).mono ?_); rintro e y9b ⟨rfl, hp, hb, hk⟩; have HPy9b := Lib.hid hp; have HSy9b : Hid (PStep Bq qb _ y9b) := Lib.hid ⟨hb, hk⟩; clear hp hb hk))
                        have LIT0 := LIT.out
                        have LIT := Lib.hid (kept_int HSy9b.out.2 LIT0)
                        clear LIT0
                        refine hK.out _ _ (by (try dsimp only); exact ⟨hHeld.1.trans HSy9b.out.1, hHeld.2.trans HSy9b.out.2⟩) (fun hHeld => ?_)
                        clear hK K
                        refine wpAnyH_ready (rs := [15]) (by kernel_rfl) (by simp) ?_
                        refine AllReadyH.cons rfl (fun K hK => ?_) ?_
                        · have HZy9b : Hid (Bq ≤ (y9b).heap.size) := Lib.hid (Nat.le_trans hbz5 hHeld.1.size)
                          have hHby9b : Hid (But Bq qb w5 (y9b)) := Lib.hid hHeld.1
                          have HLENy9b : Hid (((((P ++ (numB (x.n : Int))) ++ (numsB x.ks)) ++ x.h)).length + 0 ≤ P.length + (wayB x).length) := Lib.hid (by rw [WB.out]; simp only [List.length_append]; omega)
                          go_simp
                          go_wp2_with ((go_at_call 20; (with_reducible refine (pnums_typed (n := 2) (c := 2) (off := 0) _ rfl (Nat.le_refl _) (by unfold maxLen; omega) (two_small HXA.out HXW.out) (lit2 LIT.out) HPy9b.out HZy9b.out (by omega) (by have h0 := HLW.out; have h1 := HLENy9b.out; omega)).mono ?_); rintro e y15b ⟨rfl, hp, hb, hk⟩; have HPy15b := Lib.hid hp; have HSy15b : Hid (PStep Bq qb _ y15b) := Lib.hid ⟨hb, hk⟩; clear hp hb hk))
                          refine hK.out _ _ (by (try dsimp only); exact ⟨hHeld.1.trans HSy15b.out.1, hHeld.2.trans HSy15b.out.2⟩) (fun hHeld => ?_)
                          clear hK K
                          refine wpAnyH_done (by kernel_rfl) ?_ _
                          have HS := Lib.hid (show PStep Bq qb w5 y15b from hHeld)
                          clear hHeld
                          have HPE : Hid (PenAt y15b Bq qb (numsB [m, (n : Int)] ++ waysB (xs.take (k + 1)))) := Lib.hid (by have h9 := HPy15b.out; rw [HNX.out, WB.out]; simpa only [List.append_assoc] using h9)
                          go_wp2_with fail
                          go_roundw
                          case rel => exact ⟨k + 1, by omega, by go_num, HPE.out, HBW.out.trans HS.out.1, HKP.out.trans HS.out.2⟩
                          case measure => simp [intOf]; omega
                        exact AllReadyH.nil
                      exact AllReadyH.nil
                    exact AllReadyH.nil
                  refine AllReadyH.cons rfl (fun K hK => ?_) ?_
                  · refine step_two_gen (d := 69) (y := x.after) (z := x.wait) rfl (by rfl) rfl (by rfl) (by rfl) ?_
                    intro p z1 hgp hlit hbl
                    have LIT := Lib.hid hlit
                    have HPz1 := Lib.hid (PenAt.below HPy3.out (Nat.le_trans hbz5 hHeld.1.size) hbl)
                    have HSz1 : Hid (PStep Bq qb _ z1) := Lib.hid ⟨But.of (hbl.mono (Nat.le_trans hbz5 hHeld.1.size)), Keeps.below hbl⟩
                    clear hlit hbl hgp
                    refine hK.out _ _ (by (try dsimp only); exact ⟨hHeld.1.trans HSz1.out.1, hHeld.2.trans HSz1.out.2⟩) (fun hHeld => ?_)
                    clear hK K
                    refine wpAnyH_ready (rs := [6]) (by kernel_rfl) (by simp) ?_
                    refine AllReadyH.cons rfl (fun K hK => ?_) ?_
                    · have HZz1 : Hid (Bq ≤ (z1).heap.size) := Lib.hid (Nat.le_trans hbz5 hHeld.1.size)
                      have hHbz1 : Hid (But Bq qb w5 (z1)) := Lib.hid hHeld.1
                      have HLENz1 : Hid (((P ++ (numB (x.n : Int)))).length + 0 ≤ P.length + (wayB x).length) := Lib.hid (by rw [WB.out]; simp only [List.length_append]; omega)
                      go_simp
                      go_wp2_with ((go_at_call 20; (with_reducible refine (pnums_olds HKX.out HOX.out (hHbz1.out) HPz1.out HZz1.out hx1000 (by have h0 := HLW.out; have h1 := HLENz1.out; omega)).mono ?_); rintro e y6b ⟨rfl, hp, hb, hk⟩; have HPy6b := Lib.hid hp; have HSy6b : Hid (PStep Bq qb _ y6b) := Lib.hid ⟨hb, hk⟩; clear hp hb hk))
                      have LIT0 := LIT.out
                      have LIT := Lib.hid (kept_int HSy6b.out.2 LIT0)
                      clear LIT0
                      refine hK.out _ _ (by (try dsimp only); exact ⟨hHeld.1.trans HSy6b.out.1, hHeld.2.trans HSy6b.out.2⟩) (fun hHeld => ?_)
                      clear hK K
                      refine wpAnyH_ready (rs := [9]) (by kernel_rfl) (by simp) ?_
                      refine AllReadyH.cons rfl (fun K hK => ?_) ?_
                      · have HZy6b : Hid (Bq ≤ (y6b).heap.size) := Lib.hid (Nat.le_trans hbz5 hHeld.1.size)
                        have hHby6b : Hid (But Bq qb w5 (y6b)) := Lib.hid hHeld.1
                        have HLENy6b : Hid ((((P ++ (numB (x.n : Int))) ++ (numsB x.ks))).length + 0 ≤ P.length + (wayB x).length) := Lib.hid (by rw [WB.out]; simp only [List.length_append]; omega)
                        go_simp
                        go_wp2_with ((go_at_call 22; (with_reducible refine (psum_typed _ HXS.out HPy6b.out HZy6b.out (by have h0 := HLW.out; have h1 := HLENy6b.out; omega)).mono ?_); rintro e y9b ⟨rfl, hp, hb, hk⟩; have HPy9b := Lib.hid hp; have HSy9b : Hid (PStep Bq qb _ y9b) := Lib.hid ⟨hb, hk⟩; clear hp hb hk))
                        have LIT0 := LIT.out
                        have LIT := Lib.hid (kept_int HSy9b.out.2 LIT0)
                        clear LIT0
                        refine hK.out _ _ (by (try dsimp only); exact ⟨hHeld.1.trans HSy9b.out.1, hHeld.2.trans HSy9b.out.2⟩) (fun hHeld => ?_)
                        clear hK K
                        refine wpAnyH_ready (rs := [15]) (by kernel_rfl) (by simp) ?_
                        refine AllReadyH.cons rfl (fun K hK => ?_) ?_
                        · have HZy9b : Hid (Bq ≤ (y9b).heap.size) := Lib.hid (Nat.le_trans hbz5 hHeld.1.size)
                          have hHby9b : Hid (But Bq qb w5 (y9b)) := Lib.hid hHeld.1
                          have HLENy9b : Hid (((((P ++ (numB (x.n : Int))) ++ (numsB x.ks)) ++ x.h)).length + 0 ≤ P.length + (wayB x).length) := Lib.hid (by rw [WB.out]; simp only [List.length_append]; omega)
                          go_simp
                          go_wp2_with ((go_at_call 20; (with_reducible refine (pnums_typed (n := 2) (c := 2) (off := 0) _ rfl (Nat.le_refl _) (by unfold maxLen; omega) (two_small HXA.out HXW.out) (lit2 LIT.out) HPy9b.out HZy9b.out (by omega) (by have h0 := HLW.out; have h1 := HLENy9b.out; omega)).mono ?_); rintro e y15b ⟨rfl, hp, hb, hk⟩; have HPy15b := Lib.hid hp; have HSy15b : Hid (PStep Bq qb _ y15b) := Lib.hid ⟨hb, hk⟩; clear hp hb hk))
                          refine hK.out _ _ (by (try dsimp only); exact ⟨hHeld.1.trans HSy15b.out.1, hHeld.2.trans HSy15b.out.2⟩) (fun hHeld => ?_)
                          clear hK K
                          refine wpAnyH_done (by kernel_rfl) ?_ _
                          have HS := Lib.hid (show PStep Bq qb w5 y15b from hHeld)
                          clear hHeld
                          have HPE : Hid (PenAt y15b Bq qb (numsB [m, (n : Int)] ++ waysB (xs.take (k + 1)))) := Lib.hid (by have h9 := HPy15b.out; rw [HNX.out, WB.out]; simpa only [List.append_assoc] using h9)
                          go_wp2_with fail
                          go_roundw
                          case rel => exact ⟨k + 1, by omega, by go_num, HPE.out, HBW.out.trans HS.out.1, HKP.out.trans HS.out.2⟩
                          case measure => simp [intOf]; omega
                        exact AllReadyH.nil
                      exact AllReadyH.nil
                    exact AllReadyH.nil
                  exact AllReadyH.nil
                refine AllReadyH.cons rfl (fun K hK => ?_) ?_
                · refine step_two_gen (d := 69) (y := x.after) (z := x.wait) rfl (by rfl) rfl (by rfl) (by rfl) ?_
                  intro p z0 hgp hlit hbl
                  have LIT := Lib.hid hlit
                  have HPz0 := Lib.hid (PenAt.below HPEN0.out (Nat.le_trans hbz5 hHeld.1.size) hbl)
                  have HSz0 : Hid (PStep Bq qb _ z0) := Lib.hid ⟨But.of (hbl.mono (Nat.le_trans hbz5 hHeld.1.size)), Keeps.below hbl⟩
                  clear hlit hbl hgp
                  refine hK.out _ _ (by (try dsimp only); exact ⟨hHeld.1.trans HSz0.out.1, hHeld.2.trans HSz0.out.2⟩) (fun hHeld => ?_)
                  clear hK K
                  refine wpAnyH_ready (rs := [3]) (by kernel_rfl) (by simp) ?_
                  refine AllReadyH.cons rfl (fun K hK => ?_) ?_
                  · have HZz0 : Hid (Bq ≤ (z0).heap.size) := Lib.hid (Nat.le_trans hbz5 hHeld.1.size)
                    have hHbz0 : Hid (But Bq qb w5 (z0)) := Lib.hid hHeld.1
                    have HLENz0 : Hid ((P).length + 0 ≤ P.length + (wayB x).length) := Lib.hid (by rw [WB.out]; simp only [List.length_append]; omega)
                    go_simp
                    go_wp2_with ((go_at_call 21; (with_reducible refine (pnum_typed (x.n : Int) HPz0.out HZz0.out (by have h0 := HLW.out; have h1 := HLENz0.out; omega) hx63).mono ?_); rintro e y3b ⟨rfl, hp, hb, hk⟩; have HPy3b := Lib.hid hp; have HSy3b : Hid (PStep Bq qb _ y3b) := Lib.hid ⟨hb, hk⟩; clear hp hb hk))
                    have LIT0 := LIT.out
                    have LIT := Lib.hid (kept_int HSy3b.out.2 LIT0)
                    clear LIT0
                    refine hK.out _ _ (by (try dsimp only); exact ⟨hHeld.1.trans HSy3b.out.1, hHeld.2.trans HSy3b.out.2⟩) (fun hHeld => ?_)
                    clear hK K
                    refine wpAnyH_ready (rs := [6]) (by kernel_rfl) (by simp) ?_
                    refine AllReadyH.cons rfl (fun K hK => ?_) ?_
                    · have HZy3b : Hid (Bq ≤ (y3b).heap.size) := Lib.hid (Nat.le_trans hbz5 hHeld.1.size)
                      have hHby3b : Hid (But Bq qb w5 (y3b)) := Lib.hid hHeld.1
                      have HLENy3b : Hid (((P ++ (numB (x.n : Int)))).length + 0 ≤ P.length + (wayB x).length) := Lib.hid (by rw [WB.out]; simp only [List.length_append]; omega)
                      go_simp
                      go_wp2_with ((go_at_call 20; (with_reducible refine (pnums_olds HKX.out HOX.out (hHby3b.out) HPy3b.out HZy3b.out hx1000 (by have h0 := HLW.out; have h1 := HLENy3b.out; omega)).mono ?_); rintro e y6b ⟨rfl, hp, hb, hk⟩; have HPy6b := Lib.hid hp; have HSy6b : Hid (PStep Bq qb _ y6b) := Lib.hid ⟨hb, hk⟩; clear hp hb hk))
                      have LIT0 := LIT.out
                      have LIT := Lib.hid (kept_int HSy6b.out.2 LIT0)
                      clear LIT0
                      refine hK.out _ _ (by (try dsimp only); exact ⟨hHeld.1.trans HSy6b.out.1, hHeld.2.trans HSy6b.out.2⟩) (fun hHeld => ?_)
                      clear hK K
                      refine wpAnyH_ready (rs := [9]) (by kernel_rfl) (by simp) ?_
                      refine AllReadyH.cons rfl (fun K hK => ?_) ?_
                      · have HZy6b : Hid (Bq ≤ (y6b).heap.size) := Lib.hid (Nat.le_trans hbz5 hHeld.1.size)
                        have hHby6b : Hid (But Bq qb w5 (y6b)) := Lib.hid hHeld.1
                        have HLENy6b : Hid ((((P ++ (numB (x.n : Int))) ++ (numsB x.ks))).length + 0 ≤ P.length + (wayB x).length) := Lib.hid (by rw [WB.out]; simp only [List.length_append]; omega)
                        go_simp
                        go_wp2_with ((go_at_call 22; (with_reducible refine (psum_typed _ HXS.out HPy6b.out HZy6b.out (by have h0 := HLW.out; have h1 := HLENy6b.out; omega)).mono ?_); rintro e y9b ⟨rfl, hp, hb, hk⟩; have HPy9b := Lib.hid hp; have HSy9b : Hid (PStep Bq qb _ y9b) := Lib.hid ⟨hb, hk⟩; clear hp hb hk))
                        have LIT0 := LIT.out
                        have LIT := Lib.hid (kept_int HSy9b.out.2 LIT0)
                        clear LIT0
                        refine hK.out _ _ (by (try dsimp only); exact ⟨hHeld.1.trans HSy9b.out.1, hHeld.2.trans HSy9b.out.2⟩) (fun hHeld => ?_)
                        clear hK K
                        refine wpAnyH_ready (rs := [15]) (by kernel_rfl) (by simp) ?_
                        refine AllReadyH.cons rfl (fun K hK => ?_) ?_
                        · have HZy9b : Hid (Bq ≤ (y9b).heap.size) := Lib.hid (Nat.le_trans hbz5 hHeld.1.size)
                          have hHby9b : Hid (But Bq qb w5 (y9b)) := Lib.hid hHeld.1
                          have HLENy9b : Hid (((((P ++ (numB (x.n : Int))) ++ (numsB x.ks)) ++ x.h)).length + 0 ≤ P.length + (wayB x).length) := Lib.hid (by rw [WB.out]; simp only [List.length_append]; omega)
                          go_simp
                          go_wp2_with ((go_at_call 20; (with_reducible refine (pnums_typed (n := 2) (c := 2) (off := 0) _ rfl (Nat.le_refl _) (by unfold maxLen; omega) (two_small HXA.out HXW.out) (lit2 LIT.out) HPy9b.out HZy9b.out (by omega) (by have h0 := HLW.out; have h1 := HLENy9b.out; omega)).mono ?_); rintro e y15b ⟨rfl, hp, hb, hk⟩; have HPy15b := Lib.hid hp; have HSy15b : Hid (PStep Bq qb _ y15b) := Lib.hid ⟨hb, hk⟩; clear hp hb hk))
                          refine hK.out _ _ (by (try dsimp only); exact ⟨hHeld.1.trans HSy15b.out.1, hHeld.2.trans HSy15b.out.2⟩) (fun hHeld => ?_)
                          clear hK K
                          refine wpAnyH_done (by kernel_rfl) ?_ _
                          have HS := Lib.hid (show PStep Bq qb w5 y15b from hHeld)
                          clear hHeld
                          have HPE : Hid (PenAt y15b Bq qb (numsB [m, (n : Int)] ++ waysB (xs.take (k + 1)))) := Lib.hid (by have h9 := HPy15b.out; rw [HNX.out, WB.out]; simpa only [List.append_assoc] using h9)
                          go_wp2_with fail
                          go_roundw
                          case rel => exact ⟨k + 1, by omega, by go_num, HPE.out, HBW.out.trans HS.out.1, HKP.out.trans HS.out.2⟩
                          case measure => simp [intOf]; omega
                        exact AllReadyH.nil
                      exact AllReadyH.nil
                    exact AllReadyH.nil
                  exact AllReadyH.nil
                exact AllReadyH.nil
              · obtain rfl : k = n := by omega
                have f1 : ¬ ((k : Int) < (k : Int)) := by omega
                have htk : xs.take k = xs := List.take_of_length_le (by rw [H.out.1]; exact Nat.le_refl _)
                obtain ⟨L, hL⟩ : ∃ L, L = outB m xs := ⟨_, rfl⟩
                have HQR : Hid (PenAt wr Bq qb L) := Lib.hid (by
                  have h9 := HPK.out
                  rw [htk] at h9
                  rw [hL]
                  unfold outB
                  rw [H.out.1]
                  exact h9)
                rw [← hL] at HP4 HFL
                have HLD := Lib.hid hL
                have HPR : Hid (PenAt wr w3.heap.size pb L) := Lib.hid (HP4.out.other (by rw [← HBQ.out]; exact HBK.out) hpq HQ4.out)
                have HBR : Hid (Below w.heap.size w wr) := Lib.hid (HB34.out.trans ((HBK.out.mono hwB).below hwq))
                have RGR : Hid (wr.rangeAt g 0 [.int .i64 m, .slice a k c]) := Lib.hid (fun j v hv => (HBK.out.cell (a := ⟨g, 0 + j, none⟩) hgB hgq).trans (RG4.out j v hv))
                have hgr : g < wr.heap.size := by omega
                have HLL : Hid (L.length ≤ 140737488355328) := Lib.hid (by have := HFL.out; omega)
                have hz3 : w3.heap.size ≤ wr.heap.size := Nat.le_trans hzB hbzr
                clear htk hL HPK HP4 HB34 RG4 HQ4 HBK HKK hqlt HFL
                go_wp2_with fail
                clear c1
                refine (bytes_any HPR.out HLL.out).mono ?_
                rintro e w6 ⟨a6, n6, c6, rfl, hr6, _, hb6⟩
                have hn6 : n6 ≤ 140737488355328 := by rw [← hr6.1]; exact HLL.out
                have HLK := Lib.hid (look_any hr6 hn6)
                have HB6 := Lib.hid hb6
                clear hr6 hb6 hn6
                go_wp2_with fail
                refine HLK.out.mono ?_
                rintro e w7 ⟨yb, rfl, hyb, he7, hb7⟩
                have HGT := Lib.hid (lockGet_st (s := (L, 0)) he7 HLL.out)
                have HB7 := Lib.hid hb7
                clear he7 hb7 HLK
                go_wp2_with fail
                refine HGT.out.mono ?_
                rintro e w7b ⟨a9, n9, c9, zs, rfl, hws, _, _, hmap, he9, hb9⟩
                obtain ⟨m9, qs, s9, hR⟩ : ∃ m9 qs s9, outR (L, 0) = ((m9, qs), s9) := ⟨_, _, _, rfl⟩
                rw [hR] at hmap he9 ⊢
                dsimp only at hmap he9 ⊢
                have HRR := Lib.hid hR
                have HMAP := Lib.hid hmap
                have hb69 : Below w6.heap.size w6 w7b := HB7.out.trans ((hb9.mono HB7.out.size).below hyb)
                have hbr9 : Below wr.heap.size wr w7b := HB6.out.trans (hb69.mono HB6.out.size)
                have HBR9 := Lib.hid hbr9
                have HZS := Lib.hid hws
                have HE9 := Lib.hid he9
                clear hR hmap hws he9 hb9 HGT HB6 HB7 hb69 hbr9
                go_upto_region 15 with (fail)
                have b8 : Below w7b.heap.size w7b (w7b.alloc (.cells #[.int .i64 m9, .slice a9 n9 c9] 38)) := (Below.refl _ _).alloc (Nat.le_refl _) _
                have h8 := heap_alloc_new w7b (.cells #[.int .i64 m9, .slice a9 n9 c9] 38)
                revert b8 h8
                generalize (w7b.alloc (.cells #[.int .i64 m9, .slice a9 n9 c9] 38)) = w8
                obtain ⟨gx, hgx⟩ : ∃ gx, gx = w7b.heap.size := ⟨_, rfl⟩
                rw [← hgx]
                intro b8 h8
                rw [hgx] at b8
                have hb8 := HBR9.out.trans (b8.mono HBR9.out.size)
                have HP8 := Lib.hid (HPR.out.below hz3 hb8)
                have HQ8 := Lib.hid (HQR.out.below hbzr hb8)
                have RG8 := Lib.hid (rangeAt_below RGR.out hgr hb8)
                have hg8 : g < w8.heap.size := Nat.lt_of_lt_of_le hgr hb8.size
                have hx8 := lt_of_block h8
                have RX8 := Lib.hid (range_of (cs := [.int .i64 m9, .slice a9 n9 c9]) h8)
                have HZ8 := Lib.hid (HZS.out.below b8)
                have HE8 := Lib.hid (HE9.out.below b8)
                have HB8 := Lib.hid (HBR.out.trans (hb8.mono HBR.out.size))
                have HW8 := Lib.hid (H.out.below HB8.out)
                have HK8 := Lib.hid (HK.out.below HB8.out)
                have hzp : w3.heap.size ≤ w8.heap.size := Nat.le_trans hz3 hb8.size
                have hzq : Bq ≤ w8.heap.size := Nat.le_trans hbzr hb8.size
                have HBP := Lib.hid (fun (W : World) (hW : Below w8.heap.size w8 W) => bytes_any (HP8.out.below hzp hW) HLL.out)
                have HBQ := Lib.hid (fun (W : World) (hW : Below w8.heap.size w8 W) => bytes_any (HQ8.out.below hzq hW) HLL.out)
                obtain ⟨bs, hbs⟩ : ∃ bs : ByteArray, (⟨L.toArray⟩ : ByteArray) = bs := ⟨_, rfl⟩
                have HBS := Lib.hid hbs
                clear b8 h8 hgx hb8 hbs HBR9 HZS HE9 HPR HQR RGR HBR
                try simp only [Act.put]
                go_cut [79] from 11 to 78 (fun u w' => u = .bool false ∧ Below w8.heap.size w8 w')
                case first =>
                  refine wp_region_held_drew (S := fun w' => Below w8.heap.size w8 w') (by kernel_rfl) (below_drew (Below.refl _ _)) (fun hHeld => ?_)
                  refine wpAnyH_ready (rs := [0]) (by kernel_rfl) (by simp) ?_
                  refine AllReadyH.cons rfl (fun K hK => ?_) ?_
                  · have hS0 : Below w8.heap.size w8 w8.drew := hHeld
                    have HC0 := Lib.hid (HBP.out _ hS0)
                    clear hS0
                    go_simp
                    go_wp2_with ((go_at_call 24; (with_reducible refine (HC0.out).mono ?_); rintro e y0 ⟨aRP, nRP, cRP, rfl, hr, _, hb0⟩; have RP := Lib.hid hr; have HX0 := Lib.hid hb0; clear hb0 hr))
                    refine hK.out _ _ (by (try dsimp only); exact Below.trans hHeld (HX0.out.mono (Below.size hHeld))) (fun hHeld => ?_)
                    clear hK K
                    refine wpAnyH_ready (rs := [1, 2]) (by kernel_rfl) (by simp) ?_
                    refine AllReadyH.cons rfl (fun K hK => ?_) ?_
                    · refine step_conv (d := 76) rfl (by rfl) rfl (by rfl) HBS.out RP.out ?_
                      refine hK.out _ _ (by (try dsimp only); exact hHeld) (fun hHeld => ?_)
                      clear hK K
                      refine wpAnyH_ready (rs := [2]) (by kernel_rfl) (by simp) ?_
                      refine AllReadyH.cons rfl (fun K hK => ?_) ?_
                      · have hS2 : Below w8.heap.size w8 y0 := hHeld
                        have HC2 := Lib.hid (HBQ.out _ hS2)
                        clear hS2
                        go_simp
                        go_wp2_with ((go_at_call 24; (with_reducible refine (HC2.out).mono ?_); rintro e y2 ⟨aRQ, nRQ, cRQ, rfl, hr, _, hb2⟩; have RQ := Lib.hid hr; have HX2 := Lib.hid hb2; clear hb2 hr))
                        refine hK.out _ _ (by (try dsimp only); exact Below.trans hHeld (HX2.out.mono (Below.size hHeld))) (fun hHeld => ?_)
                        clear hK K
                        refine wpAnyH_ready (rs := [3]) (by kernel_rfl) (by simp) ?_
                        refine AllReadyH.cons rfl (fun K hK => ?_) ?_
                        · refine step_conv (d := 78) rfl (by rfl) rfl (by rfl) HBS.out RQ.out ?_
                          refine hK.out _ _ (by (try dsimp only); exact hHeld) (fun hHeld => ?_)
                          clear hK K
                          refine take_at (i := 4) (v := .bool false) rfl rfl (by kernel_rfl) (by kernel_rfl) (by kernel_rfl) (fun _ _ _ h => h) (Or.inl ⟨by rfl, ?_⟩) (by assumption) ?_
                          · intro w0 hSw; (try dsimp only at hSw); first | (go_simp; done) | (go_simp; with_reducible rfl) | (go_simp; omega)
                          simp only [List.setIfInBounds_toArray, List.set_cons_zero, List.set_cons_succ]
                          refine wpAnyH_done (by kernel_rfl) ?_ _
                          have HS15 := Lib.hid (show Below w8.heap.size w8 y2 from hHeld)
                          clear hHeld
                          go_wp2_with fail
                          go_meet
                          exact ⟨rfl, HS15.out⟩
                        exact AllReadyH.nil
                      exact AllReadyH.nil
                    refine AllReadyH.cons rfl (fun K hK => ?_) ?_
                    · have hS2 : Below w8.heap.size w8 y0 := hHeld
                      have HC2 := Lib.hid (HBQ.out _ hS2)
                      clear hS2
                      go_simp
                      go_wp2_with ((go_at_call 24; (with_reducible refine (HC2.out).mono ?_); rintro e y2 ⟨aRQ, nRQ, cRQ, rfl, hr, _, hb2⟩; have RQ := Lib.hid hr; have HX2 := Lib.hid hb2; clear hb2 hr))
                      refine hK.out _ _ (by (try dsimp only); exact Below.trans hHeld (HX2.out.mono (Below.size hHeld))) (fun hHeld => ?_)
                      clear hK K
                      refine wpAnyH_ready (rs := [1, 3]) (by kernel_rfl) (by simp) ?_
                      refine AllReadyH.cons rfl (fun K hK => ?_) ?_
                      · refine step_conv (d := 76) rfl (by rfl) rfl (by rfl) HBS.out (RP.out.below HX2.out) ?_
                        refine hK.out _ _ (by (try dsimp only); exact hHeld) (fun hHeld => ?_)
                        clear hK K
                        refine wpAnyH_ready (rs := [3]) (by kernel_rfl) (by simp) ?_
                        refine AllReadyH.cons rfl (fun K hK => ?_) ?_
                        · refine step_conv (d := 78) rfl (by rfl) rfl (by rfl) HBS.out RQ.out ?_
                          refine hK.out _ _ (by (try dsimp only); exact hHeld) (fun hHeld => ?_)
                          clear hK K
                          refine take_at (i := 4) (v := .bool false) rfl rfl (by kernel_rfl) (by kernel_rfl) (by kernel_rfl) (fun _ _ _ h => h) (Or.inl ⟨by rfl, ?_⟩) (by assumption) ?_
                          · intro w0 hSw; (try dsimp only at hSw); first | (go_simp; done) | (go_simp; with_reducible rfl) | (go_simp; omega)
                          simp only [List.setIfInBounds_toArray, List.set_cons_zero, List.set_cons_succ]
                          refine wpAnyH_done (by kernel_rfl) ?_ _
                          have HS15 := Lib.hid (show Below w8.heap.size w8 y2 from hHeld)
                          clear hHeld
                          go_wp2_with fail
                          go_meet
                          exact ⟨rfl, HS15.out⟩
                        exact AllReadyH.nil
                      refine AllReadyH.cons rfl (fun K hK => ?_) ?_
                      · refine step_conv (d := 78) rfl (by rfl) rfl (by rfl) HBS.out RQ.out ?_
                        refine hK.out _ _ (by (try dsimp only); exact hHeld) (fun hHeld => ?_)
                        clear hK K
                        refine wpAnyH_ready (rs := [1]) (by kernel_rfl) (by simp) ?_
                        refine AllReadyH.cons rfl (fun K hK => ?_) ?_
                        · refine step_conv (d := 76) rfl (by rfl) rfl (by rfl) HBS.out (RP.out.below HX2.out) ?_
                          refine hK.out _ _ (by (try dsimp only); exact hHeld) (fun hHeld => ?_)
                          clear hK K
                          refine take_at (i := 4) (v := .bool false) rfl rfl (by kernel_rfl) (by kernel_rfl) (by kernel_rfl) (fun _ _ _ h => h) (Or.inl ⟨by rfl, ?_⟩) (by assumption) ?_
                          · intro w0 hSw; (try dsimp only at hSw); first | (go_simp; done) | (go_simp; with_reducible rfl) | (go_simp; omega)
                          simp only [List.setIfInBounds_toArray, List.set_cons_zero, List.set_cons_succ]
                          refine wpAnyH_done (by kernel_rfl) ?_ _
                          have HS15 := Lib.hid (show Below w8.heap.size w8 y2 from hHeld)
                          clear hHeld
                          go_wp2_with fail
                          go_meet
                          exact ⟨rfl, HS15.out⟩
                        exact AllReadyH.nil
                      exact AllReadyH.nil
                    exact AllReadyH.nil
                  exact AllReadyH.nil
                case rest =>
                  obtain ⟨rfl, hbc⟩ := hcut
                  have HWC := Lib.hid (HW8.out.below hbc)
                  have HZC := Lib.hid (HZ8.out.below hbc)
                  have HEC := Lib.hid (HE8.out.below hbc)
                  have RGC := Lib.hid (rangeAt_below RG8.out hg8 hbc)
                  have RXC := Lib.hid (rangeAt_below RX8.out hx8 hbc)
                  have hgc : g < wc.heap.size := Nat.lt_of_lt_of_le hg8 hbc.size
                  have hxc : gx < wc.heap.size := Nat.lt_of_lt_of_le hx8 hbc.size
                  have HBC := Lib.hid (HB8.out.trans (hbc.mono HB8.out.size))
                  have HKC := Lib.hid (HK.out.below HBC.out)
                  clear hbc HW8 HZ8 HE8 RG8 RX8 hg8 hx8 HB8 HK8 HP8 HQ8 HBP HBQ HBS
                  have HRL := Lib.hid (rightOut_law (m := m) HWC.out)
                  rw [HOK.out] at HRL
                  go_wp2_with (first | (refine wpList_load_mid rfl 38 _ rfl g 0 rfl [.int .i64 m, .slice a k c] _ RGC.out Tryd.underlying38 rfl size_out ?_) | fail)
                  refine HRL.out.mono ?_
                  rintro e wd ⟨rfl, hbd⟩
                  have HWD := Lib.hid (HWC.out.below hbd)
                  have HZD := Lib.hid (HZC.out.below hbd)
                  have HED := Lib.hid (HEC.out.below hbd)
                  have RGD := Lib.hid (rangeAt_below RGC.out hgc hbd)
                  have RXD := Lib.hid (rangeAt_below RXC.out hxc hbd)
                  have HBD := Lib.hid (HBC.out.trans (hbd.mono HBC.out.size))
                  have hgd : g < wd.heap.size := Nat.lt_of_lt_of_le hgc hbd.size
                  have hxd : gx < wd.heap.size := Nat.lt_of_lt_of_le hxc hbd.size
                  clear hbd HRL HWC HZC HEC RGC RXC hgc hxc HBC HKC
                  have HSM := Lib.hid (fun (W : World) (hW : Below wd.heap.size wd W) => same_law (m := m9) (m' := m) (HZD.out.below hW) (HWD.out.below hW))
                  obtain ⟨sr, hsr⟩ : ∃ sr, (decide (m9 = m) && alikeWs zs xs) = sr := ⟨_, rfl⟩
                  rw [hsr] at HSM
                  cases ok
                  · -- it may not be: what was read, if anything, is another one
                    obtain ⟨ec, hec⟩ : ∃ ec, ec = s9.2 := ⟨_, rfl⟩
                    have HERR := Lib.hid (err_at HED.out)
                    rw [← hec] at HERR
                    by_cases h0 : ec = 0
                    · have hb : (ec != 0) = false := by simp [h0]
                      obtain ⟨hok9, _, _⟩ := outR_ok (s := (L, 0)) (by rw [HRR.out]; exact hec.symm.trans h0)
                      rw [HRR.out] at hok9
                      dsimp only at hok9
                      obtain rfl : sr = false := by
                        cases sr
                        · rfl
                        · have h9 := same_ok hsr
                          rw [HOK.out, ← outOk_strip m9 zs, HMAP.out, hok9] at h9
                          cases h9
                      clear h0 hec hok9 hsr
                      go_wp2_with fail
                      refine HERR.out.mono ?_
                      rintro e wd' ⟨rfl, rfl⟩
                      go_wp2_with (first | (refine wpList_mid_wanted (by rfl) 38 _ rfl gx 0 rfl [.int .i64 m9, .slice a9 n9 c9] _ RXD.out Tryd.underlying38 rfl size_out ?_) | (refine wpList_mid_wanted (by rfl) 38 _ rfl g 0 rfl [.int .i64 m, .slice a k c] _ RGD.out Tryd.underlying38 rfl size_out ?_) | fail)
                      refine (HSM.out _ (Below.refl _ _)).mono ?_
                      rintro e we ⟨rfl, hbe⟩
                      have HBE := Lib.hid (HBD.out.trans (hbe.mono HBD.out.size))
                      have HKE := Lib.hid (HK.out.below HBE.out)
                      clear hbe
                      go_wp2_with (first | (go_at_call 9; (with_reducible refine (awake_any HKE.out).mono ?_); rintro e wf ⟨rfl, hbf⟩; have HBF := Lib.hid hbf; clear hbf) | fail)
                      go_ret
                      exact ⟨rfl, HBE.out.trans (HBF.out.mono HBE.out.size)⟩
                    · have hb : (ec != 0) = true := by simp [h0]
                      have HKD := Lib.hid (HK.out.below HBD.out)
                      clear h0 hec hsr
                      go_wp2_with fail
                      refine HERR.out.mono ?_
                      rintro e wd' ⟨rfl, rfl⟩
                      go_wp2_with (first | (go_at_call 9; (with_reducible refine (awake_any HKD.out).mono ?_); rintro e wf ⟨rfl, hbf⟩; have HBF := Lib.hid hbf; clear hbf) | fail)
                      go_ret
                      exact ⟨rfl, HBD.out.trans (HBF.out.mono HBD.out.size)⟩
                  · -- it may be: it is read as it was
                    have hput := outR_put (m := m) (xs := xs) [] HOK.out HHS.out
                    rw [List.append_nil, ← HLD.out, HRR.out] at hput
                    obtain ⟨hq1, rfl⟩ := Prod.mk.inj hput
                    obtain ⟨rfl, rfl⟩ := Prod.mk.inj hq1
                    obtain rfl : sr = true := by
                      rw [← hsr, decide_eq_true rfl, Bool.true_and]
                      exact alikeWs_strip.2 HMAP.out
                    clear hput hq1 hsr
                    go_wp2_with (first | (refine wpList_load_mid rfl 38 _ rfl gx 0 rfl [.int .i64 m9, .slice a9 n9 c9] _ RXD.out Tryd.underlying38 rfl size_out ?_) | (refine wpList_load_mid rfl 38 _ rfl g 0 rfl [.int .i64 m9, .slice a k c] _ RGD.out Tryd.underlying38 rfl size_out ?_) | fail)
                    refine (HSM.out _ (Below.refl _ _)).mono ?_
                    rintro e we ⟨rfl, hbe⟩
                    have HBE := Lib.hid (HBD.out.trans (hbe.mono HBD.out.size))
                    have HKE := Lib.hid (HK.out.below HBE.out)
                    have HEE := Lib.hid (HED.out.below hbe)
                    clear hbe
                    go_wp2_with fail
                    refine (done_all HEE.out).mono ?_
                    rintro e we' ⟨rfl, rfl⟩
                    go_wp2_with (first | (go_at_call 9; (with_reducible refine (awake_any HKE.out).mono ?_); rintro e wf ⟨rfl, hbf⟩; have HBF := Lib.hid hbf; clear hbf) | fail)
                    go_ret
                    exact ⟨rfl, HBE.out.trans (HBF.out.mono HBE.out.size)⟩
          exact AllReadyH.nil
        exact AllReadyH.nil
      exact AllReadyH.nil
    exact AllReadyH.nil
end Go.Proofs.YtdaafeaeinomoaaDoor
