/- What chapter 3's example comes to: true. -/
import Derived.Test.YtmbfpopfabjodaaDoorClimb
import Derived.Lib.SlBytesConst
namespace Go.Proofs.YtmbfpopfabjodaaDoor
open Go.RowKit

theorem root_one (s : List UInt8) : rootSum [s] = leafSum s := rfl
set_option linter.unusedSimpArgs false in
set_option maxRecDepth 100000 in
set_option maxHeartbeats 3200000 in
theorem awake3_any {w : World} (hk : KsAt w) : Calls Tryd.prog 12 #[] w fun e w' => e = .returned (.bool true) ∧ Below w.heap.size w w' := by
  obtain ⟨s, L, P, hs, hL, hP, hLs, hPL, hof, hleaf, hr1, hr2, hch⟩ : ∃ s L P : List UInt8, s.length = 32 ∧ L.length = 32 ∧ P.length = 32 ∧ L ≠ s ∧ P ≠ L ∧
      (∀ (W : World) (a : Option Addr) (c : Nat), Row W a 1 c [97] → KsAt W → Calls Tryd.prog 23 #[.slice a 1 c] W fun e w' => e = .returned (.agg (cellsOf s).toArray) ∧ Below W.heap.size W w') ∧
      (∀ W : World, KsAt W → Calls Tryd.prog 10 #[.agg (cellsOf s).toArray] W fun e w' => e = .returned (.agg (cellsOf L).toArray) ∧ Below W.heap.size W w') ∧
      (∀ (W : World) (a : Option Addr), Sums W a 1 1 [s] → KsAt W → Calls Tryd.prog 8 #[.slice a 1 1] W fun e w' => e = .returned (.agg (cellsOf L).toArray) ∧ Below W.heap.size W w') ∧
      (∀ (W : World) (a : Option Addr), Sums W a 2 2 [s, s] → KsAt W → Calls Tryd.prog 8 #[.slice a 2 2] W fun e w' => e = .returned (.agg (cellsOf P).toArray) ∧ Below W.heap.size W w') ∧
      (∀ W : World, KsAt W → Calls Tryd.prog 15 #[.agg (cellsOf L).toArray, .agg (cellsOf s).toArray, .int .i64 0, .int .i64 1, .slice none 0 0] W fun e w' => e = .returned (.bool true) ∧ Below W.heap.size W w') := by
    refine ⟨sumOf [97], leafSum (sumOf [97]), rootSum [sumOf [97], sumOf [97]], sumOf_len _, leafSum_len _, rootSum_len _, leafA_ne, rootAA_ne, fun W a c h hk => of_any h hk (by omega), fun W hk => leaf_of (sumOf_len _) hk, fun W a h hk => by rw [← root_one]; exact root_any h hk (by omega), fun W a h hk => root_any h hk (by omega), fun W hk => ?_⟩
    have h := check_in (w := W) (r := leafSum (sumOf [97])) 0 1 (by omega) (by omega) (leafSum_len _) (sumOf_len [97]) (Sums.nil W) hk
    have e : decide (ascend pairSum 12 (leafSum (sumOf [97])) 0 1 [] = some (leafSum (sumOf [97]))) = true := by
      rw [ascend_end (Nat.le_refl 1)]
      simp
    rw [e] at h
    exact h
  have HK := Lib.hid hk
  have HSL := Lib.hid hs
  have HLL := Lib.hid hL
  have HPL := Lib.hid hP
  have HNE := Lib.hid hLs
  have HNE2 := Lib.hid hPL
  have HOF := Lib.hid hof
  have HLF := Lib.hid hleaf
  have HR1 := Lib.hid hr1
  have HR2 := Lib.hid hr2
  have HCH := Lib.hid hch
  have szs : (Tryd.prog.info? 24).map (·.size) = some (cellsOf s).toArray.size := by rw [List.size_toArray, cellsOf_len, hs]; exact Tryd.size24
  have hz : (cellsOf zero32).toArray.size = (cellsOf s).toArray.size := by rw [List.size_toArray, List.size_toArray, cellsOf_len, cellsOf_len, hs]; rfl
  have SZS := Lib.hid szs
  have HZ := Lib.hid hz
  clear hk hs hL hP hLs hPL hof hleaf hr1 hr2 hch szs hz
  have kc := fun (w : World) (C : Array Value) (n c : Nat) => Lib.run_convert_bytes_const (P := Tryd.prog) w 43 5 C n c Tryd.underlying43 Tryd.underlying5
  go_enter Tryd.func12, Tryd.ntmps12
  go_wp2_with fail
  have b1 : Below w.heap.size w (w.alloc (.cells #[.int .u8 97] 5 (1, 2))) := (Below.refl _ _).alloc (Nat.le_refl _) _
  have r1 : Row (w.alloc (.cells #[.int .u8 97] 5 (1, 2))) (some ⟨w.heap.size, 0, none⟩) 1 1 [97] := row_all (t := 5) (heap_alloc_new _ _) 1 rfl (by omega)
  refine (HOF.out _ _ _ r1 (HK.out.below b1)).mono ?_
  rintro e w1 ⟨rfl, hb1⟩
  have HB1 := Lib.hid (b1.trans (hb1.mono b1.size))
  clear b1 r1 hb1 kc
  go_upto_region 2 with (refine wpList_store_row rfl 24 _ _ rfl w1.heap.size (cellsOf s).toArray rfl rfl 24 (cellsOf zero32).toArray (heap_alloc_new _ _) SZS.out HZ.out (all_oneCell_toArray (cellsOf_one s)) ?_)
  rw [← zero32_is]
  have hg : ((w1.alloc (.cells (cellsOf zero32).toArray 24)).setRow w1.heap.size (cellsOf s).toArray).heap[w1.heap.size]? = some (.cells (cellsOf s).toArray 24 (0, 0)) := setRow_heap _ _ _ _ _ _ (heap_alloc_new _ _)
  have hb2 : Below w.heap.size w ((w1.alloc (.cells (cellsOf zero32).toArray 24)).setRow w1.heap.size (cellsOf s).toArray) := by
    have b2 : Below w.heap.size w (w1.alloc (.cells (cellsOf zero32).toArray 24)) := HB1.out.alloc HB1.out.size _
    exact b2.trans (((but_setRow _ w1.heap.size _).mono b2.size).below HB1.out.size)
  revert hg hb2
  generalize ((w1.alloc (.cells (cellsOf zero32).toArray 24)).setRow w1.heap.size (cellsOf s).toArray) = w2
  generalize w1.heap.size = g
  intro hg hb2
  have HRG := Lib.hid (range_of hg)
  have hlt := lt_of_block hg
  have HB2 := Lib.hid hb2
  clear hg hb2
  simp only [Act.put]
  refine wp_region_held_drew (S := fun w' => Below w2.heap.size w2 w') (by kernel_rfl) (below_drew (Below.refl _ _)) (fun hHeld => ?_)
  refine take_at (i := 0) rfl rfl (by kernel_rfl) (by kernel_rfl) (by kernel_rfl) (fun _ _ _ h => h) (yieldsIf_load_mid (by rfl) _ _ rfl g 0 rfl (cellsOf s) _ (fun w0 hSw => rangeAt_below HRG.out hlt hSw) Tryd.underlying24 rfl SZS.out) (by assumption) ?_
  simp only [List.setIfInBounds_toArray, List.set_cons_zero, List.set_cons_succ]
  refine take_at (i := 3) rfl rfl (by kernel_rfl) (by kernel_rfl) (by kernel_rfl) (fun _ _ _ h => h) (yieldsIf_load_mid (by rfl) _ _ rfl g 0 rfl (cellsOf s) _ (fun w0 hSw => rangeAt_below HRG.out hlt hSw) Tryd.underlying24 rfl SZS.out) (by assumption) ?_
  simp only [List.setIfInBounds_toArray, List.set_cons_zero, List.set_cons_succ]
  refine wpAnyH_ready (rs := [1]) (by kernel_rfl) (by simp) ?_
  refine AllReadyH.cons rfl (fun K hK => ?_) ?_
  · have HL1 : Hid (Sums (w2.drew.alloc (.cells (cellsOf s).toArray 24)) (some ⟨w2.heap.size, 0, none⟩) 1 1 [s]) := Lib.hid (by have h := own_lit (w := w2.drew) (B := 0) [s] (by simp [HSL.out]) (Nat.zero_le _) 1 rfl (by omega); rw [seqCells_single] at h; exact h.sums)
    refine step_build1 _ (by rfl) rfl rfl HSL.out ?_
    refine hK.out _ _ (by (try dsimp only); exact Below.alloc hHeld (Below.size hHeld) _) (fun hHeld => ?_)
    clear hK K
    refine wpAnyH_ready (rs := [2]) (by kernel_rfl) (by simp) ?_
    refine AllReadyH.cons rfl (fun K hK => ?_) ?_
    · have hH2 : Below w2.heap.size w2 (w2.alloc (.cells (cellsOf s).toArray 24)).drew := hHeld
      have hL2 : Sums (w2.alloc (.cells (cellsOf s).toArray 24)).drew (some ⟨w2.heap.size, 0, none⟩) 1 1 [s] := HL1.out
      have HL2 := Lib.hid hL2
      clear hL2
      go_simp
      go_wp2_with ((go_at_call 8; (with_reducible refine (HR1.out _ _ HL2.out ((HK.out.below HB2.out).below hH2)).mono ?_); rintro e x2 ⟨rfl, hb2⟩; have HC2 := Lib.hid hb2; clear hb2))
      refine hK.out _ _ (by (try dsimp only); exact Below.trans hH2 (HC2.out.mono (Below.size hH2))) (fun hHeld => ?_)
      clear hK K
      refine wpAnyH_ready (rs := [4]) (by kernel_rfl) (by simp) ?_
      refine AllReadyH.cons rfl (fun K hK => ?_) ?_
      · go_simp
        go_wp2_with ((go_at_call 10; (with_reducible refine (HLF.out _ ((HK.out.below HB2.out).below hHeld)).mono ?_); rintro e x4 ⟨rfl, hb4⟩; have HC4 := Lib.hid hb4; clear hb4))
        refine hK.out _ _ (by (try dsimp only); exact Below.trans hHeld (HC4.out.mono (Below.size hHeld))) (fun hHeld => ?_)
        clear hK K
        refine take_at (i := 5) rfl rfl (by kernel_rfl) (by kernel_rfl) (by kernel_rfl) (fun _ _ _ h => h) (yields_eql (by rfl) rfl rfl rfl HLL.out HLL.out true (by simp)) (by assumption) ?_
        simp only [List.setIfInBounds_toArray, List.set_cons_zero, List.set_cons_succ]
        refine take_at (i := 6) (v := ?_) rfl rfl (by kernel_rfl) (by kernel_rfl) (by kernel_rfl) (fun _ _ _ h => h) (Or.inl ⟨by rfl, ?_⟩) (by assumption) ?_
        rotate_left
        · intro w0 hSw; (try dsimp only at hSw); first | (go_simp; done) | (go_simp; with_reducible rfl)
        simp only [List.setIfInBounds_toArray, List.set_cons_zero, List.set_cons_succ]
        refine take_at (i := 7) rfl rfl (by kernel_rfl) (by kernel_rfl) (by kernel_rfl) (fun _ _ _ h => h) (yieldsIf_load_mid (by rfl) _ _ rfl g 0 rfl (cellsOf s) _ (fun w0 hSw => rangeAt_below HRG.out hlt hSw) Tryd.underlying24 rfl SZS.out) (by assumption) ?_
        simp only [List.setIfInBounds_toArray, List.set_cons_zero, List.set_cons_succ]
        refine take_at (i := 10) rfl rfl (by kernel_rfl) (by kernel_rfl) (by kernel_rfl) (fun _ _ _ h => h) (yieldsIf_load_mid (by rfl) _ _ rfl g 0 rfl (cellsOf s) _ (fun w0 hSw => rangeAt_below HRG.out hlt hSw) Tryd.underlying24 rfl SZS.out) (by assumption) ?_
        simp only [List.setIfInBounds_toArray, List.set_cons_zero, List.set_cons_succ]
        refine wpAnyH_ready (rs := [8]) (by kernel_rfl) (by simp) ?_
        refine AllReadyH.cons rfl (fun K hK => ?_) ?_
        · have HL8 : Hid (Sums (x4.alloc (.cells (cellsOf s).toArray 24)) (some ⟨x4.heap.size, 0, none⟩) 1 1 [s]) := Lib.hid (by have h := own_lit (w := x4) (B := 0) [s] (by simp [HSL.out]) (Nat.zero_le _) 1 rfl (by omega); rw [seqCells_single] at h; exact h.sums)
          refine step_build1 _ (by rfl) rfl rfl HSL.out ?_
          refine hK.out _ _ (by (try dsimp only); exact Below.alloc hHeld (Below.size hHeld) _) (fun hHeld => ?_)
          clear hK K
          refine wpAnyH_ready (rs := [9]) (by kernel_rfl) (by simp) ?_
          refine AllReadyH.cons rfl (fun K hK => ?_) ?_
          · go_simp
            go_wp2_with ((go_at_call 8; (with_reducible refine (HR1.out _ _ HL8.out ((HK.out.below HB2.out).below hHeld)).mono ?_); rintro e x9 ⟨rfl, hb9⟩; have HC9 := Lib.hid hb9; clear hb9))
            refine hK.out _ _ (by (try dsimp only); exact Below.trans hHeld (HC9.out.mono (Below.size hHeld))) (fun hHeld => ?_)
            clear hK K
            refine take_at (i := 11) rfl rfl (by kernel_rfl) (by kernel_rfl) (by kernel_rfl) (fun _ _ _ h => h) (yields_neq (by rfl) rfl rfl rfl HLL.out HSL.out true (by simp [HNE.out])) (by assumption) ?_
            simp only [List.setIfInBounds_toArray, List.set_cons_zero, List.set_cons_succ]
            refine take_at (i := 12) (v := ?_) rfl rfl (by kernel_rfl) (by kernel_rfl) (by kernel_rfl) (fun _ _ _ h => h) (Or.inl ⟨by rfl, ?_⟩) (by assumption) ?_
            rotate_left
            · intro w0 hSw; (try dsimp only at hSw); first | (go_simp; done) | (go_simp; with_reducible rfl)
            simp only [List.setIfInBounds_toArray, List.set_cons_zero, List.set_cons_succ]
            refine take_at (i := 13) (v := ?_) rfl rfl (by kernel_rfl) (by kernel_rfl) (by kernel_rfl) (fun _ _ _ h => h) (Or.inl ⟨by rfl, ?_⟩) (by assumption) ?_
            rotate_left
            · intro w0 hSw; (try dsimp only at hSw); first | (go_simp; done) | (go_simp; with_reducible rfl)
            simp only [List.setIfInBounds_toArray, List.set_cons_zero, List.set_cons_succ]
            refine take_at (i := 14) rfl rfl (by kernel_rfl) (by kernel_rfl) (by kernel_rfl) (fun _ _ _ h => h) (yieldsIf_load_mid (by rfl) _ _ rfl g 0 rfl (cellsOf s) _ (fun w0 hSw => rangeAt_below HRG.out hlt hSw) Tryd.underlying24 rfl SZS.out) (by assumption) ?_
            simp only [List.setIfInBounds_toArray, List.set_cons_zero, List.set_cons_succ]
            refine take_at (i := 15) rfl rfl (by kernel_rfl) (by kernel_rfl) (by kernel_rfl) (fun _ _ _ h => h) (yieldsIf_load_mid (by rfl) _ _ rfl g 0 rfl (cellsOf s) _ (fun w0 hSw => rangeAt_below HRG.out hlt hSw) Tryd.underlying24 rfl SZS.out) (by assumption) ?_
            simp only [List.setIfInBounds_toArray, List.set_cons_zero, List.set_cons_succ]
            refine take_at (i := 18) rfl rfl (by kernel_rfl) (by kernel_rfl) (by kernel_rfl) (fun _ _ _ h => h) (yieldsIf_load_mid (by rfl) _ _ rfl g 0 rfl (cellsOf s) _ (fun w0 hSw => rangeAt_below HRG.out hlt hSw) Tryd.underlying24 rfl SZS.out) (by assumption) ?_
            simp only [List.setIfInBounds_toArray, List.set_cons_zero, List.set_cons_succ]
            refine wpAnyH_ready (rs := [16]) (by kernel_rfl) (by simp) ?_
            refine AllReadyH.cons rfl (fun K hK => ?_) ?_
            · have HL16 : Hid (Sums (x9.alloc (.cells (seqCells [s, s]).toArray 24)) (some ⟨x9.heap.size, 0, none⟩) 2 2 [s, s]) := Lib.hid (by have h := own_lit (w := x9) (B := 0) [s, s] (by simp [HSL.out]) (Nat.zero_le _) 2 rfl (by omega); exact h.sums)
              refine step_build2 _ _ (by rfl) rfl rfl rfl HSL.out HSL.out ?_
              refine hK.out _ _ (by (try dsimp only); exact Below.alloc hHeld (Below.size hHeld) _) (fun hHeld => ?_)
              clear hK K
              refine wpAnyH_ready (rs := [17]) (by kernel_rfl) (by simp) ?_
              refine AllReadyH.cons rfl (fun K hK => ?_) ?_
              · go_simp
                go_wp2_with ((go_at_call 8; (with_reducible refine (HR2.out _ _ HL16.out ((HK.out.below HB2.out).below hHeld)).mono ?_); rintro e x17 ⟨rfl, hb17⟩; have HC17 := Lib.hid hb17; clear hb17))
                refine hK.out _ _ (by (try dsimp only); exact Below.trans hHeld (HC17.out.mono (Below.size hHeld))) (fun hHeld => ?_)
                clear hK K
                refine wpAnyH_ready (rs := [19]) (by kernel_rfl) (by simp) ?_
                refine AllReadyH.cons rfl (fun K hK => ?_) ?_
                · go_simp
                  go_wp2_with ((go_at_call 10; (with_reducible refine (HLF.out _ ((HK.out.below HB2.out).below hHeld)).mono ?_); rintro e x19 ⟨rfl, hb19⟩; have HC19 := Lib.hid hb19; clear hb19))
                  refine hK.out _ _ (by (try dsimp only); exact Below.trans hHeld (HC19.out.mono (Below.size hHeld))) (fun hHeld => ?_)
                  clear hK K
                  refine take_at (i := 20) rfl rfl (by kernel_rfl) (by kernel_rfl) (by kernel_rfl) (fun _ _ _ h => h) (yields_neq (by rfl) rfl rfl rfl HPL.out HLL.out true (by simp [HNE2.out])) (by assumption) ?_
                  simp only [List.setIfInBounds_toArray, List.set_cons_zero, List.set_cons_succ]
                  refine take_at (i := 21) (v := ?_) rfl rfl (by kernel_rfl) (by kernel_rfl) (by kernel_rfl) (fun _ _ _ h => h) (Or.inl ⟨by rfl, ?_⟩) (by assumption) ?_
                  rotate_left
                  · intro w0 hSw; (try dsimp only at hSw); first | (go_simp; done) | (go_simp; with_reducible rfl)
                  simp only [List.setIfInBounds_toArray, List.set_cons_zero, List.set_cons_succ]
                  refine take_at (i := 22) (v := ?_) rfl rfl (by kernel_rfl) (by kernel_rfl) (by kernel_rfl) (fun _ _ _ h => h) (Or.inl ⟨by rfl, ?_⟩) (by assumption) ?_
                  rotate_left
                  · intro w0 hSw; (try dsimp only at hSw); first | (go_simp; done) | (go_simp; with_reducible rfl)
                  simp only [List.setIfInBounds_toArray, List.set_cons_zero, List.set_cons_succ]
                  refine take_at (i := 23) rfl rfl (by kernel_rfl) (by kernel_rfl) (by kernel_rfl) (fun _ _ _ h => h) (yieldsIf_load_mid (by rfl) _ _ rfl g 0 rfl (cellsOf s) _ (fun w0 hSw => rangeAt_below HRG.out hlt hSw) Tryd.underlying24 rfl SZS.out) (by assumption) ?_
                  simp only [List.setIfInBounds_toArray, List.set_cons_zero, List.set_cons_succ]
                  refine take_at (i := 25) rfl rfl (by kernel_rfl) (by kernel_rfl) (by kernel_rfl) (fun _ _ _ h => h) (yieldsIf_load_mid (by rfl) _ _ rfl g 0 rfl (cellsOf s) _ (fun w0 hSw => rangeAt_below HRG.out hlt hSw) Tryd.underlying24 rfl SZS.out) (by assumption) ?_
                  simp only [List.setIfInBounds_toArray, List.set_cons_zero, List.set_cons_succ]
                  refine wpAnyH_ready (rs := [24]) (by kernel_rfl) (by simp) ?_
                  refine AllReadyH.cons rfl (fun K hK => ?_) ?_
                  · go_simp
                    go_wp2_with ((go_at_call 10; (with_reducible refine (HLF.out _ ((HK.out.below HB2.out).below hHeld)).mono ?_); rintro e x24 ⟨rfl, hb24⟩; have HC24 := Lib.hid hb24; clear hb24))
                    refine hK.out _ _ (by (try dsimp only); exact Below.trans hHeld (HC24.out.mono (Below.size hHeld))) (fun hHeld => ?_)
                    clear hK K
                    refine wpAnyH_ready (rs := [26]) (by kernel_rfl) (by simp) ?_
                    refine AllReadyH.cons rfl (fun K hK => ?_) ?_
                    · go_simp
                      go_wp2_with ((go_at_call 15; (with_reducible refine (HCH.out _ ((HK.out.below HB2.out).below hHeld)).mono ?_); rintro e x26 ⟨rfl, hb26⟩; have HC26 := Lib.hid hb26; clear hb26))
                      refine hK.out _ _ (by (try dsimp only); exact Below.trans hHeld (HC26.out.mono (Below.size hHeld))) (fun hHeld => ?_)
                      clear hK K
                      refine take_at (i := 27) (v := ?_) rfl rfl (by kernel_rfl) (by kernel_rfl) (by kernel_rfl) (fun _ _ _ h => h) (Or.inl ⟨by rfl, ?_⟩) (by assumption) ?_
                      rotate_left
                      · intro w0 hSw; (try dsimp only at hSw); first | (go_simp; done) | (go_simp; with_reducible rfl)
                      simp only [List.setIfInBounds_toArray, List.set_cons_zero, List.set_cons_succ]
                      refine take_at (i := 28) (v := ?_) rfl rfl (by kernel_rfl) (by kernel_rfl) (by kernel_rfl) (fun _ _ _ h => h) (Or.inl ⟨by rfl, ?_⟩) (by assumption) ?_
                      rotate_left
                      · intro w0 hSw; (try dsimp only at hSw); first | (go_simp; done) | (go_simp; with_reducible rfl)
                      simp only [List.setIfInBounds_toArray, List.set_cons_zero, List.set_cons_succ]
                      refine wpAnyH_done (by kernel_rfl) ?_ _
                      have HE := Lib.hid (show Below w2.heap.size w2 x26 from hHeld)
                      go_wp2_with fail
                      go_ret
                      exact ⟨rfl, HB2.out.trans (HE.out.mono HB2.out.size)⟩
                    exact AllReadyH.nil
                  exact AllReadyH.nil
                exact AllReadyH.nil
              exact AllReadyH.nil
            exact AllReadyH.nil
          exact AllReadyH.nil
        exact AllReadyH.nil
      exact AllReadyH.nil
    exact AllReadyH.nil
  exact AllReadyH.nil
end Go.Proofs.YtmbfpopfabjodaaDoor
