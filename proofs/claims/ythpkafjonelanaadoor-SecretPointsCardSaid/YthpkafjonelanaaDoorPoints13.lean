/- SecretPoints, walked. -/
import Derived.Test.YthpkafjonelanaaDoorAwake13
namespace Go.Proofs.YthpkafjonelanaaDoor
open Go.RowKit

set_option linter.unusedSimpArgs false in
set_option maxRecDepth 100000 in
set_option maxHeartbeats 6400000 in
theorem points13_low {w : World} {s : List UInt8} {z : Int} (h0 : z < 0) (hs : s.length = 32) (hk : KsAt w) :
    Calls Tryd.prog 3 #[.agg (cellsOf s).toArray, .int .i64 z] w fun e w' => e = .returned (.bool true) ∧ Below w.heap.size w w' := by
  have HAW : Hid (∀ W : World, KsAt W → Calls Tryd.prog 6 #[] W fun e w' => e = .returned (.bool true) ∧ Below W.heap.size W w') := Lib.hid fun W hW => awake13_any hW
  obtain ⟨m, hm0⟩ : ∃ m : Nat, m = 0 := ⟨_, rfl⟩
  have hmz : max z 0 = (m : Int) := by omega
  have hm : (m : Int) ≤ 2147483648 := by omega
  have HQ : Hid ((cellsOf (quad m)).toArray = #[.int .u8 0, .int .u8 0, .int .u8 0, .int .u8 0]) := Lib.hid (by rw [hm0]; rfl)
  have f9 : ¬ (2147483648 : Int) < z := by omega
  obtain ⟨x, hx, hxl, hof, hpo, hjoin⟩ : ∃ x : List UInt8, secOf s m = x ∧ x.length = 32 ∧ (∀ W : World, KsAt W → Calls Tryd.prog 8 #[.agg (cellsOf s).toArray, .int .i64 z] W fun e w' => e = .returned (.agg (cellsOf x).toArray) ∧ Below W.heap.size W w') ∧ (∀ W : World, KsAt W → Calls Tryd.prog 10 #[.agg (cellsOf s).toArray, .int .i64 z] W fun e w' => e = .returned (.agg (cellsOf (shownSum x)).toArray) ∧ Below W.heap.size W w') ∧
      ∀ (W : World) (q p gg : Nat), KsAt W → W.heap[q]? = some (.cells (cellsOf s).toArray 23 (0, 0)) → W.heap[p]? = some (.cells (cellsOf (quad m)).toArray 5 (0, 0)) → W.heap[gg]? = some (.cells #[.slice (some ⟨q, 0, none⟩) 32 32, .slice (some ⟨p, 0, none⟩) 4 4] 26 (0, 0)) →
        Calls Tryd.prog 7 #[.int .u8 61, .slice (some ⟨gg, 0, none⟩) 2 2] W fun e w' => e = .returned (.agg (cellsOf x).toArray) ∧ Below W.heap.size W w' :=
    ⟨_, rfl, secOf_len s m, fun W hW => of_any hs hmz hm hW, fun W hW => point_any hs hmz hm hW, fun W q p gg hW hq hp hg => join_any 61 61 rfl (rows2_at hg (row_all hq 32 hs.symm (by omega)) (row_all hp 4 rfl (by omega))) hW (sec_parts hs m)⟩
  obtain ⟨h, hh, hhl, hha, hjoin2⟩ : ∃ h : List UInt8, shownSum x = h ∧ h.length = 32 ∧ (∀ W : World, KsAt W → Calls Tryd.prog 9 #[.agg (cellsOf x).toArray] W fun e w' => e = .returned (.agg (cellsOf h).toArray) ∧ Below W.heap.size W w') ∧
      ∀ (W : World) (q gg : Nat), KsAt W → W.heap[q]? = some (.cells (cellsOf x).toArray 23 (0, 0)) → W.heap[gg]? = some (.cells #[.slice (some ⟨q, 0, none⟩) 32 32] 26 (0, 0)) →
        Calls Tryd.prog 7 #[.int .u8 31, .slice (some ⟨gg, 0, none⟩) 1 1] W fun e w' => e = .returned (.agg (cellsOf h).toArray) ∧ Below W.heap.size W w' :=
    ⟨_, rfl, shownSum_len x, fun W hW => shash_any hxl hW, fun W q gg hW hq hg => join_any 31 31 rfl (rows2_one hg (row_all hq 32 hxl.symm (by omega))) hW (one_part hxl 31)⟩
  rw [hh] at hpo
  have HOF := Lib.hid hof
  have HPO := Lib.hid hpo
  have HHA := Lib.hid hha
  have HJ := Lib.hid hjoin
  have HJ2 := Lib.hid hjoin2
  have HXL := Lib.hid hxl
  have HHL := Lib.hid hhl
  have SZS := Lib.hid (sumLen13 hs)
  have SZX := Lib.hid (sumLen13 hxl)
  have SZH := Lib.hid (sumLen13 hhl)
  have CX : Hid ((cellsOf x).length = 32) := Lib.hid (by rw [cellsOf_len, hxl])
  have CH : Hid ((cellsOf h).length = 32) := Lib.hid (by rw [cellsOf_len, hhl])
  have HK := Lib.hid hk
  clear hof hpo hha hjoin hjoin2 hx hh hxl hhl hs hk hmz
  go_enter Tryd.func3, Tryd.ntmps3
  go_upto_region 1 with (fail)
  have b1 : Below w.heap.size w (w.alloc (.cells (cellsOf s).toArray 23)) := (Below.refl _ _).alloc (Nat.le_refl _) _
  have h1 := heap_alloc_new w (.cells (cellsOf s).toArray 23)
  revert b1 h1
  generalize (w.alloc (.cells (cellsOf s).toArray 23)) = w1
  obtain ⟨g, hg⟩ : ∃ g, g = w.heap.size := ⟨_, rfl⟩
  rw [← hg]
  intro b1 h1
  rw [hg] at b1
  have HB1 := Lib.hid b1
  have H1 := Lib.hid h1
  clear b1 h1 hg
  go_upto_region 6 with (fail)
  go_wp2_with fail
  rw [← HQ.out]
  have b2 : Below w1.heap.size w1 (((w1.alloc (.cells (cellsOf (quad m)).toArray 5)).alloc (.cells #[.slice (some ⟨g, 0, none⟩) 32 32, .slice (some ⟨w1.heap.size, 0, none⟩) 4 4] 26))) := ((Below.refl _ _).alloc (Nat.le_refl _) _).alloc (by simp) _
  have hp2 : (((w1.alloc (.cells (cellsOf (quad m)).toArray 5)).alloc (.cells #[.slice (some ⟨g, 0, none⟩) 32 32, .slice (some ⟨w1.heap.size, 0, none⟩) 4 4] 26))).heap[w1.heap.size]? = some (.cells (cellsOf (quad m)).toArray 5 (0, 0)) := by
    rw [heap_alloc_old _ _ (by simp), heap_alloc_new]
  have HJC := Lib.hid (HJ.out _ g w1.heap.size (w1.heap.size + 1) (HK.out.below (bthen HB1.out b2)) (keep b2 H1.out) hp2 (heap_alloc_at _ _ _ (by simp)))
  refine HJC.out.mono ?_
  rintro e w3 ⟨rfl, hb3⟩
  have HB3 := Lib.hid (bthen b2 hb3)
  clear b2 hp2 hb3 HJ HJC HQ
  go_upto_region 7 with (first | (refine wpList_var rfl rfl 23 rfl _ _ rfl (cellsOf zero32).toArray sum_zero rfl (cellsOf x) (fun _ => rfl) (fun _ => rfl) CX.out (cellsOf_one x) ?_; intro p w5 hq hh hb; go_frame; have HP5 := Lib.hid hh; have HB5 := Lib.hid (bthen HB3.out hb); clear hq hh hb) | fail)
  go_wp2_with fail
  have b6 : Below w5.heap.size w5 (w5.alloc (.cells #[.slice (some ⟨p, 0, none⟩) 32 32] 26)) := (Below.refl _ _).alloc (Nat.le_refl _) _
  have HJC := Lib.hid (HJ2.out _ p w5.heap.size (HK.out.below (bthen HB1.out (bthen HB5.out b6))) (keep b6 HP5.out) (heap_alloc_new _ _))
  refine HJC.out.mono ?_
  rintro e w6 ⟨rfl, hb6⟩
  have HB6 := Lib.hid (bthen HB5.out (bthen b6 hb6))
  have HP6 := Lib.hid (keep (bthen b6 hb6) HP5.out)
  clear b6 hb6 HJ2 HJC
  go_upto_region 8 with (first | (refine wpList_var rfl rfl 23 rfl _ _ rfl (cellsOf zero32).toArray sum_zero rfl (cellsOf h) (fun _ => rfl) (fun _ => rfl) CH.out (cellsOf_one h) ?_; intro r w8 hq hh hb; go_frame; have HR8 := Lib.hid hh; have HB68 := Lib.hid (bthen HB6.out hb); have HP8 := Lib.hid (keep hb HP6.out); clear hq hh hb) | fail)
  have HB8 := Lib.hid (bthen HB1.out HB68.out)
  have H8 := Lib.hid (keep HB68.out H1.out)
  refine wp_region_held_drew (S := fun w' => Below w8.heap.size w8 w') (by kernel_rfl) (below_drew (Below.refl _ _)) (fun hHeld => ?_)
  refine take_at (i := 0) rfl rfl (by kernel_rfl) (by kernel_rfl) (by kernel_rfl) (fun _ _ _ h => h) (yieldsIf_load_mid (by rfl) _ _ rfl g 0 rfl (cellsOf s) _ (fun w0 hSw => range_of (keep hSw H8.out)) Tryd.underlying23 rfl SZS.out) (by assumption) ?_
  simp only [List.setIfInBounds_toArray, List.set_cons_zero, List.set_cons_succ]
  refine take_at (i := 1) (v := ?_) rfl rfl (by kernel_rfl) (by kernel_rfl) (by kernel_rfl) (fun _ _ _ h => h) (Or.inl ⟨by rfl, ?_⟩) (by assumption) ?_
  rotate_left
  · intro w0 hSw; (try dsimp only at hSw); first | (go_simp; done) | (go_simp; with_reducible rfl)
  simp only [List.setIfInBounds_toArray, List.set_cons_zero, List.set_cons_succ]
  refine take_at (i := 3) rfl rfl (by kernel_rfl) (by kernel_rfl) (by kernel_rfl) (fun _ _ _ h => h) (yieldsIf_load_mid (by rfl) _ _ rfl p 0 rfl (cellsOf x) _ (fun w0 hSw => range_of (keep hSw HP8.out)) Tryd.underlying23 rfl SZX.out) (by assumption) ?_
  simp only [List.setIfInBounds_toArray, List.set_cons_zero, List.set_cons_succ]
  refine wpAnyH_ready (rs := [2]) (by kernel_rfl) (by simp) ?_
  refine AllReadyH.cons rfl (fun K hK => ?_) ?_
  · have HC2 := Lib.hid (HOF.out _ (HK.out.below (bthen HB8.out hHeld)))
    go_simp
    go_wp2_with ((go_at_call 8; (with_reducible refine (HC2.out).mono ?_); rintro e y2 ⟨rfl, hb⟩; have HXy2 := Lib.hid hb; clear hb))
    refine hK.out _ _ (by (try dsimp only); exact bthen hHeld HXy2.out) (fun hHeld => ?_)
    clear hK K
    refine take_at (i := 4) rfl rfl (by kernel_rfl) (by kernel_rfl) (by kernel_rfl) (fun _ _ _ h => h) (yields_eql (by rfl) rfl rfl rfl HXL.out HXL.out true (by simp)) (by assumption) ?_
    simp only [List.setIfInBounds_toArray, List.set_cons_zero, List.set_cons_succ]
    refine take_at (i := 5) (v := ?_) rfl rfl (by kernel_rfl) (by kernel_rfl) (by kernel_rfl) (fun _ _ _ h => h) (Or.inl ⟨by rfl, ?_⟩) (by assumption) ?_
    rotate_left
    · intro w0 hSw; (try dsimp only at hSw); first | (go_simp; done) | (go_simp; with_reducible rfl)
    simp only [List.setIfInBounds_toArray, List.set_cons_zero, List.set_cons_succ]
    refine take_at (i := 6) rfl rfl (by kernel_rfl) (by kernel_rfl) (by kernel_rfl) (fun _ _ _ h => h) (yieldsIf_load_mid (by rfl) _ _ rfl p 0 rfl (cellsOf x) _ (fun w0 hSw => range_of (keep hSw HP8.out)) Tryd.underlying23 rfl SZX.out) (by assumption) ?_
    simp only [List.setIfInBounds_toArray, List.set_cons_zero, List.set_cons_succ]
    refine take_at (i := 8) rfl rfl (by kernel_rfl) (by kernel_rfl) (by kernel_rfl) (fun _ _ _ h => h) (yieldsIf_load_mid (by rfl) _ _ rfl r 0 rfl (cellsOf h) _ (fun w0 hSw => range_of (keep hSw HR8.out)) Tryd.underlying23 rfl SZH.out) (by assumption) ?_
    simp only [List.setIfInBounds_toArray, List.set_cons_zero, List.set_cons_succ]
    refine wpAnyH_ready (rs := [7]) (by kernel_rfl) (by simp) ?_
    refine AllReadyH.cons rfl (fun K hK => ?_) ?_
    · have HC7 := Lib.hid (HHA.out _ (HK.out.below (bthen HB8.out hHeld)))
      go_simp
      go_wp2_with ((go_at_call 9; (with_reducible refine (HC7.out).mono ?_); rintro e y7 ⟨rfl, hb⟩; have HXy7 := Lib.hid hb; clear hb))
      refine hK.out _ _ (by (try dsimp only); exact bthen hHeld HXy7.out) (fun hHeld => ?_)
      clear hK K
      refine take_at (i := 9) rfl rfl (by kernel_rfl) (by kernel_rfl) (by kernel_rfl) (fun _ _ _ h => h) (yields_eql (by rfl) rfl rfl rfl HHL.out HHL.out true (by simp)) (by assumption) ?_
      simp only [List.setIfInBounds_toArray, List.set_cons_zero, List.set_cons_succ]
      refine take_at (i := 10) (v := ?_) rfl rfl (by kernel_rfl) (by kernel_rfl) (by kernel_rfl) (fun _ _ _ h => h) (Or.inl ⟨by rfl, ?_⟩) (by assumption) ?_
      rotate_left
      · intro w0 hSw; (try dsimp only at hSw); first | (go_simp; done) | (go_simp; with_reducible rfl)
      simp only [List.setIfInBounds_toArray, List.set_cons_zero, List.set_cons_succ]
      refine take_at (i := 11) (v := ?_) rfl rfl (by kernel_rfl) (by kernel_rfl) (by kernel_rfl) (fun _ _ _ h => h) (Or.inl ⟨by rfl, ?_⟩) (by assumption) ?_
      rotate_left
      · intro w0 hSw; (try dsimp only at hSw); first | (go_simp; done) | (go_simp; with_reducible rfl)
      simp only [List.setIfInBounds_toArray, List.set_cons_zero, List.set_cons_succ]
      refine take_at (i := 12) rfl rfl (by kernel_rfl) (by kernel_rfl) (by kernel_rfl) (fun _ _ _ h => h) (yieldsIf_load_mid (by rfl) _ _ rfl g 0 rfl (cellsOf s) _ (fun w0 hSw => range_of (keep hSw H8.out)) Tryd.underlying23 rfl SZS.out) (by assumption) ?_
      simp only [List.setIfInBounds_toArray, List.set_cons_zero, List.set_cons_succ]
      refine take_at (i := 13) (v := ?_) rfl rfl (by kernel_rfl) (by kernel_rfl) (by kernel_rfl) (fun _ _ _ h => h) (Or.inl ⟨by rfl, ?_⟩) (by assumption) ?_
      rotate_left
      · intro w0 hSw; (try dsimp only at hSw); first | (go_simp; done) | (go_simp; with_reducible rfl)
      simp only [List.setIfInBounds_toArray, List.set_cons_zero, List.set_cons_succ]
      refine take_at (i := 15) rfl rfl (by kernel_rfl) (by kernel_rfl) (by kernel_rfl) (fun _ _ _ h => h) (yieldsIf_load_mid (by rfl) _ _ rfl r 0 rfl (cellsOf h) _ (fun w0 hSw => range_of (keep hSw HR8.out)) Tryd.underlying23 rfl SZH.out) (by assumption) ?_
      simp only [List.setIfInBounds_toArray, List.set_cons_zero, List.set_cons_succ]
      refine wpAnyH_ready (rs := [14]) (by kernel_rfl) (by simp) ?_
      refine AllReadyH.cons rfl (fun K hK => ?_) ?_
      · have HC14 := Lib.hid (HPO.out _ (HK.out.below (bthen HB8.out hHeld)))
        go_simp
        go_wp2_with ((go_at_call 10; (with_reducible refine (HC14.out).mono ?_); rintro e y14 ⟨rfl, hb⟩; have HXy14 := Lib.hid hb; clear hb))
        refine hK.out _ _ (by (try dsimp only); exact bthen hHeld HXy14.out) (fun hHeld => ?_)
        clear hK K
        refine take_at (i := 16) rfl rfl (by kernel_rfl) (by kernel_rfl) (by kernel_rfl) (fun _ _ _ h => h) (yields_eql (by rfl) rfl rfl rfl HHL.out HHL.out true (by simp)) (by assumption) ?_
        simp only [List.setIfInBounds_toArray, List.set_cons_zero, List.set_cons_succ]
        refine take_at (i := 17) (v := ?_) rfl rfl (by kernel_rfl) (by kernel_rfl) (by kernel_rfl) (fun _ _ _ h => h) (Or.inl ⟨by rfl, ?_⟩) (by assumption) ?_
        rotate_left
        · intro w0 hSw; (try dsimp only at hSw); first | (go_simp; done) | (go_simp; with_reducible rfl)
        simp only [List.setIfInBounds_toArray, List.set_cons_zero, List.set_cons_succ]
        refine take_at (i := 18) (v := ?_) rfl rfl (by kernel_rfl) (by kernel_rfl) (by kernel_rfl) (fun _ _ _ h => h) (Or.inl ⟨by rfl, ?_⟩) (by assumption) ?_
        rotate_left
        · intro w0 hSw; (try dsimp only at hSw); first | (go_simp; done) | (go_simp; with_reducible rfl)
        simp only [List.setIfInBounds_toArray, List.set_cons_zero, List.set_cons_succ]
        refine wpAnyH_ready (rs := [19]) (by kernel_rfl) (by simp) ?_
        refine AllReadyH.cons rfl (fun K hK => ?_) ?_
        · have HC19 := Lib.hid (HAW.out _ (HK.out.below (bthen HB8.out hHeld)))
          go_simp
          go_wp2_with ((go_at_call 6; (with_reducible refine (HC19.out).mono ?_); rintro e y19 ⟨rfl, hb⟩; have HXy19 := Lib.hid hb; clear hb))
          refine hK.out _ _ (by (try dsimp only); exact bthen hHeld HXy19.out) (fun hHeld => ?_)
          clear hK K
          refine take_at (i := 20) (v := ?_) rfl rfl (by kernel_rfl) (by kernel_rfl) (by kernel_rfl) (fun _ _ _ h => h) (Or.inl ⟨by rfl, ?_⟩) (by assumption) ?_
          rotate_left
          · intro w0 hSw; (try dsimp only at hSw); first | (go_simp; done) | (go_simp; with_reducible rfl)
          simp only [List.setIfInBounds_toArray, List.set_cons_zero, List.set_cons_succ]
          refine take_at (i := 21) (v := ?_) rfl rfl (by kernel_rfl) (by kernel_rfl) (by kernel_rfl) (fun _ _ _ h => h) (Or.inl ⟨by rfl, ?_⟩) (by assumption) ?_
          rotate_left
          · intro w0 hSw; (try dsimp only at hSw); first | (go_simp; done) | (go_simp; with_reducible rfl)
          simp only [List.setIfInBounds_toArray, List.set_cons_zero, List.set_cons_succ]
          refine wpAnyH_done (by kernel_rfl) ?_ _
          have HFIN := Lib.hid (bthen HB8.out (show Below w8.heap.size w8 y19 from hHeld))
          clear hHeld
          go_wp2_with fail
          go_ret
          exact ⟨rfl, HFIN.out⟩
        exact AllReadyH.nil
      exact AllReadyH.nil
    exact AllReadyH.nil
  exact AllReadyH.nil
set_option linter.unusedSimpArgs false in
set_option maxRecDepth 100000 in
set_option maxHeartbeats 6400000 in
theorem points13_in {w : World} {s : List UInt8} {m : Nat} (hm : (m : Int) ≤ 2147483648) (hs : s.length = 32) (hk : KsAt w) :
    Calls Tryd.prog 3 #[.agg (cellsOf s).toArray, .int .i64 (m : Int)] w fun e w' => e = .returned (.bool true) ∧ Below w.heap.size w w' := by
  have HAW : Hid (∀ W : World, KsAt W → Calls Tryd.prog 6 #[] W fun e w' => e = .returned (.bool true) ∧ Below W.heap.size W w') := Lib.hid fun W hW => awake13_any hW
  have hmz : max (m : Int) 0 = (m : Int) := by omega
  have HQ : Hid ((cellsOf (quad m)).toArray = #[.int .u8 ((m : Int) / 16777216), .int .u8 ((m : Int) / 65536 % 256), .int .u8 ((m : Int) / 256 % 256), .int .u8 ((m : Int) % 256)]) := Lib.hid (quad_cells hm)
  have f9 : ¬ (2147483648 : Int) < (m : Int) := by omega
  have f8 : (0 : Int) ≤ (m : Int) := by omega
  obtain ⟨x, hx, hxl, hof, hpo, hjoin⟩ : ∃ x : List UInt8, secOf s m = x ∧ x.length = 32 ∧ (∀ W : World, KsAt W → Calls Tryd.prog 8 #[.agg (cellsOf s).toArray, .int .i64 (m : Int)] W fun e w' => e = .returned (.agg (cellsOf x).toArray) ∧ Below W.heap.size W w') ∧ (∀ W : World, KsAt W → Calls Tryd.prog 10 #[.agg (cellsOf s).toArray, .int .i64 (m : Int)] W fun e w' => e = .returned (.agg (cellsOf (shownSum x)).toArray) ∧ Below W.heap.size W w') ∧
      ∀ (W : World) (q p gg : Nat), KsAt W → W.heap[q]? = some (.cells (cellsOf s).toArray 23 (0, 0)) → W.heap[p]? = some (.cells (cellsOf (quad m)).toArray 5 (0, 0)) → W.heap[gg]? = some (.cells #[.slice (some ⟨q, 0, none⟩) 32 32, .slice (some ⟨p, 0, none⟩) 4 4] 26 (0, 0)) →
        Calls Tryd.prog 7 #[.int .u8 61, .slice (some ⟨gg, 0, none⟩) 2 2] W fun e w' => e = .returned (.agg (cellsOf x).toArray) ∧ Below W.heap.size W w' :=
    ⟨_, rfl, secOf_len s m, fun W hW => of_any hs hmz hm hW, fun W hW => point_any hs hmz hm hW, fun W q p gg hW hq hp hg => join_any 61 61 rfl (rows2_at hg (row_all hq 32 hs.symm (by omega)) (row_all hp 4 rfl (by omega))) hW (sec_parts hs m)⟩
  obtain ⟨h, hh, hhl, hha, hjoin2⟩ : ∃ h : List UInt8, shownSum x = h ∧ h.length = 32 ∧ (∀ W : World, KsAt W → Calls Tryd.prog 9 #[.agg (cellsOf x).toArray] W fun e w' => e = .returned (.agg (cellsOf h).toArray) ∧ Below W.heap.size W w') ∧
      ∀ (W : World) (q gg : Nat), KsAt W → W.heap[q]? = some (.cells (cellsOf x).toArray 23 (0, 0)) → W.heap[gg]? = some (.cells #[.slice (some ⟨q, 0, none⟩) 32 32] 26 (0, 0)) →
        Calls Tryd.prog 7 #[.int .u8 31, .slice (some ⟨gg, 0, none⟩) 1 1] W fun e w' => e = .returned (.agg (cellsOf h).toArray) ∧ Below W.heap.size W w' :=
    ⟨_, rfl, shownSum_len x, fun W hW => shash_any hxl hW, fun W q gg hW hq hg => join_any 31 31 rfl (rows2_one hg (row_all hq 32 hxl.symm (by omega))) hW (one_part hxl 31)⟩
  rw [hh] at hpo
  have HOF := Lib.hid hof
  have HPO := Lib.hid hpo
  have HHA := Lib.hid hha
  have HJ := Lib.hid hjoin
  have HJ2 := Lib.hid hjoin2
  have HXL := Lib.hid hxl
  have HHL := Lib.hid hhl
  have SZS := Lib.hid (sumLen13 hs)
  have SZX := Lib.hid (sumLen13 hxl)
  have SZH := Lib.hid (sumLen13 hhl)
  have CX : Hid ((cellsOf x).length = 32) := Lib.hid (by rw [cellsOf_len, hxl])
  have CH : Hid ((cellsOf h).length = 32) := Lib.hid (by rw [cellsOf_len, hhl])
  have HK := Lib.hid hk
  clear hof hpo hha hjoin hjoin2 hx hh hxl hhl hs hk hmz
  go_enter Tryd.func3, Tryd.ntmps3
  go_upto_region 1 with (fail)
  have b1 : Below w.heap.size w (w.alloc (.cells (cellsOf s).toArray 23)) := (Below.refl _ _).alloc (Nat.le_refl _) _
  have h1 := heap_alloc_new w (.cells (cellsOf s).toArray 23)
  revert b1 h1
  generalize (w.alloc (.cells (cellsOf s).toArray 23)) = w1
  obtain ⟨g, hg⟩ : ∃ g, g = w.heap.size := ⟨_, rfl⟩
  rw [← hg]
  intro b1 h1
  rw [hg] at b1
  have HB1 := Lib.hid b1
  have H1 := Lib.hid h1
  clear b1 h1 hg
  go_upto_region 6 with (fail)
  go_wp2_with fail
  rw [← HQ.out]
  have b2 : Below w1.heap.size w1 (((w1.alloc (.cells (cellsOf (quad m)).toArray 5)).alloc (.cells #[.slice (some ⟨g, 0, none⟩) 32 32, .slice (some ⟨w1.heap.size, 0, none⟩) 4 4] 26))) := ((Below.refl _ _).alloc (Nat.le_refl _) _).alloc (by simp) _
  have hp2 : (((w1.alloc (.cells (cellsOf (quad m)).toArray 5)).alloc (.cells #[.slice (some ⟨g, 0, none⟩) 32 32, .slice (some ⟨w1.heap.size, 0, none⟩) 4 4] 26))).heap[w1.heap.size]? = some (.cells (cellsOf (quad m)).toArray 5 (0, 0)) := by
    rw [heap_alloc_old _ _ (by simp), heap_alloc_new]
  have HJC := Lib.hid (HJ.out _ g w1.heap.size (w1.heap.size + 1) (HK.out.below (bthen HB1.out b2)) (keep b2 H1.out) hp2 (heap_alloc_at _ _ _ (by simp)))
  refine HJC.out.mono ?_
  rintro e w3 ⟨rfl, hb3⟩
  have HB3 := Lib.hid (bthen b2 hb3)
  clear b2 hp2 hb3 HJ HJC HQ
  go_upto_region 7 with (first | (refine wpList_var rfl rfl 23 rfl _ _ rfl (cellsOf zero32).toArray sum_zero rfl (cellsOf x) (fun _ => rfl) (fun _ => rfl) CX.out (cellsOf_one x) ?_; intro p w5 hq hh hb; go_frame; have HP5 := Lib.hid hh; have HB5 := Lib.hid (bthen HB3.out hb); clear hq hh hb) | fail)
  go_wp2_with fail
  have b6 : Below w5.heap.size w5 (w5.alloc (.cells #[.slice (some ⟨p, 0, none⟩) 32 32] 26)) := (Below.refl _ _).alloc (Nat.le_refl _) _
  have HJC := Lib.hid (HJ2.out _ p w5.heap.size (HK.out.below (bthen HB1.out (bthen HB5.out b6))) (keep b6 HP5.out) (heap_alloc_new _ _))
  refine HJC.out.mono ?_
  rintro e w6 ⟨rfl, hb6⟩
  have HB6 := Lib.hid (bthen HB5.out (bthen b6 hb6))
  have HP6 := Lib.hid (keep (bthen b6 hb6) HP5.out)
  clear b6 hb6 HJ2 HJC
  go_upto_region 8 with (first | (refine wpList_var rfl rfl 23 rfl _ _ rfl (cellsOf zero32).toArray sum_zero rfl (cellsOf h) (fun _ => rfl) (fun _ => rfl) CH.out (cellsOf_one h) ?_; intro r w8 hq hh hb; go_frame; have HR8 := Lib.hid hh; have HB68 := Lib.hid (bthen HB6.out hb); have HP8 := Lib.hid (keep hb HP6.out); clear hq hh hb) | fail)
  have HB8 := Lib.hid (bthen HB1.out HB68.out)
  have H8 := Lib.hid (keep HB68.out H1.out)
  refine wp_region_held_drew (S := fun w' => Below w8.heap.size w8 w') (by kernel_rfl) (below_drew (Below.refl _ _)) (fun hHeld => ?_)
  refine take_at (i := 0) rfl rfl (by kernel_rfl) (by kernel_rfl) (by kernel_rfl) (fun _ _ _ h => h) (yieldsIf_load_mid (by rfl) _ _ rfl g 0 rfl (cellsOf s) _ (fun w0 hSw => range_of (keep hSw H8.out)) Tryd.underlying23 rfl SZS.out) (by assumption) ?_
  simp only [List.setIfInBounds_toArray, List.set_cons_zero, List.set_cons_succ]
  refine take_at (i := 1) (v := ?_) rfl rfl (by kernel_rfl) (by kernel_rfl) (by kernel_rfl) (fun _ _ _ h => h) (Or.inl ⟨by rfl, ?_⟩) (by assumption) ?_
  rotate_left
  · intro w0 hSw; (try dsimp only at hSw); first | (go_simp; done) | (go_simp; with_reducible rfl)
  simp only [List.setIfInBounds_toArray, List.set_cons_zero, List.set_cons_succ]
  refine take_at (i := 3) rfl rfl (by kernel_rfl) (by kernel_rfl) (by kernel_rfl) (fun _ _ _ h => h) (yieldsIf_load_mid (by rfl) _ _ rfl p 0 rfl (cellsOf x) _ (fun w0 hSw => range_of (keep hSw HP8.out)) Tryd.underlying23 rfl SZX.out) (by assumption) ?_
  simp only [List.setIfInBounds_toArray, List.set_cons_zero, List.set_cons_succ]
  refine wpAnyH_ready (rs := [2]) (by kernel_rfl) (by simp) ?_
  refine AllReadyH.cons rfl (fun K hK => ?_) ?_
  · have HC2 := Lib.hid (HOF.out _ (HK.out.below (bthen HB8.out hHeld)))
    go_simp
    go_wp2_with ((go_at_call 8; (with_reducible refine (HC2.out).mono ?_); rintro e y2 ⟨rfl, hb⟩; have HXy2 := Lib.hid hb; clear hb))
    refine hK.out _ _ (by (try dsimp only); exact bthen hHeld HXy2.out) (fun hHeld => ?_)
    clear hK K
    refine take_at (i := 4) rfl rfl (by kernel_rfl) (by kernel_rfl) (by kernel_rfl) (fun _ _ _ h => h) (yields_eql (by rfl) rfl rfl rfl HXL.out HXL.out true (by simp)) (by assumption) ?_
    simp only [List.setIfInBounds_toArray, List.set_cons_zero, List.set_cons_succ]
    refine take_at (i := 5) (v := ?_) rfl rfl (by kernel_rfl) (by kernel_rfl) (by kernel_rfl) (fun _ _ _ h => h) (Or.inl ⟨by rfl, ?_⟩) (by assumption) ?_
    rotate_left
    · intro w0 hSw; (try dsimp only at hSw); first | (go_simp; done) | (go_simp; with_reducible rfl)
    simp only [List.setIfInBounds_toArray, List.set_cons_zero, List.set_cons_succ]
    refine take_at (i := 6) rfl rfl (by kernel_rfl) (by kernel_rfl) (by kernel_rfl) (fun _ _ _ h => h) (yieldsIf_load_mid (by rfl) _ _ rfl p 0 rfl (cellsOf x) _ (fun w0 hSw => range_of (keep hSw HP8.out)) Tryd.underlying23 rfl SZX.out) (by assumption) ?_
    simp only [List.setIfInBounds_toArray, List.set_cons_zero, List.set_cons_succ]
    refine take_at (i := 8) rfl rfl (by kernel_rfl) (by kernel_rfl) (by kernel_rfl) (fun _ _ _ h => h) (yieldsIf_load_mid (by rfl) _ _ rfl r 0 rfl (cellsOf h) _ (fun w0 hSw => range_of (keep hSw HR8.out)) Tryd.underlying23 rfl SZH.out) (by assumption) ?_
    simp only [List.setIfInBounds_toArray, List.set_cons_zero, List.set_cons_succ]
    refine wpAnyH_ready (rs := [7]) (by kernel_rfl) (by simp) ?_
    refine AllReadyH.cons rfl (fun K hK => ?_) ?_
    · have HC7 := Lib.hid (HHA.out _ (HK.out.below (bthen HB8.out hHeld)))
      go_simp
      go_wp2_with ((go_at_call 9; (with_reducible refine (HC7.out).mono ?_); rintro e y7 ⟨rfl, hb⟩; have HXy7 := Lib.hid hb; clear hb))
      refine hK.out _ _ (by (try dsimp only); exact bthen hHeld HXy7.out) (fun hHeld => ?_)
      clear hK K
      refine take_at (i := 9) rfl rfl (by kernel_rfl) (by kernel_rfl) (by kernel_rfl) (fun _ _ _ h => h) (yields_eql (by rfl) rfl rfl rfl HHL.out HHL.out true (by simp)) (by assumption) ?_
      simp only [List.setIfInBounds_toArray, List.set_cons_zero, List.set_cons_succ]
      refine take_at (i := 10) (v := ?_) rfl rfl (by kernel_rfl) (by kernel_rfl) (by kernel_rfl) (fun _ _ _ h => h) (Or.inl ⟨by rfl, ?_⟩) (by assumption) ?_
      rotate_left
      · intro w0 hSw; (try dsimp only at hSw); first | (go_simp; done) | (go_simp; with_reducible rfl)
      simp only [List.setIfInBounds_toArray, List.set_cons_zero, List.set_cons_succ]
      refine take_at (i := 11) (v := ?_) rfl rfl (by kernel_rfl) (by kernel_rfl) (by kernel_rfl) (fun _ _ _ h => h) (Or.inl ⟨by rfl, ?_⟩) (by assumption) ?_
      rotate_left
      · intro w0 hSw; (try dsimp only at hSw); first | (go_simp; done) | (go_simp; with_reducible rfl)
      simp only [List.setIfInBounds_toArray, List.set_cons_zero, List.set_cons_succ]
      refine take_at (i := 12) rfl rfl (by kernel_rfl) (by kernel_rfl) (by kernel_rfl) (fun _ _ _ h => h) (yieldsIf_load_mid (by rfl) _ _ rfl g 0 rfl (cellsOf s) _ (fun w0 hSw => range_of (keep hSw H8.out)) Tryd.underlying23 rfl SZS.out) (by assumption) ?_
      simp only [List.setIfInBounds_toArray, List.set_cons_zero, List.set_cons_succ]
      refine take_at (i := 13) (v := ?_) rfl rfl (by kernel_rfl) (by kernel_rfl) (by kernel_rfl) (fun _ _ _ h => h) (Or.inl ⟨by rfl, ?_⟩) (by assumption) ?_
      rotate_left
      · intro w0 hSw; (try dsimp only at hSw); first | (go_simp; done) | (go_simp; with_reducible rfl)
      simp only [List.setIfInBounds_toArray, List.set_cons_zero, List.set_cons_succ]
      refine take_at (i := 15) rfl rfl (by kernel_rfl) (by kernel_rfl) (by kernel_rfl) (fun _ _ _ h => h) (yieldsIf_load_mid (by rfl) _ _ rfl r 0 rfl (cellsOf h) _ (fun w0 hSw => range_of (keep hSw HR8.out)) Tryd.underlying23 rfl SZH.out) (by assumption) ?_
      simp only [List.setIfInBounds_toArray, List.set_cons_zero, List.set_cons_succ]
      refine wpAnyH_ready (rs := [14]) (by kernel_rfl) (by simp) ?_
      refine AllReadyH.cons rfl (fun K hK => ?_) ?_
      · have HC14 := Lib.hid (HPO.out _ (HK.out.below (bthen HB8.out hHeld)))
        go_simp
        go_wp2_with ((go_at_call 10; (with_reducible refine (HC14.out).mono ?_); rintro e y14 ⟨rfl, hb⟩; have HXy14 := Lib.hid hb; clear hb))
        refine hK.out _ _ (by (try dsimp only); exact bthen hHeld HXy14.out) (fun hHeld => ?_)
        clear hK K
        refine take_at (i := 16) rfl rfl (by kernel_rfl) (by kernel_rfl) (by kernel_rfl) (fun _ _ _ h => h) (yields_eql (by rfl) rfl rfl rfl HHL.out HHL.out true (by simp)) (by assumption) ?_
        simp only [List.setIfInBounds_toArray, List.set_cons_zero, List.set_cons_succ]
        refine take_at (i := 17) (v := ?_) rfl rfl (by kernel_rfl) (by kernel_rfl) (by kernel_rfl) (fun _ _ _ h => h) (Or.inl ⟨by rfl, ?_⟩) (by assumption) ?_
        rotate_left
        · intro w0 hSw; (try dsimp only at hSw); first | (go_simp; done) | (go_simp; with_reducible rfl)
        simp only [List.setIfInBounds_toArray, List.set_cons_zero, List.set_cons_succ]
        refine take_at (i := 18) (v := ?_) rfl rfl (by kernel_rfl) (by kernel_rfl) (by kernel_rfl) (fun _ _ _ h => h) (Or.inl ⟨by rfl, ?_⟩) (by assumption) ?_
        rotate_left
        · intro w0 hSw; (try dsimp only at hSw); first | (go_simp; done) | (go_simp; with_reducible rfl)
        simp only [List.setIfInBounds_toArray, List.set_cons_zero, List.set_cons_succ]
        refine wpAnyH_ready (rs := [19]) (by kernel_rfl) (by simp) ?_
        refine AllReadyH.cons rfl (fun K hK => ?_) ?_
        · have HC19 := Lib.hid (HAW.out _ (HK.out.below (bthen HB8.out hHeld)))
          go_simp
          go_wp2_with ((go_at_call 6; (with_reducible refine (HC19.out).mono ?_); rintro e y19 ⟨rfl, hb⟩; have HXy19 := Lib.hid hb; clear hb))
          refine hK.out _ _ (by (try dsimp only); exact bthen hHeld HXy19.out) (fun hHeld => ?_)
          clear hK K
          refine take_at (i := 20) (v := ?_) rfl rfl (by kernel_rfl) (by kernel_rfl) (by kernel_rfl) (fun _ _ _ h => h) (Or.inl ⟨by rfl, ?_⟩) (by assumption) ?_
          rotate_left
          · intro w0 hSw; (try dsimp only at hSw); first | (go_simp; done) | (go_simp; with_reducible rfl)
          simp only [List.setIfInBounds_toArray, List.set_cons_zero, List.set_cons_succ]
          refine take_at (i := 21) (v := ?_) rfl rfl (by kernel_rfl) (by kernel_rfl) (by kernel_rfl) (fun _ _ _ h => h) (Or.inl ⟨by rfl, ?_⟩) (by assumption) ?_
          rotate_left
          · intro w0 hSw; (try dsimp only at hSw); first | (go_simp; done) | (go_simp; with_reducible rfl)
          simp only [List.setIfInBounds_toArray, List.set_cons_zero, List.set_cons_succ]
          refine wpAnyH_done (by kernel_rfl) ?_ _
          have HFIN := Lib.hid (bthen HB8.out (show Below w8.heap.size w8 y19 from hHeld))
          clear hHeld
          go_wp2_with fail
          go_ret
          exact ⟨rfl, HFIN.out⟩
        exact AllReadyH.nil
      exact AllReadyH.nil
    exact AllReadyH.nil
  exact AllReadyH.nil
set_option linter.unusedSimpArgs false in
set_option maxRecDepth 100000 in
set_option maxHeartbeats 6400000 in
theorem points13_great {w : World} {s : List UInt8} {z : Int} (hz : 2147483648 < z) (hk : KsAt w) :
    Calls Tryd.prog 3 #[.agg (cellsOf s).toArray, .int .i64 z] w fun e w' => e = .returned (.bool true) ∧ Below w.heap.size w w' := by
  have HAW : Hid (∀ W : World, KsAt W → Calls Tryd.prog 6 #[] W fun e w' => e = .returned (.bool true) ∧ Below W.heap.size W w') := Lib.hid fun W hW => awake13_any hW
  have HK := Lib.hid hk
  clear hk
  go_enter Tryd.func3, Tryd.ntmps3
  go_upto_region 1 with (fail)
  have b1 : Below w.heap.size w (w.alloc (.cells (cellsOf s).toArray 23)) := (Below.refl _ _).alloc (Nat.le_refl _) _
  have h1 := heap_alloc_new w (.cells (cellsOf s).toArray 23)
  revert b1 h1
  generalize (w.alloc (.cells (cellsOf s).toArray 23)) = w1
  obtain ⟨g, hg⟩ : ∃ g, g = w.heap.size := ⟨_, rfl⟩
  rw [← hg]
  intro b1 h1
  rw [hg] at b1
  have HB1 := Lib.hid b1
  have H1 := Lib.hid h1
  clear b1 h1 hg
  go_wp2_with fail
  refine (HAW.out _ (HK.out.below HB1.out)).mono ?_
  rintro e w2 ⟨rfl, hb⟩
  have HB2 := Lib.hid (bthen HB1.out hb)
  clear hb
  go_wp2_with fail
  go_ret
  exact ⟨rfl, HB2.out⟩
theorem points13_walk {w : World} {s : List UInt8} {z : Int} (hs : s.length = 32) (hk : KsAt w) :
    Calls Tryd.prog 3 #[.agg (cellsOf s).toArray, .int .i64 z] w fun e w' => e = .returned (.bool true) ∧ Below w.heap.size w w' := by
  by_cases h1 : 2147483648 < z
  · exact points13_great h1 hk
  · by_cases h0 : z < 0
    · exact points13_low h0 hs hk
    · obtain ⟨m, rfl⟩ : ∃ m : Nat, z = (m : Int) := ⟨z.toNat, by omega⟩
      exact points13_in (by omega) hs hk
end Go.Proofs.YthpkafjonelanaaDoor
