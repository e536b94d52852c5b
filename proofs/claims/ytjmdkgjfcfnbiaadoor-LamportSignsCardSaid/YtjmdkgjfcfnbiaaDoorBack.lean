/- What Back comes to: the key's sum that a signature leads to, or an error. -/
import Derived.Test.YtjmdkgjfcfnbiaaDoorTwo
import Derived.Test.YtjmdkgjfcfnbiaaDoorHalf
import Derived.Test.YtjmdkgjfcfnbiaaDoorShown
namespace Go.Proofs.YtjmdkgjfcfnbiaaDoor
open Go.RowKit

set_option linter.unusedSimpArgs false in
set_option maxRecDepth 100000 in
set_option maxHeartbeats 3200000 in
theorem back_out {w : World} {a b : Option Addr} {n c m k : Nat} (hm : m ≠ 4096) :
    Calls Tryd.prog 12 #[.slice a n c, .slice b m k] w fun e w' => e = .returned (.tuple #[.agg (cellsOf zero32).toArray, .int .i64 11]) ∧ Below w.heap.size w w' := by
  have f1 : ¬ ((m : Int) = 4096) := by omega
  have SZ := Lib.hid (size_of (d := zero32) rfl)
  have HZ := Lib.hid (zero_of (d := zero32) rfl)
  clear hm
  go_enter Tryd.func12, Tryd.ntmps12
  go_upto_region 2 with (fail)
  rw [← zero32_is]
  have b1 : Below w.heap.size w (w.alloc (.cells (cellsOf zero32).toArray 23)) := (Below.refl _ _).alloc (Nat.le_refl _) _
  have h1 : (w.alloc (.cells (cellsOf zero32).toArray 23)).heap[w.heap.size]? = some (.cells (cellsOf zero32).toArray 23 (0, 0)) := heap_alloc_new _ _
  revert b1 h1
  generalize (w.alloc (.cells (cellsOf zero32).toArray 23)) = w1
  obtain ⟨g, hg⟩ : ∃ g, g = w.heap.size := ⟨_, rfl⟩
  rw [← hg]
  intro b1 h1
  rw [hg] at b1
  have HB1 := Lib.hid b1
  have H1 := Lib.hid h1
  have HG := Lib.hid hg
  clear b1 h1 hg
  go_wp2_with (refine wpList_store_row rfl 23 _ _ rfl g (cellsOf zero32).toArray rfl rfl 23 (cellsOf zero32).toArray H1.out SZ.out HZ.out (all_oneCell_toArray (cellsOf_one zero32)) ?_)
  refine bodyPost_ret (results_cell_then rfl _ _ g 23 (cellsOf zero32).toArray (0, 0) _ (.int .i64 11) rfl rfl (setRow_heap w1 g _ _ 23 _ H1.out) Tryd.underlying23 rfl SZ.out) rfl ⟨rfl, ?_⟩
  exact HB1.out.trans (((but_setRow _ g _).mono HB1.out.size).below (by rw [HG.out]; omega))

set_option linter.unusedSimpArgs false in
set_option maxRecDepth 100000 in
set_option maxHeartbeats 6400000 in
theorem back_in {w : World} {a b : Option Addr} {n c k : Nat} {l sig : List UInt8} (h : Row w a n c l) (hn : n ≤ 1000000) (hsig : Row w b 4096 k sig) (hk : KsAt w) :
    Calls Tryd.prog 12 #[.slice a n c, .slice b 4096 k] w fun e w' => e = .returned (.tuple #[.agg (cellsOf (backOf l sig)).toArray, .int .i64 0]) ∧ Below w.heap.size w w' := by
  obtain ⟨i0, hi, hz0, hz1, hz2⟩ := info_parts Tryd.bytes3
  have HI := Lib.hid hi
  have hsl : sig.length = 4096 := hsig.1
  obtain ⟨d, hd, hdl, hdig⟩ : ∃ d, digestOf l = d ∧ d.length = 32 ∧ ∀ W : World, Row W a n c l → KsAt W → Calls Tryd.prog 15 #[.slice a n c] W fun e w' => e = .returned (.agg (cellsOf d).toArray) ∧ Below W.heap.size W w' :=
    ⟨_, rfl, digestOf_len l, fun W hr hW => digest_any hr hn hW⟩
  have hstep : ∀ j : Nat, j < 64 → ∃ (t t' : Nat) (z o s u v : List UInt8), (1 : Int) - (t : Int) = (t' : Int) ∧ t < 2 ∧ t' < 2 ∧ z.length = 32 ∧ o.length = 32 ∧ s.length = 32 ∧ piece (s ++ o) t = u ∧ piece (s ++ o) t' = v ∧ backTo l sig (j + 1) = (backTo l sig j ++ u) ++ v ∧
      (∀ W : World, Row W b 4096 k sig → Calls Tryd.prog 24 #[.slice b 4096 k, .int .i64 (2 * (j : Int))] W fun e w' => e = .returned (.agg (cellsOf z).toArray) ∧ Below W.heap.size W w') ∧
      (∀ W : World, Row W b 4096 k sig → Calls Tryd.prog 24 #[.slice b 4096 k, .int .i64 (2 * (j : Int) + 1)] W fun e w' => e = .returned (.agg (cellsOf o).toArray) ∧ Below W.heap.size W w') ∧
      (∀ W : World, KsAt W → Calls Tryd.prog 18 #[.agg (cellsOf z).toArray] W fun e w' => e = .returned (.agg (cellsOf s).toArray) ∧ Below W.heap.size W w') ∧
      (∀ W : World, Calls Tryd.prog 23 #[.agg (cellsOf d).toArray, .int .i64 (j : Int)] W fun e w' => e = .returned (.int .i64 (t : Int)) ∧ Below W.heap.size W w') := fun j hj => by
    have ho : (piece sig (2 * j + 1)).length = 32 := piece_len (by omega)
    have hz : (piece sig (2 * j)).length = 32 := piece_len (by omega)
    have h0 : ∀ s o : List UInt8, s.length = 32 → o.length = 32 → piece (s ++ o) 0 = s := fun s o hs ho => piece_even (s ++ o) s o 0 hs (by rw [Nat.zero_mul, List.drop_zero]; exact List.take_of_length_le (by rw [List.length_append]; omega))
    have h1 : ∀ s o : List UInt8, s.length = 32 → o.length = 32 → piece (s ++ o) 1 = o := fun s o hs ho => piece_odd (s ++ o) s o 0 hs (by rw [Nat.zero_mul, List.drop_zero]; exact List.take_of_length_le (by rw [List.length_append]; omega))
    have c1 : ∀ W : World, Row W b 4096 k sig → Calls Tryd.prog 24 #[.slice b 4096 k, .int .i64 (2 * (j : Int))] W fun e w' => e = .returned (.agg (cellsOf (piece sig (2 * j))).toArray) ∧ Below W.heap.size W w' := fun W hW => by
      have h := half_any (2 * j) (by omega) (by omega) hW
      rw [show ((2 * j : Nat) : Int) = 2 * (j : Int) by omega] at h
      exact h
    have c2 : ∀ W : World, Row W b 4096 k sig → Calls Tryd.prog 24 #[.slice b 4096 k, .int .i64 (2 * (j : Int) + 1)] W fun e w' => e = .returned (.agg (cellsOf (piece sig (2 * j + 1))).toArray) ∧ Below W.heap.size W w' := fun W hW => by
      have h := half_any (2 * j + 1) (by omega) (by omega) hW
      rw [show ((2 * j + 1 : Nat) : Int) = 2 * (j : Int) + 1 by omega] at h
      exact h
    have hb := bitAt_lt (digestOf l) j
    have cb : ∀ W : World, Calls Tryd.prog 23 #[.agg (cellsOf d).toArray, .int .i64 (j : Int)] W fun e w' => e = .returned (.int .i64 ((bitAt (digestOf l) j : Nat) : Int)) ∧ Below W.heap.size W w' := fun W => by rw [hd]; exact bitOf_any j hj hdl
    have s0 := backTo_succ0 l sig j
    have s1 := backTo_succ1 l sig j
    generalize bitAt (digestOf l) j = t at *
    rcases (show t = 0 ∨ t = 1 by omega) with rfl | rfl
    · exact ⟨0, 1, _, _, shownOf (piece sig (2 * j)), _, _, rfl, by omega, by omega, hz, ho, shownOf_len _, h0 _ _ (shownOf_len _) ho, h1 _ _ (shownOf_len _) ho, s0 rfl, c1, c2, fun W hW => shown_any hz hW, cb⟩
    · exact ⟨1, 0, _, _, shownOf (piece sig (2 * j)), _, _, rfl, by omega, by omega, hz, ho, shownOf_len _, h1 _ _ (shownOf_len _) ho, h0 _ _ (shownOf_len _) ho, s1 (by omega), c1, c2, fun W hW => shown_any hz hW, cb⟩
  have hlen : ∀ j : Nat, j ≤ 64 → (backTo l sig j).length = j * 64 := fun j hj => backTo_len (by omega)
  obtain ⟨key, hkey, hkl, hjoin⟩ : ∃ key, backOf l sig = key ∧ key.length = 32 ∧ ∀ (W : World) (a : Option Addr) (c gg : Nat), Row W a 4096 c (backTo l sig 64) → KsAt W → W.heap[gg]? = some (.cells #[.slice a 4096 c] 24 (0, 0)) → Calls Tryd.prog 10 #[.int .u8 13, .slice (some ⟨gg, 0, none⟩) 1 1] W fun e w' => e = .returned (.agg (cellsOf key).toArray) ∧ Below W.heap.size W w' := by
    refine ⟨_, rfl, backOf_len l sig, fun W a c gg hr hW hg => join_any 13 13 rfl (rows2_one hg hr) hW ?_⟩
    have e : (backTo l sig 64).length = 4096 := hlen 64 (by omega)
    unfold partsOf partOf
    simp only [List.flatMap_cons, List.flatMap_nil, List.length_cons, List.length_append, four_len, List.length_nil, e]
    omega
  rw [hkey]
  have SZD := Lib.hid (size_of hdl)
  have HZD := Lib.hid (zero_of hdl)
  have SZK := Lib.hid (size_of hkl)
  have HZK := Lib.hid (zero_of hkl)
  have HK := Lib.hid hk
  have HR := Lib.hid h
  have HS := Lib.hid hsig
  have HST := Lib.hid hstep
  have HLEN := Lib.hid hlen
  have HDG := Lib.hid hdig
  have HJ := Lib.hid hjoin
  clear hi hk h hn hsig hsl hstep hlen hd hdl hdig hkey hkl hjoin
  go_enter Tryd.func12, Tryd.ntmps12
  go_upto_region 3 with (fail)
  rw [← zero32_is]
  have b1 : Below w.heap.size w (w.alloc (.cells (cellsOf zero32).toArray 23)) := (Below.refl _ _).alloc (Nat.le_refl _) _
  have h1 : (w.alloc (.cells (cellsOf zero32).toArray 23)).heap[w.heap.size]? = some (.cells (cellsOf zero32).toArray 23 (0, 0)) := heap_alloc_new _ _
  revert b1 h1
  generalize (w.alloc (.cells (cellsOf zero32).toArray 23)) = w1
  obtain ⟨g, hg⟩ : ∃ g, g = w.heap.size := ⟨_, rfl⟩
  rw [← hg]
  intro b1 h1
  rw [hg] at b1
  have HB1 := Lib.hid b1
  have H1 := Lib.hid h1
  have HG := Lib.hid hg
  clear b1 h1 hg
  go_wp2_with fail
  refine (HDG.out _ (HR.out.below HB1.out) (HK.out.below HB1.out)).mono ?_
  rintro e w2 ⟨rfl, hb2⟩
  have HB2 := Lib.hid (HB1.out.trans (hb2.mono HB1.out.size))
  have H2 := Lib.hid ((hb2.block _ (lt_of_block H1.out)).trans H1.out)
  clear hb2
  go_upto_region 4 with (refine wpList_store_row rfl 23 _ _ rfl w2.heap.size (cellsOf d).toArray rfl rfl 23 (cellsOf zero32).toArray (heap_alloc_new _ _) SZD.out HZD.out (all_oneCell_toArray (cellsOf_one d)) ?_)
  rw [← zero32_is, laySum_is]
  have h3 := laySum_heap w2 d
  have b3 := laySum_below d HB2.out
  have h4 := ((laySum_self w2 d).block _ (lt_of_block H2.out)).trans H2.out
  revert h3 b3 h4
  generalize laySum w2 d = w3
  generalize w2.heap.size = q
  intro h3 b3 h4
  have HB3 := Lib.hid b3
  have H3 := Lib.hid h3
  have H4 := Lib.hid h4
  have HKW := Lib.hid (HK.out.below b3)
  have HSW := Lib.hid (HS.out.below b3)
  clear h3 b3 h4
  try simp only [Act.put]
  go_upto_region 5 with (at_make; refine wpList_make_own _ rfl _ _ 24 rfl w3.heap.size 5 i0 _ 1 Tryd.underlying24 HI.out hz0 hz1 _ _ _ 4096 rfl rfl rfl (by rw [hz2]; omega) (by unfold maxLen; omega) (Nat.le_refl _) ?_; intro w4 hown hgrow)
  have HU := Lib.hid (Under.begun hown hgrow)
  clear hown hgrow
  go_wp2_with fail
  go_loopw [7, 20] (fun u i wr => ∃ j : Nat, j ≤ 64 ∧ i = .int .i64 j ∧ Under w3 u (backTo l sig j) wr) (fun _ i _ => 64 - (intOf i).toNat)
  case atStart => exact ⟨0, Nat.zero_le _, rfl, HU.out⟩
  case round =>
    obtain ⟨j, hj, rfl, hat⟩ := hrel
    by_cases hj64 : j < 64
    · have f1 : (j : Int) < 64 := by omega
      obtain ⟨t, t', z, o, s, u, v, et, ht, ht', hzl, hol, hsl, hu, hv, hnext, hh1, hh2, hsh, hbit⟩ := HST.out j hj64
      obtain ⟨X, hX⟩ : ∃ X, X = backTo l sig j := ⟨_, rfl⟩
      have hlen : X.length = j * 64 := by rw [hX]; exact HLEN.out j hj
      rw [← hX] at hat hnext
      obtain ⟨F, hF⟩ : ∃ F, F = X.length := ⟨_, rfl⟩
      have hF4 : F ≤ 4096 := by omega
      obtain ⟨a', c', rfl⟩ := hat.shape hF.symm
      have SZZ := Lib.hid (size_of hzl)
      have HZZ := Lib.hid (zero_of hzl)
      have SZO := Lib.hid (size_of hol)
      have HZO := Lib.hid (zero_of hol)
      have HZL := Lib.hid hzl
      have HOL := Lib.hid hol
      have HSL := Lib.hid hsl
      have HUU := Lib.hid hu
      have HVV := Lib.hid hv
      have HULEN : Hid (u.length = 32) := Lib.hid (by rw [← hu]; exact piece_len (by rw [List.length_append]; omega))
      have HN := Lib.hid hnext
      have HH1 := Lib.hid hh1
      have HH2 := Lib.hid hh2
      have HSH := Lib.hid hsh
      have HBIT := Lib.hid hbit
      have HLF := Lib.hid hF.symm
      have HAT := Lib.hid hat
      have HTT := Lib.hid ht
      have HTT' := Lib.hid ht'
      have t0 : (0 : Int) ≤ (t : Int) := by omega
      have t1 : (t : Int) < 2 := by omega
      have t2 : (0 : Int) ≤ (t' : Int) := by omega
      have t3 : (t' : Int) < 2 := by omega
      clear hzl hol hsl hu hv hnext hh1 hh2 hsh hbit hX hlen hF hat HU
      go_wp2_with fail
      refine (HH1.out _ (HSW.out.below HAT.out.below)).mono ?_
      rintro e w5 ⟨rfl, hb5⟩
      have HA5 := Lib.hid (HAT.out.more hb5)
      clear hb5
      go_wp2_with fail
      refine (HH2.out _ (HSW.out.below HA5.out.below)).mono ?_
      rintro e w6 ⟨rfl, hb6⟩
      have HA6 := Lib.hid (HA5.out.more hb6)
      clear hb6
      go_upto_region 9 with (first | (refine wpList_store_row rfl 23 _ _ rfl w6.heap.size (cellsOf z).toArray rfl rfl 23 (cellsOf zero32).toArray (two_first w6) SZZ.out HZZ.out (all_oneCell_toArray (cellsOf_one z)) ?_) | (refine wpList_store_row rfl 23 _ _ rfl (w6.heap.size + 1) (cellsOf o).toArray rfl rfl 23 (cellsOf zero32).toArray (two_next w6 z) SZO.out HZO.out (all_oneCell_toArray (cellsOf_one o)) ?_) | fail)
      rw [← zero32_is, layTwo_is]
      have hp1 := layTwo_first w6 z o
      have hp2 := layTwo_next w6 z o
      have ha7 := HA6.out.more (layTwo_self w6 z o)
      revert hp1 hp2 ha7
      generalize layTwo w6 z o = w7
      generalize w6.heap.size = p
      intro hp1 hp2 ha7
      have HP1 := Lib.hid (range_of hp1)
      have HP2 := Lib.hid (range_of hp2)
      have hlt1 := lt_of_block hp1
      have hlt2 := lt_of_block hp2
      have HA7 := Lib.hid ha7
      have HK7 := Lib.hid (HKW.out.below ha7.below)
      clear hp1 hp2 ha7
      try simp only [Act.put]
      refine wp_region_held_drew (S := fun w' => Below w7.heap.size w7 w') (by kernel_rfl) (below_drew (Below.refl _ _)) (fun hHeld => ?_)
      refine take_at (i := 0) rfl rfl (by kernel_rfl) (by kernel_rfl) (by kernel_rfl) (fun _ _ _ h => h) (yieldsIf_load_mid (by rfl) _ _ rfl p 0 rfl (cellsOf z) _ (fun w0 hSw => rangeAt_below HP1.out hlt1 hSw) Tryd.underlying23 rfl SZZ.out) (by assumption) ?_
      simp only [List.setIfInBounds_toArray, List.set_cons_zero, List.set_cons_succ]
      refine take_at (i := 2) rfl rfl (by kernel_rfl) (by kernel_rfl) (by kernel_rfl) (fun _ _ _ h => h) (yieldsIf_load_mid (by rfl) _ _ rfl (p + 1) 0 rfl (cellsOf o) _ (fun w0 hSw => rangeAt_below HP2.out hlt2 hSw) Tryd.underlying23 rfl SZO.out) (by assumption) ?_
      simp only [List.setIfInBounds_toArray, List.set_cons_zero, List.set_cons_succ]
      refine wpAnyH_ready (rs := [1, 4]) (by kernel_rfl) (by simp) ?_
      refine AllReadyH.cons rfl (fun K hK => ?_) ?_
      · go_simp
        go_wp2_with ((go_at_call 18; (with_reducible refine (HSH.out _ (HK7.out.below hHeld)).mono ?_); rintro e x1 ⟨rfl, hb1⟩; have HC1 := Lib.hid hb1; clear hb1))
        refine hK.out _ _ (by (try dsimp only); exact Below.trans hHeld (HC1.out.mono (Below.size hHeld))) (fun hHeld => ?_)
        clear hK K
        refine take_at (i := 3) rfl rfl (by kernel_rfl) (by kernel_rfl) (by kernel_rfl) (fun _ _ _ h => h) (yields_two (by rfl) rfl rfl rfl HSL.out HOL.out) (by assumption) ?_
        simp only [List.setIfInBounds_toArray, List.set_cons_zero, List.set_cons_succ]
        refine wpAnyH_ready (rs := [4]) (by kernel_rfl) (by simp) ?_
        refine AllReadyH.cons rfl (fun K hK => ?_) ?_
        · refine step_alloc_at (d := 11) rfl (by rfl) 53 rfl zeros2 Tryd.zeroTwo ?_
          refine hK.out _ _ (by (try dsimp only); exact Below.alloc hHeld (Below.size hHeld) _) (fun hHeld => ?_)
          clear hK K
          refine wpAnyH_ready (rs := [5]) (by kernel_rfl) (by simp) ?_
          refine AllReadyH.cons rfl (fun K hK => ?_) ?_
          · have hz5 : (x1.alloc (.cells (cellsOf zeros2).toArray 53)).heap[x1.heap.size]? = some (.cells (cellsOf zeros2).toArray 53 (0, 0)) := heap_alloc_new _ _
            have hge : w7.heap.size ≤ x1.heap.size := Below.size (show Below w7.heap.size w7 x1 from Below.trans (below_drew (Below.refl _ _)) (HC1.out.mono (by simp)))
            have bb : Below w7.heap.size w7 (x1.alloc (.cells (cellsOf zeros2).toArray 53)) := hHeld
            have b8 : Below w7.heap.size w7 ((x1.alloc (.cells (cellsOf zeros2).toArray 53)).setRow x1.heap.size (cellsOf (s ++ o)).toArray) := bb.trans (((but_setRow _ (x1.heap.size) _).mono bb.size).below hge)
            have hh8 : ((x1.alloc (.cells (cellsOf zeros2).toArray 53)).setRow x1.heap.size (cellsOf (s ++ o)).toArray).heap[x1.heap.size]? = some (.cells (cellsOf (s ++ o)).toArray 53 (0, 0)) := setRow_heap _ _ _ _ _ _ hz5
            have SZ5 : (Tryd.prog.info? 53).map (·.size) = some (cellsOf (s ++ o)).toArray.size := by rw [List.size_toArray, cellsOf_len, List.length_append, HSL.out, HOL.out]; exact Tryd.sizeTwo
            have HZ5 : (cellsOf zeros2).toArray.size = (cellsOf (s ++ o)).toArray.size := by rw [List.size_toArray, List.size_toArray, cellsOf_len, cellsOf_len, List.length_append, HSL.out, HOL.out]; rfl
            have HB8 := Lib.hid b8
            have HH8 := Lib.hid hh8
            have HGE := Lib.hid hge
            clear b8 hh8 hge bb
            rw [if_pos (by rfl)]
            refine wp_store_row 53 _ _ rfl (x1.heap.size) (cellsOf (s ++ o)).toArray rfl rfl 53 (cellsOf zeros2).toArray hz5 SZ5 HZ5 (all_oneCell_toArray (cellsOf_one (s ++ o))) ?_
            clear hz5 SZ5 HZ5
            refine hK.out _ _ (by (try dsimp only); exact HB8.out) (fun hHeld => ?_)
            clear hK K
            refine wpAnyH_done (by kernel_rfl) ?_ _
            clear hHeld
            revert HB8 HH8 HGE
            generalize ((x1.alloc (.cells (cellsOf zeros2).toArray 53)).setRow x1.heap.size (cellsOf (s ++ o)).toArray) = w8
            intro HB8 HH8 HGE
            revert HH8 HGE
            generalize x1.heap.size = r
            intro HH8 HGE
            have HA8 := Lib.hid (HA7.out.more HB8.out)
            have HRU : Hid (Row w8 (some ⟨r, t * 32, none⟩) 32 32 u) := Lib.hid (by rw [← HUU.out]; exact two_row HH8.out HSL.out HOL.out HTT.out rfl)
            have HRV : Hid (Row w8 (some ⟨r, t' * 32, none⟩) 32 32 v) := Lib.hid (by rw [← HVV.out]; exact two_row HH8.out HSL.out HOL.out HTT'.out rfl)
            have HNE : Hid (∀ k, Value.ownBlock (.slice a' F c') = some k → k < r) := Lib.hid (fun k e => Nat.lt_of_lt_of_le (HA7.out.old k e) HGE.out)
            have HD8 := Lib.hid ((HA8.out.below.block _ (lt_of_block H3.out)).trans H3.out)
            clear HH8 HGE HB8
            try simp only [Act.put]
            go_wp2_with (refine wpList_load_row rfl 23 _ rfl q rfl 23 (cellsOf d).toArray (0, 0) _ HD8.out Tryd.underlying23 rfl SZD.out ?_)
            refine (HBIT.out _).mono ?_
            rintro e w9 ⟨rfl, hb9⟩
            have HA9 := Lib.hid (HA8.out.more hb9)
            have HRU9 := Lib.hid (HRU.out.below hb9)
            have HRV9 := Lib.hid (HRV.out.below hb9)
            clear hb9
            go_upto_region 12 with (at_builtin; refine wpList_append_row _ rfl _ _ 24 rfl w3.heap.size i0 Tryd.underlying24 HI.out hz0 hz1 hz2 (.slice a' F c') X F HLF.out rfl HA9.out.own _ 32 32 u rfl HRU9.out (by omega) HA9.out.below.size ?_; intro a11 c11 w11 ho11 hg11)
            have HA11 := Lib.hid (HA9.out.grown ho11 hg11)
            have HRV11 := Lib.hid (HRV9.out.grown hg11 HNE.out)
            have HLF11 : Hid ((X ++ u).length = F + 32) := Lib.hid (by rw [List.length_append, HLF.out, HULEN.out])
            clear ho11 hg11
            go_wp2_with (at_builtin; refine wpList_append_row _ rfl _ _ 24 rfl w3.heap.size i0 Tryd.underlying24 HI.out hz0 hz1 hz2 (.slice a11 (F + 32) c11) (X ++ u) (F + 32) HLF11.out rfl HA11.out.own _ 32 32 v rfl HRV11.out (by omega) HA11.out.below.size ?_; intro a12 c12 w12 ho12 hg12; have HA12 := Lib.hid (HA11.out.grown ho12 hg12); clear ho12 hg12)
            go_roundw
            case rel => exact ⟨j + 1, by omega, by go_num, by rw [HN.out]; exact HA12.out⟩
            case measure => simp [intOf]; omega
          exact AllReadyH.nil
        exact AllReadyH.nil
      refine AllReadyH.cons rfl (fun K hK => ?_) ?_
      · refine step_alloc_at (d := 11) rfl (by rfl) 53 rfl zeros2 Tryd.zeroTwo ?_
        refine hK.out _ _ (by (try dsimp only); exact Below.alloc hHeld (Below.size hHeld) _) (fun hHeld => ?_)
        clear hK K
        refine wpAnyH_ready (rs := [1]) (by kernel_rfl) (by simp) ?_
        refine AllReadyH.cons rfl (fun K hK => ?_) ?_
        · have hal : Below w7.heap.size w7 (w7.alloc (.cells (cellsOf zeros2).toArray 53)).drew := hHeld
          go_simp
          go_wp2_with ((go_at_call 18; (with_reducible refine (HSH.out _ (HK7.out.below hal)).mono ?_); rintro e x1 ⟨rfl, hb1⟩; have HC1 := Lib.hid hb1; clear hb1))
          refine hK.out _ _ (by (try dsimp only); exact Below.trans hal (HC1.out.mono (Below.size hal))) (fun hHeld => ?_)
          clear hK K
          refine take_at (i := 3) rfl rfl (by kernel_rfl) (by kernel_rfl) (by kernel_rfl) (fun _ _ _ h => h) (yields_two (by rfl) rfl rfl rfl HSL.out HOL.out) (by assumption) ?_
          simp only [List.setIfInBounds_toArray, List.set_cons_zero, List.set_cons_succ]
          refine wpAnyH_ready (rs := [5]) (by kernel_rfl) (by simp) ?_
          refine AllReadyH.cons rfl (fun K hK => ?_) ?_
          · have hz5 : x1.heap[w7.heap.size]? = some (.cells (cellsOf zeros2).toArray 53 (0, 0)) := (HC1.out.block _ (by simp)).trans (heap_alloc_new w7 _)
            have hge : w7.heap.size ≤ w7.heap.size := Nat.le_refl _
            have bb : Below w7.heap.size w7 x1 := hHeld
            have b8 : Below w7.heap.size w7 (x1.setRow w7.heap.size (cellsOf (s ++ o)).toArray) := bb.trans (((but_setRow _ (w7.heap.size) _).mono bb.size).below hge)
            have hh8 : (x1.setRow w7.heap.size (cellsOf (s ++ o)).toArray).heap[w7.heap.size]? = some (.cells (cellsOf (s ++ o)).toArray 53 (0, 0)) := setRow_heap _ _ _ _ _ _ hz5
            have SZ5 : (Tryd.prog.info? 53).map (·.size) = some (cellsOf (s ++ o)).toArray.size := by rw [List.size_toArray, cellsOf_len, List.length_append, HSL.out, HOL.out]; exact Tryd.sizeTwo
            have HZ5 : (cellsOf zeros2).toArray.size = (cellsOf (s ++ o)).toArray.size := by rw [List.size_toArray, List.size_toArray, cellsOf_len, cellsOf_len, List.length_append, HSL.out, HOL.out]; rfl
            have HB8 := Lib.hid b8
            have HH8 := Lib.hid hh8
            have HGE := Lib.hid hge
            clear b8 hh8 hge bb
            rw [if_pos (by rfl)]
            refine wp_store_row 53 _ _ rfl (w7.heap.size) (cellsOf (s ++ o)).toArray rfl rfl 53 (cellsOf zeros2).toArray hz5 SZ5 HZ5 (all_oneCell_toArray (cellsOf_one (s ++ o))) ?_
            clear hz5 SZ5 HZ5
            refine hK.out _ _ (by (try dsimp only); exact HB8.out) (fun hHeld => ?_)
            clear hK K
            refine wpAnyH_done (by kernel_rfl) ?_ _
            clear hHeld
            revert HB8 HH8 HGE
            generalize (x1.setRow w7.heap.size (cellsOf (s ++ o)).toArray) = w8
            intro HB8 HH8 HGE
            try rw [show w7.drew.heap.size = w7.heap.size from rfl]
            obtain ⟨r, hr⟩ : ∃ r, r = w7.heap.size := ⟨_, rfl⟩
            have hle : w7.heap.size ≤ r := by omega
            rw [← hr] at HH8 ⊢
            clear HGE
            have HGE := Lib.hid hle
            clear hle hr
            have HA8 := Lib.hid (HA7.out.more HB8.out)
            have HRU : Hid (Row w8 (some ⟨r, t * 32, none⟩) 32 32 u) := Lib.hid (by rw [← HUU.out]; exact two_row HH8.out HSL.out HOL.out HTT.out rfl)
            have HRV : Hid (Row w8 (some ⟨r, t' * 32, none⟩) 32 32 v) := Lib.hid (by rw [← HVV.out]; exact two_row HH8.out HSL.out HOL.out HTT'.out rfl)
            have HNE : Hid (∀ k, Value.ownBlock (.slice a' F c') = some k → k < r) := Lib.hid (fun k e => Nat.lt_of_lt_of_le (HA7.out.old k e) HGE.out)
            have HD8 := Lib.hid ((HA8.out.below.block _ (lt_of_block H3.out)).trans H3.out)
            clear HH8 HGE HB8
            try simp only [Act.put]
            go_wp2_with (refine wpList_load_row rfl 23 _ rfl q rfl 23 (cellsOf d).toArray (0, 0) _ HD8.out Tryd.underlying23 rfl SZD.out ?_)
            refine (HBIT.out _).mono ?_
            rintro e w9 ⟨rfl, hb9⟩
            have HA9 := Lib.hid (HA8.out.more hb9)
            have HRU9 := Lib.hid (HRU.out.below hb9)
            have HRV9 := Lib.hid (HRV.out.below hb9)
            clear hb9
            go_upto_region 12 with (at_builtin; refine wpList_append_row _ rfl _ _ 24 rfl w3.heap.size i0 Tryd.underlying24 HI.out hz0 hz1 hz2 (.slice a' F c') X F HLF.out rfl HA9.out.own _ 32 32 u rfl HRU9.out (by omega) HA9.out.below.size ?_; intro a11 c11 w11 ho11 hg11)
            have HA11 := Lib.hid (HA9.out.grown ho11 hg11)
            have HRV11 := Lib.hid (HRV9.out.grown hg11 HNE.out)
            have HLF11 : Hid ((X ++ u).length = F + 32) := Lib.hid (by rw [List.length_append, HLF.out, HULEN.out])
            clear ho11 hg11
            go_wp2_with (at_builtin; refine wpList_append_row _ rfl _ _ 24 rfl w3.heap.size i0 Tryd.underlying24 HI.out hz0 hz1 hz2 (.slice a11 (F + 32) c11) (X ++ u) (F + 32) HLF11.out rfl HA11.out.own _ 32 32 v rfl HRV11.out (by omega) HA11.out.below.size ?_; intro a12 c12 w12 ho12 hg12; have HA12 := Lib.hid (HA11.out.grown ho12 hg12); clear ho12 hg12)
            go_roundw
            case rel => exact ⟨j + 1, by omega, by go_num, by rw [HN.out]; exact HA12.out⟩
            case measure => simp [intOf]; omega
          exact AllReadyH.nil
        exact AllReadyH.nil
      exact AllReadyH.nil
    · have f1 : ¬ ((j : Int) < 64) := by omega
      have hj' : j = 64 := by omega
      rw [hj'] at hat
      obtain ⟨a', c', rfl⟩ := hat.shape (HLEN.out 64 (Nat.le_refl _))
      have HF := Lib.hid hat
      clear hat hj' HU
      go_wp2_with fail
      have b5 : Below wr.heap.size wr (wr.alloc (.cells #[.slice a' 4096 c'] 24)) := (Below.refl _ _).alloc (Nat.le_refl _) _
      refine (HJ.out _ a' c' _ (HF.out.row.below b5) ((HKW.out.below HF.out.below).below b5) (heap_alloc_new _ _)).mono ?_
      rintro e w5 ⟨rfl, hb5⟩
      have hb6 : Below w3.heap.size w3 w5 := HF.out.below.trans ((b5.trans (hb5.mono b5.size)).mono HF.out.below.size)
      have HB6 := Lib.hid hb6
      have HT1 := Lib.hid ((hb6.block _ (lt_of_block H4.out)).trans H4.out)
      clear b5 hb5 hb6
      go_wp2_with (refine wpList_store_row rfl 23 _ _ rfl g (cellsOf key).toArray rfl rfl 23 (cellsOf zero32).toArray HT1.out SZK.out HZK.out (all_oneCell_toArray (cellsOf_one key)) ?_)
      refine bodyPost_ret (results_cell_then rfl _ _ g 23 (cellsOf key).toArray (0, 0) _ (.int .i64 0) rfl rfl (setRow_heap w5 g _ _ 23 _ HT1.out) Tryd.underlying23 rfl SZK.out) rfl ⟨rfl, ?_⟩
      have b7 : Below w.heap.size w w5 := HB3.out.trans (HB6.out.mono HB3.out.size)
      exact b7.trans (((but_setRow _ g _).mono b7.size).below (by rw [HG.out]; omega))
end Go.Proofs.YtjmdkgjfcfnbiaaDoor
