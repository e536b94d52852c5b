/- Law 19: BlockMakes. -/
import Derived.Test.YtlnenkmcegadmaaDoorAwake19
namespace Go.Proofs.YtlnenkmcegadmaaDoor
open Go.RowKit

set_option linter.unusedSimpArgs false in
set_option maxRecDepth 100000 in
set_option maxHeartbeats 6400000 in
theorem makes19_walk {w : World} {h : PHead} {a : Option Addr} {n c : Nat} {xs : List PTx} (hh : HeadIn h) (hx : SliceOf txK w a n c xs) (hk : KsAt w) (haw : ∀ W : World, KsAt W → Calls Tryd.prog 8 #[] W fun e w' => e = .returned (.bool true) ∧ Below W.heap.size W w') :
    Calls Tryd.prog 3 #[.agg h.cells.toArray, .slice a n c] w fun e w' => e = .returned (.bool true) ∧ Below w.heap.size w w' := by
  have b1 : Below w.heap.size w (w.alloc (.cells h.cells.toArray 25)) := (Below.refl _ _).alloc (Nat.le_refl _) _
  have h1 := heap_alloc_new w (.cells h.cells.toArray 25)
  have HG1 := Lib.hid h1
  have HH := Lib.hid hh
  have HX := Lib.hid hx
  have HK := Lib.hid hk
  have HAW : Hid (∀ W : World, Below w.heap.size w W → Calls Tryd.prog 8 #[] W fun e w' => e = .returned (.bool true) ∧ Below W.heap.size W w') := Lib.hid fun W hW => haw W (hk.below hW)
  have HB1 := Lib.hid b1
  have HSML := Lib.hid fun (W : World) (hW : Below w.heap.size w W) => smallL_any (hx.below hW)
  have SH := Lib.hid (headSize19 hh)
  have hn63 := hx.len63
  obtain ⟨y, hyy⟩ : ∃ y, h.height = y := ⟨_, rfl⟩
  have HY := Lib.hid hyy
  clear b1 h1 hh hx hk haw hyy
  go_enter Tryd.func3, Tryd.ntmps3
  go_upto_region 1 with (fail)
  revert HG1 HB1
  generalize (w.alloc (.cells h.cells.toArray 25)) = w1
  obtain ⟨g, hg⟩ : ∃ g, g = w.heap.size := ⟨_, rfl⟩
  rw [← hg]
  intro HG1 HB1
  rw [hg] at HB1
  clear hg
  have HR1 : Hid (∀ W : World, Below w1.heap.size w1 W → W.rangeAt g 0 h.cells) := Lib.hid fun W hW => range_of (keep hW HG1.out)
  have HCY : Hid (∀ W : World, Below w1.heap.size w1 W → W.cell? ⟨g, 32, none⟩ = some (.int .i64 y)) := Lib.hid fun W hW => by
    have h9 := (head_at HH.out.ahead HH.out.root (HR1.out W hW)).height
    rw [Nat.zero_add, HY.out] at h9
    exact h9
  obtain ⟨V, hV⟩ : ∃ V, smallL n xs = V := ⟨_, rfl⟩
  rw [hV] at HSML
  cases V
  · go_wp2_with (first
    | (go_at_call 7; (with_reducible refine (HSML.out _ HB1.out).mono ?_); rintro e w2 ⟨rfl, hb⟩; have HB2 := Lib.hid (bthen HB1.out hb); clear hb)
    | (go_at_call 8; (with_reducible refine (HAW.out _ HB2.out).mono ?_); rintro e w9 ⟨rfl, hb⟩; have HZw9 := Lib.hid (bthen HB2.out hb); clear hb) | fail)
    go_ret
    exact ⟨rfl, HZw9.out⟩
  obtain ⟨hn20, hsm⟩ := smallL_in19 HX.out hV
  have hff : ∀ x ∈ xs, FrontFew false x := fun x hx => small_front19 false (show TxIn w x from HX.out.2.2.2.2.1 x hx) (hsm x hx).1
  obtain ⟨SA, hSA, hSAL⟩ : ∃ SA, headSum h = SA ∧ SA.length = 32 := ⟨_, rfl, headSum_len _⟩
  have hcs := fun (W : World) (hW : Below w.heap.size w W) => headSum_any HH.out (HK.out.below hW)
  have hlw := fun (W : World) (hW : Below w.heap.size w W) => headLaw_any HH.out (HK.out.below hW)
  rw [hSA] at hcs hlw
  have HCS := Lib.hid hcs
  have HLW := Lib.hid hlw
  have HSA := Lib.hid hSA
  have HSAL := Lib.hid hSAL
  have HN20 := Lib.hid hn20
  have HSM := Lib.hid hsm
  have HFF := Lib.hid hff
  clear hcs hlw hSA hSAL hff hsm hV
  go_upto_region 3 with (first
    | (go_at_call 7; (with_reducible refine (HSML.out _ HB1.out).mono ?_); rintro e w2 ⟨rfl, hb⟩; have HB2 := Lib.hid (bthen HB1.out hb); have HX2 := Lib.hid hb; clear hb) | fail)
  have R2 := Lib.hid (HR1.out _ HX2.out)
  clear HSML
  by_cases hy : 0 ≤ y ∧ y ≤ 1073741823
  case neg =>
    have HMK := Lib.hid fun (W : World) => make_range (w := W) (a := a) (n := n) (c := c) HH.out (by rw [HY.out]; exact hy)
    go_upto_region 4 with (first
    | (refine wpList_load_mid rfl 25 _ rfl g (0) rfl h.cells _ R2.out Tryd.underlying25 rfl SH.out ?_)
    | (go_at_call 9; (with_reducible refine (HMK.out _).mono ?_); rintro e w3b ⟨rfl, hb⟩; have HB3b := Lib.hid (bthen HB2.out hb); have HX3b := Lib.hid (bthen HX2.out hb); clear hb)
    | (refine wpList_new rfl 30 rfl noBlock.cells.toArray Tryd.zeroBlock19 ?_; intro p w3 hq hh hb; go_frame; have HP := Lib.hid hh; have HN : Hid (w3b.heap.size ≤ p) := Lib.hid hq; have HB3 := Lib.hid hb; clear hq hh hb)
    | (refine wpList_row10 rfl 30 _ _ rfl p (noBlock.cells) rfl rfl 30 noBlock.cells HP.out Tryd.sizeNo19 (rfl) (PBlock.one _) ?_; intro w4 hh hb; have HX4 := Lib.hid (But.in HB3.out hb HN.out); have RP := Lib.hid (range_of hh); have RH := Lib.hid hh; clear hh hb) | fail)
    have HXE := Lib.hid (bthen HX3b.out HX4.out)
    have HBE := Lib.hid (bthen HB3b.out HX4.out)
    have HHP := Lib.hid RH.out
    refine wp_region_held_drew (S := fun w' => Below w4.heap.size w4 w') (by kernel_rfl) (below_drew (Below.refl _ _)) (fun hHeld => ?_)
    refine tkA 0 rfl rfl (yieldsIf_load_mid (by rfl) _ _ rfl g 0 rfl h.cells _ (fun w0 hSw => HR1.out _ (bthen HXE.out hSw)) Tryd.underlying25 rfl SH.out) ?_
    refine tkA 2 rfl rfl (yieldsIf_load_mid (by rfl) _ _ rfl g 0 rfl h.cells _ (fun w0 hSw => HR1.out _ (bthen HXE.out hSw)) Tryd.underlying25 rfl SH.out) ?_
    refine tkR 1 rfl (fun K hK => ?_)
    have HC1 := Lib.hid (HCS.out _ (bthen HBE.out hHeld))
    go_simp
    go_wp2_with ((go_at_call 10; (with_reducible refine (HC1.out).mono ?_); rintro e u1 ⟨rfl, hb⟩; have HXu1 := Lib.hid hb; clear hb))
    refine hK.out _ _ (by (try dsimp only); exact bthen hHeld HXu1.out) (fun hHeld => ?_)
    clear hK K
    refine tkR 3 rfl (fun K hK => ?_)
    have HC3 := Lib.hid (HLW.out _ (bthen HBE.out hHeld))
    go_simp
    go_wp2_with ((go_at_call 11; (with_reducible refine (HC3.out).mono ?_); rintro e u2 ⟨rfl, hb⟩; have HXu2 := Lib.hid hb; clear hb))
    refine hK.out _ _ (by (try dsimp only); exact bthen hHeld HXu2.out) (fun hHeld => ?_)
    clear hK K
    refine tkA 4 rfl rfl (yields_neq (by rfl) rfl rfl rfl HSAL.out HSAL.out false (by simp)) ?_
    refine wpAnyH_done (by kernel_rfl) ?_ _
    have HX6 := Lib.hid (bthen HXE.out hHeld)
    have HB6 := Lib.hid (bthen HBE.out hHeld)
    have HHP6 := Lib.hid (keep hHeld HHP.out)
    clear hHeld
    have cy := HCY.out _ HX6.out
    have c66 : u2.cell? ⟨p, 66, none⟩ = some (.slice none 0 0) := by
      have h9 := block_txs noHead_in (range_of HHP6.out)
      rw [Nat.zero_add] at h9
      exact h9
    have RZ := Lib.hid (block_head (x := noBlock) (range_of HHP6.out))
    have SNH := Lib.hid (headSize19 noHead_in)
    by_cases hneg : y < 0
    · go_wp2_with (first | (refine wpList_mid_wanted (by rfl) 25 _ rfl p 0 rfl noHead.cells _ RZ.out Tryd.underlying25 rfl SNH.out ?_) | (refine wpList_build_wanted (by rfl) rfl (vs := []) rfl build_noHead19 ?_; go_frame) | (refine wpList_eqlH19 (by rfl) rfl noHead rfl rfl noHead_in ?_) | (go_at_call 8; (with_reducible refine (HAW.out _ HB6.out).mono ?_); rintro e w9 ⟨rfl, hb⟩; have HZw9 := Lib.hid (bthen HB6.out hb); clear hb) | fail)
      go_ret
      exact ⟨rfl, HZw9.out⟩
    · have hbig : (1073741823 : Int) < y := by omega
      go_wp2_with (first | (refine wpList_mid_wanted (by rfl) 25 _ rfl p 0 rfl noHead.cells _ RZ.out Tryd.underlying25 rfl SNH.out ?_) | (refine wpList_build_wanted (by rfl) rfl (vs := []) rfl build_noHead19 ?_; go_frame) | (refine wpList_eqlH19 (by rfl) rfl noHead rfl rfl noHead_in ?_) | (go_at_call 8; (with_reducible refine (HAW.out _ HB6.out).mono ?_); rintro e w9 ⟨rfl, hb⟩; have HZw9 := Lib.hid (bthen HB6.out hb); clear hb) | fail)
      go_ret
      exact ⟨rfl, HZw9.out⟩
  obtain ⟨hy0, hy1⟩ := hy
  have hw1 := IntWalk.i64_in (n := y + 1) (by omega)
  obtain ⟨Y1, hY1⟩ : ∃ Y1, y + 1 = Y1 := ⟨_, rfl⟩
  rw [hY1] at hw1
  obtain ⟨us, hus⟩ : ∃ us, xs.map txSum = us := ⟨_, rfl⟩
  obtain ⟨R, hR, hRL⟩ : ∃ R, rootSum us = R ∧ R.length = 32 := ⟨_, rfl, rootSum_len _⟩
  obtain ⟨Z, hZ⟩ : ∃ Z, Z = (⟨SA, Y1, R, (n : Int)⟩ : PHead) := ⟨_, rfl⟩
  have HZI : Hid (HeadIn Z) := Lib.hid (by rw [hZ]; exact ⟨HSAL.out, (show Fits Y1 by constructor <;> omega), hRL, (show Fits (n : Int) by constructor <;> omega)⟩)
  have HZR : Hid (Z.root = R ∧ Z.many = (n : Int)) := Lib.hid (by rw [hZ]; exact ⟨rfl, rfl⟩)
  have HBH : Hid (∀ w : World, (Instr.build 25 ([(0, (.agg (cellsOf SA).toArray : Value)), (1, .int .i64 Y1), (2, .agg (cellsOf R).toArray), (3, .int .i64 (n : Int))] : List (Nat × Value)).toArray).run Tryd.prog w = .ok (.agg Z.cells.toArray) w) := Lib.hid (fun w => by rw [hZ]; exact build_head19 Y1 (n : Int) HSAL.out hRL w)
  have HMK : Hid (∀ W : World, Below w.heap.size w W → Calls Tryd.prog 9 #[.agg h.cells.toArray, .slice a n c] W fun e w' => ∃ (q : Nat) (ys : List PTx), e = .returned (.tuple #[.agg (PBlock.cells ⟨Z, some ⟨q, 0, none⟩, n, n, ys⟩).toArray, .int .i64 0]) ∧ SliceOf txK w' (some ⟨q, 0, none⟩) n n ys ∧ ys.map PTx.strip = xs.map PTx.strip ∧ Below W.heap.size W w') := Lib.hid fun W hW => by
    refine (make_ok HH.out (by rw [HY.out]; exact hy0) (by rw [HY.out]; exact hy1) (HX.out.below hW) (HK.out.below hW) HSM.out (by have h9 := HN20.out; omega)).mono ?_
    rintro e w' ⟨q, ys, he, _, hs, ht, _, hb⟩
    exact ⟨q, ys, by rw [he, hZ, hus, hR, HSA.out, HY.out, hY1], hs, ht, hb⟩
  have HSB : Hid (∀ (q : Nat) (ys : List PTx), (Tryd.prog.info? 30).map (·.size) = some (PBlock.cells ⟨Z, some ⟨q, 0, none⟩, n, n, ys⟩).length) := Lib.hid fun q ys => block_size (b := ⟨Z, some ⟨q, 0, none⟩, n, n, ys⟩) HZI.out
  have HSL : Hid (∀ (q : Nat) (ys : List PTx), (PBlock.cells ⟨Z, some ⟨q, 0, none⟩, n, n, ys⟩).length = 67) := Lib.hid fun q ys => PBlock.len (b := ⟨Z, some ⟨q, 0, none⟩, n, n, ys⟩) HZI.out
  have HRV : Hid (∀ (q : Nat) (ys : List PTx), ys.map PTx.strip = xs.map PTx.strip → rightV ⟨Z, some ⟨q, 0, none⟩, n, n, ys⟩ = true) := Lib.hid fun q ys ht => by
    have h9 := sums_alike19 ht
    unfold rightV
    rw [hZ]
    show (decide ((n : Int) = (n : Int)) && (decide ((n : Int) ≤ 64) && ((decide (0 ≤ Y1) && decide (Y1 ≤ 1073741824)) && decide (R = rootSum (ys.map txSum))))) = true
    rw [h9, hus, hR]
    have h20 := HN20.out
    simp
    omega
  have SZH := Lib.hid (headSize19 HZI.out)
  have HUS := Lib.hid hus
  have HRT := Lib.hid hR
  have HRL := Lib.hid hRL
  clear hus hR hRL hZ
  go_upto_region 4 with (first
    | (refine wpList_load_mid rfl 25 _ rfl g (0) rfl h.cells _ R2.out Tryd.underlying25 rfl SH.out ?_)
    | (go_at_call 9; (with_reducible refine (HMK.out _ HB2.out).mono ?_); rintro e w3b ⟨q, ys, rfl, hys, hst, hb⟩; have HYS := Lib.hid hys; have HST := Lib.hid hst; have HB3b := Lib.hid (bthen HB2.out hb); have HX3b := Lib.hid (bthen HX2.out hb); clear hys hst hb)
    | (refine wpList_new rfl 30 rfl noBlock.cells.toArray Tryd.zeroBlock19 ?_; intro p w3 hq hh hb; go_frame; have HP := Lib.hid hh; have HN : Hid (w3b.heap.size ≤ p) := Lib.hid hq; have HB3 := Lib.hid hb; clear hq hh hb)
    | (refine wpList_row10 rfl 30 _ _ rfl p ((PBlock.cells ⟨Z, some ⟨q, 0, none⟩, n, n, ys⟩)) rfl rfl 30 noBlock.cells HP.out (HSB.out q ys) (by rw [HSL.out q ys]; rfl) (PBlock.one _) ?_; intro w4 hh hb; have HX4 := Lib.hid (But.in HB3.out hb HN.out); have RP := Lib.hid (range_of hh); have RH := Lib.hid hh; clear hh hb) | fail)
  have HXE := Lib.hid (bthen HX3b.out HX4.out)
  have HBE := Lib.hid (bthen HB3b.out HX4.out)
  have HHP := Lib.hid RH.out
  have HYS4 := Lib.hid (HYS.out.below HX4.out)
  clear HMK HP HN HB3 HYS HB3b HX3b HX4 RP RH R2
  refine wp_region_held_drew (S := fun w' => Below w4.heap.size w4 w') (by kernel_rfl) (below_drew (Below.refl _ _)) (fun hHeld => ?_)
  refine tkA 0 rfl rfl (yieldsIf_load_mid (by rfl) _ _ rfl g 0 rfl h.cells _ (fun w0 hSw => HR1.out _ (bthen HXE.out hSw)) Tryd.underlying25 rfl SH.out) ?_
  refine tkA 2 rfl rfl (yieldsIf_load_mid (by rfl) _ _ rfl g 0 rfl h.cells _ (fun w0 hSw => HR1.out _ (bthen HXE.out hSw)) Tryd.underlying25 rfl SH.out) ?_
  refine tkR 1 rfl (fun K hK => ?_)
  have HC1 := Lib.hid (HCS.out _ (bthen HBE.out hHeld))
  go_simp
  go_wp2_with ((go_at_call 10; (with_reducible refine (HC1.out).mono ?_); rintro e u1 ⟨rfl, hb⟩; have HXu1 := Lib.hid hb; clear hb))
  refine hK.out _ _ (by (try dsimp only); exact bthen hHeld HXu1.out) (fun hHeld => ?_)
  clear hK K
  refine tkR 3 rfl (fun K hK => ?_)
  have HC3 := Lib.hid (HLW.out _ (bthen HBE.out hHeld))
  go_simp
  go_wp2_with ((go_at_call 11; (with_reducible refine (HC3.out).mono ?_); rintro e u2 ⟨rfl, hb⟩; have HXu2 := Lib.hid hb; clear hb))
  refine hK.out _ _ (by (try dsimp only); exact bthen hHeld HXu2.out) (fun hHeld => ?_)
  clear hK K
  refine tkA 4 rfl rfl (yields_neq (by rfl) rfl rfl rfl HSAL.out HSAL.out false (by simp)) ?_
  refine wpAnyH_done (by kernel_rfl) ?_ _
  have HX6 := Lib.hid (bthen HXE.out hHeld)
  have HB6 := Lib.hid (bthen HBE.out hHeld)
  have HP6 := Lib.hid (keep hHeld HHP.out)
  have HY6 := Lib.hid (HYS4.out.below hHeld)
  clear hHeld
  have cy := HCY.out _ HX6.out
  have hneg : ¬ y < 0 := by omega
  have hbig : ¬ (1073741823 : Int) < y := by omega
  go_upto_region 8 with (fail)
  clear cy HHP HYS4 HXE HBE HB2 HX2 HB1 HCS
  have hes := eachSum HY6.out (HK.out.below HB6.out) (all_strip19 (P := fun x => Small19 x) (fun e hx => small_strip19 e hx) HST.out (fun x hx => (HSM.out x hx).1) |> fun hall x hx => small_front19 false (show TxIn u2 x from HY6.out.2.2.2.2.1 x hx) (hall x hx))
  rw [sums_alike19 HST.out, HUS.out] at hes
  have HES := Lib.hid hes
  clear hes
  have HLS := Lib.hid fun (W : World) (hW : Below w.heap.size w W) => lsums_any (HX.out.below hW) (HK.out.below hW) HFF.out (by have h9 := HN20.out; omega)
  rw [HUS.out] at HLS
  go_upto_region 9 with (first | (go_at_call 12; (with_reducible refine (HLS.out _ HB6.out).mono ?_); rintro e w7 ⟨a7, c7, rfl, hq, _, hb⟩; have HQ7 := Lib.hid hq; have HB7 := Lib.hid (bthen HB6.out hb); have HX7 := Lib.hid (bthen HX6.out hb); have HP7 := Lib.hid (keep hb HP6.out); have HY7 := Lib.hid (HY6.out.below hb); have HE7 := Lib.hid hb; clear hq hb) | fail)
  have HRP : Hid (∀ W : World, Below w7.heap.size w7 W → W.rangeAt p 0 (PBlock.cells ⟨Z, some ⟨q, 0, none⟩, n, n, ys⟩)) := Lib.hid fun W hW => range_of (keep hW HP7.out)
  have HC66 : Hid (∀ W : World, Below w7.heap.size w7 W → W.cell? ⟨p, 66, none⟩ = some (.slice (some ⟨q, 0, none⟩) n n)) := Lib.hid fun W hW => by
    have h9 := block_txs (x := ⟨Z, some ⟨q, 0, none⟩, n, n, ys⟩) HZI.out (HRP.out W hW)
    rw [Nat.zero_add] at h9
    exact h9
  have HRH : Hid (∀ W : World, Below w7.heap.size w7 W → W.rangeAt p 0 Z.cells) := Lib.hid fun W hW => block_head (x := ⟨Z, some ⟨q, 0, none⟩, n, n, ys⟩) (HRP.out W hW)
  have HBI7 : Hid (∀ W : World, Below w7.heap.size w7 W → BlockIn W ⟨Z, some ⟨q, 0, none⟩, n, n, ys⟩) := Lib.hid fun W hW => ⟨HZI.out, HY7.out.below hW⟩
  have HFY : Hid (∀ W : World, Below w7.heap.size w7 W → ∀ x ∈ ys, FrontFew false x) := Lib.hid fun W hW x hx => small_front19 false (show TxIn W x from (HY7.out.below hW).2.2.2.2.1 x hx) (all_strip19 (P := fun x => Small19 x) (fun e hx => small_strip19 e hx) HST.out (fun x hx => (HSM.out x hx).1) x hx)
  have HRG := Lib.hid fun (W : World) (hW : Below w7.heap.size w7 W) => right_any19 (HBI7.out W hW) (HK.out.below (bthen HB7.out hW)) (HFY.out W hW) (by show n ≤ 1000; have h9 := HN20.out; omega)
  rw [HRV.out q ys HST.out] at HRG
  have HRO := Lib.hid fun (W : World) (hW : Below w7.heap.size w7 W) => root_any (HQ7.out.below hW) (HK.out.below (bthen HB7.out hW)) (by have h9 := HN20.out; omega)
  rw [HRT.out] at HRO
  have HLW7 := Lib.hid fun (W : World) (hW : Below w7.heap.size w7 W) => HLW.out W (bthen HB7.out hW)
  have SBB := Lib.hid (HSB.out q ys)
  refine wp_region_held_drew (S := fun w' => Below w7.heap.size w7 w') (by kernel_rfl) (below_drew (Below.refl _ _)) (fun hHeld => ?_)
  refine tkP 0 rfl rfl ?_
  refine tkP (v := .bool false) 1 rfl rfl ?_
  refine tkP 2 rfl rfl ?_
  refine tkP 3 rfl rfl ?_
  refine tkA 4 rfl rfl (yieldsIf_load_mid (by rfl) _ _ rfl p 0 rfl Z.cells _ (fun w0 hSw => HRH.out _ hSw) Tryd.underlying25 rfl SZH.out) ?_
  refine tkA 5 rfl rfl (yieldsIf_load_mid (by rfl) _ _ rfl g 0 rfl h.cells _ (fun w0 hSw => HR1.out _ (bthen HX7.out hSw)) Tryd.underlying25 rfl SH.out) ?_
  refine tkP 7 rfl rfl ?_
  refine tkA 8 rfl rfl (yields_cell (by rfl) rfl rfl (b := g) (o := 32) (fun w0 hSw => HCY.out _ (bthen HX7.out hSw)) Tryd.isAgg3) ?_
  refine tkP 9 rfl rfl ?_
  refine tkP 10 rfl rfl ?_
  refine tkP 12 rfl rfl ?_
  refine tkP 13 rfl rfl ?_
  refine tkR 6 rfl (fun K hK => ?_)
  have HC6 := Lib.hid (HLW7.out _ hHeld)
  go_simp
  go_wp2_with ((go_at_call 11; (with_reducible refine (HC6.out).mono ?_); rintro e v1 ⟨rfl, hb⟩; have HXv1 := Lib.hid hb; clear hb))
  refine hK.out _ _ (by (try dsimp only); exact bthen hHeld HXv1.out) (fun hHeld => ?_)
  clear hK K
  refine tkR 11 rfl (fun K hK => ?_)
  have HC11 := Lib.hid (HRO.out _ hHeld)
  go_simp
  go_wp2_with ((go_at_call 13; (with_reducible refine (HC11.out).mono ?_); rintro e v2 ⟨rfl, hb⟩; have HXv2 := Lib.hid hb; clear hb))
  refine hK.out _ _ (by (try dsimp only); exact bthen hHeld HXv2.out) (fun hHeld => ?_)
  clear hK K
  refine tkA 14 rfl rfl (yields_build10 (by rfl) rfl (vs := [(0, .agg (cellsOf SA).toArray), (1, .int .i64 Y1), (2, .agg (cellsOf R).toArray), (3, .int .i64 (n : Int))]) (by rfl) HBH.out) ?_
  refine tkA 15 rfl rfl (yields_neqH19 (x := Z) (by rfl) rfl rfl rfl HZI.out) ?_
  refine tkP 16 rfl rfl ?_
  refine tkP 17 rfl rfl ?_
  refine tkA 18 rfl rfl (yieldsIf_load_mid (by rfl) _ _ rfl p 0 rfl (PBlock.cells ⟨Z, some ⟨q, 0, none⟩, n, n, ys⟩) _ (fun w0 hSw => HRP.out _ hSw) Tryd.underlying30 rfl SBB.out) ?_
  refine tkR 19 rfl (fun K hK => ?_)
  have HC19 := Lib.hid (HRG.out _ hHeld)
  go_simp
  go_wp2_with ((go_at_call 14; (with_reducible refine (HC19.out).mono ?_); rintro e v3 ⟨rfl, hb⟩; have HXv3 := Lib.hid hb; clear hb))
  refine hK.out _ _ (by (try dsimp only); exact bthen hHeld HXv3.out) (fun hHeld => ?_)
  clear hK K
  refine tkP 20 rfl rfl ?_
  refine tkP 21 rfl rfl ?_
  refine tkP 22 rfl rfl ?_
  refine tkP 23 rfl rfl ?_
  refine tkA 24 rfl rfl (yields_cell (by rfl) rfl rfl (b := p) (o := 66) (fun w0 hSw => HC66.out _ hSw) Tryd.isAgg26) ?_
  refine tkP 25 rfl rfl ?_
  refine tkP 26 rfl rfl ?_
  refine tkP 27 rfl rfl ?_
  refine tkP (v := .bool false) 28 rfl rfl ?_
  refine tkP 29 rfl rfl ?_
  refine wpAnyH_done (by kernel_rfl) ?_ _
  have HE9 := Lib.hid (show Below w7.heap.size w7 v3 from hHeld)
  clear hHeld HRG HRO HLW7 HLW HCY HR1 HG1
  have HPB := Lib.hid fun (W : World) (hW : Below w7.heap.size w7 W) (j : Nat) => bpath_any (HBI7.out W hW) (HK.out.below (bthen HB7.out hW)) (HFY.out W hW) (by show n ≤ 1000; have h9 := HN20.out; omega) (j : Int)
  unfold PathTold at HPB
  rw [show (PBlock.mk Z (some ⟨q, 0, none⟩) n n ys).txs.map txSum = us from (sums_alike19 HST.out).trans HUS.out] at HPB
  go_upto_region 12 with (fail)
  go_loopw [8] (fun x wr => ∃ j : Nat, j ≤ n ∧ x = .int .i64 j ∧ Below w7.heap.size w7 wr) (fun x _ => n - (intOf x).toNat)
  case atStart => exact ⟨0, Nat.zero_le _, rfl, HE9.out⟩
  case round =>
    obtain ⟨j, hj, rfl, hbr⟩ := hrel
    have HBR := Lib.hid hbr
    have HBW := Lib.hid (bthen HB7.out hbr)
    clear hbr
    by_cases hjn : j < n
    · have f1 : (j : Int) < (n : Int) := by omega
      have f0 : (0 : Int) ≤ (j : Int) := by omega
      have ft : ((j : Int)).toNat = j := by omega
      have hul : us.length = n := HES.out.1
      obtain ⟨s, hu, hsl, hts⟩ := HES.out.2 j hjn
      have hps := HPB.out wr HBR.out j
      have hpb : pathB us (j : Int) = true := by unfold pathB; rw [if_neg (by omega)]
      rw [hpb] at hps
      have hld := path_leads19 (ls := us) (i := j) (by omega) (by have h9 := HN20.out; omega) HRT.out
      rw [hu, hul] at hld
      obtain ⟨P, hP⟩ : ∃ P, pathQ us (j : Int) = P := ⟨_, rfl⟩
      rw [hP] at hps hld
      have hpl : P.length ≤ 1000000 := by rw [← hP]; exact pathQ_len19 (by have h9 := HN20.out; omega)
      have hha := fun (W : World) (a9 : Option Addr) (n9 c9 : Nat) (hW : Below w7.heap.size w7 W) (hq : Sums W a9 n9 c9 P) => has_any HZI.out hsl (j : Int) hq (HK.out.below (bthen HB7.out hW))
      rw [HZR.out.1, HZR.out.2, hld] at hha
      obtain ⟨b7, o7, e7, hlt7, hc7⟩ := (HQ7.out.below HBR.out).2.2.2.2.2 (by omega)
      have hr7 := hc7 j hjn
      rw [hu] at hr7
      subst e7
      obtain ⟨b8, o8, e8, hlt8, hc8⟩ := (HY7.out.below HBR.out).2.2.2.2.2 (by omega)
      have hr8 := hc8 j hjn
      have ht8 := (HY7.out.below HBR.out).get hjn
      cases e8
      replace hr8 : wr.rangeAt q (0 + j * 40) (PTx.cells (ys.getD j noTx)) := hr8
      rw [Nat.zero_add] at hr8
      replace ht8 : TxIn wr (ys.getD j noTx) := ht8
      revert hts hr8 ht8
      generalize ys.getD j noTx = yj
      intro hts hr8 ht8
      have HPS := Lib.hid hps
      have HHA := Lib.hid hha
      have HR7 := Lib.hid hr7
      have HR8 := Lib.hid hr8
      have HLT7 := Lib.hid hlt7
      have HLT8 := Lib.hid hlt8
      have HTS := Lib.hid fun (W : World) (hW : Below w7.heap.size w7 W) => hts W (bthen HE7.out hW)
      have HSJ := Lib.hid hsl
      have SS := Lib.hid (sumLen19 hsl)
      have ST := Lib.hid (tx_size (x := yj) ht8.op.root)
      have RB := Lib.hid (HRP.out _ HBR.out)
      clear hu hsl hts hps hpb hld hP hpl hha hr7 hr8 hc7 hc8 hlt7 hlt8 ht8 hul
      go_upto_region 15 with (first | (refine wpList_load_mid rfl 30 _ rfl p (0) rfl (PBlock.cells ⟨Z, some ⟨q, 0, none⟩, n, n, ys⟩) _ RB.out Tryd.underlying30 rfl SBB.out ?_) | (go_at_call 15; (with_reducible refine (HPS.out).mono ?_); rintro e w8 ⟨a8, n8, c8, rfl, hq, hb⟩; have HQ8 := Lib.hid hq; have HB8 := Lib.hid (bthen HBR.out hb); have HXX8 := Lib.hid hb; clear hq hb) | fail)
      have HR78 := Lib.hid (rangeAt_below HR7.out HLT7.out HXX8.out)
      have HL78 := Lib.hid (Nat.lt_of_lt_of_le HLT7.out HXX8.out.size)
      have HR88 := Lib.hid (rangeAt_below HR8.out HLT8.out HXX8.out)
      have HL88 := Lib.hid (Nat.lt_of_lt_of_le HLT8.out HXX8.out.size)
      refine wp_region_held_drew (S := fun w' => Below w8.heap.size w8 w') (by kernel_rfl) (below_drew (Below.refl _ _)) (fun hHeld => ?_)
      refine tkP 0 rfl rfl ?_
      refine tkP (v := .bool false) 1 rfl rfl ?_
      refine tkP 2 rfl rfl ?_
      refine tkP 3 rfl rfl ?_
      refine tkA 4 rfl rfl (yieldsIf_load_mid (by rfl) _ _ rfl p 0 rfl Z.cells _ (fun w0 hSw => HRH.out _ (bthen HB8.out hSw)) Tryd.underlying25 rfl SZH.out) ?_
      refine tkP 5 rfl rfl ?_
      refine tkP 6 rfl rfl ?_
      refine tkP 7 rfl rfl ?_
      refine tkA 8 rfl rfl (yieldsIf_load_mid (by rfl) _ _ rfl b7 (o7 + j * 32) rfl (cellsOf s) _ (fun w0 hSw => rangeAt_below HR78.out HL78.out hSw) Tryd.underlying23 rfl SS.out) ?_
      refine tkP 9 rfl rfl ?_
      refine tkP 10 rfl rfl ?_
      refine tkR 11 rfl (fun K hK => ?_)
      have HC11 := Lib.hid (HHA.out _ _ _ _ (bthen HB8.out hHeld) (HQ8.out.below hHeld))
      go_simp
      go_wp2_with ((go_at_call 16; (with_reducible refine (HC11.out).mono ?_); rintro e x1 ⟨rfl, hb⟩; have HXx1 := Lib.hid hb; clear hb))
      refine hK.out _ _ (by (try dsimp only); exact bthen hHeld HXx1.out) (fun hHeld => ?_)
      clear hK K
      refine tkP (v := .bool false) 12 rfl rfl ?_
      refine tkP 13 rfl rfl ?_
      refine tkP 14 rfl rfl ?_
      refine tkP 15 rfl rfl ?_
      refine tkA 16 rfl rfl (yields_cell (by rfl) rfl rfl (b := p) (o := 66) (fun w0 hSw => HC66.out _ (bthen HB8.out hSw)) Tryd.isAgg26) ?_
      refine tkP 17 rfl rfl ?_
      refine tkP 18 rfl rfl ?_
      refine tkA 19 rfl rfl (yieldsIf_load_mid (by rfl) _ _ rfl q (j * 40) rfl yj.cells _ (fun w0 hSw => rangeAt_below HR88.out HL88.out hSw) Tryd.underlying50 rfl ST.out) ?_
      refine tkP 21 rfl rfl ?_
      refine tkP 22 rfl rfl ?_
      refine tkP 23 rfl rfl ?_
      refine tkA 24 rfl rfl (yieldsIf_load_mid (by rfl) _ _ rfl b7 (o7 + j * 32) rfl (cellsOf s) _ (fun w0 hSw => rangeAt_below HR78.out HL78.out hSw) Tryd.underlying23 rfl SS.out) ?_
      refine tkR 20 rfl (fun K hK => ?_)
      have HC20 := Lib.hid (HTS.out _ (bthen HB8.out hHeld))
      go_simp
      go_wp2_with ((go_at_call 17; (with_reducible refine (HC20.out).mono ?_); rintro e x2 ⟨rfl, hb⟩; have HXx2 := Lib.hid hb; clear hb))
      refine hK.out _ _ (by (try dsimp only); exact bthen hHeld HXx2.out) (fun hHeld => ?_)
      clear hK K
      refine tkA 25 rfl rfl (yields_neq (by rfl) rfl rfl rfl HSJ.out HSJ.out false (by simp)) ?_
      refine tkP 26 rfl rfl ?_
      refine wpAnyH_done (by kernel_rfl) ?_ _
      have HBZ := Lib.hid (bthen HB8.out hHeld)
      clear hHeld
      go_wp2_with fail
      go_roundw
      case rel => exact ⟨j + 1, by omega, by go_num, HBZ.out⟩
      case measure => simp [intOf]; omega
    · obtain rfl : j = n := by omega
      go_wp2_with (first | (go_at_call 8; (with_reducible refine (HAW.out _ HBW.out).mono ?_); rintro e w9 ⟨rfl, hb⟩; have HZw9 := Lib.hid (bthen HBW.out hb); clear hb) | fail)
      go_ret
      exact ⟨rfl, HZw9.out⟩
end Go.Proofs.YtlnenkmcegadmaaDoor
