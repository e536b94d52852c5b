/- Law 19: BlockPaths. -/
import Derived.Test.YtlnenkmcegadmaaDoorAwake19
namespace Go.Proofs.YtlnenkmcegadmaaDoor
open Go.RowKit

set_option linter.unusedSimpArgs false in
set_option maxRecDepth 100000 in
set_option maxHeartbeats 6400000 in
theorem paths19_walk {w : World} {b : PBlock} {s : List UInt8} {i : Int} {pa : Option Addr} {pn pc : Nat} {ps : List (List UInt8)} (hb : BlockIn w b) (hs : s.length = 32) (hp : Sums w pa pn pc ps) (hk : KsAt w) (haw : ∀ W : World, KsAt W → Calls Tryd.prog 8 #[] W fun e w' => e = .returned (.bool true) ∧ Below W.heap.size W w') :
    Calls Tryd.prog 5 #[.agg b.cells.toArray, .agg (cellsOf s).toArray, .int .i64 i, .slice pa pn pc] w fun e w' => e = .returned (.bool true) ∧ Below w.heap.size w w' := by
  have b1 : Below w.heap.size w ((w.alloc (.cells b.cells.toArray 30)).alloc (.cells (cellsOf s).toArray 23)) := ((Below.refl _ _).alloc (Nat.le_refl _) _).alloc (by simp) _
  have h1 : ((w.alloc (.cells b.cells.toArray 30)).alloc (.cells (cellsOf s).toArray 23)).heap[w.heap.size]? = some (.cells b.cells.toArray 30 (0, 0)) := by
    rw [heap_alloc_old _ _ (by simp), heap_alloc_new]
  have h2 : ((w.alloc (.cells b.cells.toArray 30)).alloc (.cells (cellsOf s).toArray 23)).heap[w.heap.size + 1]? = some (.cells (cellsOf s).toArray 23 (0, 0)) := heap_alloc_at _ _ _ (by simp)
  have HG1 := Lib.hid h1
  have HG2 := Lib.hid h2
  have HBI := Lib.hid hb
  have HK := Lib.hid hk
  have HPS := Lib.hid hp
  have HSL := Lib.hid hs
  have HAW : Hid (∀ W : World, Below w.heap.size w W → Calls Tryd.prog 8 #[] W fun e w' => e = .returned (.bool true) ∧ Below W.heap.size W w') := Lib.hid fun W hW => haw W (hk.below hW)
  have HB1 := Lib.hid b1
  have HSML := Lib.hid fun (W : World) (hW : Below w.heap.size w W) => smallL_any (hb.txs.below hW)
  have SB := Lib.hid (block_size hb.head)
  have SH := Lib.hid (headSize19 hb.head)
  have SR := Lib.hid (sumLen19 hb.head.root)
  have SS := Lib.hid (sumLen19 hs)
  have hn63 := hb.txs.len63
  have hp63 : (pn : Int) ≤ 9223372036854775807 := by have h8 := hp.2.1; have h9 := hp.2.2.1; unfold maxLen at h9; omega
  clear b1 h1 h2 hb hk haw hp hs
  go_enter Tryd.func5, Tryd.ntmps5
  go_upto_region 1 with (fail)
  revert HG1 HG2 HB1
  generalize ((w.alloc (.cells b.cells.toArray 30)).alloc (.cells (cellsOf s).toArray 23)) = w1
  obtain ⟨g, hg⟩ : ∃ g, g = w.heap.size := ⟨_, rfl⟩
  obtain ⟨g2, hg2⟩ : ∃ g, g = w.heap.size + 1 := ⟨_, rfl⟩
  rw [← hg2, ← hg]
  intro HG1 HG2 HB1
  rw [hg] at HB1
  clear hg hg2
  have HR1 : Hid (∀ W : World, Below w1.heap.size w1 W → W.rangeAt g 0 b.cells) := Lib.hid fun W hW => range_of (keep hW HG1.out)
  have HS1 : Hid (∀ W : World, Below w1.heap.size w1 W → W.rangeAt g2 0 (cellsOf s)) := Lib.hid fun W hW => range_of (keep hW HG2.out)
  have HCA : Hid (∀ W : World, Below w1.heap.size w1 W → HeadAt W g 0 b.head ∧ W.cell? ⟨g, 66, none⟩ = some (.slice b.a b.n b.c)) := Lib.hid (fun W hW => by
    have c9 := block_txs HBI.out.head (HR1.out W hW)
    rw [Nat.zero_add] at c9
    exact ⟨head_at HBI.out.head.ahead HBI.out.head.root (block_head (HR1.out W hW)), c9⟩)
  have c66 := (HCA.out w1 (Below.refl _ _)).2
  obtain ⟨V, hV⟩ : ∃ V, smallL b.n b.txs = V := ⟨_, rfl⟩
  rw [hV] at HSML
  cases V
  · go_wp2_with (first
    | (go_at_call 7; (with_reducible refine (HSML.out _ HB1.out).mono ?_); rintro e w2 ⟨rfl, hb⟩; have HB2 := Lib.hid (bthen HB1.out hb); clear hb)
    | (go_at_call 8; (with_reducible refine (HAW.out _ HB2.out).mono ?_); rintro e w9 ⟨rfl, hb⟩; have HZw9 := Lib.hid (bthen HB2.out hb); clear hb) | fail)
    go_ret
    exact ⟨rfl, HZw9.out⟩
  by_cases hpn : pn ≤ 20
  case neg =>
    have f5 : (20 : Int) < (pn : Int) := by omega
    go_wp2_with (first
    | (go_at_call 7; (with_reducible refine (HSML.out _ HB1.out).mono ?_); rintro e w2 ⟨rfl, hb⟩; have HB2 := Lib.hid (bthen HB1.out hb); clear hb)
    | (go_at_call 8; (with_reducible refine (HAW.out _ HB2.out).mono ?_); rintro e w9 ⟨rfl, hb⟩; have HZw9 := Lib.hid (bthen HB2.out hb); clear hb) | fail)
    go_ret
    exact ⟨rfl, HZw9.out⟩
  have f5 : ¬ (20 : Int) < (pn : Int) := by omega
  obtain ⟨hn20, hsm⟩ := smallL_in19 HBI.out.txs hV
  have hff : ∀ x ∈ b.txs, FrontFew false x := fun x hx => small_front19 false (show TxIn w x from HBI.out.txs.2.2.2.2.1 x hx) (hsm x hx).1
  have hls := fun (W : World) (hW : Below w.heap.size w W) => lsums_any (HBI.out.txs.below hW) (HK.out.below hW) hff (by omega)
  have hpb := fun (W : World) (hW : Below w.heap.size w W) => bpath_any (HBI.out.below hW) (HK.out.below hW) hff (by omega) i
  have hpm := fun (W : World) (a : Option Addr) (c : Nat) (hW : Below w.heap.size w W) (hq : Sums W a b.n c (b.txs.map txSum)) => path_all19 i (by omega) hq (HK.out.below hW)
  have hpl : (pathQ (b.txs.map txSum) i).length ≤ 1000000 := pathQ_len19 (by rw [List.length_map, HBI.out.txs.1]; omega)
  unfold PathTold at hpb hpm
  obtain ⟨Q, hQ⟩ : ∃ Q, pathQ (b.txs.map txSum) i = Q := ⟨_, rfl⟩
  obtain ⟨D, hD⟩ : ∃ D, pathB (b.txs.map txSum) i = D := ⟨_, rfl⟩
  rw [hQ, hD] at hpb hpm
  rw [hQ] at hpl
  have hha := fun (W : World) (hW : Below w.heap.size w W) => has_any HBI.out.head HSL.out i (HPS.out.below hW) (HK.out.below hW)
  have hck := fun (W : World) (hW : Below w.heap.size w W) => check_all19 i b.head.many HBI.out.head.root HSL.out (HPS.out.below hW) (HK.out.below hW)
  obtain ⟨E, hE⟩ : ∃ E, checkV b.head.root s i b.head.many ps = E := ⟨_, rfl⟩
  rw [hE] at hha hck
  obtain ⟨m, hm⟩ : ∃ m, b.head.many = m := ⟨_, rfl⟩
  rw [hm] at hck
  have HM := Lib.hid hm
  have HLS := Lib.hid hls
  have HPB := Lib.hid hpb
  have HPM := Lib.hid hpm
  have HHA := Lib.hid hha
  have HCK := Lib.hid hck
  have HQL := Lib.hid hpl
  clear hls hpb hpm hha hck hpl hQ hD hE hm hV hsm hff hpn
  go_upto_region 3 with (first
    | (go_at_call 7; (with_reducible refine (HSML.out _ HB1.out).mono ?_); rintro e w2 ⟨rfl, hb⟩; have HB2 := Lib.hid (bthen HB1.out hb); have HX2 := Lib.hid hb; clear hb) | fail)
  have R2 := Lib.hid (HR1.out _ HX2.out)
  clear c66 HSML
  go_upto_region 4 with (first
    | (refine wpList_load_mid rfl 30 _ rfl g (0) rfl b.cells _ R2.out Tryd.underlying30 rfl SB.out ?_)
    | (go_at_call 15; (with_reducible refine (HPB.out _ HB2.out).mono ?_); rintro e w3 ⟨a3, n3, c3, rfl, hq, hb⟩; have HQ3 := Lib.hid hq; have HB3 := Lib.hid (bthen HB2.out hb); have HX3 := Lib.hid (bthen HX2.out hb); clear hq hb) | fail)
  have c67 := (HCA.out w3 HX3.out).2
  go_upto_region 5 with (first
    | (go_at_call 12; (with_reducible refine (HLS.out _ HB3.out).mono ?_); rintro e w4 ⟨a4, c4, rfl, hq, _, hb⟩; have HQ4 := Lib.hid hq; have HB4 := Lib.hid (bthen HB3.out hb); have HX4 := Lib.hid (bthen HX3.out hb); have HQ34 := Lib.hid (HQ3.out.below hb); clear hq hb)
    | (go_at_call 18; (with_reducible refine (HPM.out _ _ _ HB4.out HQ4.out).mono ?_); rintro e w5 ⟨a5, n5, c5, rfl, hq, hb⟩; have HQ5 := Lib.hid hq; have HQ35 := Lib.hid (HQ34.out.below hb); have HB5 := Lib.hid (bthen HB4.out hb); have HX5 := Lib.hid (bthen HX4.out hb); clear hq hb) | fail)
  have e35 : n3 = n5 := HQ35.out.1.symm.trans HQ5.out.1
  obtain ⟨N, hN⟩ : ∃ N, N = n5 := ⟨_, rfl⟩
  rw [e35, ← hN] at HQ35
  rw [← hN] at HQ5
  rw [e35, ← hN]
  have HNL : Hid (N ≤ 1000000) := Lib.hid (by have h9 := HQ5.out.1; have h8 := HQL.out; omega)
  clear e35 hN c67 HQ3 HQ34 HQ4 R2 HPB HLS HPM
  have hN63 : (N : Int) ≤ 9223372036854775807 := by have h9 := HNL.out; omega
  go_upto_region 8 with (fail)
  go_loopw [13] (fun x wr => ∃ j : Nat, j ≤ N ∧ x = .int .i64 j ∧ Below w5.heap.size w5 wr) (fun x _ => N - (intOf x).toNat)
  case atStart => exact ⟨0, Nat.zero_le _, rfl, Below.refl _ _⟩
  case round =>
    obtain ⟨j, hj, rfl, hbr⟩ := hrel
    have HBR := Lib.hid hbr
    clear hbr
    by_cases hjn : j < N
    · have f1 : (j : Int) < (N : Int) := by omega
      have f0 : (0 : Int) ≤ (j : Int) := by omega
      have ft : ((j : Int)).toNat = j := by omega
      obtain ⟨b3, o3, e3, hlt3, hc3⟩ := (HQ35.out.below HBR.out).2.2.2.2.2 (by omega)
      obtain ⟨b5, o5, e5, hlt5, hc5⟩ := (HQ5.out.below HBR.out).2.2.2.2.2 (by omega)
      have hql := HQ5.out.each hjn
      have hr3 := hc3 j hjn
      have hr5 := hc5 j hjn
      revert hql hr3 hr5
      generalize Q.getD j [] = q
      intro hql hr3 hr5
      subst e3
      subst e5
      have HR3 := Lib.hid hr3
      have HR5 := Lib.hid hr5
      have HLT3 := Lib.hid hlt3
      have HLT5 := Lib.hid hlt5
      have HQJ := Lib.hid hql
      have SQ := Lib.hid (sumLen19 hql)
      clear hr3 hr5 hc3 hc5 hql hlt3 hlt5
      go_upto_region 10 with (fail)
      refine wp_region_held_drew (S := fun w' => Below wr.heap.size wr w') (by kernel_rfl) (below_drew (Below.refl _ _)) (fun hHeld => ?_)
      refine tkP 0 rfl rfl ?_
      refine tkP 1 rfl rfl ?_
      refine tkP 2 rfl rfl ?_
      refine tkA 3 rfl rfl (yieldsIf_load_mid (by rfl) _ _ rfl b3 (o3 + j * 32) rfl (cellsOf q) _ (fun w0 hSw => rangeAt_below HR3.out HLT3.out hSw) Tryd.underlying23 rfl SQ.out) ?_
      refine tkP 4 rfl rfl ?_
      refine tkP 5 rfl rfl ?_
      refine tkP 6 rfl rfl ?_
      refine tkA 7 rfl rfl (yieldsIf_load_mid (by rfl) _ _ rfl b5 (o5 + j * 32) rfl (cellsOf q) _ (fun w0 hSw => rangeAt_below HR5.out HLT5.out hSw) Tryd.underlying23 rfl SQ.out) ?_
      refine tkA 8 rfl rfl (yields_neq (by rfl) rfl rfl rfl HQJ.out HQJ.out false (by simp)) ?_
      refine wpAnyH_done (by kernel_rfl) ?_ _
      have HBZ := Lib.hid (bthen HBR.out hHeld)
      clear hHeld
      go_wp2_with fail
      go_roundw
      case rel => exact ⟨j + 1, by omega, by go_num, HBZ.out⟩
      case measure => simp [intOf]; omega
    · obtain rfl : j = N := by omega
      have HXR := Lib.hid (bthen HX5.out HBR.out)
      have HBW := Lib.hid (bthen HB5.out HBR.out)
      have HRG : Hid (∀ W : World, Below wr.heap.size wr W → W.rangeAt g 0 b.cells) := Lib.hid fun W hW => HR1.out W (bthen HXR.out hW)
      have HRS : Hid (∀ W : World, Below wr.heap.size wr W → W.rangeAt g2 0 (cellsOf s)) := Lib.hid fun W hW => HS1.out W (bthen HXR.out hW)
      have HRR2 : Hid (∀ W : World, Below wr.heap.size wr W → W.rangeAt g 33 (cellsOf b.head.root)) := Lib.hid fun W hW => by have h9 := (HCA.out W (bthen HXR.out hW)).1.root; exact h9
      have HCM : Hid (∀ W : World, Below wr.heap.size wr W → W.cell? ⟨g, 65, none⟩ = some (.int .i64 m)) := Lib.hid fun W hW => by have h9 := (HCA.out W (bthen HXR.out hW)).1.many; rw [Nat.zero_add, HM.out] at h9; exact h9
      clear HR1 HS1 HCA HX5 HX4 HX3 HX2 HB5 HB4 HB3 HB2 HQ5 HQ35
      go_upto_region 12 with (fail)
      refine wp_region_held_drew (S := fun w' => Below wr.heap.size wr w') (by kernel_rfl) (below_drew (Below.refl _ _)) (fun hHeld => ?_)
      refine tkP 0 rfl rfl ?_
      refine tkA 1 rfl rfl (yieldsIf_load_mid (by rfl) _ _ rfl g 0 rfl b.head.cells _ (fun w0 hSw => block_head (HRG.out _ hSw)) Tryd.underlying25 rfl SH.out) ?_
      refine tkA 2 rfl rfl (yieldsIf_load_mid (by rfl) _ _ rfl g2 0 rfl (cellsOf s) _ (fun w0 hSw => HRS.out _ hSw) Tryd.underlying23 rfl SS.out) ?_
      refine tkP 3 rfl rfl ?_
      refine tkP 4 rfl rfl ?_
      refine tkP 6 rfl rfl ?_
      refine tkP 7 rfl rfl ?_
      refine tkA 8 rfl rfl (yieldsIf_load_mid (by rfl) _ _ rfl g 33 rfl (cellsOf b.head.root) _ (fun w0 hSw => HRR2.out _ hSw) Tryd.underlying23 rfl SR.out) ?_
      refine tkA 9 rfl rfl (yieldsIf_load_mid (by rfl) _ _ rfl g2 0 rfl (cellsOf s) _ (fun w0 hSw => HRS.out _ hSw) Tryd.underlying23 rfl SS.out) ?_
      refine tkP 10 rfl rfl ?_
      refine tkP 11 rfl rfl ?_
      refine tkP 12 rfl rfl ?_
      refine tkA 13 rfl rfl (yields_cell (by rfl) rfl rfl (b := g) (o := 65) (fun w0 hSw => HCM.out _ hSw) Tryd.isAgg3) ?_
      refine tkP 14 rfl rfl ?_
      refine tkR 5 rfl (fun K hK => ?_)
      have HC5 := Lib.hid (HHA.out _ (bthen HBW.out hHeld))
      go_simp
      go_wp2_with ((go_at_call 16; (with_reducible refine (HC5.out).mono ?_); rintro e v1 ⟨rfl, hb⟩; have HXv1 := Lib.hid hb; clear hb))
      refine hK.out _ _ (by (try dsimp only); exact bthen hHeld HXv1.out) (fun hHeld => ?_)
      clear hK K
      refine tkR 15 rfl (fun K hK => ?_)
      have HC15 := Lib.hid (HCK.out _ (bthen HBW.out hHeld))
      go_simp
      go_wp2_with ((go_at_call 19; (with_reducible refine (HC15.out).mono ?_); rintro e v2 ⟨rfl, hb⟩; have HXv2 := Lib.hid hb; clear hb))
      refine hK.out _ _ (by (try dsimp only); exact bthen hHeld HXv2.out) (fun hHeld => ?_)
      clear hK K
      refine tkP (v := .bool true) 16 rfl rfl ?_
      refine tkP 17 rfl rfl ?_
      refine tkR 18 rfl (fun K hK => ?_)
      have HC18 := Lib.hid (HAW.out _ (bthen HBW.out hHeld))
      go_simp
      go_wp2_with ((go_at_call 8; (with_reducible refine (HC18.out).mono ?_); rintro e v3 ⟨rfl, hb⟩; have HXv3 := Lib.hid hb; clear hb))
      refine hK.out _ _ (by (try dsimp only); exact bthen hHeld HXv3.out) (fun hHeld => ?_)
      clear hK K
      refine tkP 19 rfl rfl ?_
      refine tkP 20 rfl rfl ?_
      refine wpAnyH_done (by kernel_rfl) ?_ _
      have HBZ := Lib.hid (bthen HBW.out hHeld)
      clear hHeld
      go_wp2_with fail
      go_ret
      exact ⟨rfl, HBZ.out⟩
end Go.Proofs.YtlnenkmcegadmaaDoor
