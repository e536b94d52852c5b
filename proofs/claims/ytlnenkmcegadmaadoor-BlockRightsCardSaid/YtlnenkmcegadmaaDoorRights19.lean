/- Law 19: BlockRights. -/
import Derived.Test.YtlnenkmcegadmaaDoorAwake19
namespace Go.Proofs.YtlnenkmcegadmaaDoor
open Go.RowKit

set_option linter.unusedSimpArgs false in
set_option maxRecDepth 100000 in
set_option maxHeartbeats 6400000 in
theorem rights19_walk {w : World} {b : PBlock} (hb : BlockIn w b) (hk : KsAt w) (haw : ∀ W : World, KsAt W → Calls Tryd.prog 8 #[] W fun e w' => e = .returned (.bool true) ∧ Below W.heap.size W w') :
    Calls Tryd.prog 4 #[.agg b.cells.toArray] w fun e w' => e = .returned (.bool true) ∧ Below w.heap.size w w' := by
  have b1 : Below w.heap.size w (w.alloc (.cells b.cells.toArray 30)) := (Below.refl _ _).alloc (Nat.le_refl _) _
  have h1 := heap_alloc_new w (.cells b.cells.toArray 30)
  have HG1 := Lib.hid h1
  have HBI := Lib.hid hb
  have HK := Lib.hid hk
  have HAW : Hid (∀ W : World, Below w.heap.size w W → Calls Tryd.prog 8 #[] W fun e w' => e = .returned (.bool true) ∧ Below W.heap.size W w') := Lib.hid fun W hW => haw W (hk.below hW)
  have HB1 := Lib.hid b1
  have HSML := Lib.hid fun (W : World) (hW : Below w.heap.size w W) => smallL_any (hb.txs.below hW)
  have SB := Lib.hid (block_size hb.head)
  have SR := Lib.hid (sumLen19 hb.head.root)
  have HRR := Lib.hid hb.head.root
  have hn63 := hb.txs.len63
  clear b1 h1 hb hk haw
  go_enter Tryd.func4, Tryd.ntmps4
  go_upto_region 1 with (fail)
  revert HG1 HB1
  generalize (w.alloc (.cells b.cells.toArray 30)) = w1
  obtain ⟨g, hg⟩ : ∃ g, g = w.heap.size := ⟨_, rfl⟩
  rw [← hg]
  intro HG1 HB1
  rw [hg] at HB1
  clear hg
  have HR1 : Hid (∀ W : World, Below w1.heap.size w1 W → W.rangeAt g 0 b.cells) := Lib.hid fun W hW => range_of (keep hW HG1.out)
  have HCA : Hid (∀ W : World, Below w1.heap.size w1 W → HeadAt W g 0 b.head ∧ W.cell? ⟨g, 66, none⟩ = some (.slice b.a b.n b.c)) := Lib.hid (fun W hW => by
    have c9 := block_txs HBI.out.head (HR1.out W hW)
    rw [Nat.zero_add] at c9
    exact ⟨head_at HBI.out.head.ahead HBI.out.head.root (block_head (HR1.out W hW)), c9⟩)
  have c66 := (HCA.out w1 (Below.refl _ _)).2
  obtain ⟨V, hV⟩ : ∃ V, smallL b.n b.txs = V := ⟨_, rfl⟩
  rw [hV] at HSML
  cases V
  · go_wp2_with (first
    | (go_at_call 7; (with_reducible refine (HSML.out _ HB1.out).mono ?_); rintro e w2 ⟨rfl, hb⟩; have HB2 := Lib.hid (bthen HB1.out hb); clear hb)
    | (go_at_call 8; (with_reducible refine (HAW.out _ HB2.out).mono ?_); rintro e w9 ⟨rfl, hb⟩; have HZw9 := Lib.hid (bthen HB2.out hb); clear hb) | fail)
    go_ret
    exact ⟨rfl, HZw9.out⟩
  obtain ⟨hn20, hsm⟩ := smallL_in19 HBI.out.txs hV
  have hff : ∀ x ∈ b.txs, FrontFew false x := fun x hx => small_front19 false (show TxIn w x from HBI.out.txs.2.2.2.2.1 x hx) (hsm x hx).1
  obtain ⟨R, hR, hRL⟩ : ∃ R, rootSum (b.txs.map txSum) = R ∧ R.length = 32 := ⟨_, rfl, rootSum_len _⟩
  have hls := fun (W : World) (hW : Below w.heap.size w W) => lsums_any (HBI.out.txs.below hW) (HK.out.below hW) hff (by omega)
  have hrt := fun (W : World) (a : Option Addr) (c : Nat) (hW : Below w.heap.size w W) (hq : Sums W a b.n c (b.txs.map txSum)) => root_any hq (HK.out.below hW) (by omega)
  rw [hR] at hrt
  have hrg := fun (W : World) (hW : Below w.heap.size w W) => right_any19 (HBI.out.below hW) (HK.out.below hW) hff (by omega)
  obtain ⟨E, hE⟩ : ∃ E, rightV b = E := ⟨_, rfl⟩
  rw [hE] at hrg
  have hE2 : E = (decide (b.head.many = (b.n : Int)) && (decide (b.head.many ≤ 64) && ((decide (0 ≤ b.head.height) && decide (b.head.height ≤ 1073741824)) && decide (b.head.root = R)))) := by rw [← hE, ← hR]; rfl
  have HLS := Lib.hid hls
  have HRT := Lib.hid hrt
  have HRG := Lib.hid hrg
  have HRL := Lib.hid hRL
  obtain ⟨m, hm⟩ : ∃ m, b.head.many = m := ⟨_, rfl⟩
  obtain ⟨y, hy⟩ : ∃ y, b.head.height = y := ⟨_, rfl⟩
  rw [hm, hy] at hE2
  have HM := Lib.hid hm
  have HY := Lib.hid hy
  have HE := Lib.hid hE2
  have HN20 := Lib.hid hn20
  clear hls hrt hrg hE hE2 hR hRL hm hy hsm hff hV
  go_upto_region 3 with (first
    | (go_at_call 7; (with_reducible refine (HSML.out _ HB1.out).mono ?_); rintro e w2 ⟨rfl, hb⟩; have HB2 := Lib.hid (bthen HB1.out hb); have HX2 := Lib.hid hb; clear hb) | fail)
  clear c66 HSML
  have HR2 : Hid (∀ W : World, Below w2.heap.size w2 W → W.rangeAt g 0 b.cells) := Lib.hid fun W hW => HR1.out W (bthen HX2.out hW)
  have HCA2 : Hid (∀ W : World, Below w2.heap.size w2 W → HeadAt W g 0 b.head ∧ W.cell? ⟨g, 66, none⟩ = some (.slice b.a b.n b.c)) := Lib.hid fun W hW => HCA.out W (bthen HX2.out hW)
  have HCM : Hid (∀ W : World, Below w2.heap.size w2 W → W.cell? ⟨g, 65, none⟩ = some (.int .i64 m)) := Lib.hid fun W hW => by have h9 := (HCA2.out W hW).1.many; rw [Nat.zero_add, HM.out] at h9; exact h9
  have HCY : Hid (∀ W : World, Below w2.heap.size w2 W → W.cell? ⟨g, 32, none⟩ = some (.int .i64 y)) := Lib.hid fun W hW => by have h9 := (HCA2.out W hW).1.height; rw [Nat.zero_add, HY.out] at h9; exact h9
  clear HR1 HCA HM HY HX2 HB1
  by_cases h1 : m = (b.n : Int)
  · by_cases h2 : 0 ≤ y
    · by_cases h3 : y ≤ 1073741824
      · obtain ⟨D, hD⟩ : ∃ D, decide (b.head.root = R) = D := ⟨_, rfl⟩
        have HD := Lib.hid hD
        have E9 : Hid (E = D) := Lib.hid (by rw [HE.out, ← hD]; simp [h1, h2, h3]; have h9 := HN20.out; omega)
        subst h1
        clear hD
        refine wp_region_held_drew (S := fun w' => Below w2.heap.size w2 w') (by kernel_rfl) (below_drew (Below.refl _ _)) (fun hHeld => ?_)
        refine tkP 0 rfl rfl ?_
        refine tkP 1 rfl rfl ?_
        refine tkA 2 rfl rfl (yields_cell (by rfl) rfl rfl (b := g) (o := 65) (fun w0 hSw => HCM.out _ hSw) Tryd.isAgg3) ?_
        refine tkP 3 rfl rfl ?_
        refine tkA 4 rfl rfl (yields_cell (by rfl) rfl rfl (b := g) (o := 66) (fun w0 hSw => (HCA2.out _ hSw).2) Tryd.isAgg26) ?_
        refine tkP 5 rfl rfl ?_
        refine tkP (v := .bool true) 6 rfl rfl ?_
        refine tkP 7 rfl rfl ?_
        refine tkP 8 rfl rfl ?_
        refine tkP 9 rfl rfl ?_
        refine tkA 10 rfl rfl (yields_cell (by rfl) rfl rfl (b := g) (o := 32) (fun w0 hSw => HCY.out _ hSw) Tryd.isAgg3) ?_
        refine tkP (v := .bool true) 11 rfl rfl ?_
        refine tkP 12 rfl rfl ?_
        refine tkP 13 rfl rfl ?_
        refine tkP 14 rfl rfl ?_
        refine tkP 15 rfl rfl ?_
        refine tkA 16 rfl rfl (yields_cell (by rfl) rfl rfl (b := g) (o := 32) (fun w0 hSw => HCY.out _ hSw) Tryd.isAgg3) ?_
        refine tkP (v := .bool true) 17 rfl rfl ?_
        refine tkP 18 rfl rfl ?_
        refine tkP 19 rfl rfl ?_
        refine tkP 20 rfl rfl ?_
        refine tkP 21 rfl rfl ?_
        refine tkA 22 rfl rfl (yieldsIf_load_mid (by rfl) _ _ rfl g 33 rfl (cellsOf b.head.root) _ (fun w0 hSw => (HCA2.out _ hSw).1.root) Tryd.underlying23 rfl SR.out) ?_
        refine tkP 23 rfl rfl ?_
        refine tkA 24 rfl rfl (yields_cell (by rfl) rfl rfl (b := g) (o := 66) (fun w0 hSw => (HCA2.out _ hSw).2) Tryd.isAgg26) ?_
        refine tkR 25 rfl (fun K hK => ?_)
        have HCx := Lib.hid (HLS.out _ (bthen HB2.out hHeld))
        go_simp
        go_wp2_with ((go_at_call 12; (with_reducible refine HCx.out.mono ?_); rintro e v1 ⟨a3, c3, rfl, hq, _, hb⟩; have HQ := Lib.hid hq; have HX1 := Lib.hid hb; clear hq hb))
        refine hK.out _ _ (by (try dsimp only); exact bthen hHeld HX1.out) (fun hHeld => ?_)
        clear hK K
        refine tkR 26 rfl (fun K hK => ?_)
        have HCy := Lib.hid (HRT.out _ _ _ (bthen HB2.out hHeld) HQ.out)
        go_simp
        go_wp2_with ((go_at_call 13; (with_reducible refine HCy.out.mono ?_); rintro e v2 ⟨rfl, hb⟩; have HX2 := Lib.hid hb; clear hb))
        refine hK.out _ _ (by (try dsimp only); exact bthen hHeld HX2.out) (fun hHeld => ?_)
        clear hK K
        refine tkA 27 rfl rfl (yields_eql (by rfl) rfl rfl rfl HRR.out HRL.out D HD.out) ?_
        refine tkP 28 rfl rfl ?_
        refine tkP 29 rfl rfl ?_
        refine wpAnyH_done (by kernel_rfl) ?_ _
        have HB3 := Lib.hid (bthen HB2.out hHeld)
        have R3 := Lib.hid (HR2.out _ hHeld)
        have HC3 := Lib.hid (HRG.out _ HB3.out)
        rw [E9.out] at HC3
        clear hHeld
        go_wp2_with (first | (refine wpList_load_mid rfl 30 _ rfl g (0) rfl b.cells _ R3.out Tryd.underlying30 rfl SB.out ?_) | (go_at_call 14; (with_reducible refine HC3.out.mono ?_); rintro e w8 ⟨rfl, hb⟩; have HB8 := Lib.hid (bthen HB3.out hb); clear hb) | (go_at_call 8; (with_reducible refine (HAW.out _ HB8.out).mono ?_); rintro e w9 ⟨rfl, hb⟩; have HZw9 := Lib.hid (bthen HB8.out hb); clear hb) | fail)
        go_ret
        exact ⟨by simp, HZw9.out⟩
      · have E9 : Hid (E = false) := Lib.hid (by rw [HE.out]; simp [h3])
        subst h1
        refine wp_region_held_drew (S := fun w' => Below w2.heap.size w2 w') (by kernel_rfl) (below_drew (Below.refl _ _)) (fun hHeld => ?_)
        refine tkP 0 rfl rfl ?_
        refine tkP 1 rfl rfl ?_
        refine tkA 2 rfl rfl (yields_cell (by rfl) rfl rfl (b := g) (o := 65) (fun w0 hSw => HCM.out _ hSw) Tryd.isAgg3) ?_
        refine tkP 3 rfl rfl ?_
        refine tkA 4 rfl rfl (yields_cell (by rfl) rfl rfl (b := g) (o := 66) (fun w0 hSw => (HCA2.out _ hSw).2) Tryd.isAgg26) ?_
        refine tkP 5 rfl rfl ?_
        refine tkP (v := .bool true) 6 rfl rfl ?_
        refine tkP 7 rfl rfl ?_
        refine tkP 8 rfl rfl ?_
        refine tkP 9 rfl rfl ?_
        refine tkA 10 rfl rfl (yields_cell (by rfl) rfl rfl (b := g) (o := 32) (fun w0 hSw => HCY.out _ hSw) Tryd.isAgg3) ?_
        refine tkP (v := .bool true) 11 rfl rfl ?_
        refine tkP 12 rfl rfl ?_
        refine tkP 13 rfl rfl ?_
        refine tkP 14 rfl rfl ?_
        refine tkP 15 rfl rfl ?_
        refine tkA 16 rfl rfl (yields_cell (by rfl) rfl rfl (b := g) (o := 32) (fun w0 hSw => HCY.out _ hSw) Tryd.isAgg3) ?_
        refine tkP (v := .bool false) 17 rfl rfl ?_
        refine tkP 18 rfl rfl ?_
        refine tkP 19 rfl rfl ?_
        refine tkA (v := undef) 20 rfl rfl (Or.inr ⟨by rfl, rfl⟩) ?_
        refine tkA (v := undef) 21 rfl rfl (Or.inr ⟨by rfl, rfl⟩) ?_
        refine tkA (v := undef) 22 rfl rfl (Or.inr ⟨by rfl, rfl⟩) ?_
        refine tkA (v := undef) 23 rfl rfl (Or.inr ⟨by rfl, rfl⟩) ?_
        refine tkA (v := undef) 24 rfl rfl (Or.inr ⟨by rfl, rfl⟩) ?_
        refine tkA (v := undef) 25 rfl rfl (Or.inr ⟨by rfl, rfl⟩) ?_
        refine tkA (v := undef) 26 rfl rfl (Or.inr ⟨by rfl, rfl⟩) ?_
        refine tkA (v := undef) 27 rfl rfl (Or.inr ⟨by rfl, rfl⟩) ?_
        refine tkP 28 rfl rfl ?_
        refine tkP 29 rfl rfl ?_
        refine wpAnyH_done (by kernel_rfl) ?_ _
        have HB3 := Lib.hid (bthen HB2.out hHeld)
        have R3 := Lib.hid (HR2.out _ hHeld)
        have HC3 := Lib.hid (HRG.out _ HB3.out)
        rw [E9.out] at HC3
        clear hHeld
        go_wp2_with (first | (refine wpList_load_mid rfl 30 _ rfl g (0) rfl b.cells _ R3.out Tryd.underlying30 rfl SB.out ?_) | (go_at_call 14; (with_reducible refine HC3.out.mono ?_); rintro e w8 ⟨rfl, hb⟩; have HB8 := Lib.hid (bthen HB3.out hb); clear hb) | (go_at_call 8; (with_reducible refine (HAW.out _ HB8.out).mono ?_); rintro e w9 ⟨rfl, hb⟩; have HZw9 := Lib.hid (bthen HB8.out hb); clear hb) | fail)
        go_ret
        exact ⟨by simp, HZw9.out⟩
    · have E9 : Hid (E = false) := Lib.hid (by rw [HE.out]; simp [h2])
      subst h1
      refine wp_region_held_drew (S := fun w' => Below w2.heap.size w2 w') (by kernel_rfl) (below_drew (Below.refl _ _)) (fun hHeld => ?_)
      refine tkP 0 rfl rfl ?_
      refine tkP 1 rfl rfl ?_
      refine tkA 2 rfl rfl (yields_cell (by rfl) rfl rfl (b := g) (o := 65) (fun w0 hSw => HCM.out _ hSw) Tryd.isAgg3) ?_
      refine tkP 3 rfl rfl ?_
      refine tkA 4 rfl rfl (yields_cell (by rfl) rfl rfl (b := g) (o := 66) (fun w0 hSw => (HCA2.out _ hSw).2) Tryd.isAgg26) ?_
      refine tkP 5 rfl rfl ?_
      refine tkP (v := .bool true) 6 rfl rfl ?_
      refine tkP 7 rfl rfl ?_
      refine tkP 8 rfl rfl ?_
      refine tkP 9 rfl rfl ?_
      refine tkA 10 rfl rfl (yields_cell (by rfl) rfl rfl (b := g) (o := 32) (fun w0 hSw => HCY.out _ hSw) Tryd.isAgg3) ?_
      refine tkP (v := .bool false) 11 rfl rfl ?_
      refine tkP 12 rfl rfl ?_
      refine tkP 13 rfl rfl ?_
      refine tkA (v := undef) 14 rfl rfl (Or.inr ⟨by rfl, rfl⟩) ?_
      refine tkA (v := undef) 15 rfl rfl (Or.inr ⟨by rfl, rfl⟩) ?_
      refine tkA (v := undef) 16 rfl rfl (Or.inr ⟨by rfl, rfl⟩) ?_
      refine tkA (v := undef) 17 rfl rfl (Or.inr ⟨by rfl, rfl⟩) ?_
      refine tkP 18 rfl rfl ?_
      refine tkP 19 rfl rfl ?_
      refine tkA (v := undef) 20 rfl rfl (Or.inr ⟨by rfl, rfl⟩) ?_
      refine tkA (v := undef) 21 rfl rfl (Or.inr ⟨by rfl, rfl⟩) ?_
      refine tkA (v := undef) 22 rfl rfl (Or.inr ⟨by rfl, rfl⟩) ?_
      refine tkA (v := undef) 23 rfl rfl (Or.inr ⟨by rfl, rfl⟩) ?_
      refine tkA (v := undef) 24 rfl rfl (Or.inr ⟨by rfl, rfl⟩) ?_
      refine tkA (v := undef) 25 rfl rfl (Or.inr ⟨by rfl, rfl⟩) ?_
      refine tkA (v := undef) 26 rfl rfl (Or.inr ⟨by rfl, rfl⟩) ?_
      refine tkA (v := undef) 27 rfl rfl (Or.inr ⟨by rfl, rfl⟩) ?_
      refine tkP 28 rfl rfl ?_
      refine tkP 29 rfl rfl ?_
      refine wpAnyH_done (by kernel_rfl) ?_ _
      have HB3 := Lib.hid (bthen HB2.out hHeld)
      have R3 := Lib.hid (HR2.out _ hHeld)
      have HC3 := Lib.hid (HRG.out _ HB3.out)
      rw [E9.out] at HC3
      clear hHeld
      go_wp2_with (first | (refine wpList_load_mid rfl 30 _ rfl g (0) rfl b.cells _ R3.out Tryd.underlying30 rfl SB.out ?_) | (go_at_call 14; (with_reducible refine HC3.out.mono ?_); rintro e w8 ⟨rfl, hb⟩; have HB8 := Lib.hid (bthen HB3.out hb); clear hb) | (go_at_call 8; (with_reducible refine (HAW.out _ HB8.out).mono ?_); rintro e w9 ⟨rfl, hb⟩; have HZw9 := Lib.hid (bthen HB8.out hb); clear hb) | fail)
      go_ret
      exact ⟨by simp, HZw9.out⟩
  · have E9 : Hid (E = false) := Lib.hid (by rw [HE.out]; simp [h1])
    refine wp_region_held_drew (S := fun w' => Below w2.heap.size w2 w') (by kernel_rfl) (below_drew (Below.refl _ _)) (fun hHeld => ?_)
    refine tkP 0 rfl rfl ?_
    refine tkP 1 rfl rfl ?_
    refine tkA 2 rfl rfl (yields_cell (by rfl) rfl rfl (b := g) (o := 65) (fun w0 hSw => HCM.out _ hSw) Tryd.isAgg3) ?_
    refine tkP 3 rfl rfl ?_
    refine tkA 4 rfl rfl (yields_cell (by rfl) rfl rfl (b := g) (o := 66) (fun w0 hSw => (HCA2.out _ hSw).2) Tryd.isAgg26) ?_
    refine tkP 5 rfl rfl ?_
    refine tkP (v := .bool false) 6 rfl rfl ?_
    refine tkP 7 rfl rfl ?_
    refine tkA (v := undef) 8 rfl rfl (Or.inr ⟨by rfl, rfl⟩) ?_
    refine tkA (v := undef) 9 rfl rfl (Or.inr ⟨by rfl, rfl⟩) ?_
    refine tkA (v := undef) 10 rfl rfl (Or.inr ⟨by rfl, rfl⟩) ?_
    refine tkA (v := undef) 11 rfl rfl (Or.inr ⟨by rfl, rfl⟩) ?_
    refine tkP 12 rfl rfl ?_
    refine tkP 13 rfl rfl ?_
    refine tkA (v := undef) 14 rfl rfl (Or.inr ⟨by rfl, rfl⟩) ?_
    refine tkA (v := undef) 15 rfl rfl (Or.inr ⟨by rfl, rfl⟩) ?_
    refine tkA (v := undef) 16 rfl rfl (Or.inr ⟨by rfl, rfl⟩) ?_
    refine tkA (v := undef) 17 rfl rfl (Or.inr ⟨by rfl, rfl⟩) ?_
    refine tkP 18 rfl rfl ?_
    refine tkP 19 rfl rfl ?_
    refine tkA (v := undef) 20 rfl rfl (Or.inr ⟨by rfl, rfl⟩) ?_
    refine tkA (v := undef) 21 rfl rfl (Or.inr ⟨by rfl, rfl⟩) ?_
    refine tkA (v := undef) 22 rfl rfl (Or.inr ⟨by rfl, rfl⟩) ?_
    refine tkA (v := undef) 23 rfl rfl (Or.inr ⟨by rfl, rfl⟩) ?_
    refine tkA (v := undef) 24 rfl rfl (Or.inr ⟨by rfl, rfl⟩) ?_
    refine tkA (v := undef) 25 rfl rfl (Or.inr ⟨by rfl, rfl⟩) ?_
    refine tkA (v := undef) 26 rfl rfl (Or.inr ⟨by rfl, rfl⟩) ?_
    refine tkA (v := undef) 27 rfl rfl (Or.inr ⟨by rfl, rfl⟩) ?_
    refine tkP 28 rfl rfl ?_
    refine tkP 29 rfl rfl ?_
    refine wpAnyH_done (by kernel_rfl) ?_ _
    have HB3 := Lib.hid (bthen HB2.out hHeld)
    have R3 := Lib.hid (HR2.out _ hHeld)
    have HC3 := Lib.hid (HRG.out _ HB3.out)
    rw [E9.out] at HC3
    clear hHeld
    go_wp2_with (first | (refine wpList_load_mid rfl 30 _ rfl g (0) rfl b.cells _ R3.out Tryd.underlying30 rfl SB.out ?_) | (go_at_call 14; (with_reducible refine HC3.out.mono ?_); rintro e w8 ⟨rfl, hb⟩; have HB8 := Lib.hid (bthen HB3.out hb); clear hb) | (go_at_call 8; (with_reducible refine (HAW.out _ HB8.out).mono ?_); rintro e w9 ⟨rfl, hb⟩; have HZw9 := Lib.hid (bthen HB8.out hb); clear hb) | fail)
    go_ret
    exact ⟨by simp, HZw9.out⟩
end Go.Proofs.YtlnenkmcegadmaaDoor
