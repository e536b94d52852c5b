/- Law 19: BlockFull. -/
import Derived.Test.YtlnenkmcegadmaaDoorAwake19
namespace Go.Proofs.YtlnenkmcegadmaaDoor
open Go.RowKit

set_option linter.unusedSimpArgs false in
set_option maxRecDepth 100000 in
set_option maxHeartbeats 6400000 in
theorem full19_walk {w : World} {z : Int} (hk : KsAt w) (haw : ∀ W : World, KsAt W → Calls Tryd.prog 8 #[] W fun e w' => e = .returned (.bool true) ∧ Below W.heap.size W w') :
    Calls Tryd.prog 6 #[.int .i64 z] w fun e w' => e = .returned (.bool true) ∧ Below w.heap.size w w' := by
  have HK := Lib.hid hk
  have HAW : Hid (∀ W : World, Below w.heap.size w W → Calls Tryd.prog 8 #[] W fun e w' => e = .returned (.bool true) ∧ Below W.heap.size W w') := Lib.hid fun W hW => haw W (hk.below hW)
  have HB0 := Lib.hid (Below.refl w.heap.size w)
  clear hk haw
  by_cases h0 : z < 60
  · go_enter Tryd.func6, Tryd.ntmps6
    go_wp2_with (first | (go_at_call 8; (with_reducible refine (HAW.out _ HB0.out).mono ?_); rintro e w9 ⟨rfl, hb⟩; have HZw9 := Lib.hid (bthen HB0.out hb); clear hb) | fail)
    go_ret
    exact ⟨rfl, HZw9.out⟩
  by_cases h1 : 70 < z
  · go_enter Tryd.func6, Tryd.ntmps6
    go_wp2_with (first | (go_at_call 8; (with_reducible refine (HAW.out _ HB0.out).mono ?_); rintro e w9 ⟨rfl, hb⟩; have HZw9 := Lib.hid (bthen HB0.out hb); clear hb) | fail)
    go_ret
    exact ⟨rfl, HZw9.out⟩
  obtain ⟨n, rfl⟩ : ∃ n : Nat, z = (n : Int) := ⟨z.toNat, by omega⟩
  obtain ⟨ie, i1, i2, i3, i4⟩ := info_parts Tryd.zeroTx160
  have f0 : (0 : Int) ≤ (n : Int) := by omega
  have ft : ((n : Int)).toNat = n := by omega
  have hn : n ≤ 70 := by omega
  have I1 := Lib.hid i1
  have I2 := Lib.hid i2
  have I3 := Lib.hid i3
  have I4 := Lib.hid i4
  have HROW : Hid (∀ w1 : World, w1.ownsRow w.heap.size 50 40 (.slice (some ⟨w.heap.size, 0, none⟩) n n) n (madeCells (Value.cells (.agg noTx.cells.toArray)) (n * 40)).toList → SliceOf txK w1 (some ⟨w.heap.size, 0, none⟩) n n (List.replicate n noTx)) := Lib.hid fun w1 hown => by
    have h9 : OwnOf txK 50 w1 w.heap.size (.slice (some ⟨w.heap.size, 0, none⟩) n n) (List.replicate n noTx) := made_of (K := txK) (PTx.len rfl) hown
    have h8 := h9.slice (fun x hx => by rw [(List.mem_replicate.1 hx).2]; exact noTx_in19 w1)
    exact h8
  clear i1 i2 i3 i4
  by_cases h2 : 64 < n
  · have f2 : (64 : Int) < (n : Int) := by omega
    have HMK : Hid (∀ (W : World), Calls Tryd.prog 9 #[.agg noHead.cells.toArray, .slice (some ⟨w.heap.size, 0, none⟩) n n] W fun e w' => e = .returned (.tuple #[.agg noBlock.cells.toArray, .int .i64 6]) ∧ Below W.heap.size W w') := Lib.hid fun W => make_full noHead_in (by decide) (by decide) h2
    go_enter Tryd.func6, Tryd.ntmps6
    go_upto_region 4 with (first
    | (refine wpList_build10 rfl rfl (vs := []) rfl build_noHead19 ?_; go_frame)
    | (at_make; refine wpList_make_full _ rfl _ _ 26 rfl w.heap.size 50 ie _ 40 Tryd.underlying26 I1.out I2.out I3.out _ _ _ _ n rfl rfl rfl rfl (by rw [I4.out]; omega) (by unfold maxLen; omega) (Nat.le_refl _) ?_; intro w1 hown hgrow; have HS1 := Lib.hid (HROW.out w1 hown); have HB1 : Hid (Below w.heap.size w w1) := Lib.hid ⟨hgrow.os, hgrow.tape, hgrow.output, hgrow.size, fun k hk => hgrow.block k hk (by simp)⟩; clear hown hgrow)
    | (go_at_call 9; (with_reducible refine (HMK.out _).mono ?_); rintro e w2 ⟨rfl, hb⟩; have HB2 := Lib.hid (bthen HB1.out hb); clear hb)
    | (refine wpList_new rfl 30 rfl noBlock.cells.toArray Tryd.zeroBlock19 ?_; intro p w3 hq hh hb; go_frame; have HP := Lib.hid hh; have HN : Hid (w2.heap.size ≤ p) := Lib.hid hq; have HB3 := Lib.hid hb; clear hq hh hb)
    | (refine wpList_row10 rfl 30 _ _ rfl p (noBlock.cells) rfl rfl 30 noBlock.cells HP.out Tryd.sizeNo19 (rfl) (PBlock.one _) ?_; intro w4 hh hb; have HX4 := Lib.hid (But.in HB3.out hb HN.out); have RP := Lib.hid (range_of hh); have RH := Lib.hid hh; clear hh hb) | fail)
    have c4 : w4.cell? ⟨p, 66, none⟩ = some (.slice none 0 0) := by
      have h9 := block_txs noHead_in RP.out
      rw [Nat.zero_add] at h9
      exact h9
    have HB4 := Lib.hid (bthen HB2.out HX4.out)
    go_wp2_with (first | (go_at_call 8; (with_reducible refine (HAW.out _ HB4.out).mono ?_); rintro e w9 ⟨rfl, hb⟩; have HZw9 := Lib.hid (bthen HB4.out hb); clear hb) | fail)
    go_ret
    exact ⟨rfl, HZw9.out⟩
  · have f2 : ¬ (64 : Int) < (n : Int) := by omega
    obtain ⟨Z, hZ⟩ : ∃ Z, Z = (⟨headSum noHead, 0 + 1, rootSum ((List.replicate n noTx).map txSum), (n : Int)⟩ : PHead) := ⟨_, rfl⟩
    have HZI : Hid (HeadIn Z) := Lib.hid (by rw [hZ]; exact ⟨headSum_len _, (show Fits 1 by constructor <;> decide), (show (rootSum _).length = 32 from rootSum_len _), (show Fits (n : Int) by constructor <;> omega)⟩)
    have HMK : Hid (∀ (W : World), Below w.heap.size w W → SliceOf txK W (some ⟨w.heap.size, 0, none⟩) n n (List.replicate n noTx) → Calls Tryd.prog 9 #[.agg noHead.cells.toArray, .slice (some ⟨w.heap.size, 0, none⟩) n n] W fun e w' => ∃ (q : Nat) (ys : List PTx), e = .returned (.tuple #[.agg (PBlock.cells ⟨Z, some ⟨q, 0, none⟩, n, n, ys⟩).toArray, .int .i64 0]) ∧ Below W.heap.size W w') := Lib.hid fun W hW hs => by
      refine (make_ok noHead_in (by decide) (by decide) hs (HK.out.below hW) (fun x hx => by rw [(List.mem_replicate.1 hx).2]; exact ⟨noTx_small19, by show 0 ≤ 20; omega⟩) (by omega)).mono ?_
      rintro e w' ⟨q, ys, he, _, _, _, _, hb⟩
      exact ⟨q, ys, by rw [he, hZ]; rfl, hb⟩
    have HSB : Hid (∀ (q : Nat) (ys : List PTx), (Tryd.prog.info? 30).map (·.size) = some (PBlock.cells ⟨Z, some ⟨q, 0, none⟩, n, n, ys⟩).length) := Lib.hid fun q ys => block_size (b := ⟨Z, some ⟨q, 0, none⟩, n, n, ys⟩) HZI.out
    have HSL : Hid (∀ (q : Nat) (ys : List PTx), (PBlock.cells ⟨Z, some ⟨q, 0, none⟩, n, n, ys⟩).length = 67) := Lib.hid fun q ys => PBlock.len (b := ⟨Z, some ⟨q, 0, none⟩, n, n, ys⟩) HZI.out
    clear hZ
    go_enter Tryd.func6, Tryd.ntmps6
    go_upto_region 4 with (first
    | (refine wpList_build10 rfl rfl (vs := []) rfl build_noHead19 ?_; go_frame)
    | (at_make; refine wpList_make_full _ rfl _ _ 26 rfl w.heap.size 50 ie _ 40 Tryd.underlying26 I1.out I2.out I3.out _ _ _ _ n rfl rfl rfl rfl (by rw [I4.out]; omega) (by unfold maxLen; omega) (Nat.le_refl _) ?_; intro w1 hown hgrow; have HS1 := Lib.hid (HROW.out w1 hown); have HB1 : Hid (Below w.heap.size w w1) := Lib.hid ⟨hgrow.os, hgrow.tape, hgrow.output, hgrow.size, fun k hk => hgrow.block k hk (by simp)⟩; clear hown hgrow)
    | (go_at_call 9; (with_reducible refine (HMK.out _ HB1.out HS1.out).mono ?_); rintro e w2 ⟨q, ys, rfl, hb⟩; have HB2 := Lib.hid (bthen HB1.out hb); clear hb)
    | (refine wpList_new rfl 30 rfl noBlock.cells.toArray Tryd.zeroBlock19 ?_; intro p w3 hq hh hb; go_frame; have HP := Lib.hid hh; have HN : Hid (w2.heap.size ≤ p) := Lib.hid hq; have HB3 := Lib.hid hb; clear hq hh hb)
    | (refine wpList_row10 rfl 30 _ _ rfl p ((PBlock.cells ⟨Z, some ⟨q, 0, none⟩, n, n, ys⟩)) rfl rfl 30 noBlock.cells HP.out (HSB.out q ys) (by rw [HSL.out q ys]; rfl) (PBlock.one _) ?_; intro w4 hh hb; have HX4 := Lib.hid (But.in HB3.out hb HN.out); have RP := Lib.hid (range_of hh); have RH := Lib.hid hh; clear hh hb) | fail)
    have c4 : w4.cell? ⟨p, 66, none⟩ = some (.slice (some ⟨q, 0, none⟩) n n) := by
      have h9 := block_txs (x := ⟨Z, some ⟨q, 0, none⟩, n, n, ys⟩) HZI.out RP.out
      rw [Nat.zero_add] at h9
      exact h9
    have HB4 := Lib.hid (bthen HB2.out HX4.out)
    go_wp2_with (first | (go_at_call 8; (with_reducible refine (HAW.out _ HB4.out).mono ?_); rintro e w9 ⟨rfl, hb⟩; have HZw9 := Lib.hid (bthen HB4.out hb); clear hb) | fail)
    go_ret
    exact ⟨rfl, HZw9.out⟩
end Go.Proofs.YtlnenkmcegadmaaDoor
