/- What the statement's own leaves come to. -/
import Derived.Test.YtacagnoilpfjkaaDoorMany
import Derived.Test.YtacagnoilpfjkaaDoorLamport
import Derived.Test.YtacagnoilpfjkaaDoorMerkle
namespace Go.Proofs.YtacagnoilpfjkaaDoor
open Go.RowKit

/-- A slice of sums under way. -/
structure UnderS (w0 : World) (v : Value) (ls : List (List UInt8)) (w : World) : Prop where
  own : OwnS w w0.heap.size v ls
  below : Below w0.heap.size w0 w
theorem UnderS.more {w0 w w' : World} {v : Value} {ls : List (List UInt8)} (h : UnderS w0 v ls w) (hb : Below w.heap.size w w') : UnderS w0 v ls w' := ⟨h.own.below hb, h.below.trans (hb.mono h.below.size)⟩
theorem UnderS.grown {w0 w w' : World} {u v : Value} {ls m : List (List UInt8)} (h : UnderS w0 v ls w) (ho : OwnS w' w0.heap.size u m) (hg : w.grownBy w' v.ownBlock) : UnderS w0 u m w' :=
  ⟨ho, h.below.trans (h.own.grows hg h.below.size)⟩
set_option linter.unusedSimpArgs false in
set_option maxRecDepth 100000 in
set_option maxHeartbeats 3200000 in
theorem leaves5_new {w : World} {s : List UInt8} (n : Nat) (hn : n ≤ 64) (hs : s.length = 32) (hk : KsAt w) : Calls Tryd.prog 10 #[.agg (cellsOf s).toArray, .int .i64 (n : Int)] w fun e w' =>
    ∃ a c, e = .returned (.slice a n c) ∧ Sums w' a n c (leafKeys s n) ∧ Below w.heap.size w w' ∧ ∀ x, a = some x → w.heap.size ≤ x.block := by
  have hstep : ∀ j : Nat, j < n → ∃ x y : List UInt8, leafKeys s (j + 1) = leafKeys s j ++ [y] ∧ x.length = 32 ∧ y.length = 32 ∧
      (∀ (W : World) (q g b : Nat), KsAt W → Row W (some ⟨q, 0, none⟩) 32 32 s → Row W (some ⟨b, 0, none⟩) 1 1 [UInt8.ofNat j] → W.heap[g]? = some (.cells #[.slice (some ⟨q, 0, none⟩) 32 32, .slice (some ⟨b, 0, none⟩) 1 1] 37 (0, 0)) → Calls Tryd.prog 21 #[.int .u8 21, .slice (some ⟨g, 0, none⟩) 2 2] W fun e w' => e = .returned (.agg (cellsOf x).toArray) ∧ Below W.heap.size W w') ∧
      (∀ W : World, KsAt W → Calls Tryd.prog 26 #[.agg (cellsOf x).toArray] W fun e w' => e = .returned (.agg (cellsOf y).toArray) ∧ Below W.heap.size W w') := fun j hj =>
    ⟨leafSeed s j, leafKey s j, leafKeys_succ s j, leafSeed_len _ _, leafKey_len _ _, fun W q g b hW h1 h2 hg => join_any 21 21 rfl (rows2_at hg h1 h2) hW (by
      unfold partsOf partOf
      simp only [List.flatMap_cons, List.flatMap_nil, List.length_cons, List.length_append, four_len, List.length_nil, hs]
      omega), fun W hW => public_any (leafSeed_len _ _) hW⟩
  have hlen : ∀ j, (leafKeys s j).length = j := fun j => leafKeys_len s j
  have HS := Lib.hid hs
  have HK := Lib.hid hk
  have HST := Lib.hid hstep
  have HLEN := Lib.hid hlen
  clear hs hk hstep hlen
  go_enter Tryd.func10, Tryd.ntmps10
  go_upto_region 1 with (fail)
  have b1 : Below w.heap.size w (w.alloc (.cells (cellsOf s).toArray 23)) := (Below.refl _ _).alloc (Nat.le_refl _) _
  have h1' : (w.alloc (.cells (cellsOf s).toArray 23)).heap[w.heap.size]? = some (.cells (cellsOf s).toArray 23 (0, 0)) := heap_alloc_new _ _
  revert b1 h1'
  generalize (w.alloc (.cells (cellsOf s).toArray 23)) = w1
  obtain ⟨q, hq⟩ : ∃ q, q = w.heap.size := ⟨_, rfl⟩
  rw [← hq]
  intro b1 h1'
  rw [hq] at b1
  have HB1 := Lib.hid b1
  have HQ := Lib.hid h1'
  have HK1 := Lib.hid (HK.out.below b1)
  clear b1 h1' hq
  go_wp2_with fail
  go_loopw [5, 6] (fun v i wr => ∃ j : Nat, j ≤ n ∧ i = .int .i64 j ∧ UnderS w1 v (leafKeys s j) wr) (fun _ i _ => n - (intOf i).toNat)
  case atStart => exact ⟨0, Nat.zero_le _, rfl, OwnS.nil _ _, Below.refl _ _⟩
  case round =>
    obtain ⟨j, hj, rfl, hat⟩ := hrel
    by_cases hjn : j < n
    · have f1 : (j : Int) < (n : Int) := by omega
      obtain ⟨x, y, hnext, hxl, hyl, hjoin, hpub⟩ := HST.out j hjn
      obtain ⟨F, hF, hF64⟩ : ∃ F, (leafKeys s j).length = F ∧ F ≤ 64 := ⟨_, rfl, by rw [HLEN.out]; omega⟩
      obtain ⟨L, hL⟩ : ∃ L, L = leafKeys s j := ⟨_, rfl⟩
      rw [← hL] at hat hnext hF
      obtain ⟨a', c', rfl, _⟩ := hat.own.shape
      rw [hF] at hat
      rw [hF]
      have hx : (#[.int .u8 (j : Int)] : Array Value) = (cellsOf [UInt8.ofNat j]).toArray := by
        rw [← one_cells, show (((UInt8.ofNat j).toNat : Nat) : Int) = (j : Int) by rw [UInt8.toNat_ofNat']; omega]
      have HX := Lib.hid hx
      have HAT := Lib.hid hat
      have HNX := Lib.hid hnext
      have HXL := Lib.hid hxl
      have HYL := Lib.hid hyl
      have HJ := Lib.hid hjoin
      have HPUB := Lib.hid hpub
      have HF := Lib.hid hF
      have HQR := Lib.hid ((hat.below.block _ (lt_of_block HQ.out)).trans HQ.out)
      clear hat hnext hxl hyl hjoin hpub hF hL hx
      go_wp2_with fail
      rw [HX.out]
      have b2 : Below wr.heap.size wr ((wr.alloc (.cells (cellsOf [UInt8.ofNat j]).toArray 5)).alloc (.cells #[.slice (some ⟨q, 0, none⟩) 32 32, .slice (some ⟨wr.heap.size, 0, none⟩) 1 1] 37)) := ((Below.refl _ _).alloc (Nat.le_refl _) _).alloc (by simp) _
      have h2 : ((wr.alloc (.cells (cellsOf [UInt8.ofNat j]).toArray 5)).alloc (.cells #[.slice (some ⟨q, 0, none⟩) 32 32, .slice (some ⟨wr.heap.size, 0, none⟩) 1 1] 37)).heap[wr.heap.size]? = some (.cells (cellsOf [UInt8.ofNat j]).toArray 5 (0, 0)) := by
        rw [heap_alloc_old _ _ (by simp), heap_alloc_new]
      have h3 : ((wr.alloc (.cells (cellsOf [UInt8.ofNat j]).toArray 5)).alloc (.cells #[.slice (some ⟨q, 0, none⟩) 32 32, .slice (some ⟨wr.heap.size, 0, none⟩) 1 1] 37)).heap[wr.heap.size + 1]? = some (.cells #[.slice (some ⟨q, 0, none⟩) 32 32, .slice (some ⟨wr.heap.size, 0, none⟩) 1 1] 37 (0, 0)) := heap_alloc_at _ _ _ (by simp)
      have r1 : Row ((wr.alloc (.cells (cellsOf [UInt8.ofNat j]).toArray 5)).alloc (.cells #[.slice (some ⟨q, 0, none⟩) 32 32, .slice (some ⟨wr.heap.size, 0, none⟩) 1 1] 37)) (some ⟨q, 0, none⟩) 32 32 s := row_all ((b2.block _ (lt_of_block HQR.out)).trans HQR.out) 32 HS.out.symm (by omega)
      have hcall := HJ.out _ q _ _ (HK1.out.below (HAT.out.below.trans (b2.mono HAT.out.below.size))) r1 (row_all h2 1 rfl (by omega)) h3
      have HA2 := Lib.hid (HAT.out.more b2)
      clear b2 h2 h3 r1
      refine hcall.mono ?_
      rintro e w5 ⟨rfl, hb5⟩
      have HA5 := Lib.hid (HA2.out.more hb5)
      clear hb5 hcall HA2
      go_wp2_with fail
      refine (HPUB.out _ (HK1.out.below HA5.out.below)).mono ?_
      rintro e w6 ⟨rfl, hb6⟩
      have HA6 := Lib.hid (HA5.out.more hb6)
      clear hb6
      go_upto_region 4 with (first | (refine wpList_build1 rfl _ rfl rfl HYL.out ?_; have hl := own_lit (w := w6) (B := 0) [y] (by simp [HYL.out]) (Nat.zero_le _) 1 rfl (by omega); rw [seqCells_single] at hl; have HL := Lib.hid hl.sums; have HA7 := Lib.hid (HA6.out.more ((Below.refl _ _).alloc (Nat.le_refl _) _ : Below w6.heap.size w6 (w6.alloc (.cells (cellsOf y).toArray 23)))); clear hl) | (at_builtin; refine wpList_append_sums rfl _ _ rfl rfl w1.heap.size (.slice a' F c') L F HF.out rfl HA7.out.own _ 1 1 [y] rfl HL.out (by omega) HA7.out.below.size ?_; intro a8 c8 w8 ho8 hg8; have HA8 := Lib.hid (HA7.out.grown ho8 hg8); clear ho8 hg8) | fail)
      go_wp2_with fail
      go_roundw
      case rel => exact ⟨j + 1, by omega, by go_num, by rw [HNX.out]; exact HA8.out⟩
      case measure => simp [intOf]; omega
    · have f1 : ¬ ((j : Int) < (n : Int)) := by omega
      obtain rfl : j = n := by omega
      obtain ⟨a', c', rfl, hfresh⟩ := hat.own.shape
      rw [HLEN.out] at hat
      rw [HLEN.out]
      have HAT := Lib.hid hat
      have HFR := Lib.hid hfresh
      clear hat hfresh
      go_wp2_with fail
      go_ret
      exact ⟨a', c', rfl, HAT.out.own.sums, HB1.out.trans (HAT.out.below.mono HB1.out.size), fun x e => Nat.le_trans HB1.out.size (HFR.out x e)⟩
theorem leaves5_any {w : World} {s : List UInt8} (n : Nat) (hn : n ≤ 64) (hs : s.length = 32) (hk : KsAt w) : Calls Tryd.prog 10 #[.agg (cellsOf s).toArray, .int .i64 (n : Int)] w fun e w' =>
    ∃ a c, e = .returned (.slice a n c) ∧ Sums w' a n c (leafKeys s n) ∧ Below w.heap.size w w' :=
  (leaves5_new n hn hs hk).mono fun _ _ ⟨a, c, h1, h2, h3, _⟩ => ⟨a, c, h1, h2, h3⟩
end Go.Proofs.YtacagnoilpfjkaaDoor
