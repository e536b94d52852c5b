/- What tx.Keys comes to: the keys that signed. -/
import Derived.Test.YtnjnomebcggccaaGreatDoorTx
import Derived.Test.YtnjnomebcggccaaGreatDoorSign
namespace Go.Proofs.YtnjnomebcggccaaGreatDoor
open Go.RowKit

/-- The keys of the signs of a sum. -/
def keysBy (s : List UInt8) : List PSign → List Int
  | [] => []
  | x :: xs => if x.sum = s then x.key :: keysBy s xs else keysBy s xs
theorem keysBy_append (s : List UInt8) : ∀ u v : List PSign, keysBy s (u ++ v) = keysBy s u ++ keysBy s v
  | [], _ => rfl
  | x :: u, v => by
    rw [List.cons_append, keysBy, keysBy, keysBy_append s u v]
    split <;> rfl
theorem keysBy_take {s : List UInt8} {xs : List PSign} {k : Nat} (h : k < xs.length) : keysBy s (xs.take (k + 1)) = if (xs.getD k noSign).sum = s then keysBy s (xs.take k) ++ [(xs.getD k noSign).key] else keysBy s (xs.take k) := by
  rw [take_getD (d := noSign) h, keysBy_append]
  simp only [keysBy]
  split <;> simp
theorem keysBy_len {s : List UInt8} : ∀ xs : List PSign, (keysBy s xs).length ≤ xs.length
  | [] => Nat.le_refl _
  | x :: xs => by
    have := keysBy_len (s := s) xs
    rw [keysBy]
    split <;> simp only [List.length_cons] <;> omega
set_option linter.unusedSimpArgs false in
set_option maxRecDepth 100000 in
set_option maxHeartbeats 12800000 in
theorem txKeys_any {w : World} {x : PTx} (h : TxIn w x) (hk : KsAt w) (hf : FrontFew false x) (hs : x.sn ≤ 1000) : Calls Tryz.prog 40 #[.agg x.cells.toArray] w fun e w' => ∃ (a : Option Addr) (n c : Nat), e = .returned (.slice a n c) ∧ Numbers w' a n c (keysBy (txSum x) x.signs) ∧ Below w.heap.size w w' := by
  obtain ⟨S, hS, hSl, hsum⟩ : ∃ S, txSum x = S ∧ S.length = 32 ∧ ∀ W : World, Below w.heap.size w W → Calls Tryz.prog 10 #[.agg x.cells.toArray] W fun e w' => e = .returned (.agg (cellsOf S).toArray) ∧ Below W.heap.size W w' := ⟨_, rfl, txSum_len x, fun W hW => txSum_any (h.below hW) (hk.below hW) hf⟩
  rw [hS]
  have b1 : Below w.heap.size w (w.alloc (.cells x.cells.toArray 35)) := (Below.refl _ _).alloc (Nat.le_refl _) _
  have h1 := heap_alloc_new w (.cells x.cells.toArray 35)
  have HSUM := Lib.hid hsum
  have HSL := Lib.hid hSl
  have AX := Lib.hid (tx_sizeA h.op.root)
  have HRO := Lib.hid h.op.root
  have H := Lib.hid h
  have SS := Lib.hid (size_of hSl)
  have SSL := Lib.hid (sumLen hSl)
  have SZ : Hid ((cellsOf zero32).toArray.size = (cellsOf S).toArray.size) := Lib.hid (by rw [List.size_toArray, List.size_toArray, cellsOf_len, cellsOf_len, hSl]; exact zero32_len)
  clear h hk hf hS hSl hsum
  go_enter Tryz.func40, Tryz.ntmps40
  go_upto_region 1 with (fail)
  revert b1 h1
  generalize (w.alloc (.cells x.cells.toArray 35)) = w1
  obtain ⟨g, hg⟩ : ∃ g, g = w.heap.size := ⟨_, rfl⟩
  rw [← hg]
  intro b1 h1
  rw [hg] at b1
  have HB1 := Lib.hid b1
  have HG := Lib.hid h1
  have hlt := lt_of_block h1
  clear b1 h1 hg
  go_wp2_with (first | (refine wpList_load_row rfl 35 _ rfl g rfl 35 x.cells.toArray (0, 0) _ HG.out Tryz.underlying35 rfl AX.out ?_) | fail)
  refine (HSUM.out _ HB1.out).mono ?_
  rintro e w2 ⟨rfl, hb2⟩
  have HB2 := Lib.hid (HB1.out.trans (hb2.mono HB1.out.size))
  have HG2 := Lib.hid ((hb2.block g hlt).trans HG.out)
  have hlt2 : g < w2.heap.size := Nat.lt_of_lt_of_le hlt hb2.size
  clear hb2 HSUM HB1 HG hlt
  go_upto_region 2 with (first | (refine wpList_store_row rfl 23 _ _ rfl w2.heap.size (cellsOf S).toArray rfl rfl 23 (cellsOf zero32).toArray (heap_alloc_new _ _) SS.out SZ.out (all_oneCell_toArray (cellsOf_one S)) ?_) | fail)
  rw [← zero32_is, laySum_is]
  have h3 := laySum_heap w2 S
  have b3 := laySum_self w2 S
  revert h3 b3
  generalize laySum w2 S = w3
  obtain ⟨g3, hg3⟩ : ∃ g, g = w2.heap.size := ⟨_, rfl⟩
  rw [← hg3]
  intro h3 b3
  rw [hg3] at b3
  have HB3 := Lib.hid (HB2.out.trans (b3.mono HB2.out.size))
  have hlt3 := lt_of_block h3
  have H3 := Lib.hid h3
  have HG3 := Lib.hid ((b3.block g hlt2).trans HG2.out)
  have hg23 : g < w3.heap.size := Nat.lt_of_lt_of_le hlt2 b3.size
  have HTX := Lib.hid (H.out.below HB3.out)
  obtain ⟨A, hA⟩ : ∃ A, A = x.sa := ⟨_, rfl⟩
  have HA := Lib.hid hA
  have c39 : w3.cell? ⟨g, 39, none⟩ = some (.slice A x.sn x.sc) := by
    have h9 := tx_signs HRO.out (range_of HG3.out)
    rw [Nat.zero_add] at h9
    rw [hA]
    exact h9
  have hs63 : (x.sn : Int) ≤ 9223372036854775807 := by omega
  clear h3 b3 hg3 hA HB2 HG2 hlt2
  try simp only [Act.put]
  go_upto_region 4 with (fail)
  clear c39
  go_loopw [4, 12] (fun v i wr => ∃ (k : Nat) (ks : List Int), k ≤ x.sn ∧ i = .int .i64 k ∧ ks = keysBy S (x.signs.take k) ∧ OwnZ wr 3 w3.heap.size v ks ∧ Below w3.heap.size w3 wr) (fun _ i _ => x.sn - (intOf i).toNat)
  case atStart => exact ⟨0, [], Nat.zero_le _, rfl, rfl, OwnZ.nil _ _ _, Below.refl _ _⟩
  case round =>
    obtain ⟨k, ks, hk, rfl, hks, hown, hbr⟩ := hrel
    have HKS := Lib.hid hks
    have HOWN := Lib.hid hown
    have HBR := Lib.hid hbr
    obtain ⟨va, vc, rfl, _⟩ := hown.shape
    have hkl1000 : ks.length ≤ 1000 := by
      have h9 := keysBy_len (s := S) (x.signs.take k)
      rw [← hks, List.length_take] at h9
      omega
    clear hks hown hbr
    by_cases hkn : k < x.sn
    · have f1 : (k : Int) < (x.sn : Int) := by omega
      have f0 : (0 : Int) ≤ (k : Int) := by omega
      have ft : ((k : Int)).toNat = k := by omega
      have hkl : k < x.signs.length := by rw [HTX.out.signs.1]; exact hkn
      have hsg := HTX.out.signs.below HBR.out
      obtain ⟨b1, o1, e1, hltb, hc1⟩ := hsg.2.2.2.2.2 (by omega)
      have hrx : wr.rangeAt b1 (o1 + k * 33) (x.signs.getD k noSign).cells := hc1 k hkn
      have hy1 : SignIn (x.signs.getD k noSign) := hsg.get hkn
      have hnx := keysBy_take (s := S) hkl
      rw [← HKS.out] at hnx
      revert hrx hy1 hnx
      generalize x.signs.getD k noSign = y
      intro hrx hy1 hnx
      obtain ⟨r, hr⟩ : ∃ r, decide (y.sum = S) = r := ⟨_, rfl⟩
      have q : ∀ W : World, (Op.equalIn 10000 23 (.agg (cellsOf y.sum).toArray) (.agg (cellsOf S).toArray)).run Tryz.prog W = .ok r W := fun W => by rw [← hr]; exact run_eqSums _ _ hy1.sum HSL.out W
      have RY := Lib.hid hrx
      have SSM := Lib.hid (sumLen hy1.sum)
      have SY := Lib.hid (sign_size hy1.sum)
      have AY := Lib.hid (sign_sizeA hy1.sum)
      have ZY : Hid (noSign.cells.toArray.size = y.cells.toArray.size) := Lib.hid (by rw [List.size_toArray, List.size_toArray, PSign.len hy1.sum]; rfl)
      have HFK := Lib.hid hy1.key
      have HNX := Lib.hid hnx
      have HR := Lib.hid hr
      rw [← HA.out] at e1
      subst e1
      clear hc1 hrx hy1 hnx hkl hsg hr
      go_upto_region 6 with (first | (refine wpList_load_mid rfl 83 _ rfl b1 (o1 + k * 33) rfl y.cells _ RY.out Tryz.underlying83 rfl SY.out ?_) | (refine wpList_store_row rfl 83 _ _ rfl wr.heap.size y.cells.toArray rfl rfl 83 noSign.cells.toArray (heap_alloc_new _ _) AY.out ZY.out (all_oneCell_toArray y.one) ?_) | fail)
      rw [← noSign_is, layT_is]
      have h5 := layT_heap 83 noSign.cells wr y.cells
      have b5 := layT_self 83 noSign.cells wr y.cells
      revert h5 b5
      generalize layT 83 noSign.cells wr y.cells = w5
      obtain ⟨g5, hg5⟩ : ∃ g5, g5 = wr.heap.size := ⟨_, rfl⟩
      rw [← hg5]
      intro h5 b5
      rw [hg5] at b5
      have H5 := Lib.hid h5
      have HB5 := Lib.hid (HBR.out.trans (b5.mono HBR.out.size))
      have HO5 := Lib.hid (HOWN.out.below b5)
      have c0 : w5.cell? ⟨g5, 0, none⟩ = some (.int .i64 y.key) := sign_key (range_of h5)
      have RM := Lib.hid (show w5.rangeAt g5 1 (cellsOf y.sum) by have h9 := sign_sum (range_of h5); rw [Nat.zero_add] at h9; exact h9)
      have RS3 := Lib.hid (range_of ((HB5.out.block g3 hlt3).trans H3.out))
      clear h5 b5 hg5 RY HBR HOWN
      try simp only [Act.put]
      cases r
      · have hn : keysBy S (x.signs.take (k + 1)) = ks := by rw [HNX.out, if_neg (of_decide_eq_false HR.out)]
        have HN := Lib.hid hn
        clear hn HNX HKS HR
        go_wp2_with (first | (refine wpList_load_mid rfl 23 _ rfl g5 1 rfl (cellsOf y.sum) _ RM.out Tryz.underlying23 rfl SSM.out ?_) | (refine wpList_load_mid rfl 23 _ rfl g3 0 rfl (cellsOf S) _ RS3.out Tryz.underlying23 rfl SSL.out ?_) | fail)
        go_roundw
        case rel => exact ⟨k + 1, ks, by omega, by go_num, HN.out.symm, HO5.out, HB5.out⟩
        case measure => simp [intOf]; omega
      · have hn : keysBy S (x.signs.take (k + 1)) = ks ++ [y.key] := by rw [HNX.out, if_pos (of_decide_eq_true HR.out)]
        have HN := Lib.hid hn
        clear hn HNX HKS HR
        go_upto_region 7 with (first | (refine wpList_load_mid rfl 23 _ rfl g5 1 rfl (cellsOf y.sum) _ RM.out Tryz.underlying23 rfl SSM.out ?_) | (refine wpList_load_mid rfl 23 _ rfl g3 0 rfl (cellsOf S) _ RS3.out Tryz.underlying23 rfl SSL.out ?_) | fail)
        have b6 : Below w5.heap.size w5 (w5.alloc (.cells #[.int .i64 y.key] 3)) := (Below.refl _ _).alloc (Nat.le_refl _) _
        have HO6 := Lib.hid (HO5.out.below b6)
        have HB6 := Lib.hid (HB5.out.trans (b6.mono HB5.out.size))
        have HN1 := Lib.hid (numbers_one (heap_alloc_new w5 (.cells #[.int .i64 y.key] 3)) HFK.out)
        obtain ⟨ie, i1, hz0, hz1, hz2⟩ := info_parts (show (Tryz.prog.info? 3).map (fun i => (i.zero, i.size, i.bytes)) = some (some (.int .i64 0), 1, 8) by kernel_rfl)
        have HI := Lib.hid i1
        clear b6 i1
        go_wp2_with (at_builtin; refine wpList_append_numbers _ rfl _ _ 47 3 rfl w3.heap.size ie Tryz.underlying47 HI.out hz0 hz1 hz2 (.slice va ks.length vc) ks ks.length rfl rfl HO6.out _ 1 1 [y.key] rfl HN1.out (by omega) HB6.out.size ?_; intro a8 c8 w8 ho8 hg8; have HO8 := Lib.hid ho8; have HB8 := Lib.hid (HB6.out.trans (HO6.out.grows hg8 HB6.out.size)); clear ho8 hg8)
        go_roundw
        case rel => exact ⟨k + 1, ks ++ [y.key], by omega, by go_num, HN.out.symm, HO8.out, HB8.out⟩
        case measure => simp [intOf]; omega
    · obtain rfl : k = x.sn := by omega
      have f1 : ¬ ((x.sn : Int) < (x.sn : Int)) := by omega
      have htk : x.signs.take x.sn = x.signs := List.take_of_length_le (by rw [HTX.out.signs.1]; exact Nat.le_refl _)
      have HKS2 : Hid (ks = keysBy S x.signs) := Lib.hid (by rw [HKS.out, htk])
      clear htk HKS
      go_wp2_with fail
      go_ret
      exact ⟨va, _, vc, rfl, by rw [← HKS2.out]; exact HOWN.out.numbers, HB3.out.trans (HBR.out.mono HB3.out.size)⟩
end Go.Proofs.YtnjnomebcggccaaGreatDoor
