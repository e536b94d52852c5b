/- Amounts, plainly: which may be, all together. No function of the program is named. What Right, Add and Sub come to. What tx.Keys comes to: the keys that signed. What 'among' comes to: the closure that looks a key up, IndexFunc and ContainsFunc at []int. What lock.Hash comes to. What Hash and shows come to. What Opens comes to; and the statement's own example. -/
import Derived.Test.YteddkkcheaghaaaGreatDoorNumbers
import Derived.Test.YteddkkcheaghaaaGreatDoorTx
import Derived.Test.YteddkkcheaghaaaGreatDoorTxg
import Derived.Test.YteddkkcheaghaaaGreatDoorSha
import Derived.Test.YteddkkcheaghaaaGreatDoorLock
namespace Go.Proofs.YteddkkcheaghaaaGreatDoor
open Go.RowKit

/-- An amount may be. -/
def okAmount (z : Int) : Bool := decide (0 ≤ z ∧ z ≤ 1125899906842624)
theorem okAmount_yes {z : Int} (h : 0 ≤ z) (h' : z ≤ 1125899906842624) : okAmount z = true := decide_eq_true ⟨h, h'⟩
theorem okAmount_no {z : Int} (h : z < 0 ∨ 1125899906842624 < z) : okAmount z = false := decide_eq_false (by omega)
/-- All together, one by one, behind a sum; and the error. -/
def addFrom (sum : Int) : List Int → Int × Int
  | [] => (sum, 0)
  | z :: l => if okAmount z then (if 1125899906842624 < sum + z then (0, 10) else addFrom (sum + z) l) else (0, 5)
theorem addFrom_bad {s z : Int} {l : List Int} (h : z < 0 ∨ 1125899906842624 < z) : addFrom s (z :: l) = (0, 5) := by unfold addFrom; rw [okAmount_no h]; rfl
theorem addFrom_over {s z : Int} {l : List Int} (h : 0 ≤ z) (h' : z ≤ 1125899906842624) (h2 : 1125899906842624 < s + z) : addFrom s (z :: l) = (0, 10) := by unfold addFrom; rw [okAmount_yes h h', if_pos rfl, if_pos h2]
theorem addFrom_more {s z : Int} {l : List Int} (h : 0 ≤ z) (h' : z ≤ 1125899906842624) (h2 : s + z ≤ 1125899906842624) : addFrom s (z :: l) = addFrom (s + z) l := by
  rw [addFrom, okAmount_yes h h', if_pos rfl, if_neg (by omega)]
theorem addFrom_range : ∀ (l : List Int) (s : Int), 0 ≤ s → s ≤ 1125899906842624 → 0 ≤ (addFrom s l).1 ∧ (addFrom s l).1 ≤ 1125899906842624
  | [], s, h, h' => ⟨h, h'⟩
  | z :: l, s, h, h' => by
    by_cases h1 : z < 0 ∨ 1125899906842624 < z
    · rw [addFrom_bad h1]; exact ⟨Int.le_refl _, by show (0 : Int) ≤ _; omega⟩
    · by_cases h2 : 1125899906842624 < s + z
      · rw [addFrom_over (by omega) (by omega) h2]; exact ⟨Int.le_refl _, by show (0 : Int) ≤ _; omega⟩
      · rw [addFrom_more (by omega) (by omega) (by omega)]
        exact addFrom_range l (s + z) (by omega) (by omega)
end Go.Proofs.YteddkkcheaghaaaGreatDoor
namespace Go.Proofs.YteddkkcheaghaaaGreatDoor
open Go.RowKit

theorem right_any (z : Int) (w : World) : Calls Tryz.prog 75 #[.int .i64 z] w fun e w' => e = .returned (.bool (okAmount z)) ∧ w = w' := by
  by_cases h1 : 0 ≤ z
  · by_cases h2 : z ≤ 1125899906842624
    · rw [okAmount_yes h1 h2]
      go_enter Tryz.func75, Tryz.ntmps75
      go_wp2
      go_ret
      exact ⟨rfl, rfl⟩
    · rw [okAmount_no (by omega)]
      go_enter Tryz.func75, Tryz.ntmps75
      go_wp2
      go_ret
      exact ⟨rfl, rfl⟩
  · rw [okAmount_no (by omega)]
    go_enter Tryz.func75, Tryz.ntmps75
    go_wp2
    go_ret
    exact ⟨rfl, rfl⟩
set_option linter.unusedSimpArgs false in
set_option maxRecDepth 100000 in
set_option maxHeartbeats 1600000 in
theorem add_any {w : World} {a : Option Addr} {n c : Nat} {zs : List Int} (h : Numbers w a n c zs) : Calls Tryz.prog 43 #[.slice a n c] w fun e w' => e = .returned (.tuple #[.int .i64 (addFrom 0 zs).1, .int .i64 (addFrom 0 zs).2]) ∧ Below w.heap.size w w' := by
  obtain ⟨R, hR⟩ : ∃ R, R = addFrom 0 zs := ⟨_, rfl⟩
  rw [← hR]
  have hlen := h.1
  have hn63 : (n : Int) ≤ 9223372036854775807 := by have h1 := h.2.1; have h2 := h.2.2.1; unfold maxLen at h2; omega
  have H := Lib.hid h
  have HR := Lib.hid hR
  have HL := Lib.hid hlen
  clear h hR hlen
  go_enter Tryz.func43, Tryz.ntmps43
  go_wp2
  go_loop [4, 9] (fun s i => ∃ (k : Nat) (S : Int), k ≤ n ∧ i = .int .i64 k ∧ s = .int .i64 S ∧ 0 ≤ S ∧ S ≤ 1125899906842624 ∧ R = addFrom S (zs.drop k)) (fun _ i => n - (intOf i).toNat)
  case atStart => exact ⟨0, 0, Nat.zero_le _, rfl, rfl, Int.le_refl _, by omega, HR.out⟩
  case round =>
    obtain ⟨k, S, hk, rfl, rfl, hS0, hS1, hRk⟩ := hrel
    by_cases hkn : k < n
    · have f1 : (k : Int) < (n : Int) := by omega
      have f0 : (0 : Int) ≤ (k : Int) := by omega
      have ft : ((k : Int)).toNat = k := by omega
      obtain ⟨b, off, rfl, _, hcells⟩ := H.out.2.2.2.2.2 (by omega)
      have hc := hcells k hkn
      obtain ⟨z1, z2⟩ := H.out.fits hkn
      rw [drop_cons (by rw [HL.out]; exact hkn)] at hRk
      obtain ⟨z, hz⟩ : ∃ z, z = zs.getD k 0 := ⟨_, rfl⟩
      rw [← hz] at hc z1 z2 hRk
      have HRK := Lib.hid hRk
      have hri : ∀ (W : World) (u : Int) (B : Bool), okAmount u = B → Calls Tryz.prog 75 #[.int .i64 u] W fun e w' => e = .returned (.bool B) ∧ W = w' := fun W u B hB => by rw [← hB]; exact right_any u W
      have HRI := Lib.hid hri
      clear hRk hz hcells hri HR
      by_cases h1 : z < 0 ∨ 1125899906842624 < z
      · have hR5 := HRK.out
        rw [addFrom_bad h1] at hR5
        have HN := Lib.hid (okAmount_no h1)
        clear h1
        subst hR5
        go_wp2_with (go_at_call 75; (with_reducible refine (HRI.out _ _ false HN.out).mono ?_); rintro e w' ⟨rfl, rfl⟩)
        go_ret2
        exact ⟨rfl, Below.refl _ _⟩
      · have HY := Lib.hid (okAmount_yes (z := z) (by omega) (by omega))
        have iw : IntKind.i64.wrap (S + z) = S + z := IntWalk.i64_in _ (by omega)
        by_cases h2 : 1125899906842624 < S + z
        · have hR10 := HRK.out
          rw [addFrom_over (by omega) (by omega) h2] at hR10
          have HN := Lib.hid (okAmount_no (z := S + z) (.inr h2))
          clear h1 h2
          subst hR10
          go_wp2_with (go_at_call 75; first | ((with_reducible refine (HRI.out _ _ true HY.out).mono ?_); rintro e w' ⟨rfl, rfl⟩) | ((with_reducible refine (HRI.out _ _ false HN.out).mono ?_); rintro e w' ⟨rfl, rfl⟩))
          go_ret2
          exact ⟨rfl, Below.refl _ _⟩
        · have hR2 := HRK.out
          rw [addFrom_more (by omega) (by omega) (by omega)] at hR2
          have HN := Lib.hid (okAmount_yes (z := S + z) (by omega) (by omega))
          have HR2 := Lib.hid hR2
          have g0 : 0 ≤ S + z := by omega
          have g1 : S + z ≤ 1125899906842624 := by omega
          clear h1 h2 hR2
          go_wp2_with (go_at_call 75; first | ((with_reducible refine (HRI.out _ _ true HY.out).mono ?_); rintro e w' ⟨rfl, rfl⟩) | ((with_reducible refine (HRI.out _ _ true HN.out).mono ?_); rintro e w' ⟨rfl, rfl⟩))
          go_round
          case rel => exact ⟨k + 1, S + z, by omega, by go_num, rfl, g0, g1, HR2.out⟩
          case measure => simp [intOf]; omega
    · have f1 : ¬ ((k : Int) < (n : Int)) := by omega
      have hd : zs.drop k = [] := List.drop_of_length_le (by rw [HL.out]; omega)
      rw [hd] at hRk
      have hRk : R = (S, 0) := hRk
      subst hRk
      clear HR
      go_wp2
      go_ret2
      exact ⟨rfl, Below.refl _ _⟩
/-- What is left of an amount without others, and the error. -/
def subOf (n : Int) (l : List Int) : Int × Int := if okAmount n then (if (addFrom 0 l).2 = 0 then (if n < (addFrom 0 l).1 then (0, 14) else (n - (addFrom 0 l).1, 0)) else (0, (addFrom 0 l).2)) else (0, 5)
set_option linter.unusedSimpArgs false in
set_option maxRecDepth 100000 in
set_option maxHeartbeats 1600000 in
theorem sub_any {w : World} {a : Option Addr} {m c : Nat} {zs : List Int} (n : Int) (h : Numbers w a m c zs) : Calls Tryz.prog 54 #[.int .i64 n, .slice a m c] w fun e w' => e = .returned (.tuple #[.int .i64 (subOf n zs).1, .int .i64 (subOf n zs).2]) ∧ Below w.heap.size w w' := by
  obtain ⟨S, E, hadd, hSE⟩ : ∃ S E : Int, (Calls Tryz.prog 43 #[.slice a m c] w fun e w' => e = .returned (.tuple #[.int .i64 S, .int .i64 E]) ∧ Below w.heap.size w w') ∧ addFrom 0 zs = (S, E) := ⟨_, _, add_any h, rfl⟩
  have hr := addFrom_range zs 0 (Int.le_refl _) (by omega)
  unfold subOf
  rw [hSE] at hr ⊢
  have hrt : ∀ (W : World) (B : Bool), okAmount n = B → Calls Tryz.prog 75 #[.int .i64 n] W fun e w' => e = .returned (.bool B) ∧ W = w' := fun W B hB => by rw [← hB]; exact right_any n W
  have hs0 : 0 ≤ S := hr.1
  have hs1 : S ≤ 1125899906842624 := hr.2
  have HADD := Lib.hid hadd
  have HRT := Lib.hid hrt
  clear h hadd hrt hSE hr
  by_cases h1 : n < 0 ∨ 1125899906842624 < n
  · rw [okAmount_no h1]
    have HN := Lib.hid (okAmount_no h1)
    clear h1
    go_enter Tryz.func54, Tryz.ntmps54
    go_wp2_with (first | (go_at_call 75; (with_reducible refine (HRT.out _ false HN.out).mono ?_); rintro e w' ⟨rfl, rfl⟩) | fail)
    go_ret2
    exact ⟨rfl, Below.refl _ _⟩
  · have h2 : 0 ≤ n := by omega
    have h3 : n ≤ 1125899906842624 := by omega
    rw [okAmount_yes h2 h3]
    have HY := Lib.hid (okAmount_yes h2 h3)
    clear h1
    by_cases hE : E = 0
    · subst hE
      by_cases hl : n < S
      · simp only [if_true, hl]
        go_enter Tryz.func54, Tryz.ntmps54
        go_wp2_with (first | (go_at_call 75; (with_reducible refine (HRT.out _ true HY.out).mono ?_); rintro e w' ⟨rfl, rfl⟩) | (go_at_call 43; (with_reducible refine (HADD.out).mono ?_); rintro e w1 ⟨rfl, hb1⟩; have HB1 := Lib.hid hb1; clear hb1) | fail)
        go_ret2
        exact ⟨rfl, HB1.out⟩
      · simp only [if_true, hl, if_false]
        have iw : IntKind.i64.wrap (n - S) = n - S := IntWalk.i64_in _ (by omega)
        go_enter Tryz.func54, Tryz.ntmps54
        go_wp2_with (first | (go_at_call 75; (with_reducible refine (HRT.out _ true HY.out).mono ?_); rintro e w' ⟨rfl, rfl⟩) | (go_at_call 43; (with_reducible refine (HADD.out).mono ?_); rintro e w1 ⟨rfl, hb1⟩; have HB1 := Lib.hid hb1; clear hb1) | fail)
        go_ret2
        exact ⟨rfl, HB1.out⟩
    · simp only [if_true, hE, if_false]
      have hE' : (E == 0) = false := by simpa using hE
      go_enter Tryz.func54, Tryz.ntmps54
      go_wp2_with (first | (go_at_call 75; (with_reducible refine (HRT.out _ true HY.out).mono ?_); rintro e w' ⟨rfl, rfl⟩) | (go_at_call 43; (with_reducible refine (HADD.out).mono ?_); rintro e w1 ⟨rfl, hb1⟩; have HB1 := Lib.hid hb1; clear hb1) | fail)
      go_ret2
      exact ⟨rfl, HB1.out⟩
end Go.Proofs.YteddkkcheaghaaaGreatDoor
namespace Go.Proofs.YteddkkcheaghaaaGreatDoor
open Go.RowKit

/-- The keys of the signs of a sum. -/
def keysBy (s : List UInt8) : List PSign → List Int
  | [] => []
  | x :: xs => if x.sum = s then x.key :: keysBy s xs else keysBy s xs
theorem keysBy_append (s : List UInt8) : ∀ u v : List PSign, keysBy s (u ++ v) = keysBy s u ++ keysBy s v
  | [], _ => rfl
  | x :: u, v => by
    rw [List.cons_append, keysBy, keysBy, keysBy_append s u v]
    split <;> rfl
theorem keysBy_take {s : List UInt8} {xs : List PSign} {k : Nat} (h : k < xs.length) : keysBy s (xs.take (k + 1)) = if (xs.getD k noSign).sum = s then keysBy s (xs.take k) ++ [(xs.getD k noSign).key] else keysBy s (xs.take k) := by
  rw [take_getD (d := noSign) h, keysBy_append]
  simp only [keysBy]
  split <;> simp
theorem keysBy_len {s : List UInt8} : ∀ xs : List PSign, (keysBy s xs).length ≤ xs.length
  | [] => Nat.le_refl _
  | x :: xs => by
    have := keysBy_len (s := s) xs
    rw [keysBy]
    split <;> simp only [List.length_cons] <;> omega
set_option linter.unusedSimpArgs false in
set_option maxRecDepth 100000 in
set_option maxHeartbeats 12800000 in
theorem txKeys_any {w : World} {x : PTx} (h : TxIn w x) (hk : KsAt w) (hf : FrontFew false x) (hs : x.sn ≤ 1000) : Calls Tryz.prog 102 #[.agg x.cells.toArray] w fun e w' => ∃ (a : Option Addr) (n c : Nat), e = .returned (.slice a n c) ∧ Numbers w' a n c (keysBy (txSum x) x.signs) ∧ Below w.heap.size w w' := by
  obtain ⟨S, hS, hSl, hsum⟩ : ∃ S, txSum x = S ∧ S.length = 32 ∧ ∀ W : World, Below w.heap.size w W → Calls Tryz.prog 16 #[.agg x.cells.toArray] W fun e w' => e = .returned (.agg (cellsOf S).toArray) ∧ Below W.heap.size W w' := ⟨_, rfl, txSum_len x, fun W hW => txSum_any (h.below hW) (hk.below hW) hf⟩
  rw [hS]
  have b1 : Below w.heap.size w (w.alloc (.cells x.cells.toArray 50)) := (Below.refl _ _).alloc (Nat.le_refl _) _
  have h1 := heap_alloc_new w (.cells x.cells.toArray 50)
  have HSUM := Lib.hid hsum
  have HSL := Lib.hid hSl
  have AX := Lib.hid (tx_sizeA h.op.root)
  have HRO := Lib.hid h.op.root
  have H := Lib.hid h
  have SS := Lib.hid (size_of hSl)
  have SSL := Lib.hid (sumLen hSl)
  have SZ : Hid ((cellsOf zero32).toArray.size = (cellsOf S).toArray.size) := Lib.hid (by rw [List.size_toArray, List.size_toArray, cellsOf_len, cellsOf_len, hSl]; exact zero32_len)
  clear h hk hf hS hSl hsum
  go_enter Tryz.func102, Tryz.ntmps102
  go_upto_region 1 with (fail)
  revert b1 h1
  generalize (w.alloc (.cells x.cells.toArray 50)) = w1
  obtain ⟨g, hg⟩ : ∃ g, g = w.heap.size := ⟨_, rfl⟩
  rw [← hg]
  intro b1 h1
  rw [hg] at b1
  have HB1 := Lib.hid b1
  have HG := Lib.hid h1
  have hlt := lt_of_block h1
  clear b1 h1 hg
  go_wp2_with (first | (refine wpList_load_row rfl 50 _ rfl g rfl 50 x.cells.toArray (0, 0) _ HG.out Tryz.underlying50 rfl AX.out ?_) | fail)
  refine (HSUM.out _ HB1.out).mono ?_
  rintro e w2 ⟨rfl, hb2⟩
  have HB2 := Lib.hid (HB1.out.trans (hb2.mono HB1.out.size))
  have HG2 := Lib.hid ((hb2.block g hlt).trans HG.out)
  have hlt2 : g < w2.heap.size := Nat.lt_of_lt_of_le hlt hb2.size
  clear hb2 HSUM HB1 HG hlt
  go_upto_region 2 with (first | (refine wpList_store_row rfl 28 _ _ rfl w2.heap.size (cellsOf S).toArray rfl rfl 28 (cellsOf zero32).toArray (heap_alloc_new _ _) SS.out SZ.out (all_oneCell_toArray (cellsOf_one S)) ?_) | fail)
  rw [← zero32_is, laySum_is]
  have h3 := laySum_heap w2 S
  have b3 := laySum_self w2 S
  revert h3 b3
  generalize laySum w2 S = w3
  obtain ⟨g3, hg3⟩ : ∃ g, g = w2.heap.size := ⟨_, rfl⟩
  rw [← hg3]
  intro h3 b3
  rw [hg3] at b3
  have HB3 := Lib.hid (HB2.out.trans (b3.mono HB2.out.size))
  have hlt3 := lt_of_block h3
  have H3 := Lib.hid h3
  have HG3 := Lib.hid ((b3.block g hlt2).trans HG2.out)
  have hg23 : g < w3.heap.size := Nat.lt_of_lt_of_le hlt2 b3.size
  have HTX := Lib.hid (H.out.below HB3.out)
  obtain ⟨A, hA⟩ : ∃ A, A = x.sa := ⟨_, rfl⟩
  have HA := Lib.hid hA
  have c39 : w3.cell? ⟨g, 39, none⟩ = some (.slice A x.sn x.sc) := by
    have h9 := tx_signs HRO.out (range_of HG3.out)
    rw [Nat.zero_add] at h9
    rw [hA]
    exact h9
  have hs63 : (x.sn : Int) ≤ 9223372036854775807 := by omega
  clear h3 b3 hg3 hA HB2 HG2 hlt2
  try simp only [Act.put]
  go_upto_region 4 with (fail)
  clear c39
  go_loopw [4, 12] (fun v i wr => ∃ (k : Nat) (ks : List Int), k ≤ x.sn ∧ i = .int .i64 k ∧ ks = keysBy S (x.signs.take k) ∧ OwnZ wr 3 w3.heap.size v ks ∧ Below w3.heap.size w3 wr) (fun _ i _ => x.sn - (intOf i).toNat)
  case atStart => exact ⟨0, [], Nat.zero_le _, rfl, rfl, OwnZ.nil _ _ _, Below.refl _ _⟩
  case round =>
    obtain ⟨k, ks, hk, rfl, hks, hown, hbr⟩ := hrel
    have HKS := Lib.hid hks
    have HOWN := Lib.hid hown
    have HBR := Lib.hid hbr
    obtain ⟨va, vc, rfl, _⟩ := hown.shape
    have hkl1000 : ks.length ≤ 1000 := by
      have h9 := keysBy_len (s := S) (x.signs.take k)
      rw [← hks, List.length_take] at h9
      omega
    clear hks hown hbr
    by_cases hkn : k < x.sn
    · have f1 : (k : Int) < (x.sn : Int) := by omega
      have f0 : (0 : Int) ≤ (k : Int) := by omega
      have ft : ((k : Int)).toNat = k := by omega
      have hkl : k < x.signs.length := by rw [HTX.out.signs.1]; exact hkn
      have hsg := HTX.out.signs.below HBR.out
      obtain ⟨b1, o1, e1, hltb, hc1⟩ := hsg.2.2.2.2.2 (by omega)
      have hrx : wr.rangeAt b1 (o1 + k * 33) (x.signs.getD k noSign).cells := hc1 k hkn
      have hy1 : SignIn (x.signs.getD k noSign) := hsg.get hkn
      have hnx := keysBy_take (s := S) hkl
      rw [← HKS.out] at hnx
      revert hrx hy1 hnx
      generalize x.signs.getD k noSign = y
      intro hrx hy1 hnx
      obtain ⟨r, hr⟩ : ∃ r, decide (y.sum = S) = r := ⟨_, rfl⟩
      have q : ∀ W : World, (Op.equalIn 10000 28 (.agg (cellsOf y.sum).toArray) (.agg (cellsOf S).toArray)).run Tryz.prog W = .ok r W := fun W => by rw [← hr]; exact run_eqSums _ _ hy1.sum HSL.out W
      have RY := Lib.hid hrx
      have SSM := Lib.hid (sumLen hy1.sum)
      have SY := Lib.hid (sign_size hy1.sum)
      have AY := Lib.hid (sign_sizeA hy1.sum)
      have ZY : Hid (noSign.cells.toArray.size = y.cells.toArray.size) := Lib.hid (by rw [List.size_toArray, List.size_toArray, PSign.len hy1.sum]; rfl)
      have HFK := Lib.hid hy1.key
      have HNX := Lib.hid hnx
      have HR := Lib.hid hr
      rw [← HA.out] at e1
      subst e1
      clear hc1 hrx hy1 hnx hkl hsg hr
      go_upto_region 6 with (first | (refine wpList_load_mid rfl 162 _ rfl b1 (o1 + k * 33) rfl y.cells _ RY.out Tryz.underlying162 rfl SY.out ?_) | (refine wpList_store_row rfl 162 _ _ rfl wr.heap.size y.cells.toArray rfl rfl 162 noSign.cells.toArray (heap_alloc_new _ _) AY.out ZY.out (all_oneCell_toArray y.one) ?_) | fail)
      rw [← noSign_is, layT_is]
      have h5 := layT_heap 162 noSign.cells wr y.cells
      have b5 := layT_self 162 noSign.cells wr y.cells
      revert h5 b5
      generalize layT 162 noSign.cells wr y.cells = w5
      obtain ⟨g5, hg5⟩ : ∃ g5, g5 = wr.heap.size := ⟨_, rfl⟩
      rw [← hg5]
      intro h5 b5
      rw [hg5] at b5
      have H5 := Lib.hid h5
      have HB5 := Lib.hid (HBR.out.trans (b5.mono HBR.out.size))
      have HO5 := Lib.hid (HOWN.out.below b5)
      have c0 : w5.cell? ⟨g5, 0, none⟩ = some (.int .i64 y.key) := sign_key (range_of h5)
      have RM := Lib.hid (show w5.rangeAt g5 1 (cellsOf y.sum) by have h9 := sign_sum (range_of h5); rw [Nat.zero_add] at h9; exact h9)
      have RS3 := Lib.hid (range_of ((HB5.out.block g3 hlt3).trans H3.out))
      clear h5 b5 hg5 RY HBR HOWN
      try simp only [Act.put]
      cases r
      · have hn : keysBy S (x.signs.take (k + 1)) = ks := by rw [HNX.out, if_neg (of_decide_eq_false HR.out)]
        have HN := Lib.hid hn
        clear hn HNX HKS HR
        go_wp2_with (first | (refine wpList_load_mid rfl 28 _ rfl g5 1 rfl (cellsOf y.sum) _ RM.out Tryz.underlying28 rfl SSM.out ?_) | (refine wpList_load_mid rfl 28 _ rfl g3 0 rfl (cellsOf S) _ RS3.out Tryz.underlying28 rfl SSL.out ?_) | fail)
        go_roundw
        case rel => exact ⟨k + 1, ks, by omega, by go_num, HN.out.symm, HO5.out, HB5.out⟩
        case measure => simp [intOf]; omega
      · have hn : keysBy S (x.signs.take (k + 1)) = ks ++ [y.key] := by rw [HNX.out, if_pos (of_decide_eq_true HR.out)]
        have HN := Lib.hid hn
        clear hn HNX HKS HR
        go_upto_region 7 with (first | (refine wpList_load_mid rfl 28 _ rfl g5 1 rfl (cellsOf y.sum) _ RM.out Tryz.underlying28 rfl SSM.out ?_) | (refine wpList_load_mid rfl 28 _ rfl g3 0 rfl (cellsOf S) _ RS3.out Tryz.underlying28 rfl SSL.out ?_) | fail)
        have b6 : Below w5.heap.size w5 (w5.alloc (.cells #[.int .i64 y.key] 3)) := (Below.refl _ _).alloc (Nat.le_refl _) _
        have HO6 := Lib.hid (HO5.out.below b6)
        have HB6 := Lib.hid (HB5.out.trans (b6.mono HB5.out.size))
        have HN1 := Lib.hid (numbers_one (heap_alloc_new w5 (.cells #[.int .i64 y.key] 3)) HFK.out)
        obtain ⟨ie, i1, hz0, hz1, hz2⟩ := info_parts (show (Tryz.prog.info? 3).map (fun i => (i.zero, i.size, i.bytes)) = some (some (.int .i64 0), 1, 8) by kernel_rfl)
        have HI := Lib.hid i1
        clear b6 i1
        go_wp2_with (at_builtin; refine wpList_append_numbers _ rfl _ _ 38 3 rfl w3.heap.size ie Tryz.underlying38 HI.out hz0 hz1 hz2 (.slice va ks.length vc) ks ks.length rfl rfl HO6.out _ 1 1 [y.key] rfl HN1.out (by omega) HB6.out.size ?_; intro a8 c8 w8 ho8 hg8; have HO8 := Lib.hid ho8; have HB8 := Lib.hid (HB6.out.trans (HO6.out.grows hg8 HB6.out.size)); clear ho8 hg8)
        go_roundw
        case rel => exact ⟨k + 1, ks ++ [y.key], by omega, by go_num, HN.out.symm, HO8.out, HB8.out⟩
        case measure => simp [intOf]; omega
    · obtain rfl : k = x.sn := by omega
      have f1 : ¬ ((x.sn : Int) < (x.sn : Int)) := by omega
      have htk : x.signs.take x.sn = x.signs := List.take_of_length_le (by rw [HTX.out.signs.1]; exact Nat.le_refl _)
      have HKS2 : Hid (ks = keysBy S x.signs) := Lib.hid (by rw [HKS.out, htk])
      clear htk HKS
      go_wp2_with fail
      go_ret
      exact ⟨va, _, vc, rfl, by rw [← HKS2.out]; exact HOWN.out.numbers, HB3.out.trans (HBR.out.mono HB3.out.size)⟩
end Go.Proofs.YteddkkcheaghaaaGreatDoor
namespace Go.Proofs.YteddkkcheaghaaaGreatDoor
open Go.RowKit

/-- A closure's list, in order, behind its box. -/
def ListAt (w : World) (p : Nat) (zs : List Int) : Prop := ∃ a n c, w.cell? ⟨p, 0, none⟩ = some (.slice a n c) ∧ p < w.heap.size ∧ Numbers w a n c zs ∧ zs.Pairwise (· ≤ ·) ∧ n ≤ 100000
theorem ListAt.below {w w' : World} {p : Nat} {zs : List Int} (h : ListAt w p zs) (hb : Below w.heap.size w w') : ListAt w' p zs := by
  obtain ⟨a, n, c, h1, h2, h3, h4, h5⟩ := h
  exact ⟨a, n, c, (hb.cell (p := ⟨p, 0, none⟩) h2).trans h1, Nat.lt_of_lt_of_le h2 hb.size, h3.below hb, h4, h5⟩
set_option linter.unusedSimpArgs false in
set_option maxRecDepth 100000 in
set_option maxHeartbeats 1600000 in
theorem among1_any {w : World} {p : Nat} {zs : List Int} (x : Int) (h : ListAt w p zs) :
    Calls Tryz.prog 192 #[.int .i64 x, .pointer (some ⟨p, 0, none⟩)] w fun e w' => e = .returned (.bool (!decide (x ∈ zs))) ∧ Below w.heap.size w w' := by
  obtain ⟨a, n, c, c0, _, h3, h4, h5⟩ := h
  have HS := Lib.hid (fun (W : World) (hW : Below w.heap.size w W) => search_any x (h3.below hW) h4 h5)
  generalize decide (x ∈ zs) = r at *
  clear h3 h4 h5
  go_enter Tryz.func192, Tryz.ntmps192
  go_wp2_with (first | (go_at_call 83; (with_reducible refine (HS.out _ (Below.refl _ _)).mono ?_); rintro e w7 ⟨z, rfl, hb7⟩; have HB7 := Lib.hid hb7; clear hb7) | fail)
  go_ret
  exact ⟨rfl, HB7.out⟩
set_option linter.unusedSimpArgs false in
set_option maxRecDepth 100000 in
set_option maxHeartbeats 3200000 in
theorem indexKey_any {w : World} {p : Nat} {zs ks : List Int} {a : Option Addr} {n c : Nat} (h : Numbers w a n c ks) (hl : ListAt w p zs) :
    Calls Tryz.prog 215 #[.slice a n c, .func (.func 192) #[] #[.pointer (some ⟨p, 0, none⟩)]] w fun e w' => (∃ z : Int, e = .returned (.int .i64 z) ∧ -1 ≤ z ∧ decide (0 ≤ z) = !ks.all fun k => decide (k ∈ zs)) ∧ Below w.heap.size w w' := by
  have hn63 : (n : Int) ≤ 9223372036854775807 := by have h1 := h.2.1; have h2 := h.2.2.1; unfold maxLen at h2; omega
  obtain ⟨R, hR⟩ : ∃ R, R = ks.all fun k => decide (k ∈ zs) := ⟨_, rfl⟩
  rw [← hR]
  have H := Lib.hid h
  have HL := Lib.hid hl
  have HR := Lib.hid hR
  clear h hR hl
  go_enter Tryz.func215, Tryz.ntmps215
  go_upto_region 2 with (fail)
  go_loopw [8] (fun x wr => ∃ j : Nat, j ≤ n ∧ x = .int .i64 j ∧ Below w.heap.size w wr ∧ R = (ks.drop j).all fun k => decide (k ∈ zs)) (fun x _ => n - (intOf x).toNat)
  case atStart => exact ⟨0, Nat.zero_le _, rfl, Below.refl _ _, HR.out⟩
  case round =>
    obtain ⟨j, hj, rfl, hb, hRj⟩ := hrel
    have HB := Lib.hid hb
    have HRJ := Lib.hid hRj
    clear hb hRj HR
    by_cases hjn : j < n
    · have f1 : (j : Int) < (n : Int) := by omega
      have f0 : (0 : Int) ≤ (j : Int) := by omega
      have ft : ((j : Int)).toNat = j := by omega
      obtain ⟨b1, o1, e1, hlt1, hc1⟩ := (H.out.below HB.out).2.2.2.2.2 (by omega)
      have c0 := hc1 j hjn
      have hRj := HRJ.out
      rw [drop_cons (zs := ks) (by rw [H.out.1]; exact hjn)] at hRj
      revert c0 hRj
      generalize ks.getD j 0 = x
      intro c0 hRj
      replace hRj : R = (decide (x ∈ zs) && (ks.drop (j + 1)).all fun k => decide (k ∈ zs)) := hRj
      subst e1
      have HRJ := Lib.hid hRj
      have HC := Lib.hid (among1_any x (HL.out.below HB.out))
      clear hc1 hRj H
      generalize decide (x ∈ zs) = r at *
      cases r
      · have hRf : R = false := HRJ.out
        subst hRf
        go_wp2_with (first | (go_at_call 192; (with_reducible refine HC.out.mono ?_); rintro e w7 ⟨rfl, hb7⟩; have HB7 := Lib.hid hb7; clear hb7) | fail)
        go_ret
        exact ⟨⟨j, rfl, by omega, by simp⟩, HB.out.trans (HB7.out.mono HB.out.size)⟩
      · have hRt : R = (ks.drop (j + 1)).all fun k => decide (k ∈ zs) := HRJ.out
        have HRN := Lib.hid hRt
        clear hRt HRJ
        go_wp2_with (first | (go_at_call 192; (with_reducible refine HC.out.mono ?_); rintro e w7 ⟨rfl, hb7⟩; have HB7 := Lib.hid hb7; clear hb7) | fail)
        go_roundw
        case rel => exact ⟨j + 1, by omega, by go_num, HB.out.trans (HB7.out.mono HB.out.size), HRN.out⟩
        case measure => simp [intOf]; omega
    · have f1 : ¬ ((j : Int) < (n : Int)) := by omega
      have e1 : ks.drop j = [] := List.drop_of_length_le (by rw [H.out.1]; omega)
      have hRt : R = true := by rw [HRJ.out, e1]; rfl
      subst hRt
      clear e1 HRJ
      go_wp2
      go_ret
      exact ⟨⟨-1, rfl, by omega, by decide⟩, HB.out⟩
theorem containsKey_any {w : World} {p : Nat} {zs ks : List Int} {a : Option Addr} {n c : Nat} (h : Numbers w a n c ks) (hl : ListAt w p zs) :
    Calls Tryz.prog 191 #[.slice a n c, .func (.func 192) #[] #[.pointer (some ⟨p, 0, none⟩)]] w fun e w' => e = .returned (.bool (!ks.all fun k => decide (k ∈ zs))) ∧ Below w.heap.size w w' := by
  have HC := Lib.hid (indexKey_any h hl)
  generalize (!ks.all fun k => decide (k ∈ zs)) = r at *
  clear h hl
  go_enter Tryz.func191, Tryz.ntmps191
  go_wp2_with fail
  refine HC.out.mono ?_
  rintro e w7 ⟨⟨z, rfl, hz, hzr⟩, hb7⟩
  have HB7 := Lib.hid hb7
  subst hzr
  clear hb7
  go_wp2_with fail
  go_ret
  exact ⟨rfl, HB7.out⟩
set_option linter.unusedSimpArgs false in
set_option maxRecDepth 100000 in
set_option maxHeartbeats 1600000 in
theorem among_any {w : World} {ks ts : List Int} {a b : Option Addr} {n c m d : Nat} (h : Numbers w a n c ks) (k : Numbers w b m d ts) (hm : m ≤ 100000) :
    Calls Tryz.prog 162 #[.slice a n c, .slice b m d] w fun e w' => e = .returned (.bool (ks.all fun k => decide (k ∈ ts))) ∧ Below w.heap.size w w' := by
  have HC := Lib.hid (clone_any k hm)
  have hmt := k.1
  have H := Lib.hid h
  clear h k
  go_enter Tryz.func162, Tryz.ntmps162
  go_wp2_with fail
  refine HC.out.mono ?_
  rintro e w2 ⟨v, rfl, hv, hb2⟩
  obtain ⟨a2, c2, rfl, _⟩ := hv.shape
  rw [hmt] at hv ⊢
  have HV := Lib.hid hv
  have HB2 := Lib.hid hb2
  clear hv hb2
  go_upto_region 2 with (fail)
  have b3 : Below w2.heap.size w2 (w2.alloc (.cells #[.slice a2 m c2] 38)) := (Below.refl _ _).alloc (Nat.le_refl _) _
  have h3 := heap_alloc_new w2 (.cells #[.slice a2 m c2] 38)
  revert b3 h3
  generalize (w2.alloc (.cells #[.slice a2 m c2] 38)) = w3
  obtain ⟨p, hp⟩ : ∃ p, p = w2.heap.size := ⟨_, rfl⟩
  rw [← hp]
  intro b3 h3
  rw [hp] at b3
  have hv3 := HV.out.below b3
  have c0 : w3.cell? ⟨p, 0, none⟩ = some (.slice a2 m c2) := by rw [cell_of_row _ _ _ _ _ _ h3]; rfl
  have hlp := lt_of_block h3
  have HB3 := Lib.hid (HB2.out.trans (b3.mono HB2.out.size))
  have hne : (Value.slice a2 m c2).ownBlock ≠ some p := fun e => by
    have := (HV.out.lt p e).2
    omega
  have HS := Lib.hid (sort_any hv3 HB3.out.size (by omega))
  have HNE := Lib.hid hne
  have HLP := Lib.hid hlp
  clear hv3 b3 h3 hp hne hlp HV HC
  try simp only [Act.put]
  go_wp2_with fail
  refine HS.out.mono ?_
  rintro e w4 ⟨rfl, hv4, hg4, hb4⟩
  have c4 : w4.cell? ⟨p, 0, none⟩ = some (.slice a2 m c2) := by
    have := hg4.block p HLP.out HNE.out.symm
    exact (World.cell?_of_block this).trans c0
  have hs : (sortedZ ts).length = m := by rw [sortedZ_len, hmt]
  have hl4 : ListAt w4 p (sortedZ ts) := ⟨a2, m, c2, c4, Nat.lt_of_lt_of_le HLP.out hg4.size, by have := hv4.numbers; exact this, sortedZ_up ts, hm⟩
  have HB4 := Lib.hid (HB3.out.trans hb4)
  have e4 : (ks.all fun k => decide (k ∈ ts)) = ks.all fun k => decide (k ∈ sortedZ ts) := by
    congr 1
    funext k
    rw [decide_eq_decide]
    exact (sortedZ_mem ts k).symm
  have HK := Lib.hid (containsKey_any (H.out.below (HB4.out.mono (Nat.le_refl _))) hl4)
  have E4 := Lib.hid e4
  clear c0 hl4 hv4 hg4 hb4 c4 hs e4 HS
  go_wp2_with (first | (go_at_call 191; (with_reducible refine HK.out.mono ?_); rintro e w7 ⟨rfl, hb7⟩; have HB7 := Lib.hid hb7; clear hb7) | fail)
  go_ret
  exact ⟨by rw [E4.out]; simp, HB4.out.trans (HB7.out.mono HB4.out.size)⟩
end Go.Proofs.YteddkkcheaghaaaGreatDoor
namespace Go.Proofs.YteddkkcheaghaaaGreatDoor
open Go.RowKit

/-- What a text is summed to, where it has to be shown. -/
def shownSum (l : List UInt8) : List UInt8 := sumOf (partsOf 31 [l])
theorem shownSum_len (l : List UInt8) : (shownSum l).length = 32 := by unfold shownSum; exact sumOf_len _
set_option linter.unusedSimpArgs false in
set_option maxRecDepth 100000 in
set_option maxHeartbeats 3200000 in
theorem hash_any {w : World} {a : Option Addr} {n c : Nat} {l : List UInt8} (h : Row w a n c l) (hk : KsAt w) (hn : n ≤ 1000000) : Calls Tryz.prog 193 #[.slice a n c] w fun e w' => e = .returned (.agg (cellsOf (shownSum l)).toArray) ∧ Below w.heap.size w w' := by
  have HK := Lib.hid hk
  have H := Lib.hid h
  clear hk h
  go_enter Tryz.func193, Tryz.ntmps193
  go_wp2_with fail
  rw [← zero32_is]
  have b1 : Below w.heap.size w (w.alloc (.cells (cellsOf zero32).toArray 28)) := (Below.refl _ _).alloc (Nat.le_refl _) _
  have h2 : (w.alloc (.cells (cellsOf zero32).toArray 28)).heap[w.heap.size]? = some (.cells (cellsOf zero32).toArray 28 (0, 0)) := heap_alloc_new _ _
  have h3 : (w.alloc (.cells (cellsOf zero32).toArray 28)).heap.size = w.heap.size + 1 := by simp
  revert b1 h2 h3
  generalize (w.alloc (.cells (cellsOf zero32).toArray 28)) = w3
  obtain ⟨g, hg⟩ : ∃ g, g = w.heap.size := ⟨_, rfl⟩
  rw [← hg]
  intro b1 h2 h3
  rw [hg] at b1
  have HG := Lib.hid hg
  have HB1 := Lib.hid b1
  have H2 := Lib.hid h2
  have H3 := Lib.hid h3
  clear b1 h2 h3 hg
  have b4 : Below w3.heap.size w3 (w3.alloc (.cells #[.slice a n c] 45)) := (Below.refl _ _).alloc (Nat.le_refl _) _
  have r1 : Row (w3.alloc (.cells #[.slice a n c] 45)) a n c l := (H.out.below HB1.out).below b4
  have hlen : (partsOf 31 [l]).length ≤ 1125899906842624 := by
    have := H.out.1
    unfold partsOf partOf
    simp only [List.flatMap_cons, List.flatMap_nil, List.length_cons, List.length_append, four_len, List.length_nil]
    omega
  refine (join_any 31 31 rfl (rows2_one (heap_alloc_at _ _ _ H3.out) r1) ((HK.out.below HB1.out).below b4) hlen).mono ?_
  rintro e w5 ⟨rfl, hb5⟩
  have hb6 := b4.trans (hb5.mono b4.size)
  have HB6 := Lib.hid hb6
  have HT1 := Lib.hid ((hb6.block _ (lt_of_block H2.out)).trans H2.out)
  clear b4 r1 hlen hb5 hb6
  go_wp2_with (refine wpList_store_row rfl 28 _ _ rfl g (cellsOf (sumOf (partsOf 31 [l]))).toArray rfl rfl 28 (cellsOf zero32).toArray HT1.out (sum_size' _) (by rw [sum_size]; rfl) (sum_all _) ?_)
  refine bodyPost_ret (results_cell_row rfl _ _ g 28 (cellsOf (sumOf (partsOf 31 [l]))).toArray (0, 0) _ rfl (setRow_heap w5 g _ _ 28 _ HT1.out) Tryz.underlying28 rfl (sum_size' _)) rfl ⟨rfl, ?_⟩
  have b7 : Below w.heap.size w w5 := HB1.out.trans (HB6.out.mono HB1.out.size)
  exact b7.trans (((but_setRow _ g _).mono b7.size).below (by rw [HG.out]; omega))
end Go.Proofs.YteddkkcheaghaaaGreatDoor
namespace Go.Proofs.YteddkkcheaghaaaGreatDoor
open Go.RowKit

set_option linter.unusedSimpArgs false in
set_option maxRecDepth 100000 in
set_option maxHeartbeats 3200000 in
theorem shows_any {w : World} {h : List UInt8} {a : Option Addr} {n c : Nat} {l : List UInt8} (hl : h.length = 32) (hr : Row w a n c l) (hk : KsAt w) (hn : n ≤ 1000000) :
    Calls Tryz.prog 163 #[.agg (cellsOf h).toArray, .slice a n c] w fun e w' => e = .returned (.bool (decide (h = zero32) || decide (h = shownSum l))) ∧ Below w.heap.size w w' := by
  obtain ⟨s, hs, hsl, hh⟩ : ∃ s, shownSum l = s ∧ s.length = 32 ∧ ∀ W : World, Below w.heap.size w W → Calls Tryz.prog 193 #[.slice a n c] W fun e w' => e = .returned (.agg (cellsOf s).toArray) ∧ Below W.heap.size W w' := ⟨_, rfl, shownSum_len l, fun W hW => hash_any (hr.below hW) (hk.below hW) hn⟩
  rw [hs]
  obtain ⟨r1, hr1⟩ : ∃ r, decide (h = zero32) = r := ⟨_, rfl⟩
  obtain ⟨r2, hr2⟩ : ∃ r, decide (h = s) = r := ⟨_, rfl⟩
  rw [hr1, hr2]
  have HZ := Lib.hid hr1
  have HE := Lib.hid hr2
  have HL := Lib.hid hl
  have HSL := Lib.hid hsl
  have SZ : Hid ((Tryz.prog.info? 28).map (·.size) = some (cellsOf h).length) := Lib.hid (by rw [cellsOf_len, hl]; exact Tryz.size28)
  have b1 : Below w.heap.size w (w.alloc (.cells (cellsOf h).toArray 28)) := (Below.refl _ _).alloc (Nat.le_refl _) _
  have h1 := heap_alloc_new w (.cells (cellsOf h).toArray 28)
  have HH0 := Lib.hid hh
  clear hs hsl hh hr hk hr1 hr2
  go_enter Tryz.func163, Tryz.ntmps163
  go_upto_region 1 with (fail)
  revert b1 h1
  generalize (w.alloc (.cells (cellsOf h).toArray 28)) = w1
  obtain ⟨g, hg⟩ : ∃ g, g = w.heap.size := ⟨_, rfl⟩
  rw [← hg]
  intro b1 h1
  rw [hg] at b1
  have HB1 := Lib.hid b1
  have hlt := lt_of_block h1
  have HRG := Lib.hid (range_of h1)
  have HH : Hid (∀ W : World, Below w1.heap.size w1 W → Calls Tryz.prog 193 #[.slice a n c] W fun e w' => e = .returned (.agg (cellsOf s).toArray) ∧ Below W.heap.size W w') := Lib.hid (fun W hW => HH0.out W (HB1.out.trans (hW.mono HB1.out.size)))
  clear b1 h1 hg hl
  cases r1
  · refine wp_region_held_drew (S := fun w' => Below w1.heap.size w1 w') (by kernel_rfl) (below_drew (Below.refl _ _)) (fun hHeld => ?_)
    refine tkA 0 rfl rfl (yieldsIf_load_mid (by rfl) _ _ rfl g 0 rfl (cellsOf h) _ (fun w0 hSw => rangeAt_below HRG.out hlt hSw) Tryz.underlying28 rfl SZ.out) ?_
    refine tkP 1 rfl rfl ?_
    rw [← zero32_is]
    refine tkA 2 rfl rfl (yields_eql (by rfl) rfl rfl rfl HL.out zero32_len false HZ.out) ?_
    refine tkP 3 rfl rfl ?_
    refine tkA 4 rfl rfl (yieldsIf_load_mid (by rfl) _ _ rfl g 0 rfl (cellsOf h) _ (fun w0 hSw => rangeAt_below HRG.out hlt hSw) Tryz.underlying28 rfl SZ.out) ?_
    refine tkP 5 rfl rfl ?_
    refine tkR 6 rfl (fun K hK => ?_)
    have hS5 : Below w1.heap.size w1 w1.drew := hHeld
    have HHX := Lib.hid (HH.out _ hS5)
    clear hS5
    go_simp
    go_wp2_with ((go_at_call 193; (with_reducible refine (HHX.out).mono ?_); rintro e x5 ⟨rfl, hb5⟩; have HC5 := Lib.hid hb5; clear hb5))
    refine hK.out _ _ (by (try dsimp only); exact Below.trans hHeld (HC5.out.mono (Below.size hHeld))) (fun hHeld => ?_)
    clear hK K
    refine tkA 7 rfl rfl (yields_eql (by rfl) rfl rfl rfl HL.out HSL.out r2 HE.out) ?_
    refine tkP 8 rfl rfl ?_
    refine tkP 9 rfl rfl ?_
    refine wpAnyH_done (by kernel_rfl) ?_ _
    have HS6 := Lib.hid (show Below w1.heap.size w1 x5 from hHeld)
    clear hHeld
    go_wp2_with fail
    go_ret
    exact ⟨rfl, HB1.out.trans (HS6.out.mono HB1.out.size)⟩
  · refine wp_region_held_drew (S := fun w' => Below w1.heap.size w1 w') (by kernel_rfl) (below_drew (Below.refl _ _)) (fun hHeld => ?_)
    refine tkA 0 rfl rfl (yieldsIf_load_mid (by rfl) _ _ rfl g 0 rfl (cellsOf h) _ (fun w0 hSw => rangeAt_below HRG.out hlt hSw) Tryz.underlying28 rfl SZ.out) ?_
    refine tkP 1 rfl rfl ?_
    rw [← zero32_is]
    refine tkA 2 rfl rfl (yields_eql (by rfl) rfl rfl rfl HL.out zero32_len true HZ.out) ?_
    refine tkP 3 rfl rfl ?_
    refine tkA (v := undef) 4 rfl rfl (Or.inr ⟨by rfl, rfl⟩) ?_
    refine tkA (v := undef) 5 rfl rfl (Or.inr ⟨by rfl, rfl⟩) ?_
    refine tkA (v := undef) 6 rfl rfl (Or.inr ⟨by rfl, rfl⟩) ?_
    refine tkA (v := undef) 7 rfl rfl (Or.inr ⟨by rfl, rfl⟩) ?_
    refine tkP 8 rfl rfl ?_
    refine tkP 9 rfl rfl ?_
    refine wpAnyH_done (by kernel_rfl) ?_ _
    have HS6 := Lib.hid (show Below w1.heap.size w1 w1.drew from hHeld)
    clear hHeld
    go_wp2_with fail
    go_ret
    exact ⟨rfl, HB1.out.trans (HS6.out.mono HB1.out.size)⟩
end Go.Proofs.YteddkkcheaghaaaGreatDoor
namespace Go.Proofs.YteddkkcheaghaaaGreatDoor
open Go.RowKit

/-- A way is open to a try. -/
def opensW (x : PWay) (ts : List Int) (l : List UInt8) (H A : Int) : Bool := decide (x.after ≤ H) && (decide (x.wait ≤ A) && ((x.ks.all fun k => decide (k ∈ ts)) && (decide (x.h = zero32) || decide (x.h = shownSum l))))
set_option linter.unusedSimpArgs false in
set_option maxRecDepth 100000 in
set_option maxHeartbeats 3200000 in
theorem opens_any {w : World} {x : PWay} {a b : Option Addr} {n c m d : Nat} {ts : List Int} {l : List UInt8} {H A : Int} (h : WayIn w x) (ht : Numbers w a n c ts) (hl : Row w b m d l) (hk : KsAt w) (hn : n ≤ 100000) (hm : m ≤ 1000000) :
    Calls Tryz.prog 101 #[.agg x.cells.toArray, .agg #[.slice a n c, .slice b m d, .int .i64 H, .int .i64 A]] w fun e w' => e = .returned (.bool (opensW x ts l H A)) ∧ Below w.heap.size w w' := by
  unfold opensW
  obtain ⟨r1, hr1⟩ : ∃ r, (x.ks.all fun k => decide (k ∈ ts)) = r := ⟨_, rfl⟩
  obtain ⟨r2, hr2⟩ : ∃ r, (decide (x.h = zero32) || decide (x.h = shownSum l)) = r := ⟨_, rfl⟩
  rw [hr1, hr2]
  have ha : ∀ W : World, Below w.heap.size w W → Calls Tryz.prog 162 #[.slice x.a x.n x.c, .slice a n c] W fun e w' => e = .returned (.bool r1) ∧ Below W.heap.size W w' := fun W hW => by rw [← hr1]; exact among_any (h.keys.below hW) (ht.below hW) hn
  have hs : ∀ W : World, Below w.heap.size w W → Calls Tryz.prog 163 #[.agg (cellsOf x.h).toArray, .slice b m d] W fun e w' => e = .returned (.bool r2) ∧ Below W.heap.size W w' := fun W hW => by rw [← hr2]; exact shows_any h.sum (hl.below hW) (hk.below hW) hm
  have HA := Lib.hid ha
  have HS := Lib.hid hs
  have SX := Lib.hid (sumLen h.sum)
  obtain ⟨p, hp⟩ : ∃ p, p = x.after := ⟨_, rfl⟩
  obtain ⟨q, hq⟩ : ∃ q, q = x.wait := ⟨_, rfl⟩
  rw [← hp, ← hq]
  obtain ⟨t1, ht1⟩ : ∃ r, decide (p ≤ H) = r := ⟨_, rfl⟩
  obtain ⟨t2, ht2⟩ : ∃ r, decide (q ≤ A) = r := ⟨_, rfl⟩
  rw [ht1, ht2]
  clear ha hs hr1 hr2 ht hl hk
  go_enter Tryz.func101, Tryz.ntmps101
  go_upto_region 1 with (fail)
  obtain ⟨v, hv, hb, hlt, hx, hrg⟩ := way_boxed h 170
  rw [hv]
  obtain ⟨g, hg⟩ : ∃ g, g = w.heap.size := ⟨_, rfl⟩
  rw [← hg] at hrg hlt ⊢
  have hgs : v.heap.size = g + 1 := by rw [← hv, hg]; simp
  have b1 : Below v.heap.size v (v.alloc (.cells #[.slice a n c, .slice b m d, .int .i64 H, .int .i64 A] 187)) := (Below.refl _ _).alloc (Nat.le_refl _) _
  have h1 := heap_alloc_new v (.cells #[.slice a n c, .slice b m d, .int .i64 H, .int .i64 A] 187)
  revert b1 h1
  generalize (v.alloc (.cells #[.slice a n c, .slice b m d, .int .i64 H, .int .i64 A] 187)) = v1
  rw [hgs]
  intro b1 h1
  rw [← hgs] at b1
  have hr0 := rangeAt_below hrg hlt b1
  have HB := Lib.hid (hb.trans (b1.mono hb.size))
  have c0 := way_keys hr0
  have c1 := way_after h.sum hr0
  have c2 := way_wait h.sum hr0
  have d0 : v1.cell? ⟨g + 1, 0, none⟩ = some (.slice a n c) := by rw [cell_of_row _ _ _ _ _ _ h1]; rfl
  have d1 : v1.cell? ⟨g + 1, 1, none⟩ = some (.slice b m d) := by rw [cell_of_row _ _ _ _ _ _ h1]; rfl
  have d2 : v1.cell? ⟨g + 1, 2, none⟩ = some (.int .i64 H) := by rw [cell_of_row _ _ _ _ _ _ h1]; rfl
  have d3 : v1.cell? ⟨g + 1, 3, none⟩ = some (.int .i64 A) := by rw [cell_of_row _ _ _ _ _ _ h1]; rfl
  have RX := Lib.hid (way_sum h.sum hr0)
  rw [Nat.zero_add] at c1 c2 RX
  rw [← hp] at c1
  rw [← hq] at c2
  have hltv := lt_of_block h1
  clear hrg hr0 hv hx hb hp hq h hg hgs h1 b1 hlt
  cases t1
  · have h1 : ¬ p ≤ H := of_decide_eq_false ht1
    clear ht1 ht2
    go_wp2
    go_ret
    exact ⟨rfl, HB.out⟩
  · have h1 : p ≤ H := of_decide_eq_true ht1
    cases t2
    · have h2 : ¬ q ≤ A := of_decide_eq_false ht2
      clear ht1 ht2
      go_wp2
      go_ret
      exact ⟨rfl, HB.out⟩
    · have h2 : q ≤ A := of_decide_eq_true ht2
      clear ht1 ht2
      cases r1
      · go_wp2_with (first | (go_at_call 162; (with_reducible refine (HA.out _ HB.out).mono ?_); rintro e w2 ⟨rfl, hb2⟩; have HB2 := Lib.hid hb2; clear hb2) | fail)
        go_ret
        exact ⟨rfl, HB.out.trans (HB2.out.mono HB.out.size)⟩
      · go_wp2_with fail
        refine (HA.out _ HB.out).mono ?_
        rintro e w2 ⟨rfl, hb2⟩
        have HB2 := Lib.hid (HB.out.trans (hb2.mono HB.out.size))
        have hltg : g < v1.heap.size := by omega
        have e1 := (hb2.cell (p := ⟨g + 1, 1, none⟩) hltv).trans d1
        have RX2 := Lib.hid (rangeAt_below RX.out hltg hb2)
        clear c0 c1 c2 d0 d1 d2 d3 RX hb2 hltv hltg
        go_wp2_with (first | (refine wpList_mid_wanted (by rfl) 28 _ rfl g 1 rfl (cellsOf x.h) _ RX2.out Tryz.underlying28 rfl SX.out ?_) | (go_at_call 163; (with_reducible refine (HS.out _ HB2.out).mono ?_); rintro e w8 ⟨rfl, hb8⟩; have HB8 := Lib.hid hb8; clear hb8) | fail)
        go_ret
        exact ⟨rfl, HB2.out.trans (HB8.out.mono HB2.out.size)⟩
end Go.Proofs.YteddkkcheaghaaaGreatDoor
