/- slices.Clone at []int, over slices of numbers. Clone, Sort and BinarySearch at []int, over slices of numbers of the call's own. What 'among' comes to: the closure that looks a key up, IndexFunc and ContainsFunc at []int. What lock.Hash comes to. What Hash and shows come to. What Opens comes to; and the statement's own example. -/
import Derived.Test.YtcmdpmialehjgaaGreatDoorOwnZ
import Derived.Test.YtcmdpmialehjgaaGreatDoorShelf
import Derived.Sort.OwnSortedInts
import Derived.Test.YtcmdpmialehjgaaGreatDoorSha
import Derived.Test.YtcmdpmialehjgaaGreatDoorLock
namespace Go.Proofs.YtcmdpmialehjgaaGreatDoor
open Go.RowKit

theorem clone_any {w : World} {a : Option Addr} {n c : Nat} {zs : List Int} (h : Numbers w a n c zs) (hn : n ≤ 100000) :
    Calls Tryz.prog 105 #[.slice a n c] w fun e w' => ∃ v, e = .returned v ∧ OwnZ w' 3 w.heap.size v zs ∧ Below w.heap.size w w' := by
  cases a with
  | none =>
    have hc := h.2.2.2.1 rfl
    obtain rfl : n = 0 := by have := h.2.1; omega
    obtain rfl : zs = [] := List.eq_nil_of_length_eq_zero h.1
    exact (Tryz.slices_Clone_int_nil 0 c w).mono fun e w' ⟨he, hw⟩ => ⟨_, he, by rw [hw]; exact OwnZ.nil _ _ _, by rw [hw]; exact Below.refl _ _⟩
  | some ad =>
    by_cases h0 : n = 0
    · subst h0
      obtain rfl : zs = [] := List.eq_nil_of_length_eq_zero h.1
      exact (Tryz.slices_Clone_int_zero ad c w).mono fun e w' ⟨v, he, ho, _, hb⟩ => ⟨v, he, ⟨ho, fun _ h => by cases h⟩, hb⟩
    · obtain ⟨b, off, e, _, hc⟩ := h.2.2.2.2.2 (by omega)
      cases e
      refine (Tryz.slices_Clone_int b off n c zs w (by rw [h.1]; exact Nat.le_refl _) (by omega) (fun j hj => hc j (by rw [← h.1]; exact hj))).mono fun e w' ⟨v, he, ho, _, hb⟩ => ⟨v, he, ⟨?_, h.2.2.2.2.1⟩, hb⟩
      have e1 : zs.take n = zs := List.take_of_length_le (by rw [h.1]; exact Nat.le_refl _)
      rw [e1, ← h.1] at ho
      exact ho
end Go.Proofs.YtcmdpmialehjgaaGreatDoor
namespace Go.Proofs.YtcmdpmialehjgaaGreatDoor
open Go.RowKit

/-- In order. -/
def sortedZ (zs : List Int) : List Int := zs.mergeSort fun x y => decide (x ≤ y)
theorem sortedZ_len (zs : List Int) : (sortedZ zs).length = zs.length := List.length_mergeSort zs
theorem sortedZ_mem (zs : List Int) (x : Int) : x ∈ sortedZ zs ↔ x ∈ zs := List.mem_mergeSort
theorem sortedZ_up (zs : List Int) : (sortedZ zs).Pairwise (· ≤ ·) := by
  have h := List.pairwise_mergeSort (le := fun (x y : Int) => decide (x ≤ y)) (fun a b c h1 h2 => by simp at *; omega) (fun a b => by simp; omega) zs
  exact h.imp (fun h => by simpa using h)
theorem sort_any {w : World} {B : Nat} {v : Value} {zs : List Int} (h : OwnZ w 3 B v zs) (hB : B ≤ w.heap.size) (hn : zs.length ≤ 100000) :
    Calls Tryz.prog 106 #[v] w fun e w' => e = .returned (.tuple #[]) ∧ OwnZ w' 3 B v (sortedZ zs) ∧ w.grownBy w' v.ownBlock ∧ Below B w w' := by
  rcases h.1.2 with ⟨rfl, h0⟩ | ⟨g, cap, cur, rfl, hg, hb, h1, h2, h3, h4⟩
  · obtain rfl : zs = [] := List.eq_nil_of_length_eq_zero h0
    exact (Tryz.slices_Sort_int_none none 0 w).mono fun e w' ⟨he, hw⟩ => ⟨he, by rw [hw, show sortedZ [] = [] by simp [sortedZ]]; exact OwnZ.nil _ _ _, by rw [hw]; exact World.grownBy.refl _ _, by rw [hw]; exact Below.refl _ _⟩
  · refine (Tryz.slices_Sort_int g 0 cap zs w (holds_of_blockI hb (by rw [Nat.mul_one] at h4; exact h4)) (lt_of_block hb) (by omega)).mono ?_
    rintro e w' ⟨he, n, os, rfl⟩
    have hl := sortedZ_len zs
    have ho := ownsRow_sortedI (n := n) (os := os) (ts := sortedZ zs) hl hg hb h1 h2 h3
    have hgr := grownBy_sortedI (w := w) (g := g) (n := n) (os := os) (sortedZ zs).toArray
    refine ⟨he, ⟨?_, fun z hz => h.2 z ((sortedZ_mem zs z).1 hz)⟩, hgr, ?_⟩
    · rw [hl]
      exact ho
    · exact (Below.refl B w).grown hgr hB (fun j hj => by cases hj; exact hg)
theorem search_any {w : World} {a : Option Addr} {n c : Nat} {zs : List Int} (x : Int) (h : Numbers w a n c zs) (hs : zs.Pairwise (· ≤ ·)) (hn : n ≤ 100000) :
    Calls Tryz.prog 109 #[.slice a n c, .int .i64 x] w fun e w' => ∃ z : Int, e = .returned (.tuple #[.int .i64 z, .bool (decide (x ∈ zs))]) ∧ Below w.heap.size w w' := by
  by_cases h0 : n = 0
  · subst h0
    obtain rfl : zs = [] := List.eq_nil_of_length_eq_zero h.1
    exact (Tryz.slices_BinarySearch_int_empty a c x w).mono fun e w' ⟨he, hw⟩ => ⟨0, he, by rw [hw]; exact Below.refl _ _⟩
  · obtain ⟨b, off, rfl, _, hc⟩ := h.2.2.2.2.2 (by omega)
    have e1 : zs.take n = zs := List.take_of_length_le (by rw [h.1]; exact Nat.le_refl _)
    refine (Tryz.slices_BinarySearch_int b off n c zs x w (by rw [h.1]; exact Nat.le_refl _) (by omega) (fun j hj => hc j (by rw [← h.1]; exact hj)) (by rw [e1]; exact hs)).mono ?_
    rintro e w' ⟨he, q, hw⟩
    rw [e1] at he
    have e2 : zs.contains x = decide (x ∈ zs) := by rw [Bool.eq_iff_iff]; simp
    rw [e2] at he
    refine ⟨_, he, by rw [hw]; exact ⟨rfl, rfl, rfl, Nat.le_refl _, fun _ _ => rfl⟩⟩
end Go.Proofs.YtcmdpmialehjgaaGreatDoor
namespace Go.Proofs.YtcmdpmialehjgaaGreatDoor
open Go.RowKit

/-- A closure's list, in order, behind its box. -/
def ListAt (w : World) (p : Nat) (zs : List Int) : Prop := ∃ a n c, w.cell? ⟨p, 0, none⟩ = some (.slice a n c) ∧ p < w.heap.size ∧ Numbers w a n c zs ∧ zs.Pairwise (· ≤ ·) ∧ n ≤ 100000
theorem ListAt.below {w w' : World} {p : Nat} {zs : List Int} (h : ListAt w p zs) (hb : Below w.heap.size w w') : ListAt w' p zs := by
  obtain ⟨a, n, c, h1, h2, h3, h4, h5⟩ := h
  exact ⟨a, n, c, (hb.cell (p := ⟨p, 0, none⟩) h2).trans h1, Nat.lt_of_lt_of_le h2 hb.size, h3.below hb, h4, h5⟩
set_option linter.unusedSimpArgs false in
set_option maxRecDepth 100000 in
set_option maxHeartbeats 1600000 in
theorem among1_any {w : World} {p : Nat} {zs : List Int} (x : Int) (h : ListAt w p zs) :
    Calls Tryz.prog 108 #[.int .i64 x, .pointer (some ⟨p, 0, none⟩)] w fun e w' => e = .returned (.bool (!decide (x ∈ zs))) ∧ Below w.heap.size w w' := by
  obtain ⟨a, n, c, c0, _, h3, h4, h5⟩ := h
  have HS := Lib.hid (fun (W : World) (hW : Below w.heap.size w W) => search_any x (h3.below hW) h4 h5)
  generalize decide (x ∈ zs) = r at *
  clear h3 h4 h5
  go_enter Tryz.func108, Tryz.ntmps108
  go_wp2_with (first | (go_at_call 109; (with_reducible refine (HS.out _ (Below.refl _ _)).mono ?_); rintro e w7 ⟨z, rfl, hb7⟩; have HB7 := Lib.hid hb7; clear hb7) | fail)
  go_ret
  exact ⟨rfl, HB7.out⟩
set_option linter.unusedSimpArgs false in
set_option maxRecDepth 100000 in
set_option maxHeartbeats 3200000 in
theorem indexKey_any {w : World} {p : Nat} {zs ks : List Int} {a : Option Addr} {n c : Nat} (h : Numbers w a n c ks) (hl : ListAt w p zs) :
    Calls Tryz.prog 123 #[.slice a n c, .func (.func 108) #[] #[.pointer (some ⟨p, 0, none⟩)]] w fun e w' => (∃ z : Int, e = .returned (.int .i64 z) ∧ -1 ≤ z ∧ decide (0 ≤ z) = !ks.all fun k => decide (k ∈ zs)) ∧ Below w.heap.size w w' := by
  have hn63 : (n : Int) ≤ 9223372036854775807 := by have h1 := h.2.1; have h2 := h.2.2.1; unfold maxLen at h2; omega
  obtain ⟨R, hR⟩ : ∃ R, R = ks.all fun k => decide (k ∈ zs) := ⟨_, rfl⟩
  rw [← hR]
  have H := Lib.hid h
  have HL := Lib.hid hl
  have HR := Lib.hid hR
  clear h hR hl
  go_enter Tryz.func123, Tryz.ntmps123
  go_upto_region 2 with (fail)
  go_loopw [8] (fun x wr => ∃ j : Nat, j ≤ n ∧ x = .int .i64 j ∧ Below w.heap.size w wr ∧ R = (ks.drop j).all fun k => decide (k ∈ zs)) (fun x _ => n - (intOf x).toNat)
  case atStart => exact ⟨0, Nat.zero_le _, rfl, Below.refl _ _, HR.out⟩
  case round =>
    obtain ⟨j, hj, rfl, hb, hRj⟩ := hrel
    have HB := Lib.hid hb
    have HRJ := Lib.hid hRj
    clear hb hRj HR
    by_cases hjn : j < n
    · have f1 : (j : Int) < (n : Int) := by omega
      have f0 : (0 : Int) ≤ (j : Int) := by omega
      have ft : ((j : Int)).toNat = j := by omega
      obtain ⟨b1, o1, e1, hlt1, hc1⟩ := (H.out.below HB.out).2.2.2.2.2 (by omega)
      have c0 := hc1 j hjn
      have hRj := HRJ.out
      rw [drop_cons (zs := ks) (by rw [H.out.1]; exact hjn)] at hRj
      revert c0 hRj
      generalize ks.getD j 0 = x
      intro c0 hRj
      replace hRj : R = (decide (x ∈ zs) && (ks.drop (j + 1)).all fun k => decide (k ∈ zs)) := hRj
      subst e1
      have HRJ := Lib.hid hRj
      have HC := Lib.hid (among1_any x (HL.out.below HB.out))
      clear hc1 hRj H
      generalize decide (x ∈ zs) = r at *
      cases r
      · have hRf : R = false := HRJ.out
        subst hRf
        go_wp2_with (first | (go_at_call 108; (with_reducible refine HC.out.mono ?_); rintro e w7 ⟨rfl, hb7⟩; have HB7 := Lib.hid hb7; clear hb7) | fail)
        go_ret
        exact ⟨⟨j, rfl, by omega, by simp⟩, HB.out.trans (HB7.out.mono HB.out.size)⟩
      · have hRt : R = (ks.drop (j + 1)).all fun k => decide (k ∈ zs) := HRJ.out
        have HRN := Lib.hid hRt
        clear hRt HRJ
        go_wp2_with (first | (go_at_call 108; (with_reducible refine HC.out.mono ?_); rintro e w7 ⟨rfl, hb7⟩; have HB7 := Lib.hid hb7; clear hb7) | fail)
        go_roundw
        case rel => exact ⟨j + 1, by omega, by go_num, HB.out.trans (HB7.out.mono HB.out.size), HRN.out⟩
        case measure => simp [intOf]; omega
    · have f1 : ¬ ((j : Int) < (n : Int)) := by omega
      have e1 : ks.drop j = [] := List.drop_of_length_le (by rw [H.out.1]; omega)
      have hRt : R = true := by rw [HRJ.out, e1]; rfl
      subst hRt
      clear e1 HRJ
      go_wp2
      go_ret
      exact ⟨⟨-1, rfl, by omega, by decide⟩, HB.out⟩
theorem containsKey_any {w : World} {p : Nat} {zs ks : List Int} {a : Option Addr} {n c : Nat} (h : Numbers w a n c ks) (hl : ListAt w p zs) :
    Calls Tryz.prog 107 #[.slice a n c, .func (.func 108) #[] #[.pointer (some ⟨p, 0, none⟩)]] w fun e w' => e = .returned (.bool (!ks.all fun k => decide (k ∈ zs))) ∧ Below w.heap.size w w' := by
  have HC := Lib.hid (indexKey_any h hl)
  generalize (!ks.all fun k => decide (k ∈ zs)) = r at *
  clear h hl
  go_enter Tryz.func107, Tryz.ntmps107
  go_wp2_with fail
  refine HC.out.mono ?_
  rintro e w7 ⟨⟨z, rfl, hz, hzr⟩, hb7⟩
  have HB7 := Lib.hid hb7
  subst hzr
  clear hb7
  go_wp2_with fail
  go_ret
  exact ⟨rfl, HB7.out⟩
set_option linter.unusedSimpArgs false in
set_option maxRecDepth 100000 in
set_option maxHeartbeats 1600000 in
theorem among_any {w : World} {ks ts : List Int} {a b : Option Addr} {n c m d : Nat} (h : Numbers w a n c ks) (k : Numbers w b m d ts) (hm : m ≤ 100000) :
    Calls Tryz.prog 77 #[.slice a n c, .slice b m d] w fun e w' => e = .returned (.bool (ks.all fun k => decide (k ∈ ts))) ∧ Below w.heap.size w w' := by
  have HC := Lib.hid (clone_any k hm)
  have hmt := k.1
  have H := Lib.hid h
  clear h k
  go_enter Tryz.func77, Tryz.ntmps77
  go_wp2_with fail
  refine HC.out.mono ?_
  rintro e w2 ⟨v, rfl, hv, hb2⟩
  obtain ⟨a2, c2, rfl, _⟩ := hv.shape
  rw [hmt] at hv ⊢
  have HV := Lib.hid hv
  have HB2 := Lib.hid hb2
  clear hv hb2
  go_upto_region 2 with (fail)
  have b3 : Below w2.heap.size w2 (w2.alloc (.cells #[.slice a2 m c2] 80)) := (Below.refl _ _).alloc (Nat.le_refl _) _
  have h3 := heap_alloc_new w2 (.cells #[.slice a2 m c2] 80)
  revert b3 h3
  generalize (w2.alloc (.cells #[.slice a2 m c2] 80)) = w3
  obtain ⟨p, hp⟩ : ∃ p, p = w2.heap.size := ⟨_, rfl⟩
  rw [← hp]
  intro b3 h3
  rw [hp] at b3
  have hv3 := HV.out.below b3
  have c0 : w3.cell? ⟨p, 0, none⟩ = some (.slice a2 m c2) := by rw [cell_of_row _ _ _ _ _ _ h3]; rfl
  have hlp := lt_of_block h3
  have HB3 := Lib.hid (HB2.out.trans (b3.mono HB2.out.size))
  have hne : (Value.slice a2 m c2).ownBlock ≠ some p := fun e => by
    have := (HV.out.lt p e).2
    omega
  have HS := Lib.hid (sort_any hv3 HB3.out.size (by omega))
  have HNE := Lib.hid hne
  have HLP := Lib.hid hlp
  clear hv3 b3 h3 hp hne hlp HV HC
  try simp only [Act.put]
  go_wp2_with fail
  refine HS.out.mono ?_
  rintro e w4 ⟨rfl, hv4, hg4, hb4⟩
  have c4 : w4.cell? ⟨p, 0, none⟩ = some (.slice a2 m c2) := by
    have := hg4.block p HLP.out HNE.out.symm
    exact (World.cell?_of_block this).trans c0
  have hs : (sortedZ ts).length = m := by rw [sortedZ_len, hmt]
  have hl4 : ListAt w4 p (sortedZ ts) := ⟨a2, m, c2, c4, Nat.lt_of_lt_of_le HLP.out hg4.size, by have := hv4.numbers; exact this, sortedZ_up ts, hm⟩
  have HB4 := Lib.hid (HB3.out.trans hb4)
  have e4 : (ks.all fun k => decide (k ∈ ts)) = ks.all fun k => decide (k ∈ sortedZ ts) := by
    congr 1
    funext k
    rw [decide_eq_decide]
    exact (sortedZ_mem ts k).symm
  have HK := Lib.hid (containsKey_any (H.out.below (HB4.out.mono (Nat.le_refl _))) hl4)
  have E4 := Lib.hid e4
  clear c0 hl4 hv4 hg4 hb4 c4 hs e4 HS
  go_wp2_with (first | (go_at_call 107; (with_reducible refine HK.out.mono ?_); rintro e w7 ⟨rfl, hb7⟩; have HB7 := Lib.hid hb7; clear hb7) | fail)
  go_ret
  exact ⟨by rw [E4.out]; simp, HB4.out.trans (HB7.out.mono HB4.out.size)⟩
end Go.Proofs.YtcmdpmialehjgaaGreatDoor
namespace Go.Proofs.YtcmdpmialehjgaaGreatDoor
open Go.RowKit

/-- What a text is summed to, where it has to be shown. -/
def shownSum (l : List UInt8) : List UInt8 := sumOf (partsOf 31 [l])
theorem shownSum_len (l : List UInt8) : (shownSum l).length = 32 := by unfold shownSum; exact sumOf_len _
set_option linter.unusedSimpArgs false in
set_option maxRecDepth 100000 in
set_option maxHeartbeats 3200000 in
theorem hash_any {w : World} {a : Option Addr} {n c : Nat} {l : List UInt8} (h : Row w a n c l) (hk : KsAt w) (hn : n ≤ 1000000) : Calls Tryz.prog 110 #[.slice a n c] w fun e w' => e = .returned (.agg (cellsOf (shownSum l)).toArray) ∧ Below w.heap.size w w' := by
  have HK := Lib.hid hk
  have H := Lib.hid h
  clear hk h
  go_enter Tryz.func110, Tryz.ntmps110
  go_wp2_with fail
  rw [← zero32_is]
  have b1 : Below w.heap.size w (w.alloc (.cells (cellsOf zero32).toArray 23)) := (Below.refl _ _).alloc (Nat.le_refl _) _
  have h2 : (w.alloc (.cells (cellsOf zero32).toArray 23)).heap[w.heap.size]? = some (.cells (cellsOf zero32).toArray 23 (0, 0)) := heap_alloc_new _ _
  have h3 : (w.alloc (.cells (cellsOf zero32).toArray 23)).heap.size = w.heap.size + 1 := by simp
  revert b1 h2 h3
  generalize (w.alloc (.cells (cellsOf zero32).toArray 23)) = w3
  obtain ⟨g, hg⟩ : ∃ g, g = w.heap.size := ⟨_, rfl⟩
  rw [← hg]
  intro b1 h2 h3
  rw [hg] at b1
  have HG := Lib.hid hg
  have HB1 := Lib.hid b1
  have H2 := Lib.hid h2
  have H3 := Lib.hid h3
  clear b1 h2 h3 hg
  have b4 : Below w3.heap.size w3 (w3.alloc (.cells #[.slice a n c] 26)) := (Below.refl _ _).alloc (Nat.le_refl _) _
  have r1 : Row (w3.alloc (.cells #[.slice a n c] 26)) a n c l := (H.out.below HB1.out).below b4
  have hlen : (partsOf 31 [l]).length ≤ 1125899906842624 := by
    have := H.out.1
    unfold partsOf partOf
    simp only [List.flatMap_cons, List.flatMap_nil, List.length_cons, List.length_append, four_len, List.length_nil]
    omega
  refine (join_any 31 31 rfl (rows2_one (heap_alloc_at _ _ _ H3.out) r1) ((HK.out.below HB1.out).below b4) hlen).mono ?_
  rintro e w5 ⟨rfl, hb5⟩
  have hb6 := b4.trans (hb5.mono b4.size)
  have HB6 := Lib.hid hb6
  have HT1 := Lib.hid ((hb6.block _ (lt_of_block H2.out)).trans H2.out)
  clear b4 r1 hlen hb5 hb6
  go_wp2_with (refine wpList_store_row rfl 23 _ _ rfl g (cellsOf (sumOf (partsOf 31 [l]))).toArray rfl rfl 23 (cellsOf zero32).toArray HT1.out (sum_size' _) (by rw [sum_size]; rfl) (sum_all _) ?_)
  refine bodyPost_ret (results_cell_row rfl _ _ g 23 (cellsOf (sumOf (partsOf 31 [l]))).toArray (0, 0) _ rfl (setRow_heap w5 g _ _ 23 _ HT1.out) Tryz.underlying23 rfl (sum_size' _)) rfl ⟨rfl, ?_⟩
  have b7 : Below w.heap.size w w5 := HB1.out.trans (HB6.out.mono HB1.out.size)
  exact b7.trans (((but_setRow _ g _).mono b7.size).below (by rw [HG.out]; omega))
end Go.Proofs.YtcmdpmialehjgaaGreatDoor
namespace Go.Proofs.YtcmdpmialehjgaaGreatDoor
open Go.RowKit

set_option linter.unusedSimpArgs false in
set_option maxRecDepth 100000 in
set_option maxHeartbeats 3200000 in
theorem shows_any {w : World} {h : List UInt8} {a : Option Addr} {n c : Nat} {l : List UInt8} (hl : h.length = 32) (hr : Row w a n c l) (hk : KsAt w) (hn : n ≤ 1000000) :
    Calls Tryz.prog 78 #[.agg (cellsOf h).toArray, .slice a n c] w fun e w' => e = .returned (.bool (decide (h = zero32) || decide (h = shownSum l))) ∧ Below w.heap.size w w' := by
  obtain ⟨s, hs, hsl, hh⟩ : ∃ s, shownSum l = s ∧ s.length = 32 ∧ ∀ W : World, Below w.heap.size w W → Calls Tryz.prog 110 #[.slice a n c] W fun e w' => e = .returned (.agg (cellsOf s).toArray) ∧ Below W.heap.size W w' := ⟨_, rfl, shownSum_len l, fun W hW => hash_any (hr.below hW) (hk.below hW) hn⟩
  rw [hs]
  obtain ⟨r1, hr1⟩ : ∃ r, decide (h = zero32) = r := ⟨_, rfl⟩
  obtain ⟨r2, hr2⟩ : ∃ r, decide (h = s) = r := ⟨_, rfl⟩
  rw [hr1, hr2]
  have HZ := Lib.hid hr1
  have HE := Lib.hid hr2
  have HL := Lib.hid hl
  have HSL := Lib.hid hsl
  have SZ : Hid ((Tryz.prog.info? 23).map (·.size) = some (cellsOf h).length) := Lib.hid (by rw [cellsOf_len, hl]; exact Tryz.size23)
  have b1 : Below w.heap.size w (w.alloc (.cells (cellsOf h).toArray 23)) := (Below.refl _ _).alloc (Nat.le_refl _) _
  have h1 := heap_alloc_new w (.cells (cellsOf h).toArray 23)
  have HH0 := Lib.hid hh
  clear hs hsl hh hr hk hr1 hr2
  go_enter Tryz.func78, Tryz.ntmps78
  go_upto_region 1 with (fail)
  revert b1 h1
  generalize (w.alloc (.cells (cellsOf h).toArray 23)) = w1
  obtain ⟨g, hg⟩ : ∃ g, g = w.heap.size := ⟨_, rfl⟩
  rw [← hg]
  intro b1 h1
  rw [hg] at b1
  have HB1 := Lib.hid b1
  have hlt := lt_of_block h1
  have HRG := Lib.hid (range_of h1)
  have HH : Hid (∀ W : World, Below w1.heap.size w1 W → Calls Tryz.prog 110 #[.slice a n c] W fun e w' => e = .returned (.agg (cellsOf s).toArray) ∧ Below W.heap.size W w') := Lib.hid (fun W hW => HH0.out W (HB1.out.trans (hW.mono HB1.out.size)))
  clear b1 h1 hg hl
  cases r1
  · refine wp_region_held_drew (S := fun w' => Below w1.heap.size w1 w') (by kernel_rfl) (below_drew (Below.refl _ _)) (fun hHeld => ?_)
    refine tkA 0 rfl rfl (yieldsIf_load_mid (by rfl) _ _ rfl g 0 rfl (cellsOf h) _ (fun w0 hSw => rangeAt_below HRG.out hlt hSw) Tryz.underlying23 rfl SZ.out) ?_
    refine tkP 1 rfl rfl ?_
    rw [← zero32_is]
    refine tkA 2 rfl rfl (yields_eql (by rfl) rfl rfl rfl HL.out zero32_len false HZ.out) ?_
    refine tkP 3 rfl rfl ?_
    refine tkA 4 rfl rfl (yieldsIf_load_mid (by rfl) _ _ rfl g 0 rfl (cellsOf h) _ (fun w0 hSw => rangeAt_below HRG.out hlt hSw) Tryz.underlying23 rfl SZ.out) ?_
    refine tkP 5 rfl rfl ?_
    refine tkR 6 rfl (fun K hK => ?_)
    have hS5 : Below w1.heap.size w1 w1.drew := hHeld
    have HHX := Lib.hid (HH.out _ hS5)
    clear hS5
    go_simp
    go_wp2_with ((go_at_call 110; (with_reducible refine (HHX.out).mono ?_); rintro e x5 ⟨rfl, hb5⟩; have HC5 := Lib.hid hb5; clear hb5))
    refine hK.out _ _ (by (try dsimp only); exact Below.trans hHeld (HC5.out.mono (Below.size hHeld))) (fun hHeld => ?_)
    clear hK K
    refine tkA 7 rfl rfl (yields_eql (by rfl) rfl rfl rfl HL.out HSL.out r2 HE.out) ?_
    refine tkP 8 rfl rfl ?_
    refine tkP 9 rfl rfl ?_
    refine wpAnyH_done (by kernel_rfl) ?_ _
    have HS6 := Lib.hid (show Below w1.heap.size w1 x5 from hHeld)
    clear hHeld
    go_wp2_with fail
    go_ret
    exact ⟨rfl, HB1.out.trans (HS6.out.mono HB1.out.size)⟩
  · refine wp_region_held_drew (S := fun w' => Below w1.heap.size w1 w') (by kernel_rfl) (below_drew (Below.refl _ _)) (fun hHeld => ?_)
    refine tkA 0 rfl rfl (yieldsIf_load_mid (by rfl) _ _ rfl g 0 rfl (cellsOf h) _ (fun w0 hSw => rangeAt_below HRG.out hlt hSw) Tryz.underlying23 rfl SZ.out) ?_
    refine tkP 1 rfl rfl ?_
    rw [← zero32_is]
    refine tkA 2 rfl rfl (yields_eql (by rfl) rfl rfl rfl HL.out zero32_len true HZ.out) ?_
    refine tkP 3 rfl rfl ?_
    refine tkA (v := undef) 4 rfl rfl (Or.inr ⟨by rfl, rfl⟩) ?_
    refine tkA (v := undef) 5 rfl rfl (Or.inr ⟨by rfl, rfl⟩) ?_
    refine tkA (v := undef) 6 rfl rfl (Or.inr ⟨by rfl, rfl⟩) ?_
    refine tkA (v := undef) 7 rfl rfl (Or.inr ⟨by rfl, rfl⟩) ?_
    refine tkP 8 rfl rfl ?_
    refine tkP 9 rfl rfl ?_
    refine wpAnyH_done (by kernel_rfl) ?_ _
    have HS6 := Lib.hid (show Below w1.heap.size w1 w1.drew from hHeld)
    clear hHeld
    go_wp2_with fail
    go_ret
    exact ⟨rfl, HB1.out.trans (HS6.out.mono HB1.out.size)⟩
end Go.Proofs.YtcmdpmialehjgaaGreatDoor
namespace Go.Proofs.YtcmdpmialehjgaaGreatDoor
open Go.RowKit

/-- A way is open to a try. -/
def opensW (x : PWay) (ts : List Int) (l : List UInt8) (H A : Int) : Bool := decide (x.after ≤ H) && (decide (x.wait ≤ A) && ((x.ks.all fun k => decide (k ∈ ts)) && (decide (x.h = zero32) || decide (x.h = shownSum l))))
set_option linter.unusedSimpArgs false in
set_option maxRecDepth 100000 in
set_option maxHeartbeats 3200000 in
theorem opens_any {w : World} {x : PWay} {a b : Option Addr} {n c m d : Nat} {ts : List Int} {l : List UInt8} {H A : Int} (h : WayIn w x) (ht : Numbers w a n c ts) (hl : Row w b m d l) (hk : KsAt w) (hn : n ≤ 100000) (hm : m ≤ 1000000) :
    Calls Tryz.prog 51 #[.agg x.cells.toArray, .agg #[.slice a n c, .slice b m d, .int .i64 H, .int .i64 A]] w fun e w' => e = .returned (.bool (opensW x ts l H A)) ∧ Below w.heap.size w w' := by
  unfold opensW
  obtain ⟨r1, hr1⟩ : ∃ r, (x.ks.all fun k => decide (k ∈ ts)) = r := ⟨_, rfl⟩
  obtain ⟨r2, hr2⟩ : ∃ r, (decide (x.h = zero32) || decide (x.h = shownSum l)) = r := ⟨_, rfl⟩
  rw [hr1, hr2]
  have ha : ∀ W : World, Below w.heap.size w W → Calls Tryz.prog 77 #[.slice x.a x.n x.c, .slice a n c] W fun e w' => e = .returned (.bool r1) ∧ Below W.heap.size W w' := fun W hW => by rw [← hr1]; exact among_any (h.keys.below hW) (ht.below hW) hn
  have hs : ∀ W : World, Below w.heap.size w W → Calls Tryz.prog 78 #[.agg (cellsOf x.h).toArray, .slice b m d] W fun e w' => e = .returned (.bool r2) ∧ Below W.heap.size W w' := fun W hW => by rw [← hr2]; exact shows_any h.sum (hl.below hW) (hk.below hW) hm
  have HA := Lib.hid ha
  have HS := Lib.hid hs
  have SX := Lib.hid (sumLen h.sum)
  obtain ⟨p, hp⟩ : ∃ p, p = x.after := ⟨_, rfl⟩
  obtain ⟨q, hq⟩ : ∃ q, q = x.wait := ⟨_, rfl⟩
  rw [← hp, ← hq]
  obtain ⟨t1, ht1⟩ : ∃ r, decide (p ≤ H) = r := ⟨_, rfl⟩
  obtain ⟨t2, ht2⟩ : ∃ r, decide (q ≤ A) = r := ⟨_, rfl⟩
  rw [ht1, ht2]
  clear ha hs hr1 hr2 ht hl hk
  go_enter Tryz.func51, Tryz.ntmps51
  go_upto_region 1 with (fail)
  obtain ⟨v, hv, hb, hlt, hx, hrg⟩ := way_boxed h 82
  rw [hv]
  obtain ⟨g, hg⟩ : ∃ g, g = w.heap.size := ⟨_, rfl⟩
  rw [← hg] at hrg hlt ⊢
  have hgs : v.heap.size = g + 1 := by rw [← hv, hg]; simp
  have b1 : Below v.heap.size v (v.alloc (.cells #[.slice a n c, .slice b m d, .int .i64 H, .int .i64 A] 110)) := (Below.refl _ _).alloc (Nat.le_refl _) _
  have h1 := heap_alloc_new v (.cells #[.slice a n c, .slice b m d, .int .i64 H, .int .i64 A] 110)
  revert b1 h1
  generalize (v.alloc (.cells #[.slice a n c, .slice b m d, .int .i64 H, .int .i64 A] 110)) = v1
  rw [hgs]
  intro b1 h1
  rw [← hgs] at b1
  have hr0 := rangeAt_below hrg hlt b1
  have HB := Lib.hid (hb.trans (b1.mono hb.size))
  have c0 := way_keys hr0
  have c1 := way_after h.sum hr0
  have c2 := way_wait h.sum hr0
  have d0 : v1.cell? ⟨g + 1, 0, none⟩ = some (.slice a n c) := by rw [cell_of_row _ _ _ _ _ _ h1]; rfl
  have d1 : v1.cell? ⟨g + 1, 1, none⟩ = some (.slice b m d) := by rw [cell_of_row _ _ _ _ _ _ h1]; rfl
  have d2 : v1.cell? ⟨g + 1, 2, none⟩ = some (.int .i64 H) := by rw [cell_of_row _ _ _ _ _ _ h1]; rfl
  have d3 : v1.cell? ⟨g + 1, 3, none⟩ = some (.int .i64 A) := by rw [cell_of_row _ _ _ _ _ _ h1]; rfl
  have RX := Lib.hid (way_sum h.sum hr0)
  rw [Nat.zero_add] at c1 c2 RX
  rw [← hp] at c1
  rw [← hq] at c2
  have hltv := lt_of_block h1
  clear hrg hr0 hv hx hb hp hq h hg hgs h1 b1 hlt
  cases t1
  · have h1 : ¬ p ≤ H := of_decide_eq_false ht1
    clear ht1 ht2
    go_wp2
    go_ret
    exact ⟨rfl, HB.out⟩
  · have h1 : p ≤ H := of_decide_eq_true ht1
    cases t2
    · have h2 : ¬ q ≤ A := of_decide_eq_false ht2
      clear ht1 ht2
      go_wp2
      go_ret
      exact ⟨rfl, HB.out⟩
    · have h2 : q ≤ A := of_decide_eq_true ht2
      clear ht1 ht2
      cases r1
      · go_wp2_with (first | (go_at_call 77; (with_reducible refine (HA.out _ HB.out).mono ?_); rintro e w2 ⟨rfl, hb2⟩; have HB2 := Lib.hid hb2; clear hb2) | fail)
        go_ret
        exact ⟨rfl, HB.out.trans (HB2.out.mono HB.out.size)⟩
      · go_wp2_with fail
        refine (HA.out _ HB.out).mono ?_
        rintro e w2 ⟨rfl, hb2⟩
        have HB2 := Lib.hid (HB.out.trans (hb2.mono HB.out.size))
        have hltg : g < v1.heap.size := by omega
        have e1 := (hb2.cell (p := ⟨g + 1, 1, none⟩) hltv).trans d1
        have RX2 := Lib.hid (rangeAt_below RX.out hltg hb2)
        clear c0 c1 c2 d0 d1 d2 d3 RX hb2 hltv hltg
        go_wp2_with (first | (refine wpList_mid_wanted (by rfl) 23 _ rfl g 1 rfl (cellsOf x.h) _ RX2.out Tryz.underlying23 rfl SX.out ?_) | (go_at_call 78; (with_reducible refine (HS.out _ HB2.out).mono ?_); rintro e w8 ⟨rfl, hb8⟩; have HB8 := Lib.hid hb8; clear hb8) | fail)
        go_ret
        exact ⟨rfl, HB2.out.trans (HB8.out.mono HB2.out.size)⟩
end Go.Proofs.YtcmdpmialehjgaaGreatDoor
