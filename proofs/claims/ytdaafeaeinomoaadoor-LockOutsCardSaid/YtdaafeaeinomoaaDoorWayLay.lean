/- A way is laid into a new block; and the outs that EqualFunc and Same tell alike. -/
import Derived.Test.YtdaafeaeinomoaaDoorLockSame
namespace Go.Proofs.YtdaafeaeinomoaaDoor
open Go.RowKit

theorem noWay_is : noWay.cells.toArray = #[.slice none 0 0, .int .u8 0, .int .u8 0, .int .u8 0, .int .u8 0, .int .u8 0, .int .u8 0, .int .u8 0, .int .u8 0, .int .u8 0, .int .u8 0, .int .u8 0, .int .u8 0, .int .u8 0, .int .u8 0, .int .u8 0, .int .u8 0, .int .u8 0, .int .u8 0, .int .u8 0, .int .u8 0, .int .u8 0, .int .u8 0, .int .u8 0, .int .u8 0, .int .u8 0, .int .u8 0, .int .u8 0, .int .u8 0, .int .u8 0, .int .u8 0, .int .u8 0, .int .u8 0, .int .i64 0, .int .i64 0] := rfl
/-- A world with one way more. -/
def layWay (w : World) (x : PWay) : World := (w.alloc (.cells noWay.cells.toArray 26)).setRow w.heap.size x.cells.toArray
theorem layWay_is (w : World) (x : PWay) : (w.alloc (.cells noWay.cells.toArray 26)).setRow w.heap.size x.cells.toArray = layWay w x := rfl
theorem layWay_heap (w : World) (x : PWay) : (layWay w x).heap[w.heap.size]? = some (.cells x.cells.toArray 26 (0, 0)) := setRow_heap _ _ _ _ _ _ (heap_alloc_new _ _)
theorem layWay_below {w0 w : World} (x : PWay) (hb : Below w0.heap.size w0 w) : Below w0.heap.size w0 (layWay w x) := by
  have b : Below w0.heap.size w0 (w.alloc (.cells noWay.cells.toArray 26)) := hb.alloc hb.size _
  exact b.trans (((but_setRow _ w.heap.size _).mono b.size).below hb.size)
theorem layWay_self (w : World) (x : PWay) : Below w.heap.size w (layWay w x) := layWay_below x (Below.refl _ _)
theorem layWay_size (w : World) (x : PWay) : (layWay w x).heap.size = w.heap.size + 1 := by simp [layWay, World.setRow]
theorem way_zero {x : PWay} (h : x.h.length = 32) : noWay.cells.toArray.size = x.cells.toArray.size := by rw [List.size_toArray, List.size_toArray, PWay.cells_len h]; rfl
theorem ways_drop {xs : List PWay} {j : Nat} (h : j < xs.length) : xs.drop j = xs.getD j noWay :: xs.drop (j + 1) := by
  rw [List.drop_eq_getElem_cons h]
  simp [List.getD, h]
/-- Ways alike, one by one. -/
def alikeWs : List PWay → List PWay → Bool
  | [], [] => true
  | x :: xs, y :: ys => alikeW x y && alikeWs xs ys
  | _, _ => false
theorem alikeWs_len : ∀ {xs ys : List PWay}, xs.length ≠ ys.length → alikeWs xs ys = false
  | [], [], h => absurd rfl h
  | [], _ :: _, _ => rfl
  | _ :: _, [], _ => rfl
  | x :: xs, y :: ys, h => by
    have := alikeWs_len (xs := xs) (ys := ys) (fun e => h (by simp [e]))
    simp [alikeWs, this]
set_option linter.unusedSimpArgs false in
set_option maxRecDepth 100000 in
set_option maxHeartbeats 3200000 in
theorem equalFunc_any {w : World} {a b : Option Addr} {n c m d : Nat} {xs ys : List PWay} (h : Ways w a n c xs) (k : Ways w b m d ys) :
    Calls Tryd.prog 40 #[.slice a n c, .slice b m d, .func (.func 41) #[] #[]] w fun e w' => e = .returned (.bool (alikeWs xs ys)) ∧ Below w.heap.size w w' := by
  have hn63 : (n : Int) ≤ 9223372036854775807 := by have h1 := h.2.1; have h2 := h.2.2.1; unfold maxLen at h2; omega
  have hm63 : (m : Int) ≤ 9223372036854775807 := by have h1 := k.2.1; have h2 := k.2.2.1; unfold maxLen at h2; omega
  by_cases hnm : n = m
  · subst hnm
    obtain ⟨R, hR⟩ : ∃ R, R = alikeWs xs ys := ⟨_, rfl⟩
    rw [← hR]
    have H := Lib.hid h
    have K := Lib.hid k
    have HR := Lib.hid hR
    clear h k hR
    go_enter Tryd.func40, Tryd.ntmps40
    go_upto_region 4 with (fail)
    go_loopw [17] (fun x wr => ∃ j : Nat, j ≤ n ∧ x = .int .i64 j ∧ Below w.heap.size w wr ∧ R = alikeWs (xs.drop j) (ys.drop j)) (fun x _ => n - (intOf x).toNat)
    case atStart => exact ⟨0, Nat.zero_le _, rfl, Below.refl _ _, HR.out⟩
    case round =>
      obtain ⟨j, hj, rfl, hb, hRj⟩ := hrel
      have HB := Lib.hid hb
      have HRJ := Lib.hid hRj
      clear hb hRj HR
      by_cases hjn : j < n
      · have f1 : (j : Int) < (n : Int) := by omega
        have f0 : (0 : Int) ≤ (j : Int) := by omega
        have ft : ((j : Int)).toNat = j := by omega
        have hbx := HB.out
        obtain ⟨b1, o1, e1, hlt1, hc1⟩ := (H.out.below hbx).2.2.2.2.2 (by omega)
        obtain ⟨b2, o2, e2, hlt2, hc2⟩ := (K.out.below hbx).2.2.2.2.2 (by omega)
        have hx := (H.out.below hbx).way hjn
        have hy := (K.out.below hbx).way hjn
        have hrx := hc1 j hjn
        have hry := hc2 j hjn
        have hRj := HRJ.out
        rw [ways_drop (xs := xs) (by rw [H.out.1]; exact hjn), ways_drop (xs := ys) (by rw [K.out.1]; exact hjn)] at hRj
        revert hx hy hrx hry hRj
        generalize xs.getD j noWay = x
        generalize ys.getD j noWay = y
        intro hx hy hrx hry hRj
        replace hRj : R = (alikeW x y && alikeWs (xs.drop (j + 1)) (ys.drop (j + 1))) := hRj
        subst e1
        subst e2
        have HRJ := Lib.hid hRj
        have RX := Lib.hid hrx
        have RY := Lib.hid (rangeAt_below hry hlt2 (layWay_self wr x))
        have SX := Lib.hid (way_size hx.sum)
        have SY := Lib.hid (way_size hy.sum)
        have AX := Lib.hid (way_sizeA hx.sum)
        have AY := Lib.hid (way_sizeA hy.sum)
        have ZX := Lib.hid (way_zero hx.sum)
        have ZY := Lib.hid (way_zero hy.sum)
        have HX := Lib.hid hx
        have HY := Lib.hid hy
        clear hc1 hc2 hrx hry hRj hx hy hbx H K
        go_upto_region 6 with (first | (refine wpList_load_mid rfl 26 _ rfl b1 (o1 + j * 35) rfl x.cells _ RX.out Tryd.underlying26 rfl SX.out ?_) | (refine wpList_store_row rfl 26 _ _ rfl wr.heap.size x.cells.toArray rfl rfl 26 noWay.cells.toArray (heap_alloc_new _ _) AX.out ZX.out (all_oneCell_toArray x.cells_one) ?_) | fail)
        rw [← noWay_is, layWay_is]
        have h5 := layWay_heap wr x
        have b5 := layWay_self wr x
        have s5 := Lib.hid (layWay_size wr x)
        revert h5 b5 s5 RY
        generalize layWay wr x = w5
        obtain ⟨g, hg⟩ : ∃ g, g = wr.heap.size := ⟨_, rfl⟩
        rw [← hg]
        intro RY h5 b5 s5
        have HG := Lib.hid hg
        clear hg
        try simp only [Act.put]
        go_upto_region 7 with (first | (refine wpList_load_mid rfl 26 _ rfl b2 (o2 + j * 35) rfl y.cells _ RY.out Tryd.underlying26 rfl SY.out ?_) | (refine wpList_store_row rfl 26 _ _ rfl w5.heap.size y.cells.toArray rfl rfl 26 noWay.cells.toArray (heap_alloc_new _ _) AY.out ZY.out (all_oneCell_toArray y.cells_one) ?_) | fail)
        rw [← noWay_is, layWay_is]
        have h6 := layWay_heap w5 y
        have b6 := layWay_self w5 y
        revert h6 b6
        generalize layWay w5 y = w6
        rw [s5.out]
        intro h6 b6
        have s5 := s5.out
        have hg := HG.out
        rw [hg] at b5
        have b56 : Below wr.heap.size wr w6 := b5.trans (b6.mono (by omega))
        have H5 := Lib.hid ((b6.block g (by omega)).trans h5)
        have H6 := Lib.hid h6
        have HB6 := Lib.hid (HB.out.trans (b56.mono HB.out.size))
        have HSW := Lib.hid (sameWay_any (HX.out.below b56) (HY.out.below b56))
        clear h5 b5 b6 h6 b56 hg s5 RX RY
        generalize alikeW x y = r at *
        try simp only [Act.put]
        cases r
        · have hRf : R = false := HRJ.out
          subst hRf
          go_wp2_with (first | (refine wpList_load_row rfl 26 _ rfl g rfl 26 x.cells.toArray (0, 0) _ H5.out Tryd.underlying26 rfl AX.out ?_) | (refine wpList_load_row rfl 26 _ rfl (g + 1) rfl 26 y.cells.toArray (0, 0) _ H6.out Tryd.underlying26 rfl AY.out ?_) | (go_at_call 41; (with_reducible refine HSW.out.mono ?_); rintro e w7 ⟨rfl, hb7⟩; have HB7 := Lib.hid hb7; clear hb7) | fail)
          go_ret
          exact ⟨rfl, HB6.out.trans (HB7.out.mono HB6.out.size)⟩
        · have hRt : R = alikeWs (xs.drop (j + 1)) (ys.drop (j + 1)) := HRJ.out
          have HRN := Lib.hid hRt
          clear hRt HRJ
          go_wp2_with (first | (refine wpList_load_row rfl 26 _ rfl g rfl 26 x.cells.toArray (0, 0) _ H5.out Tryd.underlying26 rfl AX.out ?_) | (refine wpList_load_row rfl 26 _ rfl (g + 1) rfl 26 y.cells.toArray (0, 0) _ H6.out Tryd.underlying26 rfl AY.out ?_) | (go_at_call 41; (with_reducible refine HSW.out.mono ?_); rintro e w7 ⟨rfl, hb7⟩; have HB7 := Lib.hid hb7; clear hb7) | fail)
          go_roundw
          case rel => exact ⟨j + 1, by omega, by go_num, HB6.out.trans (HB7.out.mono HB6.out.size), HRN.out⟩
          case measure => simp [intOf]; omega
      · have f1 : ¬ ((j : Int) < (n : Int)) := by omega
        have e1 : xs.drop j = [] := List.drop_of_length_le (by rw [H.out.1]; omega)
        have e2 : ys.drop j = [] := List.drop_of_length_le (by rw [K.out.1]; omega)
        have hRt : R = true := by rw [HRJ.out, e1, e2]; rfl
        subst hRt
        clear e1 e2 HRJ
        go_wp2
        go_ret
        exact ⟨rfl, HB.out⟩
  · have hne : ¬ ((n : Int) = (m : Int)) := by omega
    rw [alikeWs_len (by rw [h.1, k.1]; exact hnm)]
    clear h k
    go_enter Tryd.func40, Tryd.ntmps40
    go_wp2
    go_ret
    exact ⟨rfl, Below.refl _ _⟩
end Go.Proofs.YtdaafeaeinomoaaDoor
