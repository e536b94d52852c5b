/- Ways and outs in memory: what they read as. No function of the program is named. Which ways may be: plainly, and what package lock's rise, rightHeight and Right come to. Which ways and outs are alike: plainly, and what slices.Equal, sameWay, EqualFunc, Same come to. A way is laid into a new block; and the outs that EqualFunc and Same tell alike. Outs: what RightOut, Same, To and Sole come to. -/
import Derived.Test.YtkihmhchdenamaaNumbers
import Derived.Test.YtkihmhchdenamaaMemory
import Derived.Deep.CutRange
import Derived.Deep.QuietTactic
import Derived.BigQuiet
import Derived.BigRegion
import Derived.Outline
import Derived.Stop.BytesEq
import Derived.IntWalk
import Derived.WalkSmall
import Derived.Test.YtkihmhchdenamaaShelf
import Derived.Test.YtkihmhchdenamaaWanted
namespace Go.Proofs.Ytkihmhchdenamaa
open Go.RowKit

/-- What a way has, and where its keys lie. -/
structure PWay where
  a : Option Addr
  n : Nat
  c : Nat
  ks : List Int
  h : List UInt8
  after : Int
  wait : Int
def noWay : PWay := ⟨none, 0, 0, [], zero32, 0, 0⟩
def PWay.cells (x : PWay) : List Value := .slice x.a x.n x.c :: (cellsOf x.h ++ [.int .i64 x.after, .int .i64 x.wait])
/-- A way that may stand in this world. -/
structure WayIn (w : World) (x : PWay) : Prop where
  keys : Numbers w x.a x.n x.c x.ks
  sum : x.h.length = 32
  after : Fits x.after
  wait : Fits x.wait
theorem WayIn.below {w w' : World} {x : PWay} (h : WayIn w x) (hb : Below w.heap.size w w') : WayIn w' x := ⟨h.keys.below hb, h.sum, h.after, h.wait⟩
theorem zero32_len : zero32.length = 32 := by decide
theorem WayIn.none (w : World) : WayIn w noWay := ⟨Numbers.nil w, zero32_len, by constructor <;> decide, by constructor <;> decide⟩
theorem PWay.cells_len {x : PWay} (h : x.h.length = 32) : x.cells.length = 35 := by simp [PWay.cells, cellsOf_len, h]
theorem PWay.cells_one (x : PWay) : ∀ v ∈ x.cells, v.oneCell' = true := by
  intro v hv
  simp only [PWay.cells, List.mem_cons, List.mem_append, List.not_mem_nil, or_false] at hv
  rcases hv with rfl | hv | rfl | rfl
  · rfl
  · exact cellsOf_one _ v hv
  · rfl
  · rfl
/-- The parts of a way whose cells lie somewhere. -/
theorem way_keys {w : World} {b o : Nat} {x : PWay} (h : w.rangeAt b o x.cells) : w.cell? ⟨b, o, none⟩ = some (.slice x.a x.n x.c) := h 0 _ rfl
theorem way_sum {w : World} {b o : Nat} {x : PWay} (hx : x.h.length = 32) (h : w.rangeAt b o x.cells) : w.rangeAt b (o + 1) (cellsOf x.h) := fun j v hv => by
  have hj : j < 32 := by
    have := (List.getElem?_eq_some_iff.1 hv).1
    rw [cellsOf_len, hx] at this
    exact this
  have := h (j + 1) v (by
    show (Value.slice x.a x.n x.c :: (cellsOf x.h ++ [.int .i64 x.after, .int .i64 x.wait]))[j + 1]? = some v
    rw [List.getElem?_cons_succ, List.getElem?_append_left (by rw [cellsOf_len, hx]; exact hj)]
    exact hv)
  rw [show o + 1 + j = o + (j + 1) by omega]
  exact this
theorem way_after {w : World} {b o : Nat} {x : PWay} (hx : x.h.length = 32) (h : w.rangeAt b o x.cells) : w.cell? ⟨b, o + 33, none⟩ = some (.int .i64 x.after) := h 33 _ (by
  show (Value.slice x.a x.n x.c :: (cellsOf x.h ++ [.int .i64 x.after, .int .i64 x.wait]))[32 + 1]? = _
  rw [List.getElem?_cons_succ, List.getElem?_append_right (by rw [cellsOf_len, hx]; omega), cellsOf_len, hx]
  rfl)
theorem way_wait {w : World} {b o : Nat} {x : PWay} (hx : x.h.length = 32) (h : w.rangeAt b o x.cells) : w.cell? ⟨b, o + 34, none⟩ = some (.int .i64 x.wait) := h 34 _ (by
  show (Value.slice x.a x.n x.c :: (cellsOf x.h ++ [.int .i64 x.after, .int .i64 x.wait]))[33 + 1]? = _
  rw [List.getElem?_cons_succ, List.getElem?_append_right (by rw [cellsOf_len, hx]; omega), cellsOf_len, hx]
  rfl)
theorem Try.size35 : (Try.prog.info? 35).map (·.size) = some 35 := by kernel_rfl
theorem way_size {x : PWay} (h : x.h.length = 32) : (Try.prog.info? 35).map (·.size) = some x.cells.length := by rw [PWay.cells_len h]; exact Try.size35
theorem way_sizeA {x : PWay} (h : x.h.length = 32) : (Try.prog.info? 35).map (·.size) = some x.cells.toArray.size := by rw [List.size_toArray]; exact way_size h

/-- A slice of ways. -/
def Ways (w : World) (a : Option Addr) (n c : Nat) (xs : List PWay) : Prop :=
  xs.length = n ∧ n ≤ c ∧ c ≤ maxLen ∧ (a = none → c = 0) ∧ (∀ x ∈ xs, WayIn w x) ∧
  (0 < n → ∃ b off, a = some ⟨b, off, none⟩ ∧ b < w.heap.size ∧ ∀ j, j < n → w.rangeAt b (off + j * 35) (xs.getD j noWay).cells)
theorem Ways.below {w w' : World} {n c : Nat} {a : Option Addr} {xs : List PWay} (h : Ways w a n c xs) (hb : Below w.heap.size w w') : Ways w' a n c xs := by
  obtain ⟨h1, h2, h3, h4, h6, h5⟩ := h
  refine ⟨h1, h2, h3, h4, fun x hx => (h6 x hx).below hb, fun h0 => ?_⟩
  obtain ⟨b, off, rfl, hlt, hc⟩ := h5 h0
  exact ⟨b, off, rfl, Nat.lt_of_lt_of_le hlt hb.size, fun j hj => rangeAt_below (hc j hj) hlt hb⟩
theorem Ways.nil (w : World) : Ways w none 0 0 [] := ⟨rfl, Nat.le_refl _, Nat.zero_le _, fun _ => rfl, (fun _ h => by cases h), fun h => by omega⟩
theorem Ways.way {w : World} {n c j : Nat} {a : Option Addr} {xs : List PWay} (h : Ways w a n c xs) (hj : j < n) : WayIn w (xs.getD j noWay) := by
  have hj' : j < xs.length := by rw [h.1]; exact hj
  rw [List.getD_eq_getElem?_getD, List.getElem?_eq_getElem hj']
  exact h.2.2.2.2.1 _ (List.getElem_mem hj')
/-- A block of one way. -/
theorem ways_one {w : World} {g : Nat} {x : PWay} {t : TypeId} {fr : Nat × Nat} (h : w.heap[g]? = some (.cells x.cells.toArray t fr)) (hx : WayIn w x) : Ways w (some ⟨g, 0, none⟩) 1 1 [x] := by
  refine ⟨rfl, Nat.le_refl _, by unfold maxLen; omega, (fun e => by cases e), fun y hy => by simp at hy; subst hy; exact hx, fun _ => ⟨g, 0, rfl, lt_of_block h, fun j hj => ?_⟩⟩
  obtain rfl : j = 0 := by omega
  exact range_of h
end Go.Proofs.Ytkihmhchdenamaa
namespace Go.Proofs.Ytkihmhchdenamaa
open Go.RowKit

/-- Keys that rise, from 'least' on, none above 255. -/
def rises (least : Int) : List Int → Bool
  | [] => true
  | k :: l => if k < least then false else if 255 < k then false else rises (k + 1) l
theorem rises_low {s k : Int} {l : List Int} (h : k < s) : rises s (k :: l) = false := by unfold rises; rw [if_pos h]
theorem rises_high {s k : Int} {l : List Int} (h : ¬ k < s) (h' : 255 < k) : rises s (k :: l) = false := by unfold rises; rw [if_neg h, if_pos h']
theorem rises_more {s k : Int} {l : List Int} (h : ¬ k < s) (h' : ¬ 255 < k) : rises s (k :: l) = rises (k + 1) l := by rw [rises, if_neg h, if_neg h']
def okHeight (z : Int) : Bool := decide (0 ≤ z ∧ z ≤ 1073741824)
theorem okHeight_yes {z : Int} (h : 0 ≤ z) (h' : z ≤ 1073741824) : okHeight z = true := decide_eq_true ⟨h, h'⟩
theorem okHeight_no {z : Int} (h : z < 0 ∨ 1073741824 < z) : okHeight z = false := decide_eq_false (by omega)
def wayOk (x : PWay) : Bool := decide (x.ks.length ≤ 16) && (rises 0 x.ks && (okHeight x.after && okHeight x.wait))
/-- A way that was laid into a new block. -/
theorem way_boxed {w : World} {x : PWay} (h : WayIn w x) (t : TypeId) : ∃ v, (w.alloc (.cells x.cells.toArray t)) = v ∧ Below w.heap.size w v ∧ w.heap.size < v.heap.size ∧ WayIn v x ∧ v.rangeAt w.heap.size 0 x.cells :=
  ⟨_, rfl, (Below.refl _ _).alloc (Nat.le_refl _) _, by simp, h.below ((Below.refl _ _).alloc (Nat.le_refl _) _), range_of (heap_alloc_new _ _)⟩
end Go.Proofs.Ytkihmhchdenamaa
namespace Go.Proofs.Ytkihmhchdenamaa
open Go.RowKit

def alikeW (x y : PWay) : Bool := decide (x.ks = y.ks) && (decide (x.h = y.h) && (decide (x.after = y.after) && decide (x.wait = y.wait)))
/-- Two slices of numbers are equal. -/
theorem equal_any {w : World} {a b : Option Addr} {n c m d : Nat} {xs ys : List Int} (h : Numbers w a n c xs) (k : Numbers w b m d ys) :
    Calls Try.prog 12 #[.slice a n c, .slice b m d] w fun e w' => e = .returned (.bool (decide (xs = ys))) ∧ Below w.heap.size w w' := by
  have hn : n ≤ 9223372036854775807 := by have h1 := h.2.1; have h2 := h.2.2.1; unfold maxLen at h2; omega
  have hm : m ≤ 9223372036854775807 := by have h1 := k.2.1; have h2 := k.2.2.1; unfold maxLen at h2; omega
  by_cases hnm : n = m
  · subst hnm
    by_cases h0 : n = 0
    · subst h0
      obtain rfl : xs = [] := List.eq_nil_of_length_eq_zero h.1
      obtain rfl : ys = [] := List.eq_nil_of_length_eq_zero k.1
      exact (Try.slices_Equal_int_empty a b c 0 d w hm).mono fun e w' ⟨he, hw⟩ => ⟨by rw [he]; rfl, by rw [hw]; exact Below.refl _ _⟩
    · obtain ⟨b1, o1, rfl, _, hc1⟩ := h.2.2.2.2.2 (by omega)
      obtain ⟨b2, o2, rfl, _, hc2⟩ := k.2.2.2.2.2 (by omega)
      refine (Try.slices_Equal_int b1 o1 n c b2 o2 n d xs ys w (by rw [h.1]; exact Nat.le_refl _) (by rw [k.1]; exact Nat.le_refl _) hn hm (fun j hj => hc1 j (by rw [← h.1]; exact hj)) (fun j hj => hc2 j (by rw [← k.1]; exact hj))).mono ?_
      rintro e w' ⟨he, q, hw⟩
      have e1 : xs.take n = xs := List.take_of_length_le (by rw [h.1]; exact Nat.le_refl _)
      have e2 : ys.take n = ys := List.take_of_length_le (by rw [k.1]; exact Nat.le_refl _)
      rw [e1, e2] at he
      refine ⟨by rw [he]; congr 2; rw [Bool.eq_iff_iff]; simp, by rw [hw]; exact ⟨rfl, rfl, rfl, Nat.le_refl _, fun _ _ => rfl⟩⟩
  · refine (Try.slices_Equal_int_lens a b n c m d w hnm).mono fun e w' ⟨he, hw⟩ => ⟨?_, by rw [hw]; exact Below.refl _ _⟩
    rw [he]
    have : xs ≠ ys := fun e => hnm (by rw [← h.1, ← k.1, e])
    rw [decide_eq_false this]
theorem sumLen {s : List UInt8} (h : s.length = 32) : (Try.prog.info? 23).map (·.size) = some (cellsOf s).length := by rw [cellsOf_len, h]; exact Try.size23
set_option linter.unusedSimpArgs false in
set_option maxRecDepth 100000 in
set_option maxHeartbeats 3200000 in
theorem sameWay_any {w : World} {x y : PWay} (h : WayIn w x) (k : WayIn w y) : Calls Try.prog 8 #[.agg x.cells.toArray, .agg y.cells.toArray] w fun e w' => e = .returned (.bool (alikeW x y)) ∧ Below w.heap.size w w' := by
  obtain ⟨r1, hr1⟩ : ∃ r, decide (x.ks = y.ks) = r := ⟨_, rfl⟩
  obtain ⟨r2, hr2⟩ : ∃ r, decide (x.h = y.h) = r := ⟨_, rfl⟩
  unfold alikeW
  rw [hr1, hr2]
  have heq : ∀ W : World, Below w.heap.size w W → Calls Try.prog 12 #[.slice x.a x.n x.c, .slice y.a y.n y.c] W fun e w' => e = .returned (.bool r1) ∧ Below W.heap.size W w' := fun W hW => by rw [← hr1]; exact equal_any (h.keys.below hW) (k.keys.below hW)
  have q2 : ∀ W : World, (Op.equalIn 10000 23 (.agg (cellsOf x.h).toArray) (.agg (cellsOf y.h).toArray)).run Try.prog W = .ok r2 W := fun W => by rw [← hr2]; exact run_eqSums _ _ h.sum k.sum W
  have HEQ := Lib.hid heq
  have SX := Lib.hid (sumLen h.sum)
  have SY := Lib.hid (sumLen k.sum)
  obtain ⟨p, hp⟩ : ∃ p, p = x.after := ⟨_, rfl⟩
  obtain ⟨q, hq⟩ : ∃ q, q = y.after := ⟨_, rfl⟩
  obtain ⟨p', hp'⟩ : ∃ p, p = x.wait := ⟨_, rfl⟩
  obtain ⟨q', hq'⟩ : ∃ q, q = y.wait := ⟨_, rfl⟩
  rw [← hp, ← hq, ← hp', ← hq']
  obtain ⟨t1, ht1⟩ : ∃ r, decide (p = q) = r := ⟨_, rfl⟩
  obtain ⟨t2, ht2⟩ : ∃ r, decide (p' = q') = r := ⟨_, rfl⟩
  rw [ht1, ht2]
  have hu1 : (p == q) = t1 := by rw [← ht1]; rfl
  have hu2 : (p' == q') = t2 := by rw [← ht2]; rfl
  clear heq hr1 hr2
  go_enter Try.func8, Try.ntmps8
  go_upto_region 1 with (fail)
  obtain ⟨v, hv, hb, hlt, hx, hrg⟩ := way_boxed h 35
  rw [hv]
  obtain ⟨g, hg⟩ : ∃ g, g = w.heap.size := ⟨_, rfl⟩
  rw [← hg] at hrg hlt ⊢
  obtain ⟨v1, hv1, hb1, hlt1, hy1, hrg1⟩ := way_boxed (k.below hb) 35
  have hgs : v.heap.size = g + 1 := by rw [← hv, hg]; simp
  rw [hv1]
  rw [hgs] at hrg1 hlt1
  have hr0 := rangeAt_below hrg hlt hb1
  have HB := Lib.hid (hb.trans (hb1.mono hb.size))
  have c0 := way_keys hr0
  have c1 := way_after h.sum hr0
  have c2 := way_wait h.sum hr0
  have d0 := way_keys hrg1
  have d1 := way_after k.sum hrg1
  have d2 := way_wait k.sum hrg1
  have RX := Lib.hid (way_sum h.sum hr0)
  have RY := Lib.hid (way_sum k.sum hrg1)
  rw [Nat.zero_add] at c1 c2 d1 d2 RX RY
  rw [← hp] at c1
  rw [← hq] at d1
  rw [← hp'] at c2
  rw [← hq'] at d2
  clear hv1 hb1 hrg1 hr0 hrg hv hx hy1 hb hp hq hp' hq' h k hg hgs
  cases r1
  · go_wp2_with (first | (go_at_call 12; (with_reducible refine (HEQ.out _ HB.out).mono ?_); rintro e w' ⟨rfl, hb2⟩; have HB2 := Lib.hid hb2; clear hb2) | fail)
    go_ret
    exact ⟨rfl, HB.out.trans (HB2.out.mono HB.out.size)⟩
  · go_wp2_with fail
    refine (HEQ.out _ HB.out).mono ?_
    rintro e w2 ⟨rfl, hb2⟩
    have HB2 := Lib.hid (HB.out.trans (hb2.mono HB.out.size))
    have hltg : g < v1.heap.size := by omega
    have e1 := (hb2.cell (p := ⟨g, 33, none⟩) hltg).trans c1
    have e2 := (hb2.cell (p := ⟨g, 34, none⟩) hltg).trans c2
    have f1 := (hb2.cell (p := ⟨g + 1, 33, none⟩) hlt1).trans d1
    have f2 := (hb2.cell (p := ⟨g + 1, 34, none⟩) hlt1).trans d2
    have RX2 := Lib.hid (rangeAt_below RX.out hltg hb2)
    have RY2 := Lib.hid (rangeAt_below RY.out hlt1 hb2)
    clear c0 c1 c2 d0 d1 d2 RX RY hb2 hlt hlt1 hltg
    cases r2
    · go_wp2_with (first | (refine wpList_mid_wanted (by rfl) 23 _ rfl g 1 rfl (cellsOf x.h) _ RX2.out Try.underlying23 rfl SX.out ?_) | (refine wpList_mid_wanted (by rfl) 23 _ rfl (g + 1) 1 rfl (cellsOf y.h) _ RY2.out Try.underlying23 rfl SY.out ?_) | fail)
      go_ret
      exact ⟨rfl, HB2.out⟩
    · cases t1
      · go_wp2_with (first | (refine wpList_mid_wanted (by rfl) 23 _ rfl g 1 rfl (cellsOf x.h) _ RX2.out Try.underlying23 rfl SX.out ?_) | (refine wpList_mid_wanted (by rfl) 23 _ rfl (g + 1) 1 rfl (cellsOf y.h) _ RY2.out Try.underlying23 rfl SY.out ?_) | fail)
        go_ret
        exact ⟨rfl, HB2.out⟩
      · go_wp2_with (first | (refine wpList_mid_wanted (by rfl) 23 _ rfl g 1 rfl (cellsOf x.h) _ RX2.out Try.underlying23 rfl SX.out ?_) | (refine wpList_mid_wanted (by rfl) 23 _ rfl (g + 1) 1 rfl (cellsOf y.h) _ RY2.out Try.underlying23 rfl SY.out ?_) | fail)
        go_ret
        exact ⟨rfl, HB2.out⟩
end Go.Proofs.Ytkihmhchdenamaa
namespace Go.Proofs.Ytkihmhchdenamaa
open Go.RowKit

theorem noWay_is : noWay.cells.toArray = #[.slice none 0 0, .int .u8 0, .int .u8 0, .int .u8 0, .int .u8 0, .int .u8 0, .int .u8 0, .int .u8 0, .int .u8 0, .int .u8 0, .int .u8 0, .int .u8 0, .int .u8 0, .int .u8 0, .int .u8 0, .int .u8 0, .int .u8 0, .int .u8 0, .int .u8 0, .int .u8 0, .int .u8 0, .int .u8 0, .int .u8 0, .int .u8 0, .int .u8 0, .int .u8 0, .int .u8 0, .int .u8 0, .int .u8 0, .int .u8 0, .int .u8 0, .int .u8 0, .int .u8 0, .int .i64 0, .int .i64 0] := rfl
/-- A world with one way more. -/
def layWay (w : World) (x : PWay) : World := (w.alloc (.cells noWay.cells.toArray 35)).setRow w.heap.size x.cells.toArray
theorem layWay_is (w : World) (x : PWay) : (w.alloc (.cells noWay.cells.toArray 35)).setRow w.heap.size x.cells.toArray = layWay w x := rfl
theorem layWay_heap (w : World) (x : PWay) : (layWay w x).heap[w.heap.size]? = some (.cells x.cells.toArray 35 (0, 0)) := setRow_heap _ _ _ _ _ _ (heap_alloc_new _ _)
theorem layWay_below {w0 w : World} (x : PWay) (hb : Below w0.heap.size w0 w) : Below w0.heap.size w0 (layWay w x) := by
  have b : Below w0.heap.size w0 (w.alloc (.cells noWay.cells.toArray 35)) := hb.alloc hb.size _
  exact b.trans (((but_setRow _ w.heap.size _).mono b.size).below hb.size)
theorem layWay_self (w : World) (x : PWay) : Below w.heap.size w (layWay w x) := layWay_below x (Below.refl _ _)
theorem layWay_size (w : World) (x : PWay) : (layWay w x).heap.size = w.heap.size + 1 := by simp [layWay, World.setRow]
theorem way_zero {x : PWay} (h : x.h.length = 32) : noWay.cells.toArray.size = x.cells.toArray.size := by rw [List.size_toArray, List.size_toArray, PWay.cells_len h]; rfl
theorem ways_drop {xs : List PWay} {j : Nat} (h : j < xs.length) : xs.drop j = xs.getD j noWay :: xs.drop (j + 1) := by
  rw [List.drop_eq_getElem_cons h]
  simp [List.getD, h]
/-- Ways alike, one by one. -/
def alikeWs : List PWay → List PWay → Bool
  | [], [] => true
  | x :: xs, y :: ys => alikeW x y && alikeWs xs ys
  | _, _ => false
theorem alikeWs_len : ∀ {xs ys : List PWay}, xs.length ≠ ys.length → alikeWs xs ys = false
  | [], [], h => absurd rfl h
  | [], _ :: _, _ => rfl
  | _ :: _, [], _ => rfl
  | x :: xs, y :: ys, h => by
    have := alikeWs_len (xs := xs) (ys := ys) (fun e => h (by simp [e]))
    simp [alikeWs, this]
set_option linter.unusedSimpArgs false in
set_option maxRecDepth 100000 in
set_option maxHeartbeats 3200000 in
theorem equalFunc_any {w : World} {a b : Option Addr} {n c m d : Nat} {xs ys : List PWay} (h : Ways w a n c xs) (k : Ways w b m d ys) :
    Calls Try.prog 7 #[.slice a n c, .slice b m d, .func (.func 8) #[] #[]] w fun e w' => e = .returned (.bool (alikeWs xs ys)) ∧ Below w.heap.size w w' := by
  have hn63 : (n : Int) ≤ 9223372036854775807 := by have h1 := h.2.1; have h2 := h.2.2.1; unfold maxLen at h2; omega
  have hm63 : (m : Int) ≤ 9223372036854775807 := by have h1 := k.2.1; have h2 := k.2.2.1; unfold maxLen at h2; omega
  by_cases hnm : n = m
  · subst hnm
    obtain ⟨R, hR⟩ : ∃ R, R = alikeWs xs ys := ⟨_, rfl⟩
    rw [← hR]
    have H := Lib.hid h
    have K := Lib.hid k
    have HR := Lib.hid hR
    clear h k hR
    go_enter Try.func7, Try.ntmps7
    go_upto_region 4 with (fail)
    go_loopw [17] (fun x wr => ∃ j : Nat, j ≤ n ∧ x = .int .i64 j ∧ Below w.heap.size w wr ∧ R = alikeWs (xs.drop j) (ys.drop j)) (fun x _ => n - (intOf x).toNat)
    case atStart => exact ⟨0, Nat.zero_le _, rfl, Below.refl _ _, HR.out⟩
    case round =>
      obtain ⟨j, hj, rfl, hb, hRj⟩ := hrel
      have HB := Lib.hid hb
      have HRJ := Lib.hid hRj
      clear hb hRj HR
      by_cases hjn : j < n
      · have f1 : (j : Int) < (n : Int) := by omega
        have f0 : (0 : Int) ≤ (j : Int) := by omega
        have ft : ((j : Int)).toNat = j := by omega
        have hbx := HB.out
        obtain ⟨b1, o1, e1, hlt1, hc1⟩ := (H.out.below hbx).2.2.2.2.2 (by omega)
        obtain ⟨b2, o2, e2, hlt2, hc2⟩ := (K.out.below hbx).2.2.2.2.2 (by omega)
        have hx := (H.out.below hbx).way hjn
        have hy := (K.out.below hbx).way hjn
        have hrx := hc1 j hjn
        have hry := hc2 j hjn
        have hRj := HRJ.out
        rw [ways_drop (xs := xs) (by rw [H.out.1]; exact hjn), ways_drop (xs := ys) (by rw [K.out.1]; exact hjn)] at hRj
        revert hx hy hrx hry hRj
        generalize xs.getD j noWay = x
        generalize ys.getD j noWay = y
        intro hx hy hrx hry hRj
        replace hRj : R = (alikeW x y && alikeWs (xs.drop (j + 1)) (ys.drop (j + 1))) := hRj
        subst e1
        subst e2
        have HRJ := Lib.hid hRj
        have RX := Lib.hid hrx
        have RY := Lib.hid (rangeAt_below hry hlt2 (layWay_self wr x))
        have SX := Lib.hid (way_size hx.sum)
        have SY := Lib.hid (way_size hy.sum)
        have AX := Lib.hid (way_sizeA hx.sum)
        have AY := Lib.hid (way_sizeA hy.sum)
        have ZX := Lib.hid (way_zero hx.sum)
        have ZY := Lib.hid (way_zero hy.sum)
        have HX := Lib.hid hx
        have HY := Lib.hid hy
        clear hc1 hc2 hrx hry hRj hx hy hbx H K
        go_upto_region 6 with (first | (refine wpList_load_mid rfl 35 _ rfl b1 (o1 + j * 35) rfl x.cells _ RX.out Try.underlying35 rfl SX.out ?_) | (refine wpList_store_row rfl 35 _ _ rfl wr.heap.size x.cells.toArray rfl rfl 35 noWay.cells.toArray (heap_alloc_new _ _) AX.out ZX.out (all_oneCell_toArray x.cells_one) ?_) | fail)
        rw [← noWay_is, layWay_is]
        have h5 := layWay_heap wr x
        have b5 := layWay_self wr x
        have s5 := Lib.hid (layWay_size wr x)
        revert h5 b5 s5 RY
        generalize layWay wr x = w5
        obtain ⟨g, hg⟩ : ∃ g, g = wr.heap.size := ⟨_, rfl⟩
        rw [← hg]
        intro RY h5 b5 s5
        have HG := Lib.hid hg
        clear hg
        try simp only [Act.put]
        go_upto_region 7 with (first | (refine wpList_load_mid rfl 35 _ rfl b2 (o2 + j * 35) rfl y.cells _ RY.out Try.underlying35 rfl SY.out ?_) | (refine wpList_store_row rfl 35 _ _ rfl w5.heap.size y.cells.toArray rfl rfl 35 noWay.cells.toArray (heap_alloc_new _ _) AY.out ZY.out (all_oneCell_toArray y.cells_one) ?_) | fail)
        rw [← noWay_is, layWay_is]
        have h6 := layWay_heap w5 y
        have b6 := layWay_self w5 y
        revert h6 b6
        generalize layWay w5 y = w6
        rw [s5.out]
        intro h6 b6
        have s5 := s5.out
        have hg := HG.out
        rw [hg] at b5
        have b56 : Below wr.heap.size wr w6 := b5.trans (b6.mono (by omega))
        have H5 := Lib.hid ((b6.block g (by omega)).trans h5)
        have H6 := Lib.hid h6
        have HB6 := Lib.hid (HB.out.trans (b56.mono HB.out.size))
        have HSW := Lib.hid (sameWay_any (HX.out.below b56) (HY.out.below b56))
        clear h5 b5 b6 h6 b56 hg s5 RX RY
        generalize alikeW x y = r at *
        try simp only [Act.put]
        cases r
        · have hRf : R = false := HRJ.out
          subst hRf
          go_wp2_with (first | (refine wpList_load_row rfl 35 _ rfl g rfl 35 x.cells.toArray (0, 0) _ H5.out Try.underlying35 rfl AX.out ?_) | (refine wpList_load_row rfl 35 _ rfl (g + 1) rfl 35 y.cells.toArray (0, 0) _ H6.out Try.underlying35 rfl AY.out ?_) | (go_at_call 8; (with_reducible refine HSW.out.mono ?_); rintro e w7 ⟨rfl, hb7⟩; have HB7 := Lib.hid hb7; clear hb7) | fail)
          go_ret
          exact ⟨rfl, HB6.out.trans (HB7.out.mono HB6.out.size)⟩
        · have hRt : R = alikeWs (xs.drop (j + 1)) (ys.drop (j + 1)) := HRJ.out
          have HRN := Lib.hid hRt
          clear hRt HRJ
          go_wp2_with (first | (refine wpList_load_row rfl 35 _ rfl g rfl 35 x.cells.toArray (0, 0) _ H5.out Try.underlying35 rfl AX.out ?_) | (refine wpList_load_row rfl 35 _ rfl (g + 1) rfl 35 y.cells.toArray (0, 0) _ H6.out Try.underlying35 rfl AY.out ?_) | (go_at_call 8; (with_reducible refine HSW.out.mono ?_); rintro e w7 ⟨rfl, hb7⟩; have HB7 := Lib.hid hb7; clear hb7) | fail)
          go_roundw
          case rel => exact ⟨j + 1, by omega, by go_num, HB6.out.trans (HB7.out.mono HB6.out.size), HRN.out⟩
          case measure => simp [intOf]; omega
      · have f1 : ¬ ((j : Int) < (n : Int)) := by omega
        have e1 : xs.drop j = [] := List.drop_of_length_le (by rw [H.out.1]; omega)
        have e2 : ys.drop j = [] := List.drop_of_length_le (by rw [K.out.1]; omega)
        have hRt : R = true := by rw [HRJ.out, e1, e2]; rfl
        subst hRt
        clear e1 e2 HRJ
        go_wp2
        go_ret
        exact ⟨rfl, HB.out⟩
  · have hne : ¬ ((n : Int) = (m : Int)) := by omega
    rw [alikeWs_len (by rw [h.1, k.1]; exact hnm)]
    clear h k
    go_enter Try.func7, Try.ntmps7
    go_wp2
    go_ret
    exact ⟨rfl, Below.refl _ _⟩
end Go.Proofs.Ytkihmhchdenamaa
namespace Go.Proofs.Ytkihmhchdenamaa
open Go.RowKit

/-- An out may be. -/
def outOk (m : Int) (xs : List PWay) : Bool := decide (0 ≤ m ∧ m ≤ 1125899906842624) && (decide (1 ≤ xs.length ∧ xs.length ≤ 16) && xs.all wayOk)
theorem lockSame_any {w : World} {m m' : Int} {a b : Option Addr} {n c k d : Nat} {xs ys : List PWay} (h : Ways w a n c xs) (h' : Ways w b k d ys) :
    Calls Try.prog 4 #[.agg #[.int .i64 m, .slice a n c], .agg #[.int .i64 m', .slice b k d]] w fun e w' => e = .returned (.bool (decide (m = m') && alikeWs xs ys)) ∧ Below w.heap.size w w' := by
  have b1 : Below w.heap.size w ((w.alloc (.cells #[.int .i64 m, .slice a n c] 31)).alloc (.cells #[.int .i64 m', .slice b k d] 31)) := ((Below.refl _ _).alloc (Nat.le_refl _) _).alloc (by simp) _
  have HC := Lib.hid (equalFunc_any (h.below b1) (h'.below b1))
  have HB := Lib.hid b1
  generalize alikeWs xs ys = r at *
  clear h h' b1
  by_cases hm : m = m'
  · subst hm
    rw [decide_eq_true rfl, Bool.true_and]
    go_enter Try.func4, Try.ntmps4
    go_wp2_with (first | (go_at_call 7; (with_reducible refine HC.out.mono ?_); rintro e w7 ⟨rfl, hb7⟩; have HB7 := Lib.hid hb7; clear hb7) | fail)
    go_ret
    exact ⟨rfl, HB.out.trans (HB7.out.mono HB.out.size)⟩
  · rw [decide_eq_false hm, Bool.false_and]
    have hm' : (m == m') = false := by simpa using hm
    go_enter Try.func4, Try.ntmps4
    go_wp2
    go_ret
    exact ⟨rfl, HB.out⟩
theorem to_any (key m : Int) (w : World) (hk : Fits key) : Calls Try.prog 24 #[.int .i64 key, .int .i64 m] w fun e w' => ∃ (a b : Option Addr), e = .returned (.agg #[.int .i64 m, .slice a 1 1]) ∧ Ways w' a 1 1 [⟨b, 1, 1, [key], zero32, 0, 0⟩] ∧ Below w.heap.size w w' := by
  go_enter Try.func24, Try.ntmps24
  go_wp2
  refine bodyPost_ret (results_cell_row rfl _ _ w.heap.size 31 #[.int .i64 m, .slice (some ⟨w.heap.size + 1 + 1, 0, none⟩) 1 1] (0, 0) _ rfl (by rw [heap_alloc_old _ _ (by simp; omega), heap_alloc_old _ _ (by simp)]; exact heap_alloc_new _ _) Try.underlying31 rfl (by kernel_rfl)) rfl ?_
  refine ⟨some ⟨w.heap.size + 1 + 1, 0, none⟩, some ⟨w.heap.size + 1, 0, none⟩, rfl, ways_one (x := ⟨some ⟨w.heap.size + 1, 0, none⟩, 1, 1, [key], zero32, 0, 0⟩) (t := 35) (fr := (0, 0)) ?_ ⟨numbers_one (t := 3) (fr := (0, 0)) ?_ hk, zero32_len, ?_, ?_⟩, ?_⟩
  · exact heap_alloc_at _ _ _ (by simp)
  · rw [heap_alloc_old _ _ (by simp)]
    exact heap_alloc_at _ _ _ (by simp)
  · show Fits 0
    constructor <;> decide
  · show Fits 0
    constructor <;> decide
  · exact (((Below.refl _ _).alloc (Nat.le_refl _) _).alloc (by simp) _).alloc (by simp; omega) _
end Go.Proofs.Ytkihmhchdenamaa
