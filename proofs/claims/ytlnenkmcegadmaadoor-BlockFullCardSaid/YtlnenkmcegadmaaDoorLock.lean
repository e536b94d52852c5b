/- Ways and outs in memory: what they read as. No function of the program is named. Which ways may be: plainly, and what package lock's rise, rightHeight and Right come to. Which ways and outs are alike: plainly, and what slices.Equal, sameWay, EqualFunc, Same come to. A way is laid into a new block; and the outs that EqualFunc and Same tell alike. Outs: what RightOut, Same, To and Sole come to. What Sole comes to. What ways say, without where they lie. No function of the program is named. An out's bytes, and the out that is read of bytes: plainly; each is the other's. What lock.Put comes to: an out's bytes are written. -/
import Derived.Test.YtlnenkmcegadmaaDoorNumbers
import Derived.Test.YtlnenkmcegadmaaDoorMemory
import Derived.Deep.CutRange
import Derived.Deep.QuietTactic
import Derived.BigQuiet
import Derived.BigRegion
import Derived.Outline
import Derived.Stop.BytesEq
import Derived.IntWalk
import Derived.WalkSmall
import Derived.Test.YtlnenkmcegadmaaDoorShelf
import Derived.Test.YtlnenkmcegadmaaDoorWanted
import Derived.Test.YtlnenkmcegadmaaDoorWire
namespace Go.Proofs.YtlnenkmcegadmaaDoor
open Go.RowKit

/-- What a way has, and where its keys lie. -/
structure PWay where
  a : Option Addr
  n : Nat
  c : Nat
  ks : List Int
  h : List UInt8
  after : Int
  wait : Int
def noWay : PWay := ⟨none, 0, 0, [], zero32, 0, 0⟩
def PWay.cells (x : PWay) : List Value := .slice x.a x.n x.c :: (cellsOf x.h ++ [.int .i64 x.after, .int .i64 x.wait])
/-- A way that may stand in this world. -/
structure WayIn (w : World) (x : PWay) : Prop where
  keys : Numbers w x.a x.n x.c x.ks
  sum : x.h.length = 32
  after : Fits x.after
  wait : Fits x.wait
theorem WayIn.below {w w' : World} {x : PWay} (h : WayIn w x) (hb : Below w.heap.size w w') : WayIn w' x := ⟨h.keys.below hb, h.sum, h.after, h.wait⟩
theorem zero32_len : zero32.length = 32 := by decide
theorem WayIn.none (w : World) : WayIn w noWay := ⟨Numbers.nil w, zero32_len, by constructor <;> decide, by constructor <;> decide⟩
theorem PWay.cells_len {x : PWay} (h : x.h.length = 32) : x.cells.length = 35 := by simp [PWay.cells, cellsOf_len, h]
theorem PWay.cells_one (x : PWay) : ∀ v ∈ x.cells, v.oneCell' = true := by
  intro v hv
  simp only [PWay.cells, List.mem_cons, List.mem_append, List.not_mem_nil, or_false] at hv
  rcases hv with rfl | hv | rfl | rfl
  · rfl
  · exact cellsOf_one _ v hv
  · rfl
  · rfl
/-- The parts of a way whose cells lie somewhere. -/
theorem way_keys {w : World} {b o : Nat} {x : PWay} (h : w.rangeAt b o x.cells) : w.cell? ⟨b, o, none⟩ = some (.slice x.a x.n x.c) := h 0 _ rfl
theorem way_sum {w : World} {b o : Nat} {x : PWay} (hx : x.h.length = 32) (h : w.rangeAt b o x.cells) : w.rangeAt b (o + 1) (cellsOf x.h) := fun j v hv => by
  have hj : j < 32 := by
    have := (List.getElem?_eq_some_iff.1 hv).1
    rw [cellsOf_len, hx] at this
    exact this
  have := h (j + 1) v (by
    show (Value.slice x.a x.n x.c :: (cellsOf x.h ++ [.int .i64 x.after, .int .i64 x.wait]))[j + 1]? = some v
    rw [List.getElem?_cons_succ, List.getElem?_append_left (by rw [cellsOf_len, hx]; exact hj)]
    exact hv)
  rw [show o + 1 + j = o + (j + 1) by omega]
  exact this
theorem way_after {w : World} {b o : Nat} {x : PWay} (hx : x.h.length = 32) (h : w.rangeAt b o x.cells) : w.cell? ⟨b, o + 33, none⟩ = some (.int .i64 x.after) := h 33 _ (by
  show (Value.slice x.a x.n x.c :: (cellsOf x.h ++ [.int .i64 x.after, .int .i64 x.wait]))[32 + 1]? = _
  rw [List.getElem?_cons_succ, List.getElem?_append_right (by rw [cellsOf_len, hx]; omega), cellsOf_len, hx]
  rfl)
theorem way_wait {w : World} {b o : Nat} {x : PWay} (hx : x.h.length = 32) (h : w.rangeAt b o x.cells) : w.cell? ⟨b, o + 34, none⟩ = some (.int .i64 x.wait) := h 34 _ (by
  show (Value.slice x.a x.n x.c :: (cellsOf x.h ++ [.int .i64 x.after, .int .i64 x.wait]))[33 + 1]? = _
  rw [List.getElem?_cons_succ, List.getElem?_append_right (by rw [cellsOf_len, hx]; omega), cellsOf_len, hx]
  rfl)
theorem Tryd.size82 : (Tryd.prog.info? 82).map (·.size) = some 35 := by kernel_rfl
theorem way_size {x : PWay} (h : x.h.length = 32) : (Tryd.prog.info? 82).map (·.size) = some x.cells.length := by rw [PWay.cells_len h]; exact Tryd.size82
theorem way_sizeA {x : PWay} (h : x.h.length = 32) : (Tryd.prog.info? 82).map (·.size) = some x.cells.toArray.size := by rw [List.size_toArray]; exact way_size h

/-- A slice of ways. -/
def Ways (w : World) (a : Option Addr) (n c : Nat) (xs : List PWay) : Prop :=
  xs.length = n ∧ n ≤ c ∧ c ≤ maxLen ∧ (a = none → c = 0) ∧ (∀ x ∈ xs, WayIn w x) ∧
  (0 < n → ∃ b off, a = some ⟨b, off, none⟩ ∧ b < w.heap.size ∧ ∀ j, j < n → w.rangeAt b (off + j * 35) (xs.getD j noWay).cells)
theorem Ways.below {w w' : World} {n c : Nat} {a : Option Addr} {xs : List PWay} (h : Ways w a n c xs) (hb : Below w.heap.size w w') : Ways w' a n c xs := by
  obtain ⟨h1, h2, h3, h4, h6, h5⟩ := h
  refine ⟨h1, h2, h3, h4, fun x hx => (h6 x hx).below hb, fun h0 => ?_⟩
  obtain ⟨b, off, rfl, hlt, hc⟩ := h5 h0
  exact ⟨b, off, rfl, Nat.lt_of_lt_of_le hlt hb.size, fun j hj => rangeAt_below (hc j hj) hlt hb⟩
theorem Ways.nil (w : World) : Ways w none 0 0 [] := ⟨rfl, Nat.le_refl _, Nat.zero_le _, fun _ => rfl, (fun _ h => by cases h), fun h => by omega⟩
theorem Ways.way {w : World} {n c j : Nat} {a : Option Addr} {xs : List PWay} (h : Ways w a n c xs) (hj : j < n) : WayIn w (xs.getD j noWay) := by
  have hj' : j < xs.length := by rw [h.1]; exact hj
  rw [List.getD_eq_getElem?_getD, List.getElem?_eq_getElem hj']
  exact h.2.2.2.2.1 _ (List.getElem_mem hj')
/-- A block of one way. -/
theorem ways_one {w : World} {g : Nat} {x : PWay} {t : TypeId} {fr : Nat × Nat} (h : w.heap[g]? = some (.cells x.cells.toArray t fr)) (hx : WayIn w x) : Ways w (some ⟨g, 0, none⟩) 1 1 [x] := by
  refine ⟨rfl, Nat.le_refl _, by unfold maxLen; omega, (fun e => by cases e), fun y hy => by simp at hy; subst hy; exact hx, fun _ => ⟨g, 0, rfl, lt_of_block h, fun j hj => ?_⟩⟩
  obtain rfl : j = 0 := by omega
  exact range_of h
end Go.Proofs.YtlnenkmcegadmaaDoor
namespace Go.Proofs.YtlnenkmcegadmaaDoor
open Go.RowKit

/-- Keys that rise, from 'least' on, none above 255. -/
def rises (least : Int) : List Int → Bool
  | [] => true
  | k :: l => if k < least then false else if 255 < k then false else rises (k + 1) l
theorem rises_low {s k : Int} {l : List Int} (h : k < s) : rises s (k :: l) = false := by unfold rises; rw [if_pos h]
theorem rises_high {s k : Int} {l : List Int} (h : ¬ k < s) (h' : 255 < k) : rises s (k :: l) = false := by unfold rises; rw [if_neg h, if_pos h']
theorem rises_more {s k : Int} {l : List Int} (h : ¬ k < s) (h' : ¬ 255 < k) : rises s (k :: l) = rises (k + 1) l := by rw [rises, if_neg h, if_neg h']
def okHeight (z : Int) : Bool := decide (0 ≤ z ∧ z ≤ 1073741824)
theorem okHeight_yes {z : Int} (h : 0 ≤ z) (h' : z ≤ 1073741824) : okHeight z = true := decide_eq_true ⟨h, h'⟩
theorem okHeight_no {z : Int} (h : z < 0 ∨ 1073741824 < z) : okHeight z = false := decide_eq_false (by omega)
def wayOk (x : PWay) : Bool := decide (x.ks.length ≤ 16) && (rises 0 x.ks && (okHeight x.after && okHeight x.wait))
/-- A way that was laid into a new block. -/
theorem way_boxed {w : World} {x : PWay} (h : WayIn w x) (t : TypeId) : ∃ v, (w.alloc (.cells x.cells.toArray t)) = v ∧ Below w.heap.size w v ∧ w.heap.size < v.heap.size ∧ WayIn v x ∧ v.rangeAt w.heap.size 0 x.cells :=
  ⟨_, rfl, (Below.refl _ _).alloc (Nat.le_refl _) _, by simp, h.below ((Below.refl _ _).alloc (Nat.le_refl _) _), range_of (heap_alloc_new _ _)⟩
end Go.Proofs.YtlnenkmcegadmaaDoor
namespace Go.Proofs.YtlnenkmcegadmaaDoor
open Go.RowKit

def alikeW (x y : PWay) : Bool := decide (x.ks = y.ks) && (decide (x.h = y.h) && (decide (x.after = y.after) && decide (x.wait = y.wait)))
theorem sumLen {s : List UInt8} (h : s.length = 32) : (Tryd.prog.info? 23).map (·.size) = some (cellsOf s).length := by rw [cellsOf_len, h]; exact Tryd.size23
end Go.Proofs.YtlnenkmcegadmaaDoor
namespace Go.Proofs.YtlnenkmcegadmaaDoor
open Go.RowKit

theorem noWay_is : noWay.cells.toArray = #[.slice none 0 0, .int .u8 0, .int .u8 0, .int .u8 0, .int .u8 0, .int .u8 0, .int .u8 0, .int .u8 0, .int .u8 0, .int .u8 0, .int .u8 0, .int .u8 0, .int .u8 0, .int .u8 0, .int .u8 0, .int .u8 0, .int .u8 0, .int .u8 0, .int .u8 0, .int .u8 0, .int .u8 0, .int .u8 0, .int .u8 0, .int .u8 0, .int .u8 0, .int .u8 0, .int .u8 0, .int .u8 0, .int .u8 0, .int .u8 0, .int .u8 0, .int .u8 0, .int .u8 0, .int .i64 0, .int .i64 0] := rfl
/-- A world with one way more. -/
def layWay (w : World) (x : PWay) : World := (w.alloc (.cells noWay.cells.toArray 82)).setRow w.heap.size x.cells.toArray
theorem layWay_is (w : World) (x : PWay) : (w.alloc (.cells noWay.cells.toArray 82)).setRow w.heap.size x.cells.toArray = layWay w x := rfl
theorem layWay_heap (w : World) (x : PWay) : (layWay w x).heap[w.heap.size]? = some (.cells x.cells.toArray 82 (0, 0)) := setRow_heap _ _ _ _ _ _ (heap_alloc_new _ _)
theorem layWay_below {w0 w : World} (x : PWay) (hb : Below w0.heap.size w0 w) : Below w0.heap.size w0 (layWay w x) := by
  have b : Below w0.heap.size w0 (w.alloc (.cells noWay.cells.toArray 82)) := hb.alloc hb.size _
  exact b.trans (((but_setRow _ w.heap.size _).mono b.size).below hb.size)
theorem layWay_self (w : World) (x : PWay) : Below w.heap.size w (layWay w x) := layWay_below x (Below.refl _ _)
theorem layWay_size (w : World) (x : PWay) : (layWay w x).heap.size = w.heap.size + 1 := by simp [layWay, World.setRow]
theorem way_zero {x : PWay} (h : x.h.length = 32) : noWay.cells.toArray.size = x.cells.toArray.size := by rw [List.size_toArray, List.size_toArray, PWay.cells_len h]; rfl
theorem ways_drop {xs : List PWay} {j : Nat} (h : j < xs.length) : xs.drop j = xs.getD j noWay :: xs.drop (j + 1) := by
  rw [List.drop_eq_getElem_cons h]
  simp [List.getD, h]
/-- Ways alike, one by one. -/
def alikeWs : List PWay → List PWay → Bool
  | [], [] => true
  | x :: xs, y :: ys => alikeW x y && alikeWs xs ys
  | _, _ => false
theorem alikeWs_len : ∀ {xs ys : List PWay}, xs.length ≠ ys.length → alikeWs xs ys = false
  | [], [], h => absurd rfl h
  | [], _ :: _, _ => rfl
  | _ :: _, [], _ => rfl
  | x :: xs, y :: ys, h => by
    have := alikeWs_len (xs := xs) (ys := ys) (fun e => h (by simp [e]))
    simp [alikeWs, this]
end Go.Proofs.YtlnenkmcegadmaaDoor
namespace Go.Proofs.YtlnenkmcegadmaaDoor
open Go.RowKit

/-- An out may be. -/
def outOk (m : Int) (xs : List PWay) : Bool := decide (0 ≤ m ∧ m ≤ 1125899906842624) && (decide (1 ≤ xs.length ∧ xs.length ≤ 16) && xs.all wayOk)
end Go.Proofs.YtlnenkmcegadmaaDoor
namespace Go.Proofs.YtlnenkmcegadmaaDoor
open Go.RowKit

/-- An out is spent by a key alone. -/
def soleW (key : Int) : List PWay → Bool
  | [x] => decide (x.ks = [key]) && (decide (x.h = zero32) && (decide (x.after = 0) && decide (x.wait = 0)))
  | _ => false
theorem sole_alike (b : Option Addr) (key : Int) (xs : List PWay) : alikeWs xs [⟨b, 1, 1, [key], zero32, 0, 0⟩] = soleW key xs := by
  match xs with
  | [] => rfl
  | [x] => simp [alikeWs, soleW, alikeW]
  | x :: y :: l => simp [alikeWs, soleW]
end Go.Proofs.YtlnenkmcegadmaaDoor
namespace Go.Proofs.YtlnenkmcegadmaaDoor
open Go.RowKit

/-- What a way says, without where it lies. -/
def PWay.strip (x : PWay) : PWay := ⟨none, 0, 0, x.ks, x.h, x.after, x.wait⟩
theorem alikeW_strip {x y : PWay} : alikeW x y = true ↔ x.strip = y.strip := by
  unfold alikeW PWay.strip
  simp
theorem alikeWs_strip : ∀ {xs ys : List PWay}, alikeWs xs ys = true ↔ xs.map PWay.strip = ys.map PWay.strip
  | [], [] => by simp [alikeWs]
  | [], y :: ys => by simp [alikeWs]
  | x :: xs, [] => by simp [alikeWs]
  | x :: xs, y :: ys => by simp only [alikeWs, Bool.and_eq_true, alikeW_strip, alikeWs_strip (xs := xs) (ys := ys), List.map_cons, List.cons.injEq]
theorem wayOk_strip (x : PWay) : wayOk x.strip = wayOk x := rfl
theorem outOk_strip (m : Int) (xs : List PWay) : outOk m (xs.map PWay.strip) = outOk m xs := by
  unfold outOk
  rw [List.length_map, List.all_map]
  rfl
end Go.Proofs.YtlnenkmcegadmaaDoor
namespace Go.Proofs.YtlnenkmcegadmaaDoor
open Go.RowKit

/-- The bytes. -/
def wayB (x : PWay) : List UInt8 := numB (x.ks.length : Nat) ++ (numsB x.ks ++ (x.h ++ numsB [x.after, x.wait]))
def waysB : List PWay → List UInt8
  | [] => []
  | x :: xs => wayB x ++ waysB xs
def outB (m : Int) (xs : List PWay) : List UInt8 := numsB [m, (xs.length : Nat)] ++ waysB xs
theorem waysB_snoc : ∀ (xs : List PWay) (x : PWay), waysB (xs ++ [x]) = waysB xs ++ wayB x
  | [], x => by simp [waysB]
  | y :: xs, x => by simp [waysB, waysB_snoc xs x]
theorem waysB_take (xs : List PWay) (k : Nat) (h : k < xs.length) : waysB (xs.take (k + 1)) = waysB (xs.take k) ++ wayB (xs.getD k noWay) := by
  rw [List.take_succ_eq_append_getElem h, waysB_snoc]
  simp [List.getD, h]
theorem waysB_drop (xs : List PWay) (k : Nat) (h : k < xs.length) : waysB (xs.drop k) = wayB (xs.getD k noWay) ++ waysB (xs.drop (k + 1)) := by
  rw [List.drop_eq_getElem_cons h]
  simp [waysB, List.getD, h]
theorem wayB_strip (x : PWay) : wayB x.strip = wayB x := rfl
theorem waysB_strip : ∀ xs : List PWay, waysB (xs.map PWay.strip) = waysB xs
  | [] => rfl
  | x :: xs => by simp [waysB, waysB_strip xs, wayB_strip]
theorem outB_strip (m : Int) (xs : List PWay) : outB m (xs.map PWay.strip) = outB m xs := by
  unfold outB
  rw [waysB_strip, List.length_map]
theorem wayB_len {x : PWay} (h : x.h.length = 32) : (wayB x).length ≤ 59 + 9 * x.ks.length := by
  have h1 := (numB_len (x.ks.length : Nat)).2
  have h2 := numsB_len x.ks
  have h3 := numsB_len [x.after, x.wait]
  simp only [List.length_cons, List.length_nil] at h3
  unfold wayB
  simp only [List.length_append, h]
  omega
theorem waysB_len {K : Nat} : ∀ {xs : List PWay}, (∀ x ∈ xs, x.h.length = 32 ∧ x.ks.length ≤ K) → (waysB xs).length ≤ xs.length * (59 + 9 * K)
  | [], _ => by simp [waysB]
  | x :: xs, h => by
    have ih := waysB_len (xs := xs) (fun y hy => h y (by simp [hy]))
    obtain ⟨h1, h2⟩ := h x (by simp)
    have h3 := wayB_len h1
    simp only [waysB, List.length_append, List.length_cons, Nat.add_mul]
    omega
/-- A way, ways, an out are read. -/
def wayR (s : List UInt8 × Int) : PWay × (List UInt8 × Int) :=
  (⟨none, 0, 0, (numsR 255 (upR s 16).1.toNat (upR s 16).2).1, (sumR (numsR 255 (upR s 16).1.toNat (upR s 16).2).2).1,
    (upR (sumR (numsR 255 (upR s 16).1.toNat (upR s 16).2).2).2 1073741824).1,
    (upR (upR (sumR (numsR 255 (upR s 16).1.toNat (upR s 16).2).2).2 1073741824).2 1073741824).1⟩,
   (upR (upR (sumR (numsR 255 (upR s 16).1.toNat (upR s 16).2).2).2 1073741824).2 1073741824).2)
theorem wayR_is {s s1 s2 s3 s4 s5 : List UInt8 × Int} {n a b : Int} {ks : List Int} {h : List UInt8} (e1 : upR s 16 = (n, s1)) (e2 : numsR 255 n.toNat s1 = (ks, s2)) (e3 : sumR s2 = (h, s3)) (e4 : upR s3 1073741824 = (a, s4)) (e5 : upR s4 1073741824 = (b, s5)) : wayR s = (⟨none, 0, 0, ks, h, a, b⟩, s5) := by
  unfold wayR
  rw [e1]
  dsimp only
  rw [e2]
  dsimp only
  rw [e3]
  dsimp only
  rw [e4]
  dsimp only
  rw [e5]
theorem wayR_parts (s : List UInt8 × Int) : ∃ (s1 s2 s3 s4 s5 : List UInt8 × Int) (n a b : Int) (ks : List Int) (h : List UInt8), upR s 16 = (n, s1) ∧ numsR 255 n.toNat s1 = (ks, s2) ∧ sumR s2 = (h, s3) ∧ upR s3 1073741824 = (a, s4) ∧ upR s4 1073741824 = (b, s5) ∧ wayR s = (⟨none, 0, 0, ks, h, a, b⟩, s5) :=
  ⟨_, _, _, _, _, _, _, _, _, _, rfl, rfl, rfl, rfl, rfl, rfl⟩
theorem wayR_ok {s : List UInt8 × Int} (h : (wayR s).2.2 = 0) : s.2 = 0 ∧ s.1 = wayB (wayR s).1 ++ (wayR s).2.1 := by
  obtain ⟨s1, s2, s3, s4, s5, n, a, b, ks, g, e1, e2, e3, e4, e5, e⟩ := wayR_parts s
  rw [e] at h ⊢
  replace h : s5.2 = 0 := h
  obtain ⟨h4, g5⟩ := upR_ok (s := s4) (m := 1073741824) (by rw [e5]; exact h)
  obtain ⟨h3, g4⟩ := upR_ok (s := s3) (m := 1073741824) (by rw [e4]; exact h4)
  obtain ⟨h2, g3⟩ := sumR_ok (s := s2) (by rw [e3]; exact h3)
  obtain ⟨h1, g2⟩ := numsR_ok (s := s1) (m := 255) (k := n.toNat) (by rw [e2]; exact h2)
  obtain ⟨h0, g1⟩ := upR_ok (s := s) (m := 16) (by rw [e1]; exact h1)
  have hl := numsR_len 255 s1 n.toNat
  have hr := (upR_range s (m := 16) (by omega)).1
  rw [e5] at g5
  rw [e4] at g4
  rw [e3] at g3
  rw [e2] at g2 hl
  rw [e1] at g1 hr
  dsimp only at g1 g2 g3 g4 g5 hl hr
  refine ⟨h0, ?_⟩
  have hn : ((ks.length : Nat) : Int) = n := by omega
  show s.1 = (numB (ks.length : Nat) ++ (numsB ks ++ (g ++ numsB [a, b]))) ++ s5.1
  rw [hn, g1, g2, g3, g4, g5]
  simp [numsB]
theorem rises_range : ∀ {l : List Int} {s : Int}, 0 ≤ s → rises s l = true → ∀ z ∈ l, 0 ≤ z ∧ z ≤ 255
  | [], _, _, _, z, hz => by cases hz
  | k :: l, s, hs, h, z, hz => by
    by_cases h1 : k < s
    · rw [rises_low h1] at h; cases h
    by_cases h2 : 255 < k
    · rw [rises_high h1 h2] at h; cases h
    rw [rises_more h1 h2] at h
    rcases List.mem_cons.1 hz with rfl | hz
    · omega
    · exact rises_range (s := k + 1) (by omega) h z hz
theorem wayOk_parts {x : PWay} (h : wayOk x = true) : x.ks.length ≤ 16 ∧ (∀ z ∈ x.ks, 0 ≤ z ∧ z ≤ 255) ∧ 0 ≤ x.after ∧ x.after ≤ 1073741824 ∧ 0 ≤ x.wait ∧ x.wait ≤ 1073741824 := by
  unfold wayOk okHeight at h
  simp only [Bool.and_eq_true, decide_eq_true_eq] at h
  obtain ⟨h1, h2, h3, h4⟩ := h
  exact ⟨h1, rises_range (Int.le_refl _) h2, h3.1, h3.2, h4.1, h4.2⟩
theorem wayR_put {x : PWay} (t : List UInt8) (h : wayOk x = true) (hs : x.h.length = 32) : wayR (wayB x ++ t, 0) = (x.strip, (t, 0)) := by
  obtain ⟨h1, h2, h3, h4, h5, h6⟩ := wayOk_parts h
  have e : wayB x ++ t = numB (x.ks.length : Nat) ++ (numsB x.ks ++ (x.h ++ (numB x.after ++ (numB x.wait ++ t)))) := by
    unfold wayB
    simp [numsB]
  rw [e]
  refine wayR_is (upR_put _ (by omega) (by omega) (by omega)) ?_ (sumR_put _ hs) (upR_put _ h3 h4 (by omega)) (upR_put _ h5 h6 (by omega))
  rw [Int.toNat_natCast, numsR_put _ (by omega) h2 _ (Nat.le_refl _), List.take_of_length_le (Nat.le_refl _), List.drop_of_length_le (Nat.le_refl _)]
  rfl
theorem wayR_sum (s : List UInt8 × Int) : (wayR s).1.h.length = 32 := sumR_len _
theorem wayR_le (s : List UInt8 × Int) : (wayR s).2.1.length ≤ s.1.length :=
  Nat.le_trans (upR_le _ _) (Nat.le_trans (upR_le _ _) (Nat.le_trans (sumR_le _) (Nat.le_trans (numsR_le _ _ _) (upR_le _ _))))
def waysR : Nat → List UInt8 × Int → List PWay × (List UInt8 × Int)
  | 0, s => ([], s)
  | k + 1, s => ((waysR k s).1 ++ [(wayR (waysR k s).2).1], (wayR (waysR k s).2).2)
theorem waysR_len (s : List UInt8 × Int) : ∀ k, (waysR k s).1.length = k
  | 0 => rfl
  | k + 1 => by simp [waysR, waysR_len s k]
theorem waysR_sum (s : List UInt8 × Int) : ∀ k, ∀ x ∈ (waysR k s).1, x.h.length = 32
  | 0, x, hx => by cases hx
  | k + 1, x, hx => by
    rcases List.mem_append.1 hx with hx | hx
    · exact waysR_sum s k x hx
    · simp at hx
      subst hx
      exact wayR_sum _
theorem waysR_ok {s : List UInt8 × Int} : ∀ {k : Nat}, (waysR k s).2.2 = 0 → s.2 = 0 ∧ s.1 = waysB (waysR k s).1 ++ (waysR k s).2.1
  | 0, h => ⟨h, by simp [waysR, waysB]⟩
  | k + 1, h => by
    obtain ⟨h1, h2⟩ := wayR_ok h
    obtain ⟨h3, h4⟩ := waysR_ok (k := k) h1
    refine ⟨h3, ?_⟩
    show s.1 = waysB ((waysR k s).1 ++ [(wayR (waysR k s).2).1]) ++ (wayR (waysR k s).2).2.1
    rw [waysB_snoc, List.append_assoc, ← h2]
    exact h4
theorem waysR_put {xs : List PWay} (t : List UInt8) (h : ∀ x ∈ xs, wayOk x = true ∧ x.h.length = 32) : ∀ k, k ≤ xs.length → waysR k (waysB xs ++ t, 0) = ((xs.take k).map PWay.strip, (waysB (xs.drop k) ++ t, 0))
  | 0, _ => by simp [waysR]
  | k + 1, hk => by
    have hz := h _ (List.getElem_mem (show k < xs.length by omega))
    have e : xs.getD k noWay = xs[k] := by simp [List.getD, show k < xs.length by omega]
    rw [waysR, waysR_put t h k (by omega), waysB_drop xs k (by omega), List.append_assoc, wayR_put _ (by rw [e]; exact hz.1) (by rw [e]; exact hz.2), List.take_succ_eq_append_getElem (by omega), e, List.map_append]
    rfl
theorem waysR_le (s : List UInt8 × Int) : ∀ k, (waysR k s).2.1.length ≤ s.1.length
  | 0 => Nat.le_refl _
  | k + 1 => Nat.le_trans (wayR_le _) (waysR_le s k)
/-- What is left, and the error, behind an out; the out. -/
def outEnd (s : List UInt8 × Int) : List UInt8 × Int :=
  if outOk (upR s 1125899906842624).1 (waysR (upR (upR s 1125899906842624).2 16).1.toNat (upR (upR s 1125899906842624).2 16).2).1 = true then (waysR (upR (upR s 1125899906842624).2 16).1.toNat (upR (upR s 1125899906842624).2 16).2).2
  else failR (waysR (upR (upR s 1125899906842624).2 16).1.toNat (upR (upR s 1125899906842624).2 16).2).2 4
def outR (s : List UInt8 × Int) : (Int × List PWay) × (List UInt8 × Int) :=
  if (outEnd s).2 = 0 then (((upR s 1125899906842624).1, (waysR (upR (upR s 1125899906842624).2 16).1.toNat (upR (upR s 1125899906842624).2 16).2).1), outEnd s) else ((0, []), outEnd s)
theorem outR_parts (s : List UInt8 × Int) : ∃ (s1 s2 s3 s4 : List UInt8 × Int) (m n : Int) (xs : List PWay), upR s 1125899906842624 = (m, s1) ∧ upR s1 16 = (n, s2) ∧ waysR n.toNat s2 = (xs, s3) ∧ s4 = (if outOk m xs = true then s3 else failR s3 4) ∧ outR s = (if s4.2 = 0 then ((m, xs), s4) else ((0, []), s4)) :=
  ⟨_, _, _, _, _, _, _, rfl, rfl, rfl, rfl, rfl⟩
theorem outR_ok {s : List UInt8 × Int} (h : (outR s).2.2 = 0) : outOk (outR s).1.1 (outR s).1.2 = true ∧ s.2 = 0 ∧ s.1 = outB (outR s).1.1 (outR s).1.2 ++ (outR s).2.1 := by
  obtain ⟨s1, s2, s3, s4, m, n, xs, e1, e2, e3, e4, e⟩ := outR_parts s
  have h4 : s4.2 = 0 := by
    rw [e] at h
    split at h
    · assumption
    · exact h
  rw [e, if_pos h4]
  have hok : outOk m xs = true ∧ s4 = s3 := by
    by_cases ho : outOk m xs = true
    · rw [if_pos ho] at e4
      exact ⟨ho, e4⟩
    · rw [if_neg ho] at e4
      unfold failR at e4
      by_cases h3 : s3.2 = 0
      · rw [if_pos h3] at e4
        rw [e4] at h4
        exact absurd h4 (show ¬ (4 : Int) = 0 by decide)
      · rw [if_neg h3] at e4
        rw [e4] at h4
        exact absurd h4 h3
  obtain ⟨ho, rfl⟩ := hok
  obtain ⟨h2, g3⟩ := waysR_ok (s := s2) (k := n.toNat) (by rw [e3]; exact h4)
  obtain ⟨h1, g2⟩ := upR_ok (s := s1) (m := 16) (by rw [e2]; exact h2)
  obtain ⟨h0, g1⟩ := upR_ok (s := s) (m := 1125899906842624) (by rw [e1]; exact h1)
  have hl := waysR_len s2 n.toNat
  have hr := (upR_range s1 (m := 16) (by omega)).1
  rw [e3] at g3 hl
  rw [e2] at g2 hr
  rw [e1] at g1
  dsimp only at g1 g2 g3 hl hr
  refine ⟨ho, h0, ?_⟩
  have hn : ((xs.length : Nat) : Int) = n := by omega
  show s.1 = (numsB [m, (xs.length : Nat)] ++ waysB xs) ++ s4.1
  rw [hn, g1, g2, g3]
  simp [numsB]
theorem outOk_parts {m : Int} {xs : List PWay} (h : outOk m xs = true) : 0 ≤ m ∧ m ≤ 1125899906842624 ∧ 1 ≤ xs.length ∧ xs.length ≤ 16 ∧ ∀ x ∈ xs, wayOk x = true := by
  unfold outOk at h
  simp only [Bool.and_eq_true, decide_eq_true_eq, List.all_eq_true] at h
  obtain ⟨⟨h1, h2⟩, ⟨h3, h4⟩, h5⟩ := h
  exact ⟨h1, h2, h3, h4, h5⟩
theorem outR_put {m : Int} {xs : List PWay} (t : List UInt8) (h : outOk m xs = true) (hs : ∀ x ∈ xs, x.h.length = 32) : outR (outB m xs ++ t, 0) = ((m, xs.map PWay.strip), (t, 0)) := by
  obtain ⟨s1, s2, s3, s4, m', n, ys, e1, e2, e3, e4, e⟩ := outR_parts (outB m xs ++ t, 0)
  obtain ⟨h1, h2, h3, h4, h5⟩ := outOk_parts h
  have eb : outB m xs ++ t = numB m ++ (numB (xs.length : Nat) ++ (waysB xs ++ t)) := by
    unfold outB
    simp [numsB]
  rw [eb, upR_put _ h1 h2 (by omega)] at e1
  cases e1
  rw [upR_put _ (by omega) (by omega) (by omega)] at e2
  cases e2
  rw [Int.toNat_natCast, waysR_put t (fun x hx => ⟨h5 x hx, hs x hx⟩) _ (Nat.le_refl _), List.take_of_length_le (Nat.le_refl _), List.drop_of_length_le (Nat.le_refl _)] at e3
  cases e3
  rw [outOk_strip, if_pos h] at e4
  rw [e, e4]
  rfl
theorem outR_le (s : List UInt8 × Int) : (outR s).2.1.length ≤ s.1.length := by
  have h : (outEnd s).1.length ≤ s.1.length := by
    unfold outEnd failR
    split
    · exact Nat.le_trans (waysR_le _ _) (Nat.le_trans (upR_le _ _) (upR_le _ _))
    · split <;> exact Nat.le_trans (waysR_le _ _) (Nat.le_trans (upR_le _ _) (upR_le _ _))
  unfold outR
  split <;> exact h
end Go.Proofs.YtlnenkmcegadmaaDoor
namespace Go.Proofs.YtlnenkmcegadmaaDoor
open Go.RowKit

/-- What lies ahead of a pen's own blocks. -/
def OldB (B pb n : Nat) (a : Option Addr) : Prop := 0 < n → ∀ x, a = some x → x.block < B ∧ x.block ≠ pb
theorem Numbers.butO {w w' : World} {B pb n c : Nat} {a : Option Addr} {zs : List Int} (h : Numbers w a n c zs) (ho : OldB B pb n a) (hb : But B pb w w') : Numbers w' a n c zs := by
  obtain ⟨h1, h2, h3, h4, h6, h5⟩ := h
  refine ⟨h1, h2, h3, h4, h6, fun h0 => ?_⟩
  obtain ⟨b, off, rfl, hlt, hc⟩ := h5 h0
  obtain ⟨g1, g2⟩ := ho h0 _ rfl
  exact ⟨b, off, rfl, Nat.lt_of_lt_of_le hlt hb.size, fun j hj => (hb.cell (a := ⟨b, off + j, none⟩) g1 g2).trans (hc j hj)⟩
theorem Numbers.oldB {w : World} {B pb n c : Nat} {a : Option Addr} {zs : List Int} (h : Numbers w a n c zs) (hB : w.heap.size ≤ B) (hp : w.heap.size ≤ pb) : OldB B pb n a := fun h0 x e => by
  obtain ⟨b, off, e2, hlt, _⟩ := h.2.2.2.2.2 h0
  rw [e] at e2
  cases e2
  exact ⟨Nat.lt_of_lt_of_le hlt hB, by show b ≠ pb; omega⟩
def OldWs (B pb n : Nat) (a : Option Addr) (xs : List PWay) : Prop := OldB B pb n a ∧ ∀ x ∈ xs, OldB B pb x.n x.a
theorem Ways.butO {w w' : World} {B pb n c : Nat} {a : Option Addr} {xs : List PWay} (h : Ways w a n c xs) (ho : OldWs B pb n a xs) (hb : But B pb w w') : Ways w' a n c xs := by
  obtain ⟨h1, h2, h3, h4, h6, h5⟩ := h
  refine ⟨h1, h2, h3, h4, fun x hx => ⟨(h6 x hx).keys.butO (ho.2 x hx) hb, (h6 x hx).sum, (h6 x hx).after, (h6 x hx).wait⟩, fun h0 => ?_⟩
  obtain ⟨b, off, rfl, hlt, hc⟩ := h5 h0
  obtain ⟨g1, g2⟩ := ho.1 h0 _ rfl
  exact ⟨b, off, rfl, Nat.lt_of_lt_of_le hlt hb.size, fun j hj i v hv => (hb.cell (a := ⟨b, off + j * 35 + i, none⟩) g1 g2).trans (hc j hj i v hv)⟩
theorem Ways.oldWs {w : World} {B pb n c : Nat} {a : Option Addr} {xs : List PWay} (h : Ways w a n c xs) (hB : w.heap.size ≤ B) (hp : w.heap.size ≤ pb) : OldWs B pb n a xs := by
  refine ⟨fun h0 x e => ?_, fun x hx => (h.2.2.2.2.1 x hx).keys.oldB hB hp⟩
  obtain ⟨b, off, e2, hlt, _⟩ := h.2.2.2.2.2 h0
  rw [e] at e2
  cases e2
  exact ⟨Nat.lt_of_lt_of_le hlt hB, by show b ≠ pb; omega⟩
/-- What a pen's step leaves. -/
def PStep (B pb : Nat) (w w' : World) : Prop := But B pb w w' ∧ Keeps w w'
theorem kept_way {w w' : World} {g : Nat} {x : PWay} {fr : Nat × Nat} (hk : Keeps w w') (h : w.heap[g]? = some (.cells x.cells.toArray 82 fr)) : w'.heap[g]? = some (.cells x.cells.toArray 82 fr) := (hk g _ _ _ h (by decide) (by decide) (by decide)).trans h
theorem kept_int {w w' : World} {g : Nat} {cs : Array Value} {fr : Nat × Nat} (hk : Keeps w w') (h : w.heap[g]? = some (.cells cs 3 fr)) : w'.heap[g]? = some (.cells cs 3 fr) := (hk g _ _ _ h (by decide) (by decide) (by decide)).trans h
theorem kept_out {w w' : World} {g : Nat} {cs : Array Value} {fr : Nat × Nat} (hk : Keeps w w') (h : w.heap[g]? = some (.cells cs 79 fr)) : w'.heap[g]? = some (.cells cs 79 fr) := (hk g _ _ _ h (by decide) (by decide) (by decide)).trans h
theorem lit2 {w : World} {g B pb : Nat} {y z : Int} {fr : Nat × Nat} (h : w.heap[g]? = some (.cells #[.int .i64 y, .int .i64 z] 3 fr)) : ∀ wr, But B pb w wr → Keeps w wr → ∀ j, j < 2 → wr.cell? ⟨g, 0 + j, none⟩ = some (.int .i64 ([y, z].getD j 0)) := fun wr _ hk j hj => by
  rw [Nat.zero_add, cell_of_row _ _ _ _ _ _ (kept_int hk h)]
  rcases (show j = 0 ∨ j = 1 by omega) with rfl | rfl <;> rfl
theorem two_small {y z : Int} (hy : Fits y) (hz : Fits z) : ∀ v ∈ [y, z], v ≤ 9223372036854775807 := fun v hv => by
  simp at hv
  rcases hv with rfl | rfl
  · exact hy.2
  · exact hz.2
theorem pnums_olds {w W : World} {a : Option Addr} {n c B pb : Nat} {zs : List Int} {l : List UInt8} (hi : Numbers w a n c zs) (ho : OldB B pb n a) (hs : But B pb w W) (hp : PenAt W B pb l) (hbz : B ≤ W.heap.size) (hn : n ≤ 1000) (hl : l.length ≤ 1000000) :
    Calls Tryd.prog 43 #[.pointer (some ⟨pb, 0, none⟩), .slice a n c] W fun r w' => r = .returned (.pointer (some ⟨pb, 0, none⟩)) ∧ PenAt w' B pb (l ++ numsB zs) ∧ But B pb W w' ∧ Keeps W w' := by
  by_cases h0 : 0 < n
  · obtain ⟨b, off, rfl, _, _⟩ := hi.2.2.2.2.2 h0
    refine pnums_typed W hi.1 hi.2.1 hi.2.2.1 (fun z hz => (hi.2.2.2.2.1 z hz).2) (fun wr hb _ j hj => ?_) hp hbz hn hl
    obtain ⟨b', off', e, _, hc⟩ := ((hi.butO ho hs).butO ho hb).2.2.2.2.2 h0
    cases e
    exact hc j hj
  · obtain rfl : n = 0 := by omega
    obtain rfl : zs = [] := List.eq_nil_of_length_eq_zero hi.1
    exact pnums_zero W hp
theorem Tryd.zeroInt : (Tryd.prog.info? 3).map (fun i => (i.zero, i.size, i.bytes)) = some (some (.int .i64 0), 1, 8) := by kernel_rfl
/-- A slice literal of two numbers, in a region. -/
theorem step_two_gen {ops : Array Oper} {o : Oper} {tmps : Array Value} {ds : List Deferred} {w : World} {K : Act → World → Prop} {Q : Exit → Act → World → Prop} {E : Prop} {d : Nat} {u v : Operand} {y z : Int} (hd : o.dst = some d) (hw : Region.wanted o (yielded ops tmps) = true) (ho : o.op = .buildSlice 80 2 #[(0, u), (1, v)])
    (hu : Act.eval { tmps := tmps, defers := ds } u = .int .i64 y) (hv : Act.eval { tmps := tmps, defers := ds } v = .int .i64 z)
    (h : ∀ (p : Nat) (w' : World), w.heap.size ≤ p → w'.heap[p]? = some (.cells #[.int .i64 y, .int .i64 z] 3 (0, 0)) → Below w.heap.size w w' → K { tmps := tmps.setIfInBounds d (.slice (some ⟨p, 0, none⟩) 2 2), defers := ds } w') :
    if Region.wanted o (yielded ops tmps) = true then Oper.wp Tryd.prog o { tmps := tmps, defers := ds } w K Q else E := by
  rw [if_pos hw]
  obtain ⟨ie, h1, h2, h3, _⟩ := info_parts Tryd.zeroInt
  have hrun : (Instr.buildSlice 80 2 #[(0, .int .i64 y), (1, .int .i64 z)]).run Tryd.prog w = .ok (.slice (some ⟨w.heap.size, 0, none⟩) 2 2) (w.alloc (.cells #[.int .i64 y, .int .i64 z] 3)) :=
    run_buildSlice w 80 3 2 _ _ ie _ Tryd.underlying80 h1 h2 (by rw [h3]; omega) (by rw [h3]; omega) (by rw [h3]; simp [Instr.fill, Value.cells]; rw [show Array.range 2 = #[0, 1] by rfl]; simp)
  unfold Oper.wp execOp
  simp only [ho, List.map_toArray, List.map_cons, List.map_nil, hu, hv, Sem.run_bind, hrun, Sem.run_pure, Result.andThen_ok]
  show K (Act.put _ o.dst _) _
  rw [hd]
  exact h _ _ (Nat.le_refl _) (heap_alloc_new _ _) ((Below.refl _ _).alloc (Nat.le_refl _) _)
set_option linter.unusedSimpArgs false in
set_option maxRecDepth 100000 in
set_option maxHeartbeats 12800000 in
theorem lockPut_at {w : World} {B pb n c : Nat} {m : Int} {a : Option Addr} {xs : List PWay} {l : List UInt8} (h : Ways w a n c xs) (ho : OldWs B pb n a xs) (hp : PenAt w B pb l) (hbz : B ≤ w.heap.size) (hm : Fits m) (hn : n ≤ 1000) (hks : ∀ x ∈ xs, x.ks.length ≤ 1000) (hl : l.length + (outB m xs).length ≤ 1000000) :
    Calls Tryd.prog 45 #[.pointer (some ⟨pb, 0, none⟩), .agg #[.int .i64 m, .slice a n c]] w fun e w' => e = .returned (.tuple #[]) ∧ PenAt w' B pb (l ++ outB m xs) ∧ But B pb w w' ∧ Keeps w w' := by
  have hn63 : (n : Int) ≤ 9223372036854775807 := by omega
  have b1 : Below w.heap.size w (w.alloc (.cells #[.int .i64 m, .slice a n c] 79)) := (Below.refl _ _).alloc (Nat.le_refl _) _
  have h1 := heap_alloc_new w (.cells #[.int .i64 m, .slice a n c] 79)
  have HE : Hid (outB m xs = numsB [m, (n : Int)] ++ waysB xs) := Lib.hid (by unfold outB; rw [h.1])
  have H := Lib.hid h
  have HO := Lib.hid ho
  have HP1 := Lib.hid (hp.below hbz b1)
  have HM := Lib.hid hm
  have HKS := Lib.hid hks
  have HL := Lib.hid hl
  clear h ho hp hm hks hl
  go_enter Tryd.func45, Tryd.ntmps45
  go_upto_region 1 with (fail)
  revert b1 h1 HP1
  generalize (w.alloc (.cells #[.int .i64 m, .slice a n c] 79)) = w1
  obtain ⟨g, hg⟩ : ∃ g, g = w.heap.size := ⟨_, rfl⟩
  rw [← hg]
  intro b1 h1 HP1
  rw [hg] at b1
  have hbz1 : B ≤ w1.heap.size := Nat.le_trans hbz b1.size
  have c0 : w1.cell? ⟨g, 0, none⟩ = some (.int .i64 m) := by rw [cell_of_row _ _ _ _ _ _ h1]; rfl
  have c1 : w1.cell? ⟨g, 1, none⟩ = some (.slice a n c) := by rw [cell_of_row _ _ _ _ _ _ h1]; rfl
  have HB1 := Lib.hid b1
  have H1 := Lib.hid h1
  clear b1 h1 hg
  go_wp2_with fail
  have b2 : Below w1.heap.size w1 (w1.alloc (.cells #[.int .i64 m, .int .i64 (n : Int)] 3)) := (Below.refl _ _).alloc (Nat.le_refl _) _
  have hz2 : B ≤ (w1.alloc (.cells #[.int .i64 m, .int .i64 (n : Int)] 3)).heap.size := Nat.le_trans hbz1 b2.size
  have HB2 := Lib.hid b2
  have HZ2 := Lib.hid hz2
  have HLL : Hid (l.length ≤ 1000000) := Lib.hid (by have := HL.out; omega)
  clear b2 hz2
  refine (pnums_typed (n := 2) (c := 2) (off := 0) (zs := [m, (n : Int)]) _ rfl (Nat.le_refl _) (by unfold maxLen; omega) (two_small HM.out ⟨by omega, hn63⟩) (lit2 (heap_alloc_new _ _)) (HP1.out.below hbz1 HB2.out) HZ2.out (by omega) HLL.out).mono ?_
  rintro e w3 ⟨rfl, hp3, hb3, hk3⟩
  have HP3 := Lib.hid hp3
  have HB3 := Lib.hid ((But.of (HB1.out.mono hbz)).trans ((But.of (HB2.out.mono hbz1)).trans hb3))
  have HK3 := Lib.hid ((Keeps.below HB1.out).trans ((Keeps.below HB2.out).trans hk3))
  have h3 := kept_out ((Keeps.below HB2.out).trans hk3) H1.out
  have d1 : w3.cell? ⟨g, 1, none⟩ = some (.slice a n c) := by rw [cell_of_row _ _ _ _ _ _ h3]; rfl
  clear c0 c1 hp3 hb3 hk3 h3 HP1 H1 HB1 HB2 HZ2 HM
  go_wp2_with fail
  clear d1
  go_loopw [17] (fun i wr => ∃ k : Nat, k ≤ n ∧ i = .int .i64 k ∧ PenAt wr B pb (l ++ (numsB [m, (n : Int)] ++ waysB (xs.take k))) ∧ But B pb w wr ∧ Keeps w wr) (fun i _ => n - (intOf i).toNat)
  case atStart => exact ⟨0, Nat.zero_le _, rfl, by have h9 := HP3.out; simpa [waysB] using h9, HB3.out, HK3.out⟩
  case round =>
    obtain ⟨k, hk, rfl, hpk, hbk, hkk⟩ := hrel
    have HPK := Lib.hid hpk
    have HBK := Lib.hid hbk
    have HKK := Lib.hid hkk
    have hbzr : B ≤ wr.heap.size := Nat.le_trans hbz hbk.size
    clear hpk hbk hkk HP3 HB3 HK3
    by_cases hkn : k < n
    · have f1 : (k : Int) < (n : Int) := by omega
      have f0 : (0 : Int) ≤ (k : Int) := by omega
      have ft : ((k : Int)).toNat = k := by omega
      have hkl : k < xs.length := by rw [H.out.1]; exact hkn
      have hwr := H.out.butO HO.out HBK.out
      obtain ⟨b1, o1, e1, hltb, hc1⟩ := hwr.2.2.2.2.2 (by omega)
      have hrx := hc1 k hkn
      have hx := hwr.way hkn
      have hxm : xs.getD k noWay ∈ xs := by
        have e : xs.getD k noWay = xs[k] := by simp [List.getD, hkl]
        rw [e]
        exact List.getElem_mem hkl
      have hox := HO.out.2 _ hxm
      have hkx := HKS.out _ hxm
      have hnx := waysB_take xs k hkl
      have hll : (waysB (xs.take k)).length + (wayB (xs.getD k noWay)).length ≤ (waysB xs).length := by
        have e := congrArg List.length hnx
        have e2 : waysB xs = waysB (xs.take (k + 1)) ++ waysB (xs.drop (k + 1)) := by
          have happ : ∀ (u v : List PWay), waysB (u ++ v) = waysB u ++ waysB v := fun u v => by induction u with
            | nil => rfl
            | cons y u ih => simp [waysB, ih]
          rw [← happ, List.take_append_drop]
        have e3 := congrArg List.length e2
        rw [List.length_append] at e e3
        omega
      revert hrx hx hox hkx hnx hll
      generalize xs.getD k noWay = x
      intro hrx hx hox hkx hnx hll
      subst e1
      obtain ⟨P, hP⟩ : ∃ P, P = l ++ (numsB [m, (n : Int)] ++ waysB (xs.take k)) := ⟨_, rfl⟩
      have HNX : Hid (l ++ (numsB [m, (n : Int)] ++ waysB (xs.take (k + 1))) = P ++ wayB x) := Lib.hid (by rw [hnx, hP]; simp only [List.append_assoc])
      have WB : Hid (wayB x = numB (x.n : Int) ++ (numsB x.ks ++ (x.h ++ numsB [x.after, x.wait]))) := Lib.hid (by unfold wayB; rw [hx.keys.1])
      have HLW : Hid (P.length + (wayB x).length ≤ 1000000) := Lib.hid (by
        have h9 := HL.out
        rw [HE.out] at h9
        rw [hP]
        simp only [List.length_append] at h9 ⊢
        omega)
      rw [← hP] at HPK
      have RX := Lib.hid hrx
      have SX := Lib.hid (way_size hx.sum)
      have AX := Lib.hid (way_sizeA hx.sum)
      have ZX := Lib.hid (way_zero hx.sum)
      have SXH := Lib.hid (sumLen hx.sum)
      have HXS := Lib.hid hx.sum
      have HXA := Lib.hid hx.after
      have HXW := Lib.hid hx.wait
      have HX := Lib.hid hx
      have HOX := Lib.hid hox
      have hx1000 : x.n ≤ 1000 := by rw [← hx.keys.1]; exact hkx
      have hx63 : (x.n : Int) ≤ 9223372036854775807 := by omega
      clear hc1 hrx hx hxm hox hkx hnx hll hP hwr hkl H HO HKS
      go_upto_region 5 with (first | (refine wpList_load_mid rfl 82 _ rfl b1 (o1 + k * 35) rfl x.cells _ RX.out Tryd.underlying82 rfl SX.out ?_) | (refine wpList_store_row rfl 82 _ _ rfl wr.heap.size x.cells.toArray rfl rfl 82 noWay.cells.toArray (heap_alloc_new _ _) AX.out ZX.out (all_oneCell_toArray x.cells_one) ?_) | fail)
      rw [← noWay_is, layWay_is]
      have h5 := layWay_heap wr x
      have b5 := layWay_self wr x
      revert h5 b5
      generalize layWay wr x = w5
      obtain ⟨g5, hg5⟩ : ∃ g5, g5 = wr.heap.size := ⟨_, rfl⟩
      rw [← hg5]
      intro h5 b5
      rw [hg5] at b5
      have H5 := Lib.hid h5
      have hbz5 : B ≤ w5.heap.size := Nat.le_trans hbzr b5.size
      have HPEN0 : Hid (PenAt w5.drew B pb P) := Lib.hid ((HPK.out.below hbzr b5).below hbz5 (below_drew (Below.refl _ _)))
      have HKX := Lib.hid (HX.out.keys.below b5)
      have HBW := Lib.hid (HBK.out.trans (But.of (b5.mono hbzr)))
      have HKP := Lib.hid (HKK.out.trans (Keeps.below b5))
      clear h5 b5 hg5 HPK RX
      try simp only [Act.put]
      refine wp_region_held_drew (S := fun w' => PStep B pb w5 w') (by kernel_rfl) (⟨But.of (below_drew (Below.refl _ _)), fun _ _ _ _ _ _ _ _ => rfl⟩) (fun hHeld => ?_)
      refine take_at (i := 0) (v := ?_) rfl rfl (by kernel_rfl) (by kernel_rfl) (by kernel_rfl) (fun _ _ _ h => h) (Or.inl ⟨by rfl, ?_⟩) (by assumption) ?_
      rotate_left
      · intro w0 hSw; (try dsimp only at hSw); first | (go_simp; done) | (go_simp; with_reducible rfl)
      simp only [List.setIfInBounds_toArray, List.set_cons_zero, List.set_cons_succ]
      refine take_at (i := 1) (v := ?_) rfl rfl (by kernel_rfl) (by kernel_rfl) (by kernel_rfl) (fun _ _ _ h => h) (Or.inl ⟨by rfl, ?_⟩) (by assumption) ?_
      rotate_left
      · intro w0 hSw; (try dsimp only at hSw); first | (go_simp; done) | (go_simp; with_reducible rfl)
      simp only [List.setIfInBounds_toArray, List.set_cons_zero, List.set_cons_succ]
      refine take_at (i := 2) rfl rfl (by kernel_rfl) (by kernel_rfl) (by kernel_rfl) (fun _ _ _ h => h) (yields_cell (by rfl) rfl rfl (b := g5) (o := 0) (fun w0 hSw => way_keys (range_of (kept_way hSw.2 H5.out))) Tryd.isAgg80) (by assumption) ?_
      simp only [List.setIfInBounds_toArray, List.set_cons_zero, List.set_cons_succ]
      refine take_at (i := 3) (v := ?_) rfl rfl (by kernel_rfl) (by kernel_rfl) (by kernel_rfl) (fun _ _ _ h => h) (Or.inl ⟨by rfl, ?_⟩) (by assumption) ?_
      rotate_left
      · intro w0 hSw; (try dsimp only at hSw); first | (go_simp; done) | (go_simp; with_reducible rfl)
      simp only [List.setIfInBounds_toArray, List.set_cons_zero, List.set_cons_succ]
      refine take_at (i := 5) (v := ?_) rfl rfl (by kernel_rfl) (by kernel_rfl) (by kernel_rfl) (fun _ _ _ h => h) (Or.inl ⟨by rfl, ?_⟩) (by assumption) ?_
      rotate_left
      · intro w0 hSw; (try dsimp only at hSw); first | (go_simp; done) | (go_simp; with_reducible rfl)
      simp only [List.setIfInBounds_toArray, List.set_cons_zero, List.set_cons_succ]
      refine take_at (i := 6) rfl rfl (by kernel_rfl) (by kernel_rfl) (by kernel_rfl) (fun _ _ _ h => h) (yields_cell (by rfl) rfl rfl (b := g5) (o := 0) (fun w0 hSw => way_keys (range_of (kept_way hSw.2 H5.out))) Tryd.isAgg80) (by assumption) ?_
      simp only [List.setIfInBounds_toArray, List.set_cons_zero, List.set_cons_succ]
      refine take_at (i := 8) (v := ?_) rfl rfl (by kernel_rfl) (by kernel_rfl) (by kernel_rfl) (fun _ _ _ h => h) (Or.inl ⟨by rfl, ?_⟩) (by assumption) ?_
      rotate_left
      · intro w0 hSw; (try dsimp only at hSw); first | (go_simp; done) | (go_simp; with_reducible rfl)
      simp only [List.setIfInBounds_toArray, List.set_cons_zero, List.set_cons_succ]
      refine take_at (i := 9) rfl rfl (by kernel_rfl) (by kernel_rfl) (by kernel_rfl) (fun _ _ _ h => h) (yieldsIf_load_mid (by rfl) _ _ rfl g5 1 rfl (cellsOf x.h) _ (fun w0 hSw => way_sum HXS.out (range_of (kept_way hSw.2 H5.out))) Tryd.underlying23 rfl SXH.out) (by assumption) ?_
      simp only [List.setIfInBounds_toArray, List.set_cons_zero, List.set_cons_succ]
      refine take_at (i := 11) (v := ?_) rfl rfl (by kernel_rfl) (by kernel_rfl) (by kernel_rfl) (fun _ _ _ h => h) (Or.inl ⟨by rfl, ?_⟩) (by assumption) ?_
      rotate_left
      · intro w0 hSw; (try dsimp only at hSw); first | (go_simp; done) | (go_simp; with_reducible rfl)
      simp only [List.setIfInBounds_toArray, List.set_cons_zero, List.set_cons_succ]
      refine take_at (i := 12) rfl rfl (by kernel_rfl) (by kernel_rfl) (by kernel_rfl) (fun _ _ _ h => h) (yields_cell (by rfl) rfl rfl (b := g5) (o := 33) (fun w0 hSw => way_after HXS.out (range_of (kept_way hSw.2 H5.out))) Tryd.isAgg3) (by assumption) ?_
      simp only [List.setIfInBounds_toArray, List.set_cons_zero, List.set_cons_succ]
      refine take_at (i := 13) (v := ?_) rfl rfl (by kernel_rfl) (by kernel_rfl) (by kernel_rfl) (fun _ _ _ h => h) (Or.inl ⟨by rfl, ?_⟩) (by assumption) ?_
      rotate_left
      · intro w0 hSw; (try dsimp only at hSw); first | (go_simp; done) | (go_simp; with_reducible rfl)
      simp only [List.setIfInBounds_toArray, List.set_cons_zero, List.set_cons_succ]
      refine take_at (i := 14) rfl rfl (by kernel_rfl) (by kernel_rfl) (by kernel_rfl) (fun _ _ _ h => h) (yields_cell (by rfl) rfl rfl (b := g5) (o := 34) (fun w0 hSw => way_wait HXS.out (range_of (kept_way hSw.2 H5.out))) Tryd.isAgg3) (by assumption) ?_
      simp only [List.setIfInBounds_toArray, List.set_cons_zero, List.set_cons_succ]
      refine wpAnyH_ready (rs := [4, 15]) (by kernel_rfl) (by simp) ?_
      refine AllReadyH.cons rfl (fun K hK => ?_) ?_
      · have HZw5drew : Hid (B ≤ (w5.drew).heap.size) := Lib.hid (Nat.le_trans hbz5 hHeld.1.size)
        have hHbw5drew : Hid (But B pb w5 (w5.drew)) := Lib.hid hHeld.1
        have HLENw5drew : Hid ((P).length + 0 ≤ P.length + (wayB x).length) := Lib.hid (by rw [WB.out]; simp only [List.length_append]; omega)
        go_simp
        go_wp2_with ((go_at_call 25; (with_reducible refine (pnum_typed (x.n : Int) HPEN0.out HZw5drew.out (by have h0 := HLW.out; have h1 := HLENw5drew.out; omega) hx63).mono ?_); rintro e y4 ⟨rfl, hp, hb, hk⟩; have HPy4 := Lib.hid hp; have HSy4 : Hid (PStep B pb _ y4) := Lib.hid ⟨hb, hk⟩; clear hp hb hk))
        refine hK.out _ _ (by (try dsimp only); exact ⟨hHeld.1.trans HSy4.out.1, hHeld.2.trans HSy4.out.2⟩) (fun hHeld => ?_)
        clear hK K
        refine wpAnyH_ready (rs := [7, 15]) (by kernel_rfl) (by simp) ?_
        refine AllReadyH.cons rfl (fun K hK => ?_) ?_
        · have HZy4 : Hid (B ≤ (y4).heap.size) := Lib.hid (Nat.le_trans hbz5 hHeld.1.size)
          have hHby4 : Hid (But B pb w5 (y4)) := Lib.hid hHeld.1
          have HLENy4 : Hid (((P ++ (numB (x.n : Int)))).length + 0 ≤ P.length + (wayB x).length) := Lib.hid (by rw [WB.out]; simp only [List.length_append]; omega)
          go_simp
          go_wp2_with ((go_at_call 43; (with_reducible refine (pnums_olds HKX.out HOX.out (hHby4.out) HPy4.out HZy4.out hx1000 (by have h0 := HLW.out; have h1 := HLENy4.out; omega)).mono ?_); rintro e y7 ⟨rfl, hp, hb, hk⟩; have HPy7 := Lib.hid hp; have HSy7 : Hid (PStep B pb _ y7) := Lib.hid ⟨hb, hk⟩; clear hp hb hk))
          refine hK.out _ _ (by (try dsimp only); exact ⟨hHeld.1.trans HSy7.out.1, hHeld.2.trans HSy7.out.2⟩) (fun hHeld => ?_)
          clear hK K
          refine wpAnyH_ready (rs := [10, 15]) (by kernel_rfl) (by simp) ?_
          refine AllReadyH.cons rfl (fun K hK => ?_) ?_
          · have HZy7 : Hid (B ≤ (y7).heap.size) := Lib.hid (Nat.le_trans hbz5 hHeld.1.size)
            have hHby7 : Hid (But B pb w5 (y7)) := Lib.hid hHeld.1
            have HLENy7 : Hid ((((P ++ (numB (x.n : Int))) ++ (numsB x.ks))).length + 0 ≤ P.length + (wayB x).length) := Lib.hid (by rw [WB.out]; simp only [List.length_append]; omega)
            go_simp
            go_wp2_with ((go_at_call 24; (with_reducible refine (psum_typed _ HXS.out HPy7.out HZy7.out (by have h0 := HLW.out; have h1 := HLENy7.out; omega)).mono ?_); rintro e y10 ⟨rfl, hp, hb, hk⟩; have HPy10 := Lib.hid hp; have HSy10 : Hid (PStep B pb _ y10) := Lib.hid ⟨hb, hk⟩; clear hp hb hk))
            refine hK.out _ _ (by (try dsimp only); exact ⟨hHeld.1.trans HSy10.out.1, hHeld.2.trans HSy10.out.2⟩) (fun hHeld => ?_)
            clear hK K
            refine wpAnyH_ready (rs := [15]) (by kernel_rfl) (by simp) ?_
            refine AllReadyH.cons rfl (fun K hK => ?_) ?_
            · refine step_two_gen (d := 36) (y := x.after) (z := x.wait) rfl (by rfl) rfl (by rfl) (by rfl) ?_
              intro p z3 hgp hlit hbl
              have LIT := Lib.hid hlit
              have HPz3 := Lib.hid (PenAt.below HPy10.out (Nat.le_trans hbz5 hHeld.1.size) hbl)
              have HSz3 : Hid (PStep B pb _ z3) := Lib.hid ⟨But.of (hbl.mono (Nat.le_trans hbz5 hHeld.1.size)), Keeps.below hbl⟩
              clear hlit hbl hgp
              refine hK.out _ _ (by (try dsimp only); exact ⟨hHeld.1.trans HSz3.out.1, hHeld.2.trans HSz3.out.2⟩) (fun hHeld => ?_)
              clear hK K
              refine wpAnyH_ready (rs := [16]) (by kernel_rfl) (by simp) ?_
              refine AllReadyH.cons rfl (fun K hK => ?_) ?_
              · have HZz3 : Hid (B ≤ (z3).heap.size) := Lib.hid (Nat.le_trans hbz5 hHeld.1.size)
                have hHbz3 : Hid (But B pb w5 (z3)) := Lib.hid hHeld.1
                have HLENz3 : Hid (((((P ++ (numB (x.n : Int))) ++ (numsB x.ks)) ++ x.h)).length + 0 ≤ P.length + (wayB x).length) := Lib.hid (by rw [WB.out]; simp only [List.length_append]; omega)
                go_simp
                go_wp2_with ((go_at_call 43; (with_reducible refine (pnums_typed (n := 2) (c := 2) (off := 0) _ rfl (Nat.le_refl _) (by unfold maxLen; omega) (two_small HXA.out HXW.out) (lit2 LIT.out) HPz3.out HZz3.out (by omega) (by have h0 := HLW.out; have h1 := HLENz3.out; omega)).mono ?_); rintro e y16b ⟨rfl, hp, hb, hk⟩; have HPy16b := Lib.hid hp; have HSy16b : Hid (PStep B pb _ y16b) := Lib.hid ⟨hb, hk⟩; clear hp hb hk))
                refine hK.out _ _ (by (try dsimp only); exact ⟨hHeld.1.trans HSy16b.out.1, hHeld.2.trans HSy16b.out.2⟩) (fun hHeld => ?_)
                clear hK K
                refine wpAnyH_done (by kernel_rfl) ?_ _
                have HS := Lib.hid (show PStep B pb w5 y16b from hHeld)
                clear hHeld
                have HPE : Hid (PenAt y16b B pb (l ++ (numsB [m, (n : Int)] ++ waysB (xs.take (k + 1))))) := Lib.hid (by have h9 := HPy16b.out; rw [HNX.out, WB.out]; simpa only [List.append_assoc] using h9)
                go_wp2_with fail
                go_roundw
                case rel => exact ⟨k + 1, by omega, by go_num, HPE.out, HBW.out.trans HS.out.1, HKP.out.trans HS.out.2⟩
                case measure => simp [intOf]; omega
              exact AllReadyH.nil
            exact AllReadyH.nil
          refine AllReadyH.cons rfl (fun K hK => ?_) ?_
          · refine step_two_gen (d := 36) (y := x.after) (z := x.wait) rfl (by rfl) rfl (by rfl) (by rfl) ?_
            intro p z2 hgp hlit hbl
            have LIT := Lib.hid hlit
            have HPz2 := Lib.hid (PenAt.below HPy7.out (Nat.le_trans hbz5 hHeld.1.size) hbl)
            have HSz2 : Hid (PStep B pb _ z2) := Lib.hid ⟨But.of (hbl.mono (Nat.le_trans hbz5 hHeld.1.size)), Keeps.below hbl⟩
            clear hlit hbl hgp
            refine hK.out _ _ (by (try dsimp only); exact ⟨hHeld.1.trans HSz2.out.1, hHeld.2.trans HSz2.out.2⟩) (fun hHeld => ?_)
            clear hK K
            refine wpAnyH_ready (rs := [10]) (by kernel_rfl) (by simp) ?_
            refine AllReadyH.cons rfl (fun K hK => ?_) ?_
            · have HZz2 : Hid (B ≤ (z2).heap.size) := Lib.hid (Nat.le_trans hbz5 hHeld.1.size)
              have hHbz2 : Hid (But B pb w5 (z2)) := Lib.hid hHeld.1
              have HLENz2 : Hid ((((P ++ (numB (x.n : Int))) ++ (numsB x.ks))).length + 0 ≤ P.length + (wayB x).length) := Lib.hid (by rw [WB.out]; simp only [List.length_append]; omega)
              go_simp
              go_wp2_with ((go_at_call 24; (with_reducible refine (psum_typed _ HXS.out HPz2.out HZz2.out (by have h0 := HLW.out; have h1 := HLENz2.out; omega)).mono ?_); rintro e y10b ⟨rfl, hp, hb, hk⟩; have HPy10b := Lib.hid hp; have HSy10b : Hid (PStep B pb _ y10b) := Lib.hid ⟨hb, hk⟩; clear hp hb hk))
              have LIT0 := LIT.out
              have LIT := Lib.hid (kept_int HSy10b.out.2 LIT0)
              clear LIT0
              refine hK.out _ _ (by (try dsimp only); exact ⟨hHeld.1.trans HSy10b.out.1, hHeld.2.trans HSy10b.out.2⟩) (fun hHeld => ?_)
              clear hK K
              refine wpAnyH_ready (rs := [16]) (by kernel_rfl) (by simp) ?_
              refine AllReadyH.cons rfl (fun K hK => ?_) ?_
              · have HZy10b : Hid (B ≤ (y10b).heap.size) := Lib.hid (Nat.le_trans hbz5 hHeld.1.size)
                have hHby10b : Hid (But B pb w5 (y10b)) := Lib.hid hHeld.1
                have HLENy10b : Hid (((((P ++ (numB (x.n : Int))) ++ (numsB x.ks)) ++ x.h)).length + 0 ≤ P.length + (wayB x).length) := Lib.hid (by rw [WB.out]; simp only [List.length_append]; omega)
                go_simp
                go_wp2_with ((go_at_call 43; (with_reducible refine (pnums_typed (n := 2) (c := 2) (off := 0) _ rfl (Nat.le_refl _) (by unfold maxLen; omega) (two_small HXA.out HXW.out) (lit2 LIT.out) HPy10b.out HZy10b.out (by omega) (by have h0 := HLW.out; have h1 := HLENy10b.out; omega)).mono ?_); rintro e y16b ⟨rfl, hp, hb, hk⟩; have HPy16b := Lib.hid hp; have HSy16b : Hid (PStep B pb _ y16b) := Lib.hid ⟨hb, hk⟩; clear hp hb hk))
                refine hK.out _ _ (by (try dsimp only); exact ⟨hHeld.1.trans HSy16b.out.1, hHeld.2.trans HSy16b.out.2⟩) (fun hHeld => ?_)
                clear hK K
                refine wpAnyH_done (by kernel_rfl) ?_ _
                have HS := Lib.hid (show PStep B pb w5 y16b from hHeld)
                clear hHeld
                have HPE : Hid (PenAt y16b B pb (l ++ (numsB [m, (n : Int)] ++ waysB (xs.take (k + 1))))) := Lib.hid (by have h9 := HPy16b.out; rw [HNX.out, WB.out]; simpa only [List.append_assoc] using h9)
                go_wp2_with fail
                go_roundw
                case rel => exact ⟨k + 1, by omega, by go_num, HPE.out, HBW.out.trans HS.out.1, HKP.out.trans HS.out.2⟩
                case measure => simp [intOf]; omega
              exact AllReadyH.nil
            exact AllReadyH.nil
          exact AllReadyH.nil
        refine AllReadyH.cons rfl (fun K hK => ?_) ?_
        · refine step_two_gen (d := 36) (y := x.after) (z := x.wait) rfl (by rfl) rfl (by rfl) (by rfl) ?_
          intro p z1 hgp hlit hbl
          have LIT := Lib.hid hlit
          have HPz1 := Lib.hid (PenAt.below HPy4.out (Nat.le_trans hbz5 hHeld.1.size) hbl)
          have HSz1 : Hid (PStep B pb _ z1) := Lib.hid ⟨But.of (hbl.mono (Nat.le_trans hbz5 hHeld.1.size)), Keeps.below hbl⟩
          clear hlit hbl hgp
          refine hK.out _ _ (by (try dsimp only); exact ⟨hHeld.1.trans HSz1.out.1, hHeld.2.trans HSz1.out.2⟩) (fun hHeld => ?_)
          clear hK K
          refine wpAnyH_ready (rs := [7]) (by kernel_rfl) (by simp) ?_
          refine AllReadyH.cons rfl (fun K hK => ?_) ?_
          · have HZz1 : Hid (B ≤ (z1).heap.size) := Lib.hid (Nat.le_trans hbz5 hHeld.1.size)
            have hHbz1 : Hid (But B pb w5 (z1)) := Lib.hid hHeld.1
            have HLENz1 : Hid (((P ++ (numB (x.n : Int)))).length + 0 ≤ P.length + (wayB x).length) := Lib.hid (by rw [WB.out]; simp only [List.length_append]; omega)
            go_simp
            go_wp2_with ((go_at_call 43; (with_reducible refine (pnums_olds HKX.out HOX.out (hHbz1.out) HPz1.out HZz1.out hx1000 (by have h0 := HLW.out; have h1 := HLENz1.out; omega)).mono ?_); rintro e y7b ⟨rfl, hp, hb, hk⟩; have HPy7b := Lib.hid hp; have HSy7b : Hid (PStep B pb _ y7b) := Lib.hid ⟨hb, hk⟩; clear hp hb hk))
            have LIT0 := LIT.out
            have LIT := Lib.hid (kept_int HSy7b.out.2 LIT0)
            clear LIT0
            refine hK.out _ _ (by (try dsimp only); exact ⟨hHeld.1.trans HSy7b.out.1, hHeld.2.trans HSy7b.out.2⟩) (fun hHeld => ?_)
            clear hK K
            refine wpAnyH_ready (rs := [10]) (by kernel_rfl) (by simp) ?_
            refine AllReadyH.cons rfl (fun K hK => ?_) ?_
            · have HZy7b : Hid (B ≤ (y7b).heap.size) := Lib.hid (Nat.le_trans hbz5 hHeld.1.size)
              have hHby7b : Hid (But B pb w5 (y7b)) := Lib.hid hHeld.1
              have HLENy7b : Hid ((((P ++ (numB (x.n : Int))) ++ (numsB x.ks))).length + 0 ≤ P.length + (wayB x).length) := Lib.hid (by rw [WB.out]; simp only [List.length_append]; omega)
              go_simp
              go_wp2_with ((go_at_call 24; (with_reducible refine (psum_typed _ HXS.out HPy7b.out HZy7b.out (by have h0 := HLW.out; have h1 := HLENy7b.out; omega)).mono ?_); rintro e y10b ⟨rfl, hp, hb, hk⟩; have HPy10b := Lib.hid hp; have HSy10b : Hid (PStep B pb _ y10b) := Lib.hid ⟨hb, hk⟩; clear hp hb hk))
              have LIT0 := LIT.out
              have LIT := Lib.hid (kept_int HSy10b.out.2 LIT0)
              clear LIT0
              refine hK.out _ _ (by (try dsimp only); exact ⟨hHeld.1.trans HSy10b.out.1, hHeld.2.trans HSy10b.out.2⟩) (fun hHeld => ?_)
              clear hK K
              refine wpAnyH_ready (rs := [16]) (by kernel_rfl) (by simp) ?_
              refine AllReadyH.cons rfl (fun K hK => ?_) ?_
              · have HZy10b : Hid (B ≤ (y10b).heap.size) := Lib.hid (Nat.le_trans hbz5 hHeld.1.size)
                have hHby10b : Hid (But B pb w5 (y10b)) := Lib.hid hHeld.1
                have HLENy10b : Hid (((((P ++ (numB (x.n : Int))) ++ (numsB x.ks)) ++ x.h)).length + 0 ≤ P.length + (wayB x).length) := Lib.hid (by rw [WB.out]; simp only [List.length_append]; omega)
                go_simp
                go_wp2_with ((go_at_call 43; (with_reducible refine (pnums_typed (n := 2) (c := 2) (off := 0) _ rfl (Nat.le_refl _) (by unfold maxLen; omega) (two_small HXA.out HXW.out) (lit2 LIT.out) HPy10b.out HZy10b.out (by omega) (by have h0 := HLW.out; have h1 := HLENy10b.out; omega)).mono ?_); rintro e y16b ⟨rfl, hp, hb, hk⟩; have HPy16b := Lib.hid hp; have HSy16b : Hid (PStep B pb _ y16b) := Lib.hid ⟨hb, hk⟩; clear hp hb hk))
                refine hK.out _ _ (by (try dsimp only); exact ⟨hHeld.1.trans HSy16b.out.1, hHeld.2.trans HSy16b.out.2⟩) (fun hHeld => ?_)
                clear hK K
                refine wpAnyH_done (by kernel_rfl) ?_ _
                have HS := Lib.hid (show PStep B pb w5 y16b from hHeld)
                clear hHeld
                have HPE : Hid (PenAt y16b B pb (l ++ (numsB [m, (n : Int)] ++ waysB (xs.take (k + 1))))) := Lib.hid (by have h9 := HPy16b.out; rw [HNX.out, WB.out]; simpa only [List.append_assoc] using h9)
                go_wp2_with fail
                go_roundw
                case rel => exact ⟨k + 1, by omega, by go_num, HPE.out, HBW.out.trans HS.out.1, HKP.out.trans HS.out.2⟩
                case measure => simp [intOf]; omega
              exact AllReadyH.nil
            exact AllReadyH.nil
          exact AllReadyH.nil
        exact AllReadyH.nil
      refine AllReadyH.cons rfl (fun K hK => ?_) ?_
      · refine step_two_gen (d := 36) (y := x.after) (z := x.wait) rfl (by rfl) rfl (by rfl) (by rfl) ?_
        intro p z0 hgp hlit hbl
        have LIT := Lib.hid hlit
        have HPz0 := Lib.hid (PenAt.below HPEN0.out (Nat.le_trans hbz5 hHeld.1.size) hbl)
        have HSz0 : Hid (PStep B pb _ z0) := Lib.hid ⟨But.of (hbl.mono (Nat.le_trans hbz5 hHeld.1.size)), Keeps.below hbl⟩
        clear hlit hbl hgp
        refine hK.out _ _ (by (try dsimp only); exact ⟨hHeld.1.trans HSz0.out.1, hHeld.2.trans HSz0.out.2⟩) (fun hHeld => ?_)
        clear hK K
        refine wpAnyH_ready (rs := [4]) (by kernel_rfl) (by simp) ?_
        refine AllReadyH.cons rfl (fun K hK => ?_) ?_
        · have HZz0 : Hid (B ≤ (z0).heap.size) := Lib.hid (Nat.le_trans hbz5 hHeld.1.size)
          have hHbz0 : Hid (But B pb w5 (z0)) := Lib.hid hHeld.1
          have HLENz0 : Hid ((P).length + 0 ≤ P.length + (wayB x).length) := Lib.hid (by rw [WB.out]; simp only [List.length_append]; omega)
          go_simp
          go_wp2_with ((go_at_call 25; (with_reducible refine (pnum_typed (x.n : Int) HPz0.out HZz0.out (by have h0 := HLW.out; have h1 := HLENz0.out; omega) hx63).mono ?_); rintro e y4b ⟨rfl, hp, hb, hk⟩; have HPy4b := Lib.hid hp; have HSy4b : Hid (PStep B pb _ y4b) := Lib.hid ⟨hb, hk⟩; clear hp hb hk))
          have LIT0 := LIT.out
          have LIT := Lib.hid (kept_int HSy4b.out.2 LIT0)
          clear LIT0
          refine hK.out _ _ (by (try dsimp only); exact ⟨hHeld.1.trans HSy4b.out.1, hHeld.2.trans HSy4b.out.2⟩) (fun hHeld => ?_)
          clear hK K
          refine wpAnyH_ready (rs := [7]) (by kernel_rfl) (by simp) ?_
          refine AllReadyH.cons rfl (fun K hK => ?_) ?_
          · have HZy4b : Hid (B ≤ (y4b).heap.size) := Lib.hid (Nat.le_trans hbz5 hHeld.1.size)
            have hHby4b : Hid (But B pb w5 (y4b)) := Lib.hid hHeld.1
            have HLENy4b : Hid (((P ++ (numB (x.n : Int)))).length + 0 ≤ P.length + (wayB x).length) := Lib.hid (by rw [WB.out]; simp only [List.length_append]; omega)
            go_simp
            go_wp2_with ((go_at_call 43; (with_reducible refine (pnums_olds HKX.out HOX.out (hHby4b.out) HPy4b.out HZy4b.out hx1000 (by have h0 := HLW.out; have h1 := HLENy4b.out; omega)).mono ?_); rintro e y7b ⟨rfl, hp, hb, hk⟩; have HPy7b := Lib.hid hp; have HSy7b : Hid (PStep B pb _ y7b) := Lib.hid ⟨hb, hk⟩; clear hp hb hk))
            have LIT0 := LIT.out
            have LIT := Lib.hid (kept_int HSy7b.out.2 LIT0)
            clear LIT0
            refine hK.out _ _ (by (try dsimp only); exact ⟨hHeld.1.trans HSy7b.out.1, hHeld.2.trans HSy7b.out.2⟩) (fun hHeld => ?_)
            clear hK K
            refine wpAnyH_ready (rs := [10]) (by kernel_rfl) (by simp) ?_
            refine AllReadyH.cons rfl (fun K hK => ?_) ?_
            · have HZy7b : Hid (B ≤ (y7b).heap.size) := Lib.hid (Nat.le_trans hbz5 hHeld.1.size)
              have hHby7b : Hid (But B pb w5 (y7b)) := Lib.hid hHeld.1
              have HLENy7b : Hid ((((P ++ (numB (x.n : Int))) ++ (numsB x.ks))).length + 0 ≤ P.length + (wayB x).length) := Lib.hid (by rw [WB.out]; simp only [List.length_append]; omega)
              go_simp
              go_wp2_with ((go_at_call 24; (with_reducible refine (psum_typed _ HXS.out HPy7b.out HZy7b.out (by have h0 := HLW.out; have h1 := HLENy7b.out; omega)).mono ?_); rintro e y10b ⟨rfl, hp, hb, hk⟩; have HPy10b := Lib.hid hp; have HSy10b : Hid (PStep B pb _ y10b) := Lib.hid ⟨hb, hk⟩; clear hp hb hk))
              have LIT0 := LIT.out
              have LIT := Lib.hid (kept_int HSy10b.out.2 LIT0)
              clear LIT0
              refine hK.out _ _ (by (try dsimp only); exact ⟨hHeld.1.trans HSy10b.out.1, hHeld.2.trans HSy10b.out.2⟩) (fun hHeld => ?_)
              clear hK K
              refine wpAnyH_ready (rs := [16]) (by kernel_rfl) (by simp) ?_
              refine AllReadyH.cons rfl (fun K hK => ?_) ?_
              · have HZy10b : Hid (B ≤ (y10b).heap.size) := Lib.hid (Nat.le_trans hbz5 hHeld.1.size)
                have hHby10b : Hid (But B pb w5 (y10b)) := Lib.hid hHeld.1
                have HLENy10b : Hid (((((P ++ (numB (x.n : Int))) ++ (numsB x.ks)) ++ x.h)).length + 0 ≤ P.length + (wayB x).length) := Lib.hid (by rw [WB.out]; simp only [List.length_append]; omega)
                go_simp
                go_wp2_with ((go_at_call 43; (with_reducible refine (pnums_typed (n := 2) (c := 2) (off := 0) _ rfl (Nat.le_refl _) (by unfold maxLen; omega) (two_small HXA.out HXW.out) (lit2 LIT.out) HPy10b.out HZy10b.out (by omega) (by have h0 := HLW.out; have h1 := HLENy10b.out; omega)).mono ?_); rintro e y16b ⟨rfl, hp, hb, hk⟩; have HPy16b := Lib.hid hp; have HSy16b : Hid (PStep B pb _ y16b) := Lib.hid ⟨hb, hk⟩; clear hp hb hk))
                refine hK.out _ _ (by (try dsimp only); exact ⟨hHeld.1.trans HSy16b.out.1, hHeld.2.trans HSy16b.out.2⟩) (fun hHeld => ?_)
                clear hK K
                refine wpAnyH_done (by kernel_rfl) ?_ _
                have HS := Lib.hid (show PStep B pb w5 y16b from hHeld)
                clear hHeld
                have HPE : Hid (PenAt y16b B pb (l ++ (numsB [m, (n : Int)] ++ waysB (xs.take (k + 1))))) := Lib.hid (by have h9 := HPy16b.out; rw [HNX.out, WB.out]; simpa only [List.append_assoc] using h9)
                go_wp2_with fail
                go_roundw
                case rel => exact ⟨k + 1, by omega, by go_num, HPE.out, HBW.out.trans HS.out.1, HKP.out.trans HS.out.2⟩
                case measure => simp [intOf]; omega
              exact AllReadyH.nil
            exact AllReadyH.nil
          exact AllReadyH.nil
        exact AllReadyH.nil
      exact AllReadyH.nil
    · obtain rfl : k = n := by omega
      have f1 : ¬ ((k : Int) < (k : Int)) := by omega
      have htk : xs.take k = xs := List.take_of_length_le (by rw [H.out.1]; exact Nat.le_refl _)
      have HPE : Hid (PenAt wr B pb (l ++ outB m xs)) := Lib.hid (by rw [HE.out]; have h9 := HPK.out; rw [htk] at h9; exact h9)
      clear htk
      go_wp2
      go_end0
      exact ⟨rfl, HPE.out, HBK.out, HKK.out⟩
end Go.Proofs.YtlnenkmcegadmaaDoor
