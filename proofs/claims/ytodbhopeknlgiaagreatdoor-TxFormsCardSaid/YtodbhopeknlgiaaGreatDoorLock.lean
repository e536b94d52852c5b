/- Ways and outs in memory: what they read as. No function of the program is named. Which ways may be: plainly, and what package lock's rise, rightHeight and Right come to. Which ways and outs are alike: plainly, and what slices.Equal, sameWay, EqualFunc, Same come to. A way is laid into a new block; and the outs that EqualFunc and Same tell alike. Outs: what RightOut, Same, To and Sole come to. What Sole comes to. Clone, Sort and BinarySearch at []int, over slices of numbers of the call's own. What 'among' comes to: the closure that looks a key up, IndexFunc and ContainsFunc at []int. What Hash and shows come to. What Opens comes to; and the statement's own example. Reading as plain functions of what is left and the error: a number up to another one, numbers, a sum; and what Upto and Sum come to, whatever the error. An out's bytes, and the out that is read of bytes: plainly; each is the other's. What lock.Put comes to: an out's bytes are written. A variable that holds a way: what is stored into its parts; and numbers that are read into it. What getWay comes to: a way is read, whatever the error. A slice of ways of the call's own, that grows by append; and how all stands while an out is read. What lock.Get comes to: an out is read, whatever the error. -/
import Derived.Test.YtodbhopeknlgiaaGreatDoorNumbers
import Derived.Test.YtodbhopeknlgiaaGreatDoorSha
import Derived.Test.YtodbhopeknlgiaaGreatDoorMemory
import Derived.Test.YtodbhopeknlgiaaGreatDoorShelf
import Derived.Test.YtodbhopeknlgiaaGreatDoorOwnZ
import Derived.Sort.OwnSortedInts
import Derived.Test.YtodbhopeknlgiaaGreatDoorWire
namespace Go.Proofs.YtodbhopeknlgiaaGreatDoor
open Go.RowKit

/-- What a way has, and where its keys lie. -/
structure PWay where
  a : Option Addr
  n : Nat
  c : Nat
  ks : List Int
  h : List UInt8
  after : Int
  wait : Int
def noWay : PWay := ⟨none, 0, 0, [], zero32, 0, 0⟩
def PWay.cells (x : PWay) : List Value := .slice x.a x.n x.c :: (cellsOf x.h ++ [.int .i64 x.after, .int .i64 x.wait])
/-- A way that may stand in this world. -/
structure WayIn (w : World) (x : PWay) : Prop where
  keys : Numbers w x.a x.n x.c x.ks
  sum : x.h.length = 32
  after : Fits x.after
  wait : Fits x.wait
theorem WayIn.below {w w' : World} {x : PWay} (h : WayIn w x) (hb : Below w.heap.size w w') : WayIn w' x := ⟨h.keys.below hb, h.sum, h.after, h.wait⟩
theorem zero32_len : zero32.length = 32 := by decide
theorem WayIn.none (w : World) : WayIn w noWay := ⟨Numbers.nil w, zero32_len, by constructor <;> decide, by constructor <;> decide⟩
theorem PWay.cells_len {x : PWay} (h : x.h.length = 32) : x.cells.length = 35 := by simp [PWay.cells, cellsOf_len, h]
theorem PWay.cells_one (x : PWay) : ∀ v ∈ x.cells, v.oneCell' = true := by
  intro v hv
  simp only [PWay.cells, List.mem_cons, List.mem_append, List.not_mem_nil, or_false] at hv
  rcases hv with rfl | hv | rfl | rfl
  · rfl
  · exact cellsOf_one _ v hv
  · rfl
  · rfl
/-- The parts of a way whose cells lie somewhere. -/
theorem way_keys {w : World} {b o : Nat} {x : PWay} (h : w.rangeAt b o x.cells) : w.cell? ⟨b, o, none⟩ = some (.slice x.a x.n x.c) := h 0 _ rfl
theorem way_sum {w : World} {b o : Nat} {x : PWay} (hx : x.h.length = 32) (h : w.rangeAt b o x.cells) : w.rangeAt b (o + 1) (cellsOf x.h) := fun j v hv => by
  have hj : j < 32 := by
    have := (List.getElem?_eq_some_iff.1 hv).1
    rw [cellsOf_len, hx] at this
    exact this
  have := h (j + 1) v (by
    show (Value.slice x.a x.n x.c :: (cellsOf x.h ++ [.int .i64 x.after, .int .i64 x.wait]))[j + 1]? = some v
    rw [List.getElem?_cons_succ, List.getElem?_append_left (by rw [cellsOf_len, hx]; exact hj)]
    exact hv)
  rw [show o + 1 + j = o + (j + 1) by omega]
  exact this
theorem way_after {w : World} {b o : Nat} {x : PWay} (hx : x.h.length = 32) (h : w.rangeAt b o x.cells) : w.cell? ⟨b, o + 33, none⟩ = some (.int .i64 x.after) := h 33 _ (by
  show (Value.slice x.a x.n x.c :: (cellsOf x.h ++ [.int .i64 x.after, .int .i64 x.wait]))[32 + 1]? = _
  rw [List.getElem?_cons_succ, List.getElem?_append_right (by rw [cellsOf_len, hx]; omega), cellsOf_len, hx]
  rfl)
theorem way_wait {w : World} {b o : Nat} {x : PWay} (hx : x.h.length = 32) (h : w.rangeAt b o x.cells) : w.cell? ⟨b, o + 34, none⟩ = some (.int .i64 x.wait) := h 34 _ (by
  show (Value.slice x.a x.n x.c :: (cellsOf x.h ++ [.int .i64 x.after, .int .i64 x.wait]))[33 + 1]? = _
  rw [List.getElem?_cons_succ, List.getElem?_append_right (by rw [cellsOf_len, hx]; omega), cellsOf_len, hx]
  rfl)
theorem Tryz.size64 : (Tryz.prog.info? 64).map (·.size) = some 35 := by kernel_rfl
theorem way_size {x : PWay} (h : x.h.length = 32) : (Tryz.prog.info? 64).map (·.size) = some x.cells.length := by rw [PWay.cells_len h]; exact Tryz.size64
theorem way_sizeA {x : PWay} (h : x.h.length = 32) : (Tryz.prog.info? 64).map (·.size) = some x.cells.toArray.size := by rw [List.size_toArray]; exact way_size h

/-- A slice of ways. -/
def Ways (w : World) (a : Option Addr) (n c : Nat) (xs : List PWay) : Prop :=
  xs.length = n ∧ n ≤ c ∧ c ≤ maxLen ∧ (a = none → c = 0) ∧ (∀ x ∈ xs, WayIn w x) ∧
  (0 < n → ∃ b off, a = some ⟨b, off, none⟩ ∧ b < w.heap.size ∧ ∀ j, j < n → w.rangeAt b (off + j * 35) (xs.getD j noWay).cells)
theorem Ways.below {w w' : World} {n c : Nat} {a : Option Addr} {xs : List PWay} (h : Ways w a n c xs) (hb : Below w.heap.size w w') : Ways w' a n c xs := by
  obtain ⟨h1, h2, h3, h4, h6, h5⟩ := h
  refine ⟨h1, h2, h3, h4, fun x hx => (h6 x hx).below hb, fun h0 => ?_⟩
  obtain ⟨b, off, rfl, hlt, hc⟩ := h5 h0
  exact ⟨b, off, rfl, Nat.lt_of_lt_of_le hlt hb.size, fun j hj => rangeAt_below (hc j hj) hlt hb⟩
theorem Ways.nil (w : World) : Ways w none 0 0 [] := ⟨rfl, Nat.le_refl _, Nat.zero_le _, fun _ => rfl, (fun _ h => by cases h), fun h => by omega⟩
theorem Ways.way {w : World} {n c j : Nat} {a : Option Addr} {xs : List PWay} (h : Ways w a n c xs) (hj : j < n) : WayIn w (xs.getD j noWay) := by
  have hj' : j < xs.length := by rw [h.1]; exact hj
  rw [List.getD_eq_getElem?_getD, List.getElem?_eq_getElem hj']
  exact h.2.2.2.2.1 _ (List.getElem_mem hj')
/-- A block of one way. -/
theorem ways_one {w : World} {g : Nat} {x : PWay} {t : TypeId} {fr : Nat × Nat} (h : w.heap[g]? = some (.cells x.cells.toArray t fr)) (hx : WayIn w x) : Ways w (some ⟨g, 0, none⟩) 1 1 [x] := by
  refine ⟨rfl, Nat.le_refl _, by unfold maxLen; omega, (fun e => by cases e), fun y hy => by simp at hy; subst hy; exact hx, fun _ => ⟨g, 0, rfl, lt_of_block h, fun j hj => ?_⟩⟩
  obtain rfl : j = 0 := by omega
  exact range_of h
end Go.Proofs.YtodbhopeknlgiaaGreatDoor
namespace Go.Proofs.YtodbhopeknlgiaaGreatDoor
open Go.RowKit

/-- Keys that rise, from 'least' on, none above 255. -/
def rises (least : Int) : List Int → Bool
  | [] => true
  | k :: l => if k < least then false else if 255 < k then false else rises (k + 1) l
theorem rises_low {s k : Int} {l : List Int} (h : k < s) : rises s (k :: l) = false := by unfold rises; rw [if_pos h]
theorem rises_high {s k : Int} {l : List Int} (h : ¬ k < s) (h' : 255 < k) : rises s (k :: l) = false := by unfold rises; rw [if_neg h, if_pos h']
theorem rises_more {s k : Int} {l : List Int} (h : ¬ k < s) (h' : ¬ 255 < k) : rises s (k :: l) = rises (k + 1) l := by rw [rises, if_neg h, if_neg h']
def okHeight (z : Int) : Bool := decide (0 ≤ z ∧ z ≤ 1073741824)
theorem okHeight_yes {z : Int} (h : 0 ≤ z) (h' : z ≤ 1073741824) : okHeight z = true := decide_eq_true ⟨h, h'⟩
theorem okHeight_no {z : Int} (h : z < 0 ∨ 1073741824 < z) : okHeight z = false := decide_eq_false (by omega)
def wayOk (x : PWay) : Bool := decide (x.ks.length ≤ 16) && (rises 0 x.ks && (okHeight x.after && okHeight x.wait))
set_option linter.unusedSimpArgs false in
set_option maxRecDepth 100000 in
set_option maxHeartbeats 1600000 in
theorem rise_any {w : World} {a : Option Addr} {n c : Nat} {zs : List Int} (h : Numbers w a n c zs) : Calls Tryz.prog 85 #[.slice a n c] w fun e w' => e = .returned (.bool (rises 0 zs)) ∧ w = w' := by
  obtain ⟨R, hR⟩ : ∃ R, R = rises 0 zs := ⟨_, rfl⟩
  rw [← hR]
  have hlen := h.1
  have hn63 : (n : Int) ≤ 9223372036854775807 := by have h1 := h.2.1; have h2 := h.2.2.1; unfold maxLen at h2; omega
  have H := Lib.hid h
  have HR := Lib.hid hR
  have HL := Lib.hid hlen
  clear h hR hlen
  go_enter Tryz.func85, Tryz.ntmps85
  go_wp2
  go_loop [3, 8] (fun s i => ∃ (k : Nat) (S : Int), k ≤ n ∧ i = .int .i64 k ∧ s = .int .i64 S ∧ 0 ≤ S ∧ S ≤ 256 ∧ R = rises S (zs.drop k)) (fun _ i => n - (intOf i).toNat)
  case atStart => exact ⟨0, 0, Nat.zero_le _, rfl, rfl, Int.le_refl _, by omega, HR.out⟩
  case round =>
    obtain ⟨k, S, hk, rfl, rfl, hS0, hS1, hRk⟩ := hrel
    by_cases hkn : k < n
    · have f1 : (k : Int) < (n : Int) := by omega
      have f0 : (0 : Int) ≤ (k : Int) := by omega
      have ft : ((k : Int)).toNat = k := by omega
      obtain ⟨b, off, rfl, _, hcells⟩ := H.out.2.2.2.2.2 (by omega)
      have hc := hcells k hkn
      obtain ⟨z1, z2⟩ := H.out.fits hkn
      rw [drop_cons (by rw [HL.out]; exact hkn)] at hRk
      obtain ⟨z, hz⟩ : ∃ z, z = zs.getD k 0 := ⟨_, rfl⟩
      rw [← hz] at hc z1 z2 hRk
      have HRK := Lib.hid hRk
      clear hRk hz hcells HR
      by_cases h1 : z < S
      · have hR5 := HRK.out
        rw [rises_low h1] at hR5
        subst hR5
        go_wp2
        go_ret
        exact ⟨rfl, rfl⟩
      · by_cases h2 : 255 < z
        · have hR5 := HRK.out
          rw [rises_high h1 h2] at hR5
          subst hR5
          go_wp2
          go_ret
          exact ⟨rfl, rfl⟩
        · have hR5 := HRK.out
          rw [rises_more h1 h2] at hR5
          have HR5 := Lib.hid hR5
          have iw : IntKind.i64.wrap (z + 1) = z + 1 := IntWalk.i64_in _ (by omega)
          have g0 : 0 ≤ z + 1 := by omega
          have g1 : z + 1 ≤ 256 := by omega
          clear hR5 HRK
          go_wp2
          go_round
          case rel => exact ⟨k + 1, z + 1, by omega, by go_num, rfl, g0, g1, HR5.out⟩
          case measure => simp [intOf]; omega
    · have f1 : ¬ ((k : Int) < (n : Int)) := by omega
      have hd : zs.drop k = [] := List.drop_of_length_le (by rw [HL.out]; omega)
      rw [hd] at hRk
      have hRk : R = true := hRk
      subst hRk
      clear HR
      go_wp2
      go_ret
      exact ⟨rfl, rfl⟩
theorem height_any (z : Int) (w : World) : Calls Tryz.prog 86 #[.int .i64 z] w fun e w' => e = .returned (.bool (okHeight z)) ∧ w = w' := by
  by_cases h1 : 0 ≤ z
  · by_cases h2 : z ≤ 1073741824
    · rw [okHeight_yes h1 h2]
      go_enter Tryz.func86, Tryz.ntmps86
      go_wp2
      go_ret
      exact ⟨rfl, rfl⟩
    · rw [okHeight_no (by omega)]
      go_enter Tryz.func86, Tryz.ntmps86
      go_wp2
      go_ret
      exact ⟨rfl, rfl⟩
  · rw [okHeight_no (by omega)]
    go_enter Tryz.func86, Tryz.ntmps86
    go_wp2
    go_ret
    exact ⟨rfl, rfl⟩
/-- A way that was laid into a new block. -/
theorem way_boxed {w : World} {x : PWay} (h : WayIn w x) (t : TypeId) : ∃ v, (w.alloc (.cells x.cells.toArray t)) = v ∧ Below w.heap.size w v ∧ w.heap.size < v.heap.size ∧ WayIn v x ∧ v.rangeAt w.heap.size 0 x.cells :=
  ⟨_, rfl, (Below.refl _ _).alloc (Nat.le_refl _) _, by simp, h.below ((Below.refl _ _).alloc (Nat.le_refl _) _), range_of (heap_alloc_new _ _)⟩
set_option linter.unusedSimpArgs false in
set_option maxRecDepth 100000 in
set_option maxHeartbeats 1600000 in
theorem lockRight_any {w : World} {x : PWay} (h : WayIn w x) : Calls Tryz.prog 61 #[.agg x.cells.toArray] w fun e w' => e = .returned (.bool (wayOk x)) ∧ Below w.heap.size w w' := by
  obtain ⟨b0, r1, hb0⟩ : ∃ b0 r1, wayOk x = (b0 && (r1 && (okHeight x.after && okHeight x.wait))) ∧ b0 = decide (x.n ≤ 16) ∧ r1 = rises 0 x.ks := ⟨_, _, rfl, by rw [h.keys.1], rfl⟩
  obtain ⟨r2, hr2⟩ : ∃ r, okHeight x.after = r := ⟨_, rfl⟩
  obtain ⟨r3, hr3⟩ : ∃ r, okHeight x.wait = r := ⟨_, rfl⟩
  obtain ⟨hb0, hb1, hr1⟩ := hb0
  rw [hb0, hr2, hr3]
  have hri : ∀ W : World, Below w.heap.size w W → Calls Tryz.prog 85 #[.slice x.a x.n x.c] W fun e w' => e = .returned (.bool r1) ∧ W = w' := fun W hW => by rw [hr1]; exact rise_any (h.keys.below hW)
  have hh2 : ∀ W : World, Calls Tryz.prog 86 #[.int .i64 x.after] W fun e w' => e = .returned (.bool r2) ∧ W = w' := fun W => by rw [← hr2]; exact height_any _ W
  have hh3 : ∀ W : World, Calls Tryz.prog 86 #[.int .i64 x.wait] W fun e w' => e = .returned (.bool r3) ∧ W = w' := fun W => by rw [← hr3]; exact height_any _ W
  have HRI := Lib.hid hri
  have HH2 := Lib.hid hh2
  have HH3 := Lib.hid hh3
  have hn63 : (x.n : Int) ≤ 9223372036854775807 := by have h1 := h.keys.2.1; have h2 := h.keys.2.2.1; unfold maxLen at h2; omega
  clear hri hh2 hh3 hb0 hr1 hr2 hr3
  go_enter Tryz.func61, Tryz.ntmps61
  go_upto_region 1 with (fail)
  obtain ⟨v, hv, hb, hlt, hx, hrg⟩ := way_boxed h 64
  rw [hv]
  have c0 := way_keys hrg
  have c1 := way_after hx.sum hrg
  have c2 := way_wait hx.sum hrg
  rw [Nat.zero_add] at c1 c2
  have HB := Lib.hid hb
  obtain ⟨g, hg⟩ : ∃ g, g = w.heap.size := ⟨_, rfl⟩
  rw [← hg] at c0 c1 c2 ⊢
  clear hv hrg hx h hb hg hlt
  by_cases hn : x.n ≤ 16
  · have f1 : (x.n : Int) ≤ 16 := by omega
    rw [decide_eq_true hn] at hb1
    subst hb1
    cases r1 <;> cases r2 <;> cases r3
    all_goals
      go_wp2_with (first | (go_at_call 85; (with_reducible refine (HRI.out _ HB.out).mono ?_); rintro e w' ⟨rfl, rfl⟩) | (go_at_call 86; first | ((with_reducible refine (HH2.out _).mono ?_); rintro e w' ⟨rfl, rfl⟩) | ((with_reducible refine (HH3.out _).mono ?_); rintro e w' ⟨rfl, rfl⟩)) | fail)
      go_ret
      exact ⟨rfl, HB.out⟩
  · have f1 : ¬ (x.n : Int) ≤ 16 := by omega
    rw [decide_eq_false hn] at hb1
    subst hb1
    go_wp2
    go_ret
    exact ⟨rfl, HB.out⟩
end Go.Proofs.YtodbhopeknlgiaaGreatDoor
namespace Go.Proofs.YtodbhopeknlgiaaGreatDoor
open Go.RowKit

def alikeW (x y : PWay) : Bool := decide (x.ks = y.ks) && (decide (x.h = y.h) && (decide (x.after = y.after) && decide (x.wait = y.wait)))
/-- A load of a whole row in the midst of a block, guarded, in a plain region. -/
theorem wpList_mid_wanted {P : Program} {ops : Array Oper} {rest : List Oper} {o : Oper} {a : Act} {w : World} {Q : Exit → Act → World → Prop} (hw : Region.wanted o (yielded ops a.tmps) = true) (ty : TypeId) (x : Operand) (ho : o.op = .load ty x)
    (b off : Nat) (hx : a.eval x = .pointer (some ⟨b, off, none⟩)) (cs : List Value) (d : TypeDesc) (hc : w.rangeAt b off cs)
    (hu : P.underlying ty = some d) (hd : d.isRow = true) (hi : (P.info? ty).map (·.size) = some cs.length)
    (h : wpList P ops Q rest (a.put o.dst (.agg cs.toArray)) w) : wpList P ops Q (o :: rest) a w :=
  wpList_step fun K hK => by
    simp only [hw, if_true]
    exact wp_load_mid ty x ho b off hx cs d hc hu hd hi (hK _ _ h)
theorem sumLen {s : List UInt8} (h : s.length = 32) : (Tryz.prog.info? 25).map (·.size) = some (cellsOf s).length := by rw [cellsOf_len, h]; exact Tryz.size25
end Go.Proofs.YtodbhopeknlgiaaGreatDoor
namespace Go.Proofs.YtodbhopeknlgiaaGreatDoor
open Go.RowKit

theorem noWay_is : noWay.cells.toArray = #[.slice none 0 0, .int .u8 0, .int .u8 0, .int .u8 0, .int .u8 0, .int .u8 0, .int .u8 0, .int .u8 0, .int .u8 0, .int .u8 0, .int .u8 0, .int .u8 0, .int .u8 0, .int .u8 0, .int .u8 0, .int .u8 0, .int .u8 0, .int .u8 0, .int .u8 0, .int .u8 0, .int .u8 0, .int .u8 0, .int .u8 0, .int .u8 0, .int .u8 0, .int .u8 0, .int .u8 0, .int .u8 0, .int .u8 0, .int .u8 0, .int .u8 0, .int .u8 0, .int .u8 0, .int .i64 0, .int .i64 0] := rfl
/-- A world with one way more. -/
def layWay (w : World) (x : PWay) : World := (w.alloc (.cells noWay.cells.toArray 64)).setRow w.heap.size x.cells.toArray
theorem layWay_is (w : World) (x : PWay) : (w.alloc (.cells noWay.cells.toArray 64)).setRow w.heap.size x.cells.toArray = layWay w x := rfl
theorem layWay_heap (w : World) (x : PWay) : (layWay w x).heap[w.heap.size]? = some (.cells x.cells.toArray 64 (0, 0)) := setRow_heap _ _ _ _ _ _ (heap_alloc_new _ _)
theorem layWay_below {w0 w : World} (x : PWay) (hb : Below w0.heap.size w0 w) : Below w0.heap.size w0 (layWay w x) := by
  have b : Below w0.heap.size w0 (w.alloc (.cells noWay.cells.toArray 64)) := hb.alloc hb.size _
  exact b.trans (((but_setRow _ w.heap.size _).mono b.size).below hb.size)
theorem layWay_self (w : World) (x : PWay) : Below w.heap.size w (layWay w x) := layWay_below x (Below.refl _ _)
theorem layWay_size (w : World) (x : PWay) : (layWay w x).heap.size = w.heap.size + 1 := by simp [layWay, World.setRow]
theorem way_zero {x : PWay} (h : x.h.length = 32) : noWay.cells.toArray.size = x.cells.toArray.size := by rw [List.size_toArray, List.size_toArray, PWay.cells_len h]; rfl
theorem ways_drop {xs : List PWay} {j : Nat} (h : j < xs.length) : xs.drop j = xs.getD j noWay :: xs.drop (j + 1) := by
  rw [List.drop_eq_getElem_cons h]
  simp [List.getD, h]
/-- Ways alike, one by one. -/
def alikeWs : List PWay → List PWay → Bool
  | [], [] => true
  | x :: xs, y :: ys => alikeW x y && alikeWs xs ys
  | _, _ => false
theorem alikeWs_len : ∀ {xs ys : List PWay}, xs.length ≠ ys.length → alikeWs xs ys = false
  | [], [], h => absurd rfl h
  | [], _ :: _, _ => rfl
  | _ :: _, [], _ => rfl
  | x :: xs, y :: ys, h => by
    have := alikeWs_len (xs := xs) (ys := ys) (fun e => h (by simp [e]))
    simp [alikeWs, this]
end Go.Proofs.YtodbhopeknlgiaaGreatDoor
namespace Go.Proofs.YtodbhopeknlgiaaGreatDoor
open Go.RowKit

theorem rightOut1_any {w : World} {x : PWay} (h : WayIn w x) : Calls Tryz.prog 60 #[.agg x.cells.toArray] w fun e w' => e = .returned (.bool (!wayOk x)) ∧ Below w.heap.size w w' := by
  have b1 : Below w.heap.size w (w.alloc (.cells x.cells.toArray 64)) := (Below.refl _ _).alloc (Nat.le_refl _) _
  have HC := Lib.hid (lockRight_any (h.below b1))
  have HB := Lib.hid b1
  have H2 := Lib.hid (heap_alloc_new w (.cells x.cells.toArray 64))
  have AX := Lib.hid (way_sizeA h.sum)
  generalize wayOk x = r at *
  clear h b1
  go_enter Tryz.func60, Tryz.ntmps60
  go_wp2_with (first | (refine wpList_load_row rfl 64 _ rfl w.heap.size rfl 64 x.cells.toArray (0, 0) _ H2.out Tryz.underlying64 rfl AX.out ?_) | (go_at_call 61; (with_reducible refine HC.out.mono ?_); rintro e w7 ⟨rfl, hb7⟩; have HB7 := Lib.hid hb7; clear hb7) | fail)
  go_ret
  exact ⟨rfl, HB.out.trans (HB7.out.mono HB.out.size)⟩
set_option linter.unusedSimpArgs false in
set_option maxRecDepth 100000 in
set_option maxHeartbeats 3200000 in
theorem indexWay_any {w : World} {a : Option Addr} {n c : Nat} {xs : List PWay} (h : Ways w a n c xs) :
    Calls Tryz.prog 84 #[.slice a n c, .func (.func 60) #[] #[]] w fun e w' => (∃ z : Int, e = .returned (.int .i64 z) ∧ -1 ≤ z ∧ decide (0 ≤ z) = !xs.all wayOk) ∧ Below w.heap.size w w' := by
  have hn63 : (n : Int) ≤ 9223372036854775807 := by have h1 := h.2.1; have h2 := h.2.2.1; unfold maxLen at h2; omega
  obtain ⟨R, hR⟩ : ∃ R, R = xs.all wayOk := ⟨_, rfl⟩
  rw [← hR]
  have H := Lib.hid h
  have HR := Lib.hid hR
  clear h hR
  go_enter Tryz.func84, Tryz.ntmps84
  go_upto_region 2 with (fail)
  go_loopw [8] (fun x wr => ∃ j : Nat, j ≤ n ∧ x = .int .i64 j ∧ Below w.heap.size w wr ∧ R = (xs.drop j).all wayOk) (fun x _ => n - (intOf x).toNat)
  case atStart => exact ⟨0, Nat.zero_le _, rfl, Below.refl _ _, HR.out⟩
  case round =>
    obtain ⟨j, hj, rfl, hb, hRj⟩ := hrel
    have HB := Lib.hid hb
    have HRJ := Lib.hid hRj
    clear hb hRj HR
    by_cases hjn : j < n
    · have f1 : (j : Int) < (n : Int) := by omega
      have f0 : (0 : Int) ≤ (j : Int) := by omega
      have ft : ((j : Int)).toNat = j := by omega
      obtain ⟨b1, o1, e1, hlt1, hc1⟩ := (H.out.below HB.out).2.2.2.2.2 (by omega)
      have hx := (H.out.below HB.out).way hjn
      have hrx := hc1 j hjn
      have hRj := HRJ.out
      rw [ways_drop (xs := xs) (by rw [H.out.1]; exact hjn)] at hRj
      revert hx hrx hRj
      generalize xs.getD j noWay = x
      intro hx hrx hRj
      replace hRj : R = (wayOk x && (xs.drop (j + 1)).all wayOk) := hRj
      subst e1
      have HRJ := Lib.hid hRj
      have RX := Lib.hid hrx
      have SX := Lib.hid (way_size hx.sum)
      have HC := Lib.hid (rightOut1_any hx)
      clear hc1 hrx hRj hx H
      generalize wayOk x = r at *
      cases r
      · have hRf : R = false := HRJ.out
        subst hRf
        go_wp2_with (first | (refine wpList_load_mid rfl 64 _ rfl b1 (o1 + j * 35) rfl x.cells _ RX.out Tryz.underlying64 rfl SX.out ?_) | (go_at_call 60; (with_reducible refine HC.out.mono ?_); rintro e w7 ⟨rfl, hb7⟩; have HB7 := Lib.hid hb7; clear hb7) | fail)
        go_ret
        exact ⟨⟨j, rfl, by omega, by simp⟩, HB.out.trans (HB7.out.mono HB.out.size)⟩
      · have hRt : R = (xs.drop (j + 1)).all wayOk := HRJ.out
        have HRN := Lib.hid hRt
        clear hRt HRJ
        go_wp2_with (first | (refine wpList_load_mid rfl 64 _ rfl b1 (o1 + j * 35) rfl x.cells _ RX.out Tryz.underlying64 rfl SX.out ?_) | (go_at_call 60; (with_reducible refine HC.out.mono ?_); rintro e w7 ⟨rfl, hb7⟩; have HB7 := Lib.hid hb7; clear hb7) | fail)
        go_roundw
        case rel => exact ⟨j + 1, by omega, by go_num, HB.out.trans (HB7.out.mono HB.out.size), HRN.out⟩
        case measure => simp [intOf]; omega
    · have f1 : ¬ ((j : Int) < (n : Int)) := by omega
      have e1 : xs.drop j = [] := List.drop_of_length_le (by rw [H.out.1]; omega)
      have hRt : R = true := by rw [HRJ.out, e1]; rfl
      subst hRt
      clear e1 HRJ
      go_wp2
      go_ret
      exact ⟨⟨-1, rfl, by omega, by decide⟩, HB.out⟩
theorem containsWay_any {w : World} {a : Option Addr} {n c : Nat} {xs : List PWay} (h : Ways w a n c xs) :
    Calls Tryz.prog 59 #[.slice a n c, .func (.func 60) #[] #[]] w fun e w' => e = .returned (.bool (!xs.all wayOk)) ∧ Below w.heap.size w w' := by
  have HC := Lib.hid (indexWay_any h)
  generalize (!xs.all wayOk) = r at *
  clear h
  go_enter Tryz.func59, Tryz.ntmps59
  go_wp2_with fail
  refine HC.out.mono ?_
  rintro e w7 ⟨⟨z, rfl, hz, hzr⟩, hb7⟩
  have HB7 := Lib.hid hb7
  subst hzr
  clear hb7
  go_wp2_with fail
  go_ret
  exact ⟨rfl, HB7.out⟩
/-- An out may be. -/
def outOk (m : Int) (xs : List PWay) : Bool := decide (0 ≤ m ∧ m ≤ 1125899906842624) && (decide (1 ≤ xs.length ∧ xs.length ≤ 16) && xs.all wayOk)
set_option linter.unusedSimpArgs false in
set_option maxRecDepth 100000 in
set_option maxHeartbeats 1600000 in
theorem lockRightOut_any {w : World} {m : Int} {a : Option Addr} {n c : Nat} {xs : List PWay} (h : Ways w a n c xs) :
    Calls Tryz.prog 25 #[.agg #[.int .i64 m, .slice a n c]] w fun e w' => e = .returned (.bool (outOk m xs)) ∧ Below w.heap.size w w' := by
  unfold outOk
  rw [h.1]
  have hn63 : (n : Int) ≤ 9223372036854775807 := by have h1 := h.2.1; have h2 := h.2.2.1; unfold maxLen at h2; omega
  have b1 : Below w.heap.size w (w.alloc (.cells #[.int .i64 m, .slice a n c] 61)) := (Below.refl _ _).alloc (Nat.le_refl _) _
  have HC := Lib.hid (containsWay_any (h.below b1))
  have HB := Lib.hid b1
  generalize xs.all wayOk = r at *
  clear h b1
  by_cases h1 : 0 ≤ m
  · by_cases h2 : m ≤ 1125899906842624
    · rw [decide_eq_true (⟨h1, h2⟩ : 0 ≤ m ∧ m ≤ 1125899906842624), Bool.true_and]
      by_cases h3 : 1 ≤ n
      · have f3 : ¬ ((n : Int) < 1) := by omega
        by_cases h4 : n ≤ 16
        · have f4 : ¬ (16 < (n : Int)) := by omega
          rw [decide_eq_true (⟨h3, h4⟩ : 1 ≤ n ∧ n ≤ 16), Bool.true_and]
          go_enter Tryz.func25, Tryz.ntmps25
          go_wp2_with (first | (go_at_call 59; (with_reducible refine HC.out.mono ?_); rintro e w7 ⟨rfl, hb7⟩; have HB7 := Lib.hid hb7; clear hb7) | fail)
          go_ret
          exact ⟨by simp, HB.out.trans (HB7.out.mono HB.out.size)⟩
        · have f4 : 16 < (n : Int) := by omega
          rw [decide_eq_false (show ¬ (1 ≤ n ∧ n ≤ 16) by omega), Bool.false_and]
          go_enter Tryz.func25, Tryz.ntmps25
          go_wp2
          go_ret
          exact ⟨rfl, HB.out⟩
      · have f3 : (n : Int) < 1 := by omega
        rw [decide_eq_false (show ¬ (1 ≤ n ∧ n ≤ 16) by omega), Bool.false_and]
        go_enter Tryz.func25, Tryz.ntmps25
        go_wp2
        go_ret
        exact ⟨rfl, HB.out⟩
    · rw [decide_eq_false (show ¬ (0 ≤ m ∧ m ≤ 1125899906842624) by omega), Bool.false_and]
      go_enter Tryz.func25, Tryz.ntmps25
      go_wp2
      go_ret
      exact ⟨rfl, HB.out⟩
  · rw [decide_eq_false (show ¬ (0 ≤ m ∧ m ≤ 1125899906842624) by omega), Bool.false_and]
    go_enter Tryz.func25, Tryz.ntmps25
    go_wp2
    go_ret
    exact ⟨rfl, HB.out⟩
end Go.Proofs.YtodbhopeknlgiaaGreatDoor
namespace Go.Proofs.YtodbhopeknlgiaaGreatDoor
open Go.RowKit

/-- An out is spent by a key alone. -/
def soleW (key : Int) : List PWay → Bool
  | [x] => decide (x.ks = [key]) && (decide (x.h = zero32) && (decide (x.after = 0) && decide (x.wait = 0)))
  | _ => false
theorem sole_alike (b : Option Addr) (key : Int) (xs : List PWay) : alikeWs xs [⟨b, 1, 1, [key], zero32, 0, 0⟩] = soleW key xs := by
  match xs with
  | [] => rfl
  | [x] => simp [alikeWs, soleW, alikeW]
  | x :: y :: l => simp [alikeWs, soleW]
end Go.Proofs.YtodbhopeknlgiaaGreatDoor
namespace Go.Proofs.YtodbhopeknlgiaaGreatDoor
open Go.RowKit

theorem clone_any {w : World} {a : Option Addr} {n c : Nat} {zs : List Int} (h : Numbers w a n c zs) (hn : n ≤ 100000) :
    Calls Tryz.prog 45 #[.slice a n c] w fun e w' => ∃ v, e = .returned v ∧ OwnZ w' 3 w.heap.size v zs ∧ Below w.heap.size w w' := by
  cases a with
  | none =>
    have hc := h.2.2.2.1 rfl
    obtain rfl : n = 0 := by have := h.2.1; omega
    obtain rfl : zs = [] := List.eq_nil_of_length_eq_zero h.1
    exact (Tryz.slices_Clone_int_nil 0 c w).mono fun e w' ⟨he, hw⟩ => ⟨_, he, by rw [hw]; exact OwnZ.nil _ _ _, by rw [hw]; exact Below.refl _ _⟩
  | some ad =>
    by_cases h0 : n = 0
    · subst h0
      obtain rfl : zs = [] := List.eq_nil_of_length_eq_zero h.1
      exact (Tryz.slices_Clone_int_zero ad c w).mono fun e w' ⟨v, he, ho, _, hb⟩ => ⟨v, he, ⟨ho, fun _ h => by cases h⟩, hb⟩
    · obtain ⟨b, off, e, _, hc⟩ := h.2.2.2.2.2 (by omega)
      cases e
      refine (Tryz.slices_Clone_int b off n c zs w (by rw [h.1]; exact Nat.le_refl _) (by omega) (fun j hj => hc j (by rw [← h.1]; exact hj))).mono fun e w' ⟨v, he, ho, _, hb⟩ => ⟨v, he, ⟨?_, h.2.2.2.2.1⟩, hb⟩
      have e1 : zs.take n = zs := List.take_of_length_le (by rw [h.1]; exact Nat.le_refl _)
      rw [e1, ← h.1] at ho
      exact ho
/-- In order. -/
def sortedZ (zs : List Int) : List Int := zs.mergeSort fun x y => decide (x ≤ y)
theorem sortedZ_len (zs : List Int) : (sortedZ zs).length = zs.length := List.length_mergeSort zs
theorem sortedZ_mem (zs : List Int) (x : Int) : x ∈ sortedZ zs ↔ x ∈ zs := List.mem_mergeSort
theorem sortedZ_up (zs : List Int) : (sortedZ zs).Pairwise (· ≤ ·) := by
  have h := List.pairwise_mergeSort (le := fun (x y : Int) => decide (x ≤ y)) (fun a b c h1 h2 => by simp at *; omega) (fun a b => by simp; omega) zs
  exact h.imp (fun h => by simpa using h)
theorem sort_any {w : World} {B : Nat} {v : Value} {zs : List Int} (h : OwnZ w 3 B v zs) (hB : B ≤ w.heap.size) (hn : zs.length ≤ 100000) :
    Calls Tryz.prog 46 #[v] w fun e w' => e = .returned (.tuple #[]) ∧ OwnZ w' 3 B v (sortedZ zs) ∧ w.grownBy w' v.ownBlock ∧ Below B w w' := by
  rcases h.1.2 with ⟨rfl, h0⟩ | ⟨g, cap, cur, rfl, hg, hb, h1, h2, h3, h4⟩
  · obtain rfl : zs = [] := List.eq_nil_of_length_eq_zero h0
    exact (Tryz.slices_Sort_int_none none 0 w).mono fun e w' ⟨he, hw⟩ => ⟨he, by rw [hw, show sortedZ [] = [] by simp [sortedZ]]; exact OwnZ.nil _ _ _, by rw [hw]; exact World.grownBy.refl _ _, by rw [hw]; exact Below.refl _ _⟩
  · refine (Tryz.slices_Sort_int g 0 cap zs w (holds_of_blockI hb (by rw [Nat.mul_one] at h4; exact h4)) (lt_of_block hb) (by omega)).mono ?_
    rintro e w' ⟨he, n, os, rfl⟩
    have hl := sortedZ_len zs
    have ho := ownsRow_sortedI (n := n) (os := os) (ts := sortedZ zs) hl hg hb h1 h2 h3
    have hgr := grownBy_sortedI (w := w) (g := g) (n := n) (os := os) (sortedZ zs).toArray
    refine ⟨he, ⟨?_, fun z hz => h.2 z ((sortedZ_mem zs z).1 hz)⟩, hgr, ?_⟩
    · rw [hl]
      exact ho
    · exact (Below.refl B w).grown hgr hB (fun j hj => by cases hj; exact hg)
theorem search_any {w : World} {a : Option Addr} {n c : Nat} {zs : List Int} (x : Int) (h : Numbers w a n c zs) (hs : zs.Pairwise (· ≤ ·)) (hn : n ≤ 100000) :
    Calls Tryz.prog 50 #[.slice a n c, .int .i64 x] w fun e w' => ∃ z : Int, e = .returned (.tuple #[.int .i64 z, .bool (decide (x ∈ zs))]) ∧ Below w.heap.size w w' := by
  by_cases h0 : n = 0
  · subst h0
    obtain rfl : zs = [] := List.eq_nil_of_length_eq_zero h.1
    exact (Tryz.slices_BinarySearch_int_empty a c x w).mono fun e w' ⟨he, hw⟩ => ⟨0, he, by rw [hw]; exact Below.refl _ _⟩
  · obtain ⟨b, off, rfl, _, hc⟩ := h.2.2.2.2.2 (by omega)
    have e1 : zs.take n = zs := List.take_of_length_le (by rw [h.1]; exact Nat.le_refl _)
    refine (Tryz.slices_BinarySearch_int b off n c zs x w (by rw [h.1]; exact Nat.le_refl _) (by omega) (fun j hj => hc j (by rw [← h.1]; exact hj)) (by rw [e1]; exact hs)).mono ?_
    rintro e w' ⟨he, q, hw⟩
    rw [e1] at he
    have e2 : zs.contains x = decide (x ∈ zs) := by rw [Bool.eq_iff_iff]; simp
    rw [e2] at he
    refine ⟨_, he, by rw [hw]; exact ⟨rfl, rfl, rfl, Nat.le_refl _, fun _ _ => rfl⟩⟩
end Go.Proofs.YtodbhopeknlgiaaGreatDoor
namespace Go.Proofs.YtodbhopeknlgiaaGreatDoor
open Go.RowKit

/-- A closure's list, in order, behind its box. -/
def ListAt (w : World) (p : Nat) (zs : List Int) : Prop := ∃ a n c, w.cell? ⟨p, 0, none⟩ = some (.slice a n c) ∧ p < w.heap.size ∧ Numbers w a n c zs ∧ zs.Pairwise (· ≤ ·) ∧ n ≤ 100000
theorem ListAt.below {w w' : World} {p : Nat} {zs : List Int} (h : ListAt w p zs) (hb : Below w.heap.size w w') : ListAt w' p zs := by
  obtain ⟨a, n, c, h1, h2, h3, h4, h5⟩ := h
  exact ⟨a, n, c, (hb.cell (p := ⟨p, 0, none⟩) h2).trans h1, Nat.lt_of_lt_of_le h2 hb.size, h3.below hb, h4, h5⟩
end Go.Proofs.YtodbhopeknlgiaaGreatDoor
namespace Go.Proofs.YtodbhopeknlgiaaGreatDoor
open Go.RowKit

/-- What a text is summed to, where it has to be shown. -/
def shownSum (l : List UInt8) : List UInt8 := sumOf (partsOf 31 [l])
theorem shownSum_len (l : List UInt8) : (shownSum l).length = 32 := by unfold shownSum; exact sumOf_len _
end Go.Proofs.YtodbhopeknlgiaaGreatDoor
namespace Go.Proofs.YtodbhopeknlgiaaGreatDoor
open Go.RowKit

/-- A way is open to a try. -/
def opensW (x : PWay) (ts : List Int) (l : List UInt8) (H A : Int) : Bool := decide (x.after ≤ H) && (decide (x.wait ≤ A) && ((x.ks.all fun k => decide (k ∈ ts)) && (decide (x.h = zero32) || decide (x.h = shownSum l))))
end Go.Proofs.YtodbhopeknlgiaaGreatDoor
namespace Go.Proofs.YtodbhopeknlgiaaGreatDoor
open Go.RowKit

theorem stop_ex (l : List UInt8) : ∃ k, k ≤ l.length ∧ k ≤ 9 ∧ (∀ j, j < k → 128 ≤ (l.getD j 0).toNat) ∧ (k = l.length ∨ k = 9 ∨ (l.getD k 0).toNat < 128) := by
  have key : ∀ m, m ≤ 9 → (∃ k, k ≤ l.length ∧ k ≤ 9 ∧ (∀ j, j < k → 128 ≤ (l.getD j 0).toNat) ∧ (k = l.length ∨ k = 9 ∨ (l.getD k 0).toNat < 128)) ∨ (m ≤ l.length ∧ ∀ j, j < m → 128 ≤ (l.getD j 0).toNat) := by
    intro m
    induction m with
    | zero => intro _; exact .inr ⟨Nat.zero_le _, fun j h => by omega⟩
    | succ m ih =>
      intro hm
      rcases ih (by omega) with h | ⟨h1, h2⟩
      · exact .inl h
      · by_cases h3 : m = l.length
        · exact .inl ⟨m, h1, by omega, h2, .inl h3⟩
        · by_cases h4 : (l.getD m 0).toNat < 128
          · exact .inl ⟨m, h1, by omega, h2, .inr (.inr h4)⟩
          · refine .inr ⟨by omega, fun j hj => ?_⟩
            by_cases e : j = m
            · subst e; omega
            · exact h2 j (by omega)
  rcases key 9 (Nat.le_refl _) with h | ⟨h1, h2⟩
  · exact h
  · exact ⟨9, h1, Nat.le_refl _, h2, .inr (.inl rfl)⟩
theorem numOf_back (l : List UInt8) (h : (numOf l).2.2 = 0) : numB (((numOf l).1 : Nat) : Int) = l.take (numOf l).2.1 := by
  obtain ⟨k, hk, h9, h1, h2⟩ := stop_ex l
  by_cases e9 : k = 9
  · subst e9; rw [num_nine l hk h1] at h; simp at h
  by_cases el : k = l.length
  · rw [num_none l k el (by omega) h1] at h; simp at h
  have h3 : (l.getD k 0).toNat < 128 := by omega
  by_cases h0 : (l.getD k 0).toNat = 0 ∧ 0 < k
  · rw [num_form l k (by omega) (by omega) h1 h0.1 h0.2] at h; simp at h
  · rw [num_good l k (by omega) (by omega) h1 h3 h0]
    exact numB_read l k (by omega) (by omega) h1 h3 h0

/-- A number at most m is read; s: what is left, and the error. -/
def upR (s : List UInt8 × Int) (m : Int) : Int × (List UInt8 × Int) := if s.2 = 0 then ((uptoOf s.1 m).1, (s.1.drop (uptoOf s.1 m).2.1, (uptoOf s.1 m).2.2)) else (0, s)
theorem upR_bad {s : List UInt8 × Int} (m : Int) (h : s.2 ≠ 0) : upR s m = (0, s) := by unfold upR; rw [if_neg h]
theorem uptoOf_cases (l : List UInt8) (m : Int) : (uptoOf l m).2.2 = 0 ∧ (numOf l).2.2 = 0 ∧ (uptoOf l m).1 = (numOf l).1 ∧ (uptoOf l m).2.1 = (numOf l).2.1 ∧ ((numOf l).1 : Int) ≤ m ∨ (uptoOf l m).2.2 ≠ 0 ∧ (uptoOf l m).1 = 0 := by
  unfold uptoOf
  by_cases h1 : (numOf l).2.2 ≠ 0
  · rw [if_pos h1]
    refine .inr ⟨?_, rfl⟩
    show ((numOf l).2.2 : Int) ≠ 0
    omega
  · rw [if_neg h1]
    by_cases h2 : m < (numOf l).1
    · rw [if_pos h2]
      exact .inr ⟨show (5 : Int) ≠ 0 by decide, rfl⟩
    · rw [if_neg h2]
      exact .inl ⟨rfl, by omega, rfl, rfl, by omega⟩
theorem upR_ok {s : List UInt8 × Int} {m : Int} (h : (upR s m).2.2 = 0) : s.2 = 0 ∧ s.1 = numB (upR s m).1 ++ (upR s m).2.1 := by
  by_cases h0 : s.2 = 0
  · unfold upR at h ⊢
    rw [if_pos h0] at h ⊢
    rcases uptoOf_cases s.1 m with ⟨_, h2, h3, h4, _⟩ | ⟨h1, _⟩
    · refine ⟨h0, ?_⟩
      show s.1 = numB (uptoOf s.1 m).1 ++ s.1.drop (uptoOf s.1 m).2.1
      rw [h3, h4, numOf_back s.1 h2, List.take_append_drop]
    · exact absurd h h1
  · rw [upR_bad m h0] at h
    exact absurd h h0
theorem upR_range (s : List UInt8 × Int) {m : Int} (hm : 0 ≤ m) : 0 ≤ (upR s m).1 ∧ (upR s m).1 ≤ m := by
  by_cases h0 : s.2 = 0
  · unfold upR
    rw [if_pos h0]
    rcases uptoOf_cases s.1 m with ⟨_, _, h3, _, h5⟩ | ⟨_, h1⟩
    · show 0 ≤ (uptoOf s.1 m).1 ∧ (uptoOf s.1 m).1 ≤ m
      rw [h3]
      omega
    · show 0 ≤ (uptoOf s.1 m).1 ∧ (uptoOf s.1 m).1 ≤ m
      rw [h1]
      omega
  · rw [upR_bad m h0]
    exact ⟨Int.le_refl _, hm⟩
theorem upR_put {z m : Int} (t : List UInt8) (h0 : 0 ≤ z) (h1 : z ≤ m) (h2 : z ≤ 9223372036854775807) : upR (numB z ++ t, 0) m = (z, (t, 0)) := by
  unfold upR
  rw [if_pos rfl]
  show ((uptoOf (numB z ++ t) m).1, ((numB z ++ t).drop (uptoOf (numB z ++ t) m).2.1, (uptoOf (numB z ++ t) m).2.2)) = _
  rw [uptoOf_numB z t m h0 h2 h1]
  simp
theorem upR_le (s : List UInt8 × Int) (m : Int) : (upR s m).2.1.length ≤ s.1.length := by
  unfold upR
  split
  · simp
  · exact Nat.le_refl _
/-- A sum is read: 32 bytes; or the zero one. -/
def sumB (l : List UInt8) : List UInt8 := if l.length = 32 then l else zero32
def sumR (s : List UInt8 × Int) : List UInt8 × (List UInt8 × Int) := if s.2 = 0 then (sumB (rawOf s.1 32).1, ((rawOf s.1 32).2.1, (rawOf s.1 32).2.2)) else (zero32, s)
theorem zero32_size : zero32.length = 32 := by decide
theorem sumB_len (l : List UInt8) : (sumB l).length = 32 := by
  unfold sumB
  split
  · assumption
  · exact zero32_size
theorem sumB_cells (l : List UInt8) : sumCells l = cellsOf (sumB l) := by
  unfold sumCells sumB
  split <;> rfl
theorem sumR_len (s : List UInt8 × Int) : (sumR s).1.length = 32 := by
  unfold sumR
  split
  · exact sumB_len _
  · exact zero32_size
theorem sumR_bad {s : List UInt8 × Int} (h : s.2 ≠ 0) : sumR s = (zero32, s) := by unfold sumR; rw [if_neg h]
theorem sumR_ok {s : List UInt8 × Int} (h : (sumR s).2.2 = 0) : s.2 = 0 ∧ s.1 = (sumR s).1 ++ (sumR s).2.1 := by
  by_cases h0 : s.2 = 0
  · refine ⟨h0, ?_⟩
    unfold sumR at h ⊢
    rw [if_pos h0] at h ⊢
    unfold rawOf at h ⊢
    by_cases h1 : (32 : Int) < 0 ∨ (s.1.length : Int) < 32
    · rw [if_pos h1] at h
      exact absurd h (show ¬ (2 : Int) = 0 by decide)
    · rw [if_neg h1]
      show s.1 = sumB (s.1.take 32) ++ s.1.drop 32
      unfold sumB
      rw [if_pos (by simp; omega), List.take_append_drop]
  · rw [sumR_bad h0] at h
    exact absurd h h0
theorem sumR_put {h : List UInt8} (t : List UInt8) (hl : h.length = 32) : sumR (h ++ t, 0) = (h, (t, 0)) := by
  unfold sumR
  rw [if_pos rfl]
  show (sumB (rawOf (h ++ t) 32).1, ((rawOf (h ++ t) 32).2.1, (rawOf (h ++ t) 32).2.2)) = _
  rw [rawOf_more h t hl]
  unfold sumB
  rw [if_pos hl]
theorem sumR_le (s : List UInt8 × Int) : (sumR s).2.1.length ≤ s.1.length := by
  unfold sumR
  split
  · exact rawOf_le _ _
  · exact Nat.le_refl _
/-- So many numbers, each at most m, are read. -/
def numsR (m : Int) : Nat → List UInt8 × Int → List Int × (List UInt8 × Int)
  | 0, s => ([], s)
  | k + 1, s => ((numsR m k s).1 ++ [(upR (numsR m k s).2 m).1], (upR (numsR m k s).2 m).2)
theorem numsR_len (m : Int) (s : List UInt8 × Int) : ∀ k, (numsR m k s).1.length = k
  | 0 => rfl
  | k + 1 => by simp [numsR, numsR_len m s k]
theorem numsR_range {m : Int} (hm : 0 ≤ m) (s : List UInt8 × Int) : ∀ k, ∀ z ∈ (numsR m k s).1, 0 ≤ z ∧ z ≤ m
  | 0, z, hz => by cases hz
  | k + 1, z, hz => by
    rcases List.mem_append.1 hz with hz | hz
    · exact numsR_range hm s k z hz
    · simp at hz
      subst hz
      exact upR_range _ hm
theorem numsR_ok {m : Int} {s : List UInt8 × Int} : ∀ {k : Nat}, (numsR m k s).2.2 = 0 → s.2 = 0 ∧ s.1 = numsB (numsR m k s).1 ++ (numsR m k s).2.1
  | 0, h => ⟨h, by simp [numsR, numsB]⟩
  | k + 1, h => by
    obtain ⟨h1, h2⟩ := upR_ok h
    obtain ⟨h3, h4⟩ := numsR_ok (k := k) h1
    refine ⟨h3, ?_⟩
    show s.1 = numsB ((numsR m k s).1 ++ [(upR (numsR m k s).2 m).1]) ++ (upR (numsR m k s).2 m).2.1
    rw [numsB_snoc, List.append_assoc, ← h2]
    exact h4
theorem numsR_put {m : Int} {l : List Int} (t : List UInt8) (hm : m ≤ 9223372036854775807) (hl : ∀ z ∈ l, 0 ≤ z ∧ z ≤ m) : ∀ k, k ≤ l.length → numsR m k (numsB l ++ t, 0) = (l.take k, (numsB (l.drop k) ++ t, 0))
  | 0, _ => by simp [numsR]
  | k + 1, hk => by
    have hz := hl _ (List.getElem_mem (show k < l.length by omega))
    have e : l.getD k 0 = l[k] := by simp [List.getD, show k < l.length by omega]
    rw [numsR, numsR_put t hm hl k (by omega), numsB_drop l k (by omega), List.append_assoc, upR_put _ (by rw [e]; omega) (by rw [e]; omega) (by rw [e]; omega), List.take_succ_eq_append_getElem (by omega), e]
theorem numsR_le (m : Int) (s : List UInt8 × Int) : ∀ k, (numsR m k s).2.1.length ≤ s.1.length
  | 0 => Nat.le_refl _
  | k + 1 => Nat.le_trans (upR_le _ _) (numsR_le m s k)
/-- The first error is remembered. -/
def failR (s : List UInt8 × Int) (e : Int) : List UInt8 × Int := if s.2 = 0 then (s.1, e) else s

/-! ### In memory -/
theorem upto_st {yb : Nat} {s : List UInt8 × Int} {w : World} (m : Int) (h : EyeAt w yb s.1 s.2) : Calls Tryz.prog 38 #[.pointer (some ⟨yb, 0, none⟩), .int .i64 m] w fun r w' =>
    r = .returned (.int .i64 (upR s m).1) ∧ EyeAt w' yb (upR s m).2.1 (upR s m).2.2 ∧ But w.heap.size yb w w' := by
  by_cases h0 : s.2 = 0
  · unfold upR
    rw [if_pos h0]
    rw [h0] at h
    exact upto_first m h
  · rw [upR_bad m h0]
    exact (upto_later s.2 m h0 h).mono fun r w' ⟨e1, e2⟩ => ⟨e1, by rw [← e2]; exact h, by rw [← e2]; exact But.refl _ _ _⟩
theorem sum_st {yb : Nat} {s : List UInt8 × Int} (w : World) (h : EyeAt w yb s.1 s.2) (hm : s.1.length ≤ 140737488355328) : Calls Tryz.prog 67 #[.pointer (some ⟨yb, 0, none⟩)] w fun r w' =>
    r = .returned (.agg (cellsOf (sumR s).1).toArray) ∧ EyeAt w' yb (sumR s).2.1 (sumR s).2.2 ∧ But w.heap.size yb w w' := by
  by_cases h0 : s.2 = 0
  · unfold sumR
    rw [if_pos h0]
    rw [h0] at h
    have := sum_first w h hm
    rw [sumB_cells] at this
    exact this
  · rw [sumR_bad h0]
    exact sum_later w h0 h
theorem fail_st {yb : Nat} {s : List UInt8 × Int} {w : World} (e : Int) (h : EyeAt w yb s.1 s.2) : Calls Tryz.prog 65 #[.pointer (some ⟨yb, 0, none⟩), .int .i64 e] w fun r w' =>
    r = .returned (.tuple #[]) ∧ EyeAt w' yb (failR s e).1 (failR s e).2 ∧ But w.heap.size yb w w' := by
  by_cases h0 : s.2 = 0
  · unfold failR
    rw [if_pos h0]
    rw [h0] at h
    exact fail_first e h
  · unfold failR
    rw [if_neg h0]
    exact (fail_later s.2 e h0 h).mono fun r w' ⟨e1, e2⟩ => ⟨e1, by rw [← e2]; exact h, by rw [← e2]; exact But.refl _ _ _⟩
end Go.Proofs.YtodbhopeknlgiaaGreatDoor
namespace Go.Proofs.YtodbhopeknlgiaaGreatDoor
open Go.RowKit

/-- What a way says, without where it lies. -/
def PWay.strip (x : PWay) : PWay := ⟨none, 0, 0, x.ks, x.h, x.after, x.wait⟩
theorem alikeW_strip {x y : PWay} : alikeW x y = true ↔ x.strip = y.strip := by
  unfold alikeW PWay.strip
  simp
theorem alikeWs_strip : ∀ {xs ys : List PWay}, alikeWs xs ys = true ↔ xs.map PWay.strip = ys.map PWay.strip
  | [], [] => by simp [alikeWs]
  | [], y :: ys => by simp [alikeWs]
  | x :: xs, [] => by simp [alikeWs]
  | x :: xs, y :: ys => by simp only [alikeWs, Bool.and_eq_true, alikeW_strip, alikeWs_strip (xs := xs) (ys := ys), List.map_cons, List.cons.injEq]
theorem wayOk_strip (x : PWay) : wayOk x.strip = wayOk x := rfl
theorem outOk_strip (m : Int) (xs : List PWay) : outOk m (xs.map PWay.strip) = outOk m xs := by
  unfold outOk
  rw [List.length_map, List.all_map]
  rfl
/-- The bytes. -/
def wayB (x : PWay) : List UInt8 := numB (x.ks.length : Nat) ++ (numsB x.ks ++ (x.h ++ numsB [x.after, x.wait]))
def waysB : List PWay → List UInt8
  | [] => []
  | x :: xs => wayB x ++ waysB xs
def outB (m : Int) (xs : List PWay) : List UInt8 := numsB [m, (xs.length : Nat)] ++ waysB xs
theorem waysB_snoc : ∀ (xs : List PWay) (x : PWay), waysB (xs ++ [x]) = waysB xs ++ wayB x
  | [], x => by simp [waysB]
  | y :: xs, x => by simp [waysB, waysB_snoc xs x]
theorem waysB_take (xs : List PWay) (k : Nat) (h : k < xs.length) : waysB (xs.take (k + 1)) = waysB (xs.take k) ++ wayB (xs.getD k noWay) := by
  rw [List.take_succ_eq_append_getElem h, waysB_snoc]
  simp [List.getD, h]
theorem waysB_drop (xs : List PWay) (k : Nat) (h : k < xs.length) : waysB (xs.drop k) = wayB (xs.getD k noWay) ++ waysB (xs.drop (k + 1)) := by
  rw [List.drop_eq_getElem_cons h]
  simp [waysB, List.getD, h]
theorem wayB_strip (x : PWay) : wayB x.strip = wayB x := rfl
theorem waysB_strip : ∀ xs : List PWay, waysB (xs.map PWay.strip) = waysB xs
  | [] => rfl
  | x :: xs => by simp [waysB, waysB_strip xs, wayB_strip]
theorem outB_strip (m : Int) (xs : List PWay) : outB m (xs.map PWay.strip) = outB m xs := by
  unfold outB
  rw [waysB_strip, List.length_map]
theorem wayB_len {x : PWay} (h : x.h.length = 32) : (wayB x).length ≤ 59 + 9 * x.ks.length := by
  have h1 := (numB_len (x.ks.length : Nat)).2
  have h2 := numsB_len x.ks
  have h3 := numsB_len [x.after, x.wait]
  simp only [List.length_cons, List.length_nil] at h3
  unfold wayB
  simp only [List.length_append, h]
  omega
theorem waysB_len {K : Nat} : ∀ {xs : List PWay}, (∀ x ∈ xs, x.h.length = 32 ∧ x.ks.length ≤ K) → (waysB xs).length ≤ xs.length * (59 + 9 * K)
  | [], _ => by simp [waysB]
  | x :: xs, h => by
    have ih := waysB_len (xs := xs) (fun y hy => h y (by simp [hy]))
    obtain ⟨h1, h2⟩ := h x (by simp)
    have h3 := wayB_len h1
    simp only [waysB, List.length_append, List.length_cons, Nat.add_mul]
    omega
/-- A way, ways, an out are read. -/
def wayR (s : List UInt8 × Int) : PWay × (List UInt8 × Int) :=
  (⟨none, 0, 0, (numsR 255 (upR s 16).1.toNat (upR s 16).2).1, (sumR (numsR 255 (upR s 16).1.toNat (upR s 16).2).2).1,
    (upR (sumR (numsR 255 (upR s 16).1.toNat (upR s 16).2).2).2 1073741824).1,
    (upR (upR (sumR (numsR 255 (upR s 16).1.toNat (upR s 16).2).2).2 1073741824).2 1073741824).1⟩,
   (upR (upR (sumR (numsR 255 (upR s 16).1.toNat (upR s 16).2).2).2 1073741824).2 1073741824).2)
theorem wayR_is {s s1 s2 s3 s4 s5 : List UInt8 × Int} {n a b : Int} {ks : List Int} {h : List UInt8} (e1 : upR s 16 = (n, s1)) (e2 : numsR 255 n.toNat s1 = (ks, s2)) (e3 : sumR s2 = (h, s3)) (e4 : upR s3 1073741824 = (a, s4)) (e5 : upR s4 1073741824 = (b, s5)) : wayR s = (⟨none, 0, 0, ks, h, a, b⟩, s5) := by
  unfold wayR
  rw [e1]
  dsimp only
  rw [e2]
  dsimp only
  rw [e3]
  dsimp only
  rw [e4]
  dsimp only
  rw [e5]
theorem wayR_parts (s : List UInt8 × Int) : ∃ (s1 s2 s3 s4 s5 : List UInt8 × Int) (n a b : Int) (ks : List Int) (h : List UInt8), upR s 16 = (n, s1) ∧ numsR 255 n.toNat s1 = (ks, s2) ∧ sumR s2 = (h, s3) ∧ upR s3 1073741824 = (a, s4) ∧ upR s4 1073741824 = (b, s5) ∧ wayR s = (⟨none, 0, 0, ks, h, a, b⟩, s5) :=
  ⟨_, _, _, _, _, _, _, _, _, _, rfl, rfl, rfl, rfl, rfl, rfl⟩
theorem wayR_ok {s : List UInt8 × Int} (h : (wayR s).2.2 = 0) : s.2 = 0 ∧ s.1 = wayB (wayR s).1 ++ (wayR s).2.1 := by
  obtain ⟨s1, s2, s3, s4, s5, n, a, b, ks, g, e1, e2, e3, e4, e5, e⟩ := wayR_parts s
  rw [e] at h ⊢
  replace h : s5.2 = 0 := h
  obtain ⟨h4, g5⟩ := upR_ok (s := s4) (m := 1073741824) (by rw [e5]; exact h)
  obtain ⟨h3, g4⟩ := upR_ok (s := s3) (m := 1073741824) (by rw [e4]; exact h4)
  obtain ⟨h2, g3⟩ := sumR_ok (s := s2) (by rw [e3]; exact h3)
  obtain ⟨h1, g2⟩ := numsR_ok (s := s1) (m := 255) (k := n.toNat) (by rw [e2]; exact h2)
  obtain ⟨h0, g1⟩ := upR_ok (s := s) (m := 16) (by rw [e1]; exact h1)
  have hl := numsR_len 255 s1 n.toNat
  have hr := (upR_range s (m := 16) (by omega)).1
  rw [e5] at g5
  rw [e4] at g4
  rw [e3] at g3
  rw [e2] at g2 hl
  rw [e1] at g1 hr
  dsimp only at g1 g2 g3 g4 g5 hl hr
  refine ⟨h0, ?_⟩
  have hn : ((ks.length : Nat) : Int) = n := by omega
  show s.1 = (numB (ks.length : Nat) ++ (numsB ks ++ (g ++ numsB [a, b]))) ++ s5.1
  rw [hn, g1, g2, g3, g4, g5]
  simp [numsB]
theorem rises_range : ∀ {l : List Int} {s : Int}, 0 ≤ s → rises s l = true → ∀ z ∈ l, 0 ≤ z ∧ z ≤ 255
  | [], _, _, _, z, hz => by cases hz
  | k :: l, s, hs, h, z, hz => by
    by_cases h1 : k < s
    · rw [rises_low h1] at h; cases h
    by_cases h2 : 255 < k
    · rw [rises_high h1 h2] at h; cases h
    rw [rises_more h1 h2] at h
    rcases List.mem_cons.1 hz with rfl | hz
    · omega
    · exact rises_range (s := k + 1) (by omega) h z hz
theorem wayOk_parts {x : PWay} (h : wayOk x = true) : x.ks.length ≤ 16 ∧ (∀ z ∈ x.ks, 0 ≤ z ∧ z ≤ 255) ∧ 0 ≤ x.after ∧ x.after ≤ 1073741824 ∧ 0 ≤ x.wait ∧ x.wait ≤ 1073741824 := by
  unfold wayOk okHeight at h
  simp only [Bool.and_eq_true, decide_eq_true_eq] at h
  obtain ⟨h1, h2, h3, h4⟩ := h
  exact ⟨h1, rises_range (Int.le_refl _) h2, h3.1, h3.2, h4.1, h4.2⟩
theorem wayR_put {x : PWay} (t : List UInt8) (h : wayOk x = true) (hs : x.h.length = 32) : wayR (wayB x ++ t, 0) = (x.strip, (t, 0)) := by
  obtain ⟨h1, h2, h3, h4, h5, h6⟩ := wayOk_parts h
  have e : wayB x ++ t = numB (x.ks.length : Nat) ++ (numsB x.ks ++ (x.h ++ (numB x.after ++ (numB x.wait ++ t)))) := by
    unfold wayB
    simp [numsB]
  rw [e]
  refine wayR_is (upR_put _ (by omega) (by omega) (by omega)) ?_ (sumR_put _ hs) (upR_put _ h3 h4 (by omega)) (upR_put _ h5 h6 (by omega))
  rw [Int.toNat_natCast, numsR_put _ (by omega) h2 _ (Nat.le_refl _), List.take_of_length_le (Nat.le_refl _), List.drop_of_length_le (Nat.le_refl _)]
  rfl
theorem wayR_sum (s : List UInt8 × Int) : (wayR s).1.h.length = 32 := sumR_len _
theorem wayR_le (s : List UInt8 × Int) : (wayR s).2.1.length ≤ s.1.length :=
  Nat.le_trans (upR_le _ _) (Nat.le_trans (upR_le _ _) (Nat.le_trans (sumR_le _) (Nat.le_trans (numsR_le _ _ _) (upR_le _ _))))
def waysR : Nat → List UInt8 × Int → List PWay × (List UInt8 × Int)
  | 0, s => ([], s)
  | k + 1, s => ((waysR k s).1 ++ [(wayR (waysR k s).2).1], (wayR (waysR k s).2).2)
theorem waysR_len (s : List UInt8 × Int) : ∀ k, (waysR k s).1.length = k
  | 0 => rfl
  | k + 1 => by simp [waysR, waysR_len s k]
theorem waysR_sum (s : List UInt8 × Int) : ∀ k, ∀ x ∈ (waysR k s).1, x.h.length = 32
  | 0, x, hx => by cases hx
  | k + 1, x, hx => by
    rcases List.mem_append.1 hx with hx | hx
    · exact waysR_sum s k x hx
    · simp at hx
      subst hx
      exact wayR_sum _
theorem waysR_ok {s : List UInt8 × Int} : ∀ {k : Nat}, (waysR k s).2.2 = 0 → s.2 = 0 ∧ s.1 = waysB (waysR k s).1 ++ (waysR k s).2.1
  | 0, h => ⟨h, by simp [waysR, waysB]⟩
  | k + 1, h => by
    obtain ⟨h1, h2⟩ := wayR_ok h
    obtain ⟨h3, h4⟩ := waysR_ok (k := k) h1
    refine ⟨h3, ?_⟩
    show s.1 = waysB ((waysR k s).1 ++ [(wayR (waysR k s).2).1]) ++ (wayR (waysR k s).2).2.1
    rw [waysB_snoc, List.append_assoc, ← h2]
    exact h4
theorem waysR_put {xs : List PWay} (t : List UInt8) (h : ∀ x ∈ xs, wayOk x = true ∧ x.h.length = 32) : ∀ k, k ≤ xs.length → waysR k (waysB xs ++ t, 0) = ((xs.take k).map PWay.strip, (waysB (xs.drop k) ++ t, 0))
  | 0, _ => by simp [waysR]
  | k + 1, hk => by
    have hz := h _ (List.getElem_mem (show k < xs.length by omega))
    have e : xs.getD k noWay = xs[k] := by simp [List.getD, show k < xs.length by omega]
    rw [waysR, waysR_put t h k (by omega), waysB_drop xs k (by omega), List.append_assoc, wayR_put _ (by rw [e]; exact hz.1) (by rw [e]; exact hz.2), List.take_succ_eq_append_getElem (by omega), e, List.map_append]
    rfl
theorem waysR_le (s : List UInt8 × Int) : ∀ k, (waysR k s).2.1.length ≤ s.1.length
  | 0 => Nat.le_refl _
  | k + 1 => Nat.le_trans (wayR_le _) (waysR_le s k)
/-- What is left, and the error, behind an out; the out. -/
def outEnd (s : List UInt8 × Int) : List UInt8 × Int :=
  if outOk (upR s 1125899906842624).1 (waysR (upR (upR s 1125899906842624).2 16).1.toNat (upR (upR s 1125899906842624).2 16).2).1 = true then (waysR (upR (upR s 1125899906842624).2 16).1.toNat (upR (upR s 1125899906842624).2 16).2).2
  else failR (waysR (upR (upR s 1125899906842624).2 16).1.toNat (upR (upR s 1125899906842624).2 16).2).2 4
def outR (s : List UInt8 × Int) : (Int × List PWay) × (List UInt8 × Int) :=
  if (outEnd s).2 = 0 then (((upR s 1125899906842624).1, (waysR (upR (upR s 1125899906842624).2 16).1.toNat (upR (upR s 1125899906842624).2 16).2).1), outEnd s) else ((0, []), outEnd s)
theorem outR_parts (s : List UInt8 × Int) : ∃ (s1 s2 s3 s4 : List UInt8 × Int) (m n : Int) (xs : List PWay), upR s 1125899906842624 = (m, s1) ∧ upR s1 16 = (n, s2) ∧ waysR n.toNat s2 = (xs, s3) ∧ s4 = (if outOk m xs = true then s3 else failR s3 4) ∧ outR s = (if s4.2 = 0 then ((m, xs), s4) else ((0, []), s4)) :=
  ⟨_, _, _, _, _, _, _, rfl, rfl, rfl, rfl, rfl⟩
theorem outR_ok {s : List UInt8 × Int} (h : (outR s).2.2 = 0) : outOk (outR s).1.1 (outR s).1.2 = true ∧ s.2 = 0 ∧ s.1 = outB (outR s).1.1 (outR s).1.2 ++ (outR s).2.1 := by
  obtain ⟨s1, s2, s3, s4, m, n, xs, e1, e2, e3, e4, e⟩ := outR_parts s
  have h4 : s4.2 = 0 := by
    rw [e] at h
    split at h
    · assumption
    · exact h
  rw [e, if_pos h4]
  have hok : outOk m xs = true ∧ s4 = s3 := by
    by_cases ho : outOk m xs = true
    · rw [if_pos ho] at e4
      exact ⟨ho, e4⟩
    · rw [if_neg ho] at e4
      unfold failR at e4
      by_cases h3 : s3.2 = 0
      · rw [if_pos h3] at e4
        rw [e4] at h4
        exact absurd h4 (show ¬ (4 : Int) = 0 by decide)
      · rw [if_neg h3] at e4
        rw [e4] at h4
        exact absurd h4 h3
  obtain ⟨ho, rfl⟩ := hok
  obtain ⟨h2, g3⟩ := waysR_ok (s := s2) (k := n.toNat) (by rw [e3]; exact h4)
  obtain ⟨h1, g2⟩ := upR_ok (s := s1) (m := 16) (by rw [e2]; exact h2)
  obtain ⟨h0, g1⟩ := upR_ok (s := s) (m := 1125899906842624) (by rw [e1]; exact h1)
  have hl := waysR_len s2 n.toNat
  have hr := (upR_range s1 (m := 16) (by omega)).1
  rw [e3] at g3 hl
  rw [e2] at g2 hr
  rw [e1] at g1
  dsimp only at g1 g2 g3 hl hr
  refine ⟨ho, h0, ?_⟩
  have hn : ((xs.length : Nat) : Int) = n := by omega
  show s.1 = (numsB [m, (xs.length : Nat)] ++ waysB xs) ++ s4.1
  rw [hn, g1, g2, g3]
  simp [numsB]
theorem outOk_parts {m : Int} {xs : List PWay} (h : outOk m xs = true) : 0 ≤ m ∧ m ≤ 1125899906842624 ∧ 1 ≤ xs.length ∧ xs.length ≤ 16 ∧ ∀ x ∈ xs, wayOk x = true := by
  unfold outOk at h
  simp only [Bool.and_eq_true, decide_eq_true_eq, List.all_eq_true] at h
  obtain ⟨⟨h1, h2⟩, ⟨h3, h4⟩, h5⟩ := h
  exact ⟨h1, h2, h3, h4, h5⟩
theorem outR_put {m : Int} {xs : List PWay} (t : List UInt8) (h : outOk m xs = true) (hs : ∀ x ∈ xs, x.h.length = 32) : outR (outB m xs ++ t, 0) = ((m, xs.map PWay.strip), (t, 0)) := by
  obtain ⟨s1, s2, s3, s4, m', n, ys, e1, e2, e3, e4, e⟩ := outR_parts (outB m xs ++ t, 0)
  obtain ⟨h1, h2, h3, h4, h5⟩ := outOk_parts h
  have eb : outB m xs ++ t = numB m ++ (numB (xs.length : Nat) ++ (waysB xs ++ t)) := by
    unfold outB
    simp [numsB]
  rw [eb, upR_put _ h1 h2 (by omega)] at e1
  cases e1
  rw [upR_put _ (by omega) (by omega) (by omega)] at e2
  cases e2
  rw [Int.toNat_natCast, waysR_put t (fun x hx => ⟨h5 x hx, hs x hx⟩) _ (Nat.le_refl _), List.take_of_length_le (Nat.le_refl _), List.drop_of_length_le (Nat.le_refl _)] at e3
  cases e3
  rw [outOk_strip, if_pos h] at e4
  rw [e, e4]
  rfl
theorem outR_le (s : List UInt8 × Int) : (outR s).2.1.length ≤ s.1.length := by
  have h : (outEnd s).1.length ≤ s.1.length := by
    unfold outEnd failR
    split
    · exact Nat.le_trans (waysR_le _ _) (Nat.le_trans (upR_le _ _) (upR_le _ _))
    · split <;> exact Nat.le_trans (waysR_le _ _) (Nat.le_trans (upR_le _ _) (upR_le _ _))
  unfold outR
  split <;> exact h
end Go.Proofs.YtodbhopeknlgiaaGreatDoor
namespace Go.Proofs.YtodbhopeknlgiaaGreatDoor
open Go.RowKit

/-- What lies ahead of a pen's own blocks. -/
def OldB (B pb n : Nat) (a : Option Addr) : Prop := 0 < n → ∀ x, a = some x → x.block < B ∧ x.block ≠ pb
theorem Numbers.butO {w w' : World} {B pb n c : Nat} {a : Option Addr} {zs : List Int} (h : Numbers w a n c zs) (ho : OldB B pb n a) (hb : But B pb w w') : Numbers w' a n c zs := by
  obtain ⟨h1, h2, h3, h4, h6, h5⟩ := h
  refine ⟨h1, h2, h3, h4, h6, fun h0 => ?_⟩
  obtain ⟨b, off, rfl, hlt, hc⟩ := h5 h0
  obtain ⟨g1, g2⟩ := ho h0 _ rfl
  exact ⟨b, off, rfl, Nat.lt_of_lt_of_le hlt hb.size, fun j hj => (hb.cell (a := ⟨b, off + j, none⟩) g1 g2).trans (hc j hj)⟩
theorem Numbers.oldB {w : World} {B pb n c : Nat} {a : Option Addr} {zs : List Int} (h : Numbers w a n c zs) (hB : w.heap.size ≤ B) (hp : w.heap.size ≤ pb) : OldB B pb n a := fun h0 x e => by
  obtain ⟨b, off, e2, hlt, _⟩ := h.2.2.2.2.2 h0
  rw [e] at e2
  cases e2
  exact ⟨Nat.lt_of_lt_of_le hlt hB, by show b ≠ pb; omega⟩
def OldWs (B pb n : Nat) (a : Option Addr) (xs : List PWay) : Prop := OldB B pb n a ∧ ∀ x ∈ xs, OldB B pb x.n x.a
theorem Ways.butO {w w' : World} {B pb n c : Nat} {a : Option Addr} {xs : List PWay} (h : Ways w a n c xs) (ho : OldWs B pb n a xs) (hb : But B pb w w') : Ways w' a n c xs := by
  obtain ⟨h1, h2, h3, h4, h6, h5⟩ := h
  refine ⟨h1, h2, h3, h4, fun x hx => ⟨(h6 x hx).keys.butO (ho.2 x hx) hb, (h6 x hx).sum, (h6 x hx).after, (h6 x hx).wait⟩, fun h0 => ?_⟩
  obtain ⟨b, off, rfl, hlt, hc⟩ := h5 h0
  obtain ⟨g1, g2⟩ := ho.1 h0 _ rfl
  exact ⟨b, off, rfl, Nat.lt_of_lt_of_le hlt hb.size, fun j hj i v hv => (hb.cell (a := ⟨b, off + j * 35 + i, none⟩) g1 g2).trans (hc j hj i v hv)⟩
theorem Ways.oldWs {w : World} {B pb n c : Nat} {a : Option Addr} {xs : List PWay} (h : Ways w a n c xs) (hB : w.heap.size ≤ B) (hp : w.heap.size ≤ pb) : OldWs B pb n a xs := by
  refine ⟨fun h0 x e => ?_, fun x hx => (h.2.2.2.2.1 x hx).keys.oldB hB hp⟩
  obtain ⟨b, off, e2, hlt, _⟩ := h.2.2.2.2.2 h0
  rw [e] at e2
  cases e2
  exact ⟨Nat.lt_of_lt_of_le hlt hB, by show b ≠ pb; omega⟩
/-- What a pen's step leaves. -/
def PStep (B pb : Nat) (w w' : World) : Prop := But B pb w w' ∧ Keeps w w'
theorem kept_way {w w' : World} {g : Nat} {x : PWay} {fr : Nat × Nat} (hk : Keeps w w') (h : w.heap[g]? = some (.cells x.cells.toArray 64 fr)) : w'.heap[g]? = some (.cells x.cells.toArray 64 fr) := (hk g _ _ _ h (by decide) (by decide) (by decide)).trans h
theorem kept_int {w w' : World} {g : Nat} {cs : Array Value} {fr : Nat × Nat} (hk : Keeps w w') (h : w.heap[g]? = some (.cells cs 3 fr)) : w'.heap[g]? = some (.cells cs 3 fr) := (hk g _ _ _ h (by decide) (by decide) (by decide)).trans h
theorem kept_out {w w' : World} {g : Nat} {cs : Array Value} {fr : Nat × Nat} (hk : Keeps w w') (h : w.heap[g]? = some (.cells cs 61 fr)) : w'.heap[g]? = some (.cells cs 61 fr) := (hk g _ _ _ h (by decide) (by decide) (by decide)).trans h
theorem lit2 {w : World} {g B pb : Nat} {y z : Int} {fr : Nat × Nat} (h : w.heap[g]? = some (.cells #[.int .i64 y, .int .i64 z] 3 fr)) : ∀ wr, But B pb w wr → Keeps w wr → ∀ j, j < 2 → wr.cell? ⟨g, 0 + j, none⟩ = some (.int .i64 ([y, z].getD j 0)) := fun wr _ hk j hj => by
  rw [Nat.zero_add, cell_of_row _ _ _ _ _ _ (kept_int hk h)]
  rcases (show j = 0 ∨ j = 1 by omega) with rfl | rfl <;> rfl
theorem two_small {y z : Int} (hy : Fits y) (hz : Fits z) : ∀ v ∈ [y, z], v ≤ 9223372036854775807 := fun v hv => by
  simp at hv
  rcases hv with rfl | rfl
  · exact hy.2
  · exact hz.2
theorem pnums_olds {w W : World} {a : Option Addr} {n c B pb : Nat} {zs : List Int} {l : List UInt8} (hi : Numbers w a n c zs) (ho : OldB B pb n a) (hs : But B pb w W) (hp : PenAt W B pb l) (hbz : B ≤ W.heap.size) (hn : n ≤ 1000) (hl : l.length ≤ 1000000) :
    Calls Tryz.prog 62 #[.pointer (some ⟨pb, 0, none⟩), .slice a n c] W fun r w' => r = .returned (.pointer (some ⟨pb, 0, none⟩)) ∧ PenAt w' B pb (l ++ numsB zs) ∧ But B pb W w' ∧ Keeps W w' := by
  by_cases h0 : 0 < n
  · obtain ⟨b, off, rfl, _, _⟩ := hi.2.2.2.2.2 h0
    refine pnums_typed W hi.1 hi.2.1 hi.2.2.1 (fun z hz => (hi.2.2.2.2.1 z hz).2) (fun wr hb _ j hj => ?_) hp hbz hn hl
    obtain ⟨b', off', e, _, hc⟩ := ((hi.butO ho hs).butO ho hb).2.2.2.2.2 h0
    cases e
    exact hc j hj
  · obtain rfl : n = 0 := by omega
    obtain rfl : zs = [] := List.eq_nil_of_length_eq_zero hi.1
    exact pnums_zero W hp
theorem Tryz.zeroInt : (Tryz.prog.info? 3).map (fun i => (i.zero, i.size, i.bytes)) = some (some (.int .i64 0), 1, 8) := by kernel_rfl
/-- A slice literal of two numbers, in a region. -/
theorem step_two_gen {ops : Array Oper} {o : Oper} {tmps : Array Value} {ds : List Deferred} {w : World} {K : Act → World → Prop} {Q : Exit → Act → World → Prop} {E : Prop} {d : Nat} {u v : Operand} {y z : Int} (hd : o.dst = some d) (hw : Region.wanted o (yielded ops tmps) = true) (ho : o.op = .buildSlice 62 2 #[(0, u), (1, v)])
    (hu : Act.eval { tmps := tmps, defers := ds } u = .int .i64 y) (hv : Act.eval { tmps := tmps, defers := ds } v = .int .i64 z)
    (h : ∀ (p : Nat) (w' : World), w.heap.size ≤ p → w'.heap[p]? = some (.cells #[.int .i64 y, .int .i64 z] 3 (0, 0)) → Below w.heap.size w w' → K { tmps := tmps.setIfInBounds d (.slice (some ⟨p, 0, none⟩) 2 2), defers := ds } w') :
    if Region.wanted o (yielded ops tmps) = true then Oper.wp Tryz.prog o { tmps := tmps, defers := ds } w K Q else E := by
  rw [if_pos hw]
  obtain ⟨ie, h1, h2, h3, _⟩ := info_parts Tryz.zeroInt
  have hrun : (Instr.buildSlice 62 2 #[(0, .int .i64 y), (1, .int .i64 z)]).run Tryz.prog w = .ok (.slice (some ⟨w.heap.size, 0, none⟩) 2 2) (w.alloc (.cells #[.int .i64 y, .int .i64 z] 3)) :=
    run_buildSlice w 62 3 2 _ _ ie _ Tryz.underlying62 h1 h2 (by rw [h3]; omega) (by rw [h3]; omega) (by rw [h3]; simp [Instr.fill, Value.cells]; rw [show Array.range 2 = #[0, 1] by rfl]; simp)
  unfold Oper.wp execOp
  simp only [ho, List.map_toArray, List.map_cons, List.map_nil, hu, hv, Sem.run_bind, hrun, Sem.run_pure, Result.andThen_ok]
  show K (Act.put _ o.dst _) _
  rw [hd]
  exact h _ _ (Nat.le_refl _) (heap_alloc_new _ _) ((Below.refl _ _).alloc (Nat.le_refl _) _)
set_option linter.unusedSimpArgs false in
set_option maxRecDepth 100000 in
set_option maxHeartbeats 12800000 in
theorem lockPut_at {w : World} {B pb n c : Nat} {m : Int} {a : Option Addr} {xs : List PWay} {l : List UInt8} (h : Ways w a n c xs) (ho : OldWs B pb n a xs) (hp : PenAt w B pb l) (hbz : B ≤ w.heap.size) (hm : Fits m) (hn : n ≤ 1000) (hks : ∀ x ∈ xs, x.ks.length ≤ 1000) (hl : l.length + (outB m xs).length ≤ 1000000) :
    Calls Tryz.prog 34 #[.pointer (some ⟨pb, 0, none⟩), .agg #[.int .i64 m, .slice a n c]] w fun e w' => e = .returned (.tuple #[]) ∧ PenAt w' B pb (l ++ outB m xs) ∧ But B pb w w' ∧ Keeps w w' := by
  have hn63 : (n : Int) ≤ 9223372036854775807 := by omega
  have b1 : Below w.heap.size w (w.alloc (.cells #[.int .i64 m, .slice a n c] 61)) := (Below.refl _ _).alloc (Nat.le_refl _) _
  have h1 := heap_alloc_new w (.cells #[.int .i64 m, .slice a n c] 61)
  have HE : Hid (outB m xs = numsB [m, (n : Int)] ++ waysB xs) := Lib.hid (by unfold outB; rw [h.1])
  have H := Lib.hid h
  have HO := Lib.hid ho
  have HP1 := Lib.hid (hp.below hbz b1)
  have HM := Lib.hid hm
  have HKS := Lib.hid hks
  have HL := Lib.hid hl
  clear h ho hp hm hks hl
  go_enter Tryz.func34, Tryz.ntmps34
  go_upto_region 1 with (fail)
  revert b1 h1 HP1
  generalize (w.alloc (.cells #[.int .i64 m, .slice a n c] 61)) = w1
  obtain ⟨g, hg⟩ : ∃ g, g = w.heap.size := ⟨_, rfl⟩
  rw [← hg]
  intro b1 h1 HP1
  rw [hg] at b1
  have hbz1 : B ≤ w1.heap.size := Nat.le_trans hbz b1.size
  have c0 : w1.cell? ⟨g, 0, none⟩ = some (.int .i64 m) := by rw [cell_of_row _ _ _ _ _ _ h1]; rfl
  have c1 : w1.cell? ⟨g, 1, none⟩ = some (.slice a n c) := by rw [cell_of_row _ _ _ _ _ _ h1]; rfl
  have HB1 := Lib.hid b1
  have H1 := Lib.hid h1
  clear b1 h1 hg
  go_wp2_with fail
  have b2 : Below w1.heap.size w1 (w1.alloc (.cells #[.int .i64 m, .int .i64 (n : Int)] 3)) := (Below.refl _ _).alloc (Nat.le_refl _) _
  have hz2 : B ≤ (w1.alloc (.cells #[.int .i64 m, .int .i64 (n : Int)] 3)).heap.size := Nat.le_trans hbz1 b2.size
  have HB2 := Lib.hid b2
  have HZ2 := Lib.hid hz2
  have HLL : Hid (l.length ≤ 1000000) := Lib.hid (by have := HL.out; omega)
  clear b2 hz2
  refine (pnums_typed (n := 2) (c := 2) (off := 0) (zs := [m, (n : Int)]) _ rfl (Nat.le_refl _) (by unfold maxLen; omega) (two_small HM.out ⟨by omega, hn63⟩) (lit2 (heap_alloc_new _ _)) (HP1.out.below hbz1 HB2.out) HZ2.out (by omega) HLL.out).mono ?_
  rintro e w3 ⟨rfl, hp3, hb3, hk3⟩
  have HP3 := Lib.hid hp3
  have HB3 := Lib.hid ((But.of (HB1.out.mono hbz)).trans ((But.of (HB2.out.mono hbz1)).trans hb3))
  have HK3 := Lib.hid ((Keeps.below HB1.out).trans ((Keeps.below HB2.out).trans hk3))
  have h3 := kept_out ((Keeps.below HB2.out).trans hk3) H1.out
  have d1 : w3.cell? ⟨g, 1, none⟩ = some (.slice a n c) := by rw [cell_of_row _ _ _ _ _ _ h3]; rfl
  clear c0 c1 hp3 hb3 hk3 h3 HP1 H1 HB1 HB2 HZ2 HM
  go_wp2_with fail
  clear d1
  go_loopw [17] (fun i wr => ∃ k : Nat, k ≤ n ∧ i = .int .i64 k ∧ PenAt wr B pb (l ++ (numsB [m, (n : Int)] ++ waysB (xs.take k))) ∧ But B pb w wr ∧ Keeps w wr) (fun i _ => n - (intOf i).toNat)
  case atStart => exact ⟨0, Nat.zero_le _, rfl, by have h9 := HP3.out; simpa [waysB] using h9, HB3.out, HK3.out⟩
  case round =>
    obtain ⟨k, hk, rfl, hpk, hbk, hkk⟩ := hrel
    have HPK := Lib.hid hpk
    have HBK := Lib.hid hbk
    have HKK := Lib.hid hkk
    have hbzr : B ≤ wr.heap.size := Nat.le_trans hbz hbk.size
    clear hpk hbk hkk HP3 HB3 HK3
    by_cases hkn : k < n
    · have f1 : (k : Int) < (n : Int) := by omega
      have f0 : (0 : Int) ≤ (k : Int) := by omega
      have ft : ((k : Int)).toNat = k := by omega
      have hkl : k < xs.length := by rw [H.out.1]; exact hkn
      have hwr := H.out.butO HO.out HBK.out
      obtain ⟨b1, o1, e1, hltb, hc1⟩ := hwr.2.2.2.2.2 (by omega)
      have hrx := hc1 k hkn
      have hx := hwr.way hkn
      have hxm : xs.getD k noWay ∈ xs := by
        have e : xs.getD k noWay = xs[k] := by simp [List.getD, hkl]
        rw [e]
        exact List.getElem_mem hkl
      have hox := HO.out.2 _ hxm
      have hkx := HKS.out _ hxm
      have hnx := waysB_take xs k hkl
      have hll : (waysB (xs.take k)).length + (wayB (xs.getD k noWay)).length ≤ (waysB xs).length := by
        have e := congrArg List.length hnx
        have e2 : waysB xs = waysB (xs.take (k + 1)) ++ waysB (xs.drop (k + 1)) := by
          have happ : ∀ (u v : List PWay), waysB (u ++ v) = waysB u ++ waysB v := fun u v => by induction u with
            | nil => rfl
            | cons y u ih => simp [waysB, ih]
          rw [← happ, List.take_append_drop]
        have e3 := congrArg List.length e2
        rw [List.length_append] at e e3
        omega
      revert hrx hx hox hkx hnx hll
      generalize xs.getD k noWay = x
      intro hrx hx hox hkx hnx hll
      subst e1
      obtain ⟨P, hP⟩ : ∃ P, P = l ++ (numsB [m, (n : Int)] ++ waysB (xs.take k)) := ⟨_, rfl⟩
      have HNX : Hid (l ++ (numsB [m, (n : Int)] ++ waysB (xs.take (k + 1))) = P ++ wayB x) := Lib.hid (by rw [hnx, hP]; simp only [List.append_assoc])
      have WB : Hid (wayB x = numB (x.n : Int) ++ (numsB x.ks ++ (x.h ++ numsB [x.after, x.wait]))) := Lib.hid (by unfold wayB; rw [hx.keys.1])
      have HLW : Hid (P.length + (wayB x).length ≤ 1000000) := Lib.hid (by
        have h9 := HL.out
        rw [HE.out] at h9
        rw [hP]
        simp only [List.length_append] at h9 ⊢
        omega)
      rw [← hP] at HPK
      have RX := Lib.hid hrx
      have SX := Lib.hid (way_size hx.sum)
      have AX := Lib.hid (way_sizeA hx.sum)
      have ZX := Lib.hid (way_zero hx.sum)
      have SXH := Lib.hid (sumLen hx.sum)
      have HXS := Lib.hid hx.sum
      have HXA := Lib.hid hx.after
      have HXW := Lib.hid hx.wait
      have HX := Lib.hid hx
      have HOX := Lib.hid hox
      have hx1000 : x.n ≤ 1000 := by rw [← hx.keys.1]; exact hkx
      have hx63 : (x.n : Int) ≤ 9223372036854775807 := by omega
      clear hc1 hrx hx hxm hox hkx hnx hll hP hwr hkl H HO HKS
      go_upto_region 5 with (first | (refine wpList_load_mid rfl 64 _ rfl b1 (o1 + k * 35) rfl x.cells _ RX.out Tryz.underlying64 rfl SX.out ?_) | (refine wpList_store_row rfl 64 _ _ rfl wr.heap.size x.cells.toArray rfl rfl 64 noWay.cells.toArray (heap_alloc_new _ _) AX.out ZX.out (all_oneCell_toArray x.cells_one) ?_) | fail)
      rw [← noWay_is, layWay_is]
      have h5 := layWay_heap wr x
      have b5 := layWay_self wr x
      revert h5 b5
      generalize layWay wr x = w5
      obtain ⟨g5, hg5⟩ : ∃ g5, g5 = wr.heap.size := ⟨_, rfl⟩
      rw [← hg5]
      intro h5 b5
      rw [hg5] at b5
      have H5 := Lib.hid h5
      have hbz5 : B ≤ w5.heap.size := Nat.le_trans hbzr b5.size
      have HPEN0 : Hid (PenAt w5.drew B pb P) := Lib.hid ((HPK.out.below hbzr b5).below hbz5 (below_drew (Below.refl _ _)))
      have HKX := Lib.hid (HX.out.keys.below b5)
      have HBW := Lib.hid (HBK.out.trans (But.of (b5.mono hbzr)))
      have HKP := Lib.hid (HKK.out.trans (Keeps.below b5))
      clear h5 b5 hg5 HPK RX
      try simp only [Act.put]
      refine wp_region_held_drew (S := fun w' => PStep B pb w5 w') (by kernel_rfl) (⟨But.of (below_drew (Below.refl _ _)), fun _ _ _ _ _ _ _ _ => rfl⟩) (fun hHeld => ?_)
      refine take_at (i := 0) (v := ?_) rfl rfl (by kernel_rfl) (by kernel_rfl) (by kernel_rfl) (fun _ _ _ h => h) (Or.inl ⟨by rfl, ?_⟩) (by assumption) ?_
      rotate_left
      · intro w0 hSw; (try dsimp only at hSw); first | (go_simp; done) | (go_simp; with_reducible rfl)
      simp only [List.setIfInBounds_toArray, List.set_cons_zero, List.set_cons_succ]
      refine take_at (i := 1) (v := ?_) rfl rfl (by kernel_rfl) (by kernel_rfl) (by kernel_rfl) (fun _ _ _ h => h) (Or.inl ⟨by rfl, ?_⟩) (by assumption) ?_
      rotate_left
      · intro w0 hSw; (try dsimp only at hSw); first | (go_simp; done) | (go_simp; with_reducible rfl)
      simp only [List.setIfInBounds_toArray, List.set_cons_zero, List.set_cons_succ]
      refine take_at (i := 2) rfl rfl (by kernel_rfl) (by kernel_rfl) (by kernel_rfl) (fun _ _ _ h => h) (yields_cell (by rfl) rfl rfl (b := g5) (o := 0) (fun w0 hSw => way_keys (range_of (kept_way hSw.2 H5.out))) Tryz.isAgg62) (by assumption) ?_
      simp only [List.setIfInBounds_toArray, List.set_cons_zero, List.set_cons_succ]
      refine take_at (i := 3) (v := ?_) rfl rfl (by kernel_rfl) (by kernel_rfl) (by kernel_rfl) (fun _ _ _ h => h) (Or.inl ⟨by rfl, ?_⟩) (by assumption) ?_
      rotate_left
      · intro w0 hSw; (try dsimp only at hSw); first | (go_simp; done) | (go_simp; with_reducible rfl)
      simp only [List.setIfInBounds_toArray, List.set_cons_zero, List.set_cons_succ]
      refine take_at (i := 5) (v := ?_) rfl rfl (by kernel_rfl) (by kernel_rfl) (by kernel_rfl) (fun _ _ _ h => h) (Or.inl ⟨by rfl, ?_⟩) (by assumption) ?_
      rotate_left
      · intro w0 hSw; (try dsimp only at hSw); first | (go_simp; done) | (go_simp; with_reducible rfl)
      simp only [List.setIfInBounds_toArray, List.set_cons_zero, List.set_cons_succ]
      refine take_at (i := 6) rfl rfl (by kernel_rfl) (by kernel_rfl) (by kernel_rfl) (fun _ _ _ h => h) (yields_cell (by rfl) rfl rfl (b := g5) (o := 0) (fun w0 hSw => way_keys (range_of (kept_way hSw.2 H5.out))) Tryz.isAgg62) (by assumption) ?_
      simp only [List.setIfInBounds_toArray, List.set_cons_zero, List.set_cons_succ]
      refine take_at (i := 8) (v := ?_) rfl rfl (by kernel_rfl) (by kernel_rfl) (by kernel_rfl) (fun _ _ _ h => h) (Or.inl ⟨by rfl, ?_⟩) (by assumption) ?_
      rotate_left
      · intro w0 hSw; (try dsimp only at hSw); first | (go_simp; done) | (go_simp; with_reducible rfl)
      simp only [List.setIfInBounds_toArray, List.set_cons_zero, List.set_cons_succ]
      refine take_at (i := 9) rfl rfl (by kernel_rfl) (by kernel_rfl) (by kernel_rfl) (fun _ _ _ h => h) (yieldsIf_load_mid (by rfl) _ _ rfl g5 1 rfl (cellsOf x.h) _ (fun w0 hSw => way_sum HXS.out (range_of (kept_way hSw.2 H5.out))) Tryz.underlying25 rfl SXH.out) (by assumption) ?_
      simp only [List.setIfInBounds_toArray, List.set_cons_zero, List.set_cons_succ]
      refine take_at (i := 11) (v := ?_) rfl rfl (by kernel_rfl) (by kernel_rfl) (by kernel_rfl) (fun _ _ _ h => h) (Or.inl ⟨by rfl, ?_⟩) (by assumption) ?_
      rotate_left
      · intro w0 hSw; (try dsimp only at hSw); first | (go_simp; done) | (go_simp; with_reducible rfl)
      simp only [List.setIfInBounds_toArray, List.set_cons_zero, List.set_cons_succ]
      refine take_at (i := 12) rfl rfl (by kernel_rfl) (by kernel_rfl) (by kernel_rfl) (fun _ _ _ h => h) (yields_cell (by rfl) rfl rfl (b := g5) (o := 33) (fun w0 hSw => way_after HXS.out (range_of (kept_way hSw.2 H5.out))) Tryz.isAgg3) (by assumption) ?_
      simp only [List.setIfInBounds_toArray, List.set_cons_zero, List.set_cons_succ]
      refine take_at (i := 13) (v := ?_) rfl rfl (by kernel_rfl) (by kernel_rfl) (by kernel_rfl) (fun _ _ _ h => h) (Or.inl ⟨by rfl, ?_⟩) (by assumption) ?_
      rotate_left
      · intro w0 hSw; (try dsimp only at hSw); first | (go_simp; done) | (go_simp; with_reducible rfl)
      simp only [List.setIfInBounds_toArray, List.set_cons_zero, List.set_cons_succ]
      refine take_at (i := 14) rfl rfl (by kernel_rfl) (by kernel_rfl) (by kernel_rfl) (fun _ _ _ h => h) (yields_cell (by rfl) rfl rfl (b := g5) (o := 34) (fun w0 hSw => way_wait HXS.out (range_of (kept_way hSw.2 H5.out))) Tryz.isAgg3) (by assumption) ?_
      simp only [List.setIfInBounds_toArray, List.set_cons_zero, List.set_cons_succ]
      refine wpAnyH_ready (rs := [4, 15]) (by kernel_rfl) (by simp) ?_
      refine AllReadyH.cons rfl (fun K hK => ?_) ?_
      · have HZw5drew : Hid (B ≤ (w5.drew).heap.size) := Lib.hid (Nat.le_trans hbz5 hHeld.1.size)
        have hHbw5drew : Hid (But B pb w5 (w5.drew)) := Lib.hid hHeld.1
        have HLENw5drew : Hid ((P).length + 0 ≤ P.length + (wayB x).length) := Lib.hid (by rw [WB.out]; simp only [List.length_append]; omega)
        go_simp
        go_wp2_with ((go_at_call 16; (with_reducible refine (pnum_typed (x.n : Int) HPEN0.out HZw5drew.out (by have h0 := HLW.out; have h1 := HLENw5drew.out; omega) hx63).mono ?_); rintro e y4 ⟨rfl, hp, hb, hk⟩; have HPy4 := Lib.hid hp; have HSy4 : Hid (PStep B pb _ y4) := Lib.hid ⟨hb, hk⟩; clear hp hb hk))
        refine hK.out _ _ (by (try dsimp only); exact ⟨hHeld.1.trans HSy4.out.1, hHeld.2.trans HSy4.out.2⟩) (fun hHeld => ?_)
        clear hK K
        refine wpAnyH_ready (rs := [7, 15]) (by kernel_rfl) (by simp) ?_
        refine AllReadyH.cons rfl (fun K hK => ?_) ?_
        · have HZy4 : Hid (B ≤ (y4).heap.size) := Lib.hid (Nat.le_trans hbz5 hHeld.1.size)
          have hHby4 : Hid (But B pb w5 (y4)) := Lib.hid hHeld.1
          have HLENy4 : Hid (((P ++ (numB (x.n : Int)))).length + 0 ≤ P.length + (wayB x).length) := Lib.hid (by rw [WB.out]; simp only [List.length_append]; omega)
          go_simp
          go_wp2_with ((go_at_call 62; (with_reducible refine (pnums_olds HKX.out HOX.out (hHby4.out) HPy4.out HZy4.out hx1000 (by have h0 := HLW.out; have h1 := HLENy4.out; omega)).mono ?_); rintro e y7 ⟨rfl, hp, hb, hk⟩; have HPy7 := Lib.hid hp; have HSy7 : Hid (PStep B pb _ y7) := Lib.hid ⟨hb, hk⟩; clear hp hb hk))
          refine hK.out _ _ (by (try dsimp only); exact ⟨hHeld.1.trans HSy7.out.1, hHeld.2.trans HSy7.out.2⟩) (fun hHeld => ?_)
          clear hK K
          refine wpAnyH_ready (rs := [10, 15]) (by kernel_rfl) (by simp) ?_
          refine AllReadyH.cons rfl (fun K hK => ?_) ?_
          · have HZy7 : Hid (B ≤ (y7).heap.size) := Lib.hid (Nat.le_trans hbz5 hHeld.1.size)
            have hHby7 : Hid (But B pb w5 (y7)) := Lib.hid hHeld.1
            have HLENy7 : Hid ((((P ++ (numB (x.n : Int))) ++ (numsB x.ks))).length + 0 ≤ P.length + (wayB x).length) := Lib.hid (by rw [WB.out]; simp only [List.length_append]; omega)
            go_simp
            go_wp2_with ((go_at_call 17; (with_reducible refine (psum_typed _ HXS.out HPy7.out HZy7.out (by have h0 := HLW.out; have h1 := HLENy7.out; omega)).mono ?_); rintro e y10 ⟨rfl, hp, hb, hk⟩; have HPy10 := Lib.hid hp; have HSy10 : Hid (PStep B pb _ y10) := Lib.hid ⟨hb, hk⟩; clear hp hb hk))
            refine hK.out _ _ (by (try dsimp only); exact ⟨hHeld.1.trans HSy10.out.1, hHeld.2.trans HSy10.out.2⟩) (fun hHeld => ?_)
            clear hK K
            refine wpAnyH_ready (rs := [15]) (by kernel_rfl) (by simp) ?_
            refine AllReadyH.cons rfl (fun K hK => ?_) ?_
            · refine step_two_gen (d := 36) (y := x.after) (z := x.wait) rfl (by rfl) rfl (by rfl) (by rfl) ?_
              intro p z3 hgp hlit hbl
              have LIT := Lib.hid hlit
              have HPz3 := Lib.hid (PenAt.below HPy10.out (Nat.le_trans hbz5 hHeld.1.size) hbl)
              have HSz3 : Hid (PStep B pb _ z3) := Lib.hid ⟨But.of (hbl.mono (Nat.le_trans hbz5 hHeld.1.size)), Keeps.below hbl⟩
              clear hlit hbl hgp
              refine hK.out _ _ (by (try dsimp only); exact ⟨hHeld.1.trans HSz3.out.1, hHeld.2.trans HSz3.out.2⟩) (fun hHeld => ?_)
              clear hK K
              refine wpAnyH_ready (rs := [16]) (by kernel_rfl) (by simp) ?_
              refine AllReadyH.cons rfl (fun K hK => ?_) ?_
              · have HZz3 : Hid (B ≤ (z3).heap.size) := Lib.hid (Nat.le_trans hbz5 hHeld.1.size)
                have hHbz3 : Hid (But B pb w5 (z3)) := Lib.hid hHeld.1
                have HLENz3 : Hid (((((P ++ (numB (x.n : Int))) ++ (numsB x.ks)) ++ x.h)).length + 0 ≤ P.length + (wayB x).length) := Lib.hid (by rw [WB.out]; simp only [List.length_append]; omega)
                go_simp
                go_wp2_with ((go_at_call 62; (with_reducible refine (pnums_typed (n := 2) (c := 2) (off := 0) _ rfl (Nat.le_refl _) (by unfold maxLen; omega) (two_small HXA.out HXW.out) (lit2 LIT.out) HPz3.out HZz3.out (by omega) (by have h0 := HLW.out; have h1 := HLENz3.out; omega)).mono ?_); rintro e y16b ⟨rfl, hp, hb, hk⟩; have HPy16b := Lib.hid hp; have HSy16b : Hid (PStep B pb _ y16b) := Lib.hid ⟨hb, hk⟩; clear hp hb hk))
                refine hK.out _ _ (by (try dsimp only); exact ⟨hHeld.1.trans HSy16b.out.1, hHeld.2.trans HSy16b.out.2⟩) (fun hHeld => ?_)
                clear hK K
                refine wpAnyH_done (by kernel_rfl) ?_ _
                have HS := Lib.hid (show PStep B pb w5 y16b from hHeld)
                clear hHeld
                have HPE : Hid (PenAt y16b B pb (l ++ (numsB [m, (n : Int)] ++ waysB (xs.take (k + 1))))) := Lib.hid (by have h9 := HPy16b.out; rw [HNX.out, WB.out]; simpa only [List.append_assoc] using h9)
                go_wp2_with fail
                go_roundw
                case rel => exact ⟨k + 1, by omega, by go_num, HPE.out, HBW.out.trans HS.out.1, HKP.out.trans HS.out.2⟩
                case measure => simp [intOf]; omega
              exact AllReadyH.nil
            exact AllReadyH.nil
          refine AllReadyH.cons rfl (fun K hK => ?_) ?_
          · refine step_two_gen (d := 36) (y := x.after) (z := x.wait) rfl (by rfl) rfl (by rfl) (by rfl) ?_
            intro p z2 hgp hlit hbl
            have LIT := Lib.hid hlit
            have HPz2 := Lib.hid (PenAt.below HPy7.out (Nat.le_trans hbz5 hHeld.1.size) hbl)
            have HSz2 : Hid (PStep B pb _ z2) := Lib.hid ⟨But.of (hbl.mono (Nat.le_trans hbz5 hHeld.1.size)), Keeps.below hbl⟩
            clear hlit hbl hgp
            refine hK.out _ _ (by (try dsimp only); exact ⟨hHeld.1.trans HSz2.out.1, hHeld.2.trans HSz2.out.2⟩) (fun hHeld => ?_)
            clear hK K
            refine wpAnyH_ready (rs := [10]) (by kernel_rfl) (by simp) ?_
            refine AllReadyH.cons rfl (fun K hK => ?_) ?_
            · have HZz2 : Hid (B ≤ (z2).heap.size) := Lib.hid (Nat.le_trans hbz5 hHeld.1.size)
              have hHbz2 : Hid (But B pb w5 (z2)) := Lib.hid hHeld.1
              have HLENz2 : Hid ((((P ++ (numB (x.n : Int))) ++ (numsB x.ks))).length + 0 ≤ P.length + (wayB x).length) := Lib.hid (by rw [WB.out]; simp only [List.length_append]; omega)
              go_simp
              go_wp2_with ((go_at_call 17; (with_reducible refine (psum_typed _ HXS.out HPz2.out HZz2.out (by have h0 := HLW.out; have h1 := HLENz2.out; omega)).mono ?_); rintro e y10b ⟨rfl, hp, hb, hk⟩; have HPy10b := Lib.hid hp; have HSy10b : Hid (PStep B pb _ y10b) := Lib.hid ⟨hb, hk⟩; clear hp hb hk))
              have LIT0 := LIT.out
              have LIT := Lib.hid (kept_int HSy10b.out.2 LIT0)
              clear LIT0
              refine hK.out _ _ (by (try dsimp only); exact ⟨hHeld.1.trans HSy10b.out.1, hHeld.2.trans HSy10b.out.2⟩) (fun hHeld => ?_)
              clear hK K
              refine wpAnyH_ready (rs := [16]) (by kernel_rfl) (by simp) ?_
              refine AllReadyH.cons rfl (fun K hK => ?_) ?_
              · have HZy10b : Hid (B ≤ (y10b).heap.size) := Lib.hid (Nat.le_trans hbz5 hHeld.1.size)
                have hHby10b : Hid (But B pb w5 (y10b)) := Lib.hid hHeld.1
                have HLENy10b : Hid (((((P ++ (numB (x.n : Int))) ++ (numsB x.ks)) ++ x.h)).length + 0 ≤ P.length + (wayB x).length) := Lib.hid (by rw [WB.out]; simp only [List.length_append]; omega)
                go_simp
                go_wp2_with ((go_at_call 62; (with_reducible refine (pnums_typed (n := 2) (c := 2) (off := 0) _ rfl (Nat.le_refl _) (by unfold maxLen; omega) (two_small HXA.out HXW.out) (lit2 LIT.out) HPy10b.out HZy10b.out (by omega) (by have h0 := HLW.out; have h1 := HLENy10b.out; omega)).mono ?_); rintro e y16b ⟨rfl, hp, hb, hk⟩; have HPy16b := Lib.hid hp; have HSy16b : Hid (PStep B pb _ y16b) := Lib.hid ⟨hb, hk⟩; clear hp hb hk))
                refine hK.out _ _ (by (try dsimp only); exact ⟨hHeld.1.trans HSy16b.out.1, hHeld.2.trans HSy16b.out.2⟩) (fun hHeld => ?_)
                clear hK K
                refine wpAnyH_done (by kernel_rfl) ?_ _
                have HS := Lib.hid (show PStep B pb w5 y16b from hHeld)
                clear hHeld
                have HPE : Hid (PenAt y16b B pb (l ++ (numsB [m, (n : Int)] ++ waysB (xs.take (k + 1))))) := Lib.hid (by have h9 := HPy16b.out; rw [HNX.out, WB.out]; simpa only [List.append_assoc] using h9)
                go_wp2_with fail
                go_roundw
                case rel => exact ⟨k + 1, by omega, by go_num, HPE.out, HBW.out.trans HS.out.1, HKP.out.trans HS.out.2⟩
                case measure => simp [intOf]; omega
              exact AllReadyH.nil
            exact AllReadyH.nil
          exact AllReadyH.nil
        refine AllReadyH.cons rfl (fun K hK => ?_) ?_
        · refine step_two_gen (d := 36) (y := x.after) (z := x.wait) rfl (by rfl) rfl (by rfl) (by rfl) ?_
          intro p z1 hgp hlit hbl
          have LIT := Lib.hid hlit
          have HPz1 := Lib.hid (PenAt.below HPy4.out (Nat.le_trans hbz5 hHeld.1.size) hbl)
          have HSz1 : Hid (PStep B pb _ z1) := Lib.hid ⟨But.of (hbl.mono (Nat.le_trans hbz5 hHeld.1.size)), Keeps.below hbl⟩
          clear hlit hbl hgp
          refine hK.out _ _ (by (try dsimp only); exact ⟨hHeld.1.trans HSz1.out.1, hHeld.2.trans HSz1.out.2⟩) (fun hHeld => ?_)
          clear hK K
          refine wpAnyH_ready (rs := [7]) (by kernel_rfl) (by simp) ?_
          refine AllReadyH.cons rfl (fun K hK => ?_) ?_
          · have HZz1 : Hid (B ≤ (z1).heap.size) := Lib.hid (Nat.le_trans hbz5 hHeld.1.size)
            have hHbz1 : Hid (But B pb w5 (z1)) := Lib.hid hHeld.1
            have HLENz1 : Hid (((P ++ (numB (x.n : Int)))).length + 0 ≤ P.length + (wayB x).length) := Lib.hid (by rw [WB.out]; simp only [List.length_append]; omega)
            go_simp
            go_wp2_with ((go_at_call 62; (with_reducible refine (pnums_olds HKX.out HOX.out (hHbz1.out) HPz1.out HZz1.out hx1000 (by have h0 := HLW.out; have h1 := HLENz1.out; omega)).mono ?_); rintro e y7b ⟨rfl, hp, hb, hk⟩; have HPy7b := Lib.hid hp; have HSy7b : Hid (PStep B pb _ y7b) := Lib.hid ⟨hb, hk⟩; clear hp hb hk))
            have LIT0 := LIT.out
            have LIT := Lib.hid (kept_int HSy7b.out.2 LIT0)
            clear LIT0
            refine hK.out _ _ (by (try dsimp only); exact ⟨hHeld.1.trans HSy7b.out.1, hHeld.2.trans HSy7b.out.2⟩) (fun hHeld => ?_)
            clear hK K
            refine wpAnyH_ready (rs := [10]) (by kernel_rfl) (by simp) ?_
            refine AllReadyH.cons rfl (fun K hK => ?_) ?_
            · have HZy7b : Hid (B ≤ (y7b).heap.size) := Lib.hid (Nat.le_trans hbz5 hHeld.1.size)
              have hHby7b : Hid (But B pb w5 (y7b)) := Lib.hid hHeld.1
              have HLENy7b : Hid ((((P ++ (numB (x.n : Int))) ++ (numsB x.ks))).length + 0 ≤ P.length + (wayB x).length) := Lib.hid (by rw [WB.out]; simp only [List.length_append]; omega)
              go_simp
              go_wp2_with ((go_at_call 17; (with_reducible refine (psum_typed _ HXS.out HPy7b.out HZy7b.out (by have h0 := HLW.out; have h1 := HLENy7b.out; omega)).mono ?_); rintro e y10b ⟨rfl, hp, hb, hk⟩; have HPy10b := Lib.hid hp; have HSy10b : Hid (PStep B pb _ y10b) := Lib.hid ⟨hb, hk⟩; clear hp hb hk))
              have LIT0 := LIT.out
              have LIT := Lib.hid (kept_int HSy10b.out.2 LIT0)
              clear LIT0
              refine hK.out _ _ (by (try dsimp only); exact ⟨hHeld.1.trans HSy10b.out.1, hHeld.2.trans HSy10b.out.2⟩) (fun hHeld => ?_)
              clear hK K
              refine wpAnyH_ready (rs := [16]) (by kernel_rfl) (by simp) ?_
              refine AllReadyH.cons rfl (fun K hK => ?_) ?_
              · have HZy10b : Hid (B ≤ (y10b).heap.size) := Lib.hid (Nat.le_trans hbz5 hHeld.1.size)
                have hHby10b : Hid (But B pb w5 (y10b)) := Lib.hid hHeld.1
                have HLENy10b : Hid (((((P ++ (numB (x.n : Int))) ++ (numsB x.ks)) ++ x.h)).length + 0 ≤ P.length + (wayB x).length) := Lib.hid (by rw [WB.out]; simp only [List.length_append]; omega)
                go_simp
                go_wp2_with ((go_at_call 62; (with_reducible refine (pnums_typed (n := 2) (c := 2) (off := 0) _ rfl (Nat.le_refl _) (by unfold maxLen; omega) (two_small HXA.out HXW.out) (lit2 LIT.out) HPy10b.out HZy10b.out (by omega) (by have h0 := HLW.out; have h1 := HLENy10b.out; omega)).mono ?_); rintro e y16b ⟨rfl, hp, hb, hk⟩; have HPy16b := Lib.hid hp; have HSy16b : Hid (PStep B pb _ y16b) := Lib.hid ⟨hb, hk⟩; clear hp hb hk))
                refine hK.out _ _ (by (try dsimp only); exact ⟨hHeld.1.trans HSy16b.out.1, hHeld.2.trans HSy16b.out.2⟩) (fun hHeld => ?_)
                clear hK K
                refine wpAnyH_done (by kernel_rfl) ?_ _
                have HS := Lib.hid (show PStep B pb w5 y16b from hHeld)
                clear hHeld
                have HPE : Hid (PenAt y16b B pb (l ++ (numsB [m, (n : Int)] ++ waysB (xs.take (k + 1))))) := Lib.hid (by have h9 := HPy16b.out; rw [HNX.out, WB.out]; simpa only [List.append_assoc] using h9)
                go_wp2_with fail
                go_roundw
                case rel => exact ⟨k + 1, by omega, by go_num, HPE.out, HBW.out.trans HS.out.1, HKP.out.trans HS.out.2⟩
                case measure => simp [intOf]; omega
              exact AllReadyH.nil
            exact AllReadyH.nil
          exact AllReadyH.nil
        exact AllReadyH.nil
      refine AllReadyH.cons rfl (fun K hK => ?_) ?_
      · refine step_two_gen (d := 36) (y := x.after) (z := x.wait) rfl (by rfl) rfl (by rfl) (by rfl) ?_
        intro p z0 hgp hlit hbl
        have LIT := Lib.hid hlit
        have HPz0 := Lib.hid (PenAt.below HPEN0.out (Nat.le_trans hbz5 hHeld.1.size) hbl)
        have HSz0 : Hid (PStep B pb _ z0) := Lib.hid ⟨But.of (hbl.mono (Nat.le_trans hbz5 hHeld.1.size)), Keeps.below hbl⟩
        clear hlit hbl hgp
        refine hK.out _ _ (by (try dsimp only); exact ⟨hHeld.1.trans HSz0.out.1, hHeld.2.trans HSz0.out.2⟩) (fun hHeld => ?_)
        clear hK K
        refine wpAnyH_ready (rs := [4]) (by kernel_rfl) (by simp) ?_
        refine AllReadyH.cons rfl (fun K hK => ?_) ?_
        · have HZz0 : Hid (B ≤ (z0).heap.size) := Lib.hid (Nat.le_trans hbz5 hHeld.1.size)
          have hHbz0 : Hid (But B pb w5 (z0)) := Lib.hid hHeld.1
          have HLENz0 : Hid ((P).length + 0 ≤ P.length + (wayB x).length) := Lib.hid (by rw [WB.out]; simp only [List.length_append]; omega)
          go_simp
          go_wp2_with ((go_at_call 16; (with_reducible refine (pnum_typed (x.n : Int) HPz0.out HZz0.out (by have h0 := HLW.out; have h1 := HLENz0.out; omega) hx63).mono ?_); rintro e y4b ⟨rfl, hp, hb, hk⟩; have HPy4b := Lib.hid hp; have HSy4b : Hid (PStep B pb _ y4b) := Lib.hid ⟨hb, hk⟩; clear hp hb hk))
          have LIT0 := LIT.out
          have LIT := Lib.hid (kept_int HSy4b.out.2 LIT0)
          clear LIT0
          refine hK.out _ _ (by (try dsimp only); exact ⟨hHeld.1.trans HSy4b.out.1, hHeld.2.trans HSy4b.out.2⟩) (fun hHeld => ?_)
          clear hK K
          refine wpAnyH_ready (rs := [7]) (by kernel_rfl) (by simp) ?_
          refine AllReadyH.cons rfl (fun K hK => ?_) ?_
          · have HZy4b : Hid (B ≤ (y4b).heap.size) := Lib.hid (Nat.le_trans hbz5 hHeld.1.size)
            have hHby4b : Hid (But B pb w5 (y4b)) := Lib.hid hHeld.1
            have HLENy4b : Hid (((P ++ (numB (x.n : Int)))).length + 0 ≤ P.length + (wayB x).length) := Lib.hid (by rw [WB.out]; simp only [List.length_append]; omega)
            go_simp
            go_wp2_with ((go_at_call 62; (with_reducible refine (pnums_olds HKX.out HOX.out (hHby4b.out) HPy4b.out HZy4b.out hx1000 (by have h0 := HLW.out; have h1 := HLENy4b.out; omega)).mono ?_); rintro e y7b ⟨rfl, hp, hb, hk⟩; have HPy7b := Lib.hid hp; have HSy7b : Hid (PStep B pb _ y7b) := Lib.hid ⟨hb, hk⟩; clear hp hb hk))
            have LIT0 := LIT.out
            have LIT := Lib.hid (kept_int HSy7b.out.2 LIT0)
            clear LIT0
            refine hK.out _ _ (by (try dsimp only); exact ⟨hHeld.1.trans HSy7b.out.1, hHeld.2.trans HSy7b.out.2⟩) (fun hHeld => ?_)
            clear hK K
            refine wpAnyH_ready (rs := [10]) (by kernel_rfl) (by simp) ?_
            refine AllReadyH.cons rfl (fun K hK => ?_) ?_
            · have HZy7b : Hid (B ≤ (y7b).heap.size) := Lib.hid (Nat.le_trans hbz5 hHeld.1.size)
              have hHby7b : Hid (But B pb w5 (y7b)) := Lib.hid hHeld.1
              have HLENy7b : Hid ((((P ++ (numB (x.n : Int))) ++ (numsB x.ks))).length + 0 ≤ P.length + (wayB x).length) := Lib.hid (by rw [WB.out]; simp only [List.length_append]; omega)
              go_simp
              go_wp2_with ((go_at_call 17; (with_reducible refine (psum_typed _ HXS.out HPy7b.out HZy7b.out (by have h0 := HLW.out; have h1 := HLENy7b.out; omega)).mono ?_); rintro e y10b ⟨rfl, hp, hb, hk⟩; have HPy10b := Lib.hid hp; have HSy10b : Hid (PStep B pb _ y10b) := Lib.hid ⟨hb, hk⟩; clear hp hb hk))
              have LIT0 := LIT.out
              have LIT := Lib.hid (kept_int HSy10b.out.2 LIT0)
              clear LIT0
              refine hK.out _ _ (by (try dsimp only); exact ⟨hHeld.1.trans HSy10b.out.1, hHeld.2.trans HSy10b.out.2⟩) (fun hHeld => ?_)
              clear hK K
              refine wpAnyH_ready (rs := [16]) (by kernel_rfl) (by simp) ?_
              refine AllReadyH.cons rfl (fun K hK => ?_) ?_
              · have HZy10b : Hid (B ≤ (y10b).heap.size) := Lib.hid (Nat.le_trans hbz5 hHeld.1.size)
                have hHby10b : Hid (But B pb w5 (y10b)) := Lib.hid hHeld.1
                have HLENy10b : Hid (((((P ++ (numB (x.n : Int))) ++ (numsB x.ks)) ++ x.h)).length + 0 ≤ P.length + (wayB x).length) := Lib.hid (by rw [WB.out]; simp only [List.length_append]; omega)
                go_simp
                go_wp2_with ((go_at_call 62; (with_reducible refine (pnums_typed (n := 2) (c := 2) (off := 0) _ rfl (Nat.le_refl _) (by unfold maxLen; omega) (two_small HXA.out HXW.out) (lit2 LIT.out) HPy10b.out HZy10b.out (by omega) (by have h0 := HLW.out; have h1 := HLENy10b.out; omega)).mono ?_); rintro e y16b ⟨rfl, hp, hb, hk⟩; have HPy16b := Lib.hid hp; have HSy16b : Hid (PStep B pb _ y16b) := Lib.hid ⟨hb, hk⟩; clear hp hb hk))
                refine hK.out _ _ (by (try dsimp only); exact ⟨hHeld.1.trans HSy16b.out.1, hHeld.2.trans HSy16b.out.2⟩) (fun hHeld => ?_)
                clear hK K
                refine wpAnyH_done (by kernel_rfl) ?_ _
                have HS := Lib.hid (show PStep B pb w5 y16b from hHeld)
                clear hHeld
                have HPE : Hid (PenAt y16b B pb (l ++ (numsB [m, (n : Int)] ++ waysB (xs.take (k + 1))))) := Lib.hid (by have h9 := HPy16b.out; rw [HNX.out, WB.out]; simpa only [List.append_assoc] using h9)
                go_wp2_with fail
                go_roundw
                case rel => exact ⟨k + 1, by omega, by go_num, HPE.out, HBW.out.trans HS.out.1, HKP.out.trans HS.out.2⟩
                case measure => simp [intOf]; omega
              exact AllReadyH.nil
            exact AllReadyH.nil
          exact AllReadyH.nil
        exact AllReadyH.nil
      exact AllReadyH.nil
    · obtain rfl : k = n := by omega
      have f1 : ¬ ((k : Int) < (k : Int)) := by omega
      have htk : xs.take k = xs := List.take_of_length_le (by rw [H.out.1]; exact Nat.le_refl _)
      have HPE : Hid (PenAt wr B pb (l ++ outB m xs)) := Lib.hid (by rw [HE.out]; have h9 := HPK.out; rw [htk] at h9; exact h9)
      clear htk
      go_wp2
      go_end0
      exact ⟨rfl, HPE.out, HBK.out, HKK.out⟩
end Go.Proofs.YtodbhopeknlgiaaGreatDoor
namespace Go.Proofs.YtodbhopeknlgiaaGreatDoor
open Go.RowKit

def setL : List Value → Nat → List Value → List Value
  | cs, _, [] => cs
  | cs, o, v :: vs => setL (cs.set o v) (o + 1) vs
theorem setL_mid : ∀ (vs mid pre post : List Value), vs.length = mid.length → setL (pre ++ (mid ++ post)) pre.length vs = pre ++ (vs ++ post)
  | [], [], _, _, _ => rfl
  | [], _ :: _, _, _, h => by simp at h
  | _ :: _, [], _, _, h => by simp at h
  | v :: vs, m :: mid, pre, post, h => by
    have e : (pre ++ (m :: mid ++ post)).set pre.length v = (pre ++ [v]) ++ (mid ++ post) := by simp
    show setL ((pre ++ (m :: mid ++ post)).set pre.length v) (pre.length + 1) vs = _
    rw [e, show pre.length + 1 = (pre ++ [v]).length by simp, setL_mid vs mid (pre ++ [v]) post (by simpa using h)]
    simp
theorem heap_setCells {b : Nat} {t : TypeId} : ∀ (vs : List Value) (o : Nat) (w : World) (cs : List Value), w.heap[b]? = some (.cells cs.toArray t (0, 0)) → (w.setCells b o vs).heap[b]? = some (.cells (setL cs o vs).toArray t (0, 0))
  | [], _, _, _, h => h
  | v :: vs, o, w, cs, h => by
    have h1 := heap_setCell_same w b o cs.toArray t v h
    rw [List.setIfInBounds_toArray] at h1
    exact heap_setCells vs (o + 1) (w.setCell ⟨b, o, none⟩ v) (cs.set o v) h1
theorem but_setCells {B b : Nat} : ∀ (vs : List Value) (o : Nat) (w : World), But B b w (w.setCells b o vs)
  | [], _, _ => But.refl _ _ _
  | v :: vs, o, _ => ((But.refl _ b _).setCell ⟨b, o, none⟩ (.inl rfl) v).trans (but_setCells vs (o + 1) _)
/-- A block that holds a way. -/
def VarW (w : World) (g : Nat) (x : PWay) : Prop := w.heap[g]? = some (.cells x.cells.toArray 64 (0, 0))
theorem VarW.lt {w : World} {g : Nat} {x : PWay} (h : VarW w g x) : g < w.heap.size := lt_of_block h
theorem VarW.free {w : World} {g : Nat} {x : PWay} (h : VarW w g x) (i : Nat) : w.frozen? ⟨g, i, none⟩ = false := by
  unfold VarW at h
  simp [World.frozen?, h]
theorem VarW.cell {w : World} {g : Nat} {x : PWay} (h : VarW w g x) (i : Nat) : w.cell? ⟨g, i, none⟩ = x.cells[i]? := by
  rw [cell_of_row _ _ _ _ _ _ h]
  simp
theorem VarW.there {w : World} {g o n : Nat} {x : PWay} (h : VarW w g x) (hs : x.h.length = 32) (ho : o + n ≤ 35) : w.there g o n := fun j hj => by
  refine ⟨?_, h.free _⟩
  rw [h.cell, List.getElem?_eq_getElem (by rw [PWay.cells_len hs]; omega)]
  rfl
theorem VarW.range {w : World} {g : Nat} {x : PWay} (h : VarW w g x) : w.rangeAt g 0 x.cells := range_of h
theorem VarW.but {w w' : World} {g B p : Nat} {x : PWay} (h : VarW w g x) (hb : But B p w w') (hB : g < B) (hne : g ≠ p) : VarW w' g x := hb.heap h hB hne
theorem VarW.below {w w' : World} {g : Nat} {x : PWay} (h : VarW w g x) (hb : Below w.heap.size w w') : VarW w' g x := (hb.block g h.lt).trans h
theorem VarW.keys {w : World} {g n c : Nat} {a : Option Addr} {x : PWay} (h : VarW w g x) : VarW (w.setCell ⟨g, 0, none⟩ (.slice a n c)) g { x with a := a, n := n, c := c } := by
  have h1 := heap_setCells [.slice a n c] 0 w _ h
  have e : setL x.cells 0 [.slice a n c] = ({ x with a := a, n := n, c := c } : PWay).cells := setL_mid [.slice a n c] [.slice x.a x.n x.c] [] (cellsOf x.h ++ [.int .i64 x.after, .int .i64 x.wait]) rfl
  rw [e] at h1
  exact h1
theorem VarW.sum {w : World} {g : Nat} {x : PWay} {s : List UInt8} (h : VarW w g x) (hs : x.h.length = 32) (hs' : s.length = 32) : VarW (w.setCells g 1 (cellsOf s)) g { x with h := s } := by
  have h1 := heap_setCells (cellsOf s) 1 w _ h
  have e : setL x.cells 1 (cellsOf s) = ({ x with h := s } : PWay).cells := setL_mid (cellsOf s) (cellsOf x.h) [.slice x.a x.n x.c] [.int .i64 x.after, .int .i64 x.wait] (by rw [cellsOf_len, cellsOf_len, hs, hs'])
  rw [e] at h1
  exact h1
theorem VarW.setAfter {w : World} {g : Nat} {x : PWay} {z : Int} (h : VarW w g x) (hs : x.h.length = 32) : VarW (w.setCell ⟨g, 33, none⟩ (.int .i64 z)) g { x with after := z } := by
  have h1 := heap_setCells [.int .i64 z] 33 w _ h
  have hl : (Value.slice x.a x.n x.c :: cellsOf x.h).length = 33 := by simp [cellsOf_len, hs]
  have e : setL x.cells 33 [.int .i64 z] = ({ x with after := z } : PWay).cells := by
    have e2 := setL_mid [.int .i64 z] [.int .i64 x.after] (.slice x.a x.n x.c :: cellsOf x.h) [.int .i64 x.wait] rfl
    rw [hl] at e2
    simpa [PWay.cells] using e2
  rw [e] at h1
  exact h1
theorem VarW.setWait {w : World} {g : Nat} {x : PWay} {z : Int} (h : VarW w g x) (hs : x.h.length = 32) : VarW (w.setCell ⟨g, 34, none⟩ (.int .i64 z)) g { x with wait := z } := by
  have h1 := heap_setCells [.int .i64 z] 34 w _ h
  have hl : (Value.slice x.a x.n x.c :: (cellsOf x.h ++ [.int .i64 x.after])).length = 34 := by simp [cellsOf_len, hs]
  have e : setL x.cells 34 [.int .i64 z] = ({ x with wait := z } : PWay).cells := by
    have e2 := setL_mid [.int .i64 z] [.int .i64 x.wait] (.slice x.a x.n x.c :: (cellsOf x.h ++ [.int .i64 x.after])) [] rfl
    rw [hl] at e2
    simpa [PWay.cells] using e2
  rw [e] at h1
  exact h1
/-- An eye stays where another block, of no bytes, is written. -/
theorem EyeAt.grown {w w' : World} {yb : Nat} {l : List UInt8} {e : Int} {v : Value} {ks : List Int} {B : Nat} (h : EyeAt w yb l e) (ho : OwnZ w 3 B v ks) (hB : yb < B) (hg : w.grownBy w' v.ownBlock) : EyeAt w' yb l e := by
  rcases ho.1.2 with ⟨rfl, _⟩ | ⟨g, cap, cur, rfl, hb, hh, _⟩
  · exact h.below ⟨hg.os, hg.tape, hg.output, hg.size, fun k hk => hg.block k hk (fun e => by cases e)⟩
  · refine h.typed (p := g) ⟨hg.os, hg.tape, hg.output, hg.size, fun k hk hne => hg.block k hk (fun e => hne (by cases e; rfl))⟩ hh (by decide) (by omega)
theorem OwnZ.but {w w' : World} {e : TypeId} {B p : Nat} {v : Value} {l : List Int} (h : OwnZ w e B v l) (hb : But w.heap.size p w w') (hp : p < B) : OwnZ w' e B v l := by
  refine ⟨⟨h.1.1, ?_⟩, h.2⟩
  rcases h.1.2 with h0 | ⟨g, cap, cur, hv, hB, hh, r⟩
  · exact .inl h0
  · exact .inr ⟨g, cap, cur, hv, hB, hb.heap hh (lt_of_block hh) (by omega), r⟩
theorem OwnZ.other {w : World} {B b : Nat} {v : Value} {l : List Int} {cs : Array Value} {t : TypeId} {fr : Nat × Nat} (h : OwnZ w 3 B v l) (hb : w.heap[b]? = some (.cells cs t fr)) (ht : t ≠ 3) : v.ownBlock ≠ some b := by
  rcases h.1.2 with ⟨rfl, _⟩ | ⟨g, cap, cur, rfl, _, hh, _⟩
  · intro e; cases e
  · intro e
    simp [Value.ownBlock] at e
    subst e
    rw [hh] at hb
    simp at hb
    exact ht hb.2.1.symm
/-- How all stands while a way is read: g3 is the variable, g2 the result. -/
structure KeysSt (w0 : World) (yb g2 g3 : Nat) (x : PWay) (s : List UInt8 × Int) (w : World) : Prop where
  own : OwnZ w 3 w0.heap.size (.slice x.a x.n x.c) x.ks
  res : VarW w g2 noWay
  var : VarW w g3 x
  eye : EyeAt w yb s.1 s.2
  but : But w0.heap.size yb w0 w
theorem KeysSt.read {w0 w w' : World} {yb g2 g3 : Nat} {x : PWay} {s s' : List UInt8 × Int} (h : KeysSt w0 yb g2 g3 x s w) (hy : yb < w0.heap.size) (h2 : w0.heap.size ≤ g2) (h3 : w0.heap.size ≤ g3) (he : EyeAt w' yb s'.1 s'.2) (hb : But w.heap.size yb w w') : KeysSt w0 yb g2 g3 x s' w' :=
  ⟨h.own.but hb hy, h.res.but hb h.res.lt (by omega), h.var.but hb h.var.lt (by omega), he, h.but.trans (hb.mono h.but.size)⟩
theorem KeysSt.more {w0 w w' : World} {yb g2 g3 : Nat} {x : PWay} {s : List UInt8 × Int} (h : KeysSt w0 yb g2 g3 x s w) (hb : Below w.heap.size w w') : KeysSt w0 yb g2 g3 x s w' :=
  ⟨h.own.below hb, h.res.below hb, h.var.below hb, h.eye.below hb, h.but.trans (But.of (hb.mono h.but.size))⟩
/-- The variable is stored into. -/
theorem KeysSt.set {w0 w w' : World} {yb g2 g3 : Nat} {x x' : PWay} {s : List UInt8 × Int} (h : KeysSt w0 yb g2 g3 x s w) (hy : yb < w0.heap.size) (h3 : w0.heap.size ≤ g3) (hne : g2 ≠ g3) (hs : But w.heap.size g3 w w') (hv : VarW w' g3 x') (e1 : x'.a = x.a) (e2 : x'.n = x.n) (e3 : x'.c = x.c) (e4 : x'.ks = x.ks) : KeysSt w0 yb g2 g3 x' s w' := by
  refine ⟨?_, h.res.but hs h.res.lt hne, hv, h.eye.typed hs h.var (by decide) (by omega), h.but.trans ⟨hs.os, hs.tape, hs.output, hs.size, fun k hk hkp => hs.block k (Nat.lt_of_lt_of_le hk h.but.size) (by omega)⟩⟩
  rw [e1, e2, e3, e4]
  refine ⟨⟨h.own.1.1, ?_⟩, h.own.2⟩
  rcases h.own.1.2 with h0 | ⟨g, cap, cur, hv', hB, hh, r⟩
  · exact .inl h0
  · have hg : g ≠ g3 := fun e => by
      have h9 := h.var
      unfold VarW at h9
      rw [← e, hh] at h9
      simp at h9
    exact .inr ⟨g, cap, cur, hv', hB, hs.heap hh (lt_of_block hh) hg, r⟩
/-- A number more, and the variable's slice stored. -/
theorem KeysSt.grow {w0 w w' : World} {yb g2 g3 n' c' : Nat} {a' : Option Addr} {x : PWay} {ks' : List Int} {s : List UInt8 × Int} (h : KeysSt w0 yb g2 g3 x s w) (hy : yb < w0.heap.size) (h3 : w0.heap.size ≤ g3) (hne : g2 ≠ g3)
    (ho : OwnZ w' 3 w0.heap.size (.slice a' n' c') ks') (hg : w.grownBy w' (Value.slice x.a x.n x.c).ownBlock) : VarW w' g3 x ∧ KeysSt w0 yb g2 g3 { x with a := a', n := n', c := c', ks := ks' } s (w'.setCell ⟨g3, 0, none⟩ (.slice a' n' c')) := by
  have r1 : VarW w' g2 noWay := (hg.block g2 h.res.lt (h.own.other h.res (by decide)).symm).trans h.res
  have r2 : VarW w' g3 x := (hg.block g3 h.var.lt (h.own.other h.var (by decide)).symm).trans h.var
  have r3 : EyeAt w' yb s.1 s.2 := h.eye.grown h.own hy hg
  have r4 : But w0.heap.size yb w0 w' := h.but.trans (But.of (h.own.grows hg h.but.size))
  have hs : But w'.heap.size g3 w' (w'.setCell ⟨g3, 0, none⟩ (.slice a' n' c')) := (But.refl _ g3 _).setCell _ (.inl rfl) _
  refine ⟨r2, ?_, r1.but hs r1.lt hne, r2.keys, r3.typed hs r2 (by decide) (by omega), ?_⟩
  · exact ⟨ownsRow_setCell_other ho.1 (fun e => by have := ho.other r2 (by decide); exact this e) _, ho.2⟩
  · exact r4.trans ⟨hs.os, hs.tape, hs.output, hs.size, fun k hk hkp => hs.block k (Nat.lt_of_lt_of_le hk r4.size) (by omega)⟩
/-- A slice literal of one number, in a region. -/
theorem step_one_gen {ops : Array Oper} {o : Oper} {tmps : Array Value} {ds : List Deferred} {w : World} {K : Act → World → Prop} {Q : Exit → Act → World → Prop} {E : Prop} {d : Nat} {u : Operand} {y : Int} (hd : o.dst = some d) (hw : Region.wanted o (yielded ops tmps) = true) (ho : o.op = .buildSlice 62 1 #[(0, u)])
    (hu : Act.eval { tmps := tmps, defers := ds } u = .int .i64 y)
    (h : ∀ (p : Nat) (w' : World), w'.heap[p]? = some (.cells #[.int .i64 y] 3 (0, 0)) → Below w.heap.size w w' → K { tmps := tmps.setIfInBounds d (.slice (some ⟨p, 0, none⟩) 1 1), defers := ds } w') :
    if Region.wanted o (yielded ops tmps) = true then Oper.wp Tryz.prog o { tmps := tmps, defers := ds } w K Q else E := by
  rw [if_pos hw]
  obtain ⟨ie, h1, h2, h3, _⟩ := info_parts (show (Tryz.prog.info? 3).map (fun i => (i.zero, i.size, i.bytes)) = some (some (.int .i64 0), 1, 8) by kernel_rfl)
  have hrun : (Instr.buildSlice 62 1 #[(0, .int .i64 y)]).run Tryz.prog w = .ok (.slice (some ⟨w.heap.size, 0, none⟩) 1 1) (w.alloc (.cells #[.int .i64 y] 3)) :=
    run_buildSlice w 62 3 1 _ _ ie _ Tryz.underlying62 h1 h2 (by rw [h3]; omega) (by rw [h3]; omega) (by rw [h3]; simp [Instr.fill, Value.cells]; rw [show Array.range 1 = #[0] by rfl]; simp)
  unfold Oper.wp execOp
  simp only [ho, List.map_toArray, List.map_cons, List.map_nil, hu, Sem.run_bind, hrun, Sem.run_pure, Result.andThen_ok]
  show K (Act.put _ o.dst _) _
  rw [hd]
  exact h _ _ (heap_alloc_new _ _) ((Below.refl _ _).alloc (Nat.le_refl _) _)
/-- 'append' of numbers, in a region. -/
theorem step_append_z {ops : Array Oper} {o : Oper} {tmps : Array Value} {ds : List Deferred} {w : World} {K : Act → World → Prop} {Q : Exit → Act → World → Prop} {E : Prop} {d : Nat} (hd : o.dst = some d) (hw : Region.wanted o (yielded ops tmps) = true) (x y : Operand)
    (ho : o.op = .call { callee := .builtin .append, args := #[x, y], argTypes := #[62, 62] }) (hty : o.type = 62) (B : Nat) (v : Value) (l : List Int) (hx : (Act.eval { tmps := tmps, defers := ds } x) = v) (h : OwnZ w 3 B v l) (ad : Option Addr) (m c : Nat) (q : List Int) (hy : (Act.eval { tmps := tmps, defers := ds } y) = .slice ad m c) (hq : Numbers w ad m c q) (hb : l.length + m ≤ 1000000) (hbase : B ≤ w.heap.size)
    (hk : ∀ a' c' w', OwnZ w' 3 B (.slice a' (l.length + m) c') (l ++ q) → w.grownBy w' v.ownBlock → K { tmps := tmps.setIfInBounds d (.slice a' (l.length + m) c'), defers := ds } w') :
    if Region.wanted o (yielded ops tmps) = true then Oper.wp Tryz.prog o { tmps := tmps, defers := ds } w K Q else E := by
  rw [if_pos hw]
  obtain ⟨ie, i1, i2, i3, i4⟩ := info_parts (show (Tryz.prog.info? 3).map (fun i => (i.zero, i.size, i.bytes)) = some (some (.int .i64 0), 1, 8) by kernel_rfl)
  obtain ⟨a', c', w', h1, h2, h3⟩ := append_numbers (P := Tryz.prog) w B 62 62 3 ie Tryz.underlying62 i1 i2 i3 i4 v l h ad m c q hq hb hbase
  unfold Oper.wp execOp
  simp only [ho, hty, resolve, invoke, builtin, Sem.run_bind, Sem.run_pure, Result.andThen_ok, List.map_toArray, List.map_cons, List.map_nil, hx, hy, h1]
  show K (Act.put _ o.dst _) _
  rw [hd]
  exact hk a' c' w' h2 h3
end Go.Proofs.YtodbhopeknlgiaaGreatDoor
namespace Go.Proofs.YtodbhopeknlgiaaGreatDoor
open Go.RowKit

/-- New: no older block holds it. -/
def NewB (B : Nat) (a : Option Addr) : Prop := ∀ ad, a = some ad → B ≤ ad.block
/-- Where a way's keys lie: in a block of numbers. -/
def KeyTag (w : World) (x : PWay) : Prop := 0 < x.n → ∃ b off cs fr, x.a = some ⟨b, off, none⟩ ∧ w.heap[b]? = some (.cells cs 3 fr)
/-- A way that was read. -/
def GotWay (w0 : World) (yb : Nat) (s : List UInt8 × Int) (r : Ending) (w : World) : Prop :=
  ∃ x : PWay, r = .returned (.agg x.cells.toArray) ∧ WayIn w x ∧ KeyTag w x ∧ NewB w0.heap.size x.a ∧ x.strip = (wayR s).1 ∧ EyeAt w yb (wayR s).2.1 (wayR s).2.2 ∧ But w0.heap.size yb w0 w
theorem OwnZ.tag {w : World} {B n c : Nat} {a : Option Addr} {l : List Int} (h : OwnZ w 3 B (.slice a n c) l) : (0 < n → ∃ b off cs fr, a = some ⟨b, off, none⟩ ∧ w.heap[b]? = some (.cells cs 3 fr)) ∧ ∀ ad, a = some ad → B ≤ ad.block := by
  rcases h.1.2 with ⟨hv, h1⟩ | ⟨g, cap, cur, hv, hB, hh, r⟩
  · cases hv
    exact ⟨fun h0 => absurd h0 (by omega), fun ad e => by cases e⟩
  · cases hv
    exact ⟨fun _ => ⟨g, 0, _, _, rfl, hh⟩, fun ad e => by cases e; exact hB⟩
theorem KeysSt.way {w0 w w' : World} {yb g2 g3 : Nat} {x : PWay} {s : List UInt8 × Int} (h : KeysSt w0 yb g2 g3 x s w) (hy : yb < w0.heap.size) (h2 : w0.heap.size ≤ g2) (hs : But w.heap.size g2 w w') (hl : x.h.length = 32) (ha : Fits x.after) (hw : Fits x.wait) :
    WayIn w' x ∧ KeyTag w' x ∧ NewB w0.heap.size x.a ∧ EyeAt w' yb s.1 s.2 ∧ But w0.heap.size yb w0 w' := by
  have ho : OwnZ w' 3 w0.heap.size (.slice x.a x.n x.c) x.ks := by
    refine ⟨⟨h.own.1.1, ?_⟩, h.own.2⟩
    rcases h.own.1.2 with h0 | ⟨g, cap, cur, hv', hB, hh, r⟩
    · exact .inl h0
    · have hg : g ≠ g2 := fun e => by
        have h9 := h.res
        unfold VarW at h9
        rw [← e, hh] at h9
        simp at h9
      exact .inr ⟨g, cap, cur, hv', hB, hs.heap hh (lt_of_block hh) hg, r⟩
  refine ⟨⟨ho.numbers, hl, ha, hw⟩, fun h0 => ?_, fun ad e => ?_, h.eye.typed hs h.res (by decide) (by omega), h.but.trans ⟨hs.os, hs.tape, hs.output, hs.size, fun k hk hkp => hs.block k (Nat.lt_of_lt_of_le hk h.but.size) (by omega)⟩⟩
  · exact ho.tag.1 h0
  · exact ho.tag.2 ad e
set_option linter.unusedSimpArgs false in
set_option maxRecDepth 100000 in
set_option maxHeartbeats 12800000 in
theorem getWay_st {w : World} {yb : Nat} {s : List UInt8 × Int} (h : EyeAt w yb s.1 s.2) (hm : s.1.length ≤ 140737488355328) :
    Calls Tryz.prog 69 #[.pointer (some ⟨yb, 0, none⟩)] w (GotWay w yb s) := by
  have hyb := h.lt
  obtain ⟨s1, s2, s3, s4, s5, n, z4, z5, ks0, hs, e1, e2, e3, e4, e5, eR⟩ := wayR_parts s
  have r1 := upR_range s (m := 16) (by omega)
  have r4 := upR_range s3 (m := 1073741824) (by omega)
  have r5 := upR_range s4 (m := 1073741824) (by omega)
  rw [e1] at r1
  rw [e4] at r4
  rw [e5] at r5
  dsimp only at r1 r4 r5
  obtain ⟨N, rfl⟩ : ∃ N : Nat, n = N := ⟨n.toNat, by omega⟩
  rw [Int.toNat_natCast] at e2
  have hlen := sumR_len s2
  have l2 : s2.1.length ≤ 140737488355328 := by
    have h1 := upR_le s 16
    have h2 := numsR_le 255 s1 N
    rw [e1] at h1
    rw [e2] at h2
    exact Nat.le_trans h2 (Nat.le_trans h1 hm)
  rw [e3] at hlen
  have HU1 := Lib.hid (fun (W : World) (hW : EyeAt W yb s.1 s.2) => by have h9 := upto_st 16 hW; rw [e1] at h9; exact h9)
  have HU4 := Lib.hid (fun (W : World) (hW : EyeAt W yb s3.1 s3.2) => by have h9 := upto_st 1073741824 hW; rw [e4] at h9; exact h9)
  have HU5 := Lib.hid (fun (W : World) (hW : EyeAt W yb s4.1 s4.2) => by have h9 := upto_st 1073741824 hW; rw [e5] at h9; exact h9)
  have HS2 := Lib.hid (fun (W : World) (hW : EyeAt W yb s2.1 s2.2) => by have h9 := sum_st W hW l2; rw [e3] at h9; exact h9)
  have HE2 := Lib.hid e2
  have HER := Lib.hid eR
  have H := Lib.hid h
  have HLEN := Lib.hid hlen
  have hN : N ≤ 16 := by omega
  have hN63 : (N : Int) ≤ 16 := by omega
  have F4 : Hid (Fits z4) := Lib.hid ⟨by omega, by omega⟩
  have F5 : Hid (Fits z5) := Lib.hid ⟨by omega, by omega⟩
  clear e1 e2 e3 e4 e5 eR h hm l2 hlen r1 r4 r5
  go_enter Tryz.func69, Tryz.ntmps69
  go_upto_region 2 with (fail)
  rw [← noWay_is]
  have b1 : Below w.heap.size w ((w.alloc (.cells noWay.cells.toArray 64)).alloc (.cells noWay.cells.toArray 64)) := ((Below.refl _ _).alloc (Nat.le_refl _) _).alloc (by simp) _
  have h2 : VarW ((w.alloc (.cells noWay.cells.toArray 64)).alloc (.cells noWay.cells.toArray 64)) w.heap.size noWay := by
    unfold VarW
    rw [heap_alloc_old _ _ (by simp)]
    exact heap_alloc_new _ _
  have h3 : VarW ((w.alloc (.cells noWay.cells.toArray 64)).alloc (.cells noWay.cells.toArray 64)) (w.heap.size + 1) noWay := heap_alloc_at _ _ _ (by simp)
  revert b1 h2 h3
  generalize ((w.alloc (.cells noWay.cells.toArray 64)).alloc (.cells noWay.cells.toArray 64)) = w1
  intro b1 h2 h3
  have KS := Lib.hid (show KeysSt w yb w.heap.size (w.heap.size + 1) noWay s w1 from ⟨OwnZ.nil _ _ _, h2, h3, H.out.below b1, But.of b1⟩)
  revert KS
  obtain ⟨g, hg⟩ : ∃ g, g = w.heap.size := ⟨_, rfl⟩
  rw [← hg]
  intro KS
  have hg2 : w.heap.size ≤ g := by omega
  have hg3 : w.heap.size ≤ g + 1 := by omega
  have hne : g ≠ g + 1 := by omega
  clear b1 h2 h3 H hg
  go_wp2_with fail
  refine (HU1.out _ KS.out.eye).mono ?_
  rintro e w2 ⟨rfl, he, hb⟩
  have KS := Lib.hid (KS.out.read (s' := s1) hyb hg2 hg3 he hb)
  clear he hb HU1
  go_wp2_with fail
  go_loopw [6] (fun i wr => ∃ (k : Nat) (a : Option Addr) (cc : Nat) (ks : List Int) (st : List UInt8 × Int), k ≤ N ∧ i = .int .i64 k ∧ numsR 255 k s1 = (ks, st) ∧ KeysSt w yb g (g + 1) ⟨a, k, cc, ks, zero32, 0, 0⟩ st wr) (fun i _ => N - (intOf i).toNat)
  case atStart => exact ⟨0, none, 0, [], s1, Nat.zero_le _, rfl, rfl, KS.out⟩
  case round =>
    obtain ⟨k, a, cc, ks, st, hk, rfl, hks, hKS⟩ := hrel
    have KS := Lib.hid hKS
    have HKS := Lib.hid hks
    clear hks hKS
    by_cases hkn : k < N
    · have f1 : (k : Int) < (N : Int) := by omega
      have f0 : (0 : Int) ≤ (k : Int) := by omega
      have hkl : ks.length = k := by
        have h9 := numsR_len 255 s1 k
        rw [HKS.out] at h9
        exact h9
      have HKL := Lib.hid hkl
      obtain ⟨z, st', hu⟩ : ∃ z st', upR st 255 = (z, st') := ⟨_, _, rfl⟩
      have hrz := upR_range st (m := 255) (by omega)
      rw [hu] at hrz
      dsimp only at hrz
      have HFZ : Hid (Fits z) := Lib.hid ⟨by omega, by omega⟩
      have NX : Hid (numsR 255 (k + 1) s1 = (ks ++ [z], st')) := Lib.hid (by rw [numsR, HKS.out, hu])
      have HU := Lib.hid (fun (W : World) (hW : EyeAt W yb st.1 st.2) => by have h9 := upto_st 255 hW; rw [hu] at h9; exact h9)
      clear hkl hrz hu HKS
      go_upto_region 4 with (fail)
      refine wp_region_held_drew (S := fun _ => True) (by kernel_rfl) (True.intro) (fun hHeld => ?_)
      refine take_at (i := 0) (v := ?_) rfl rfl (by kernel_rfl) (by kernel_rfl) (by kernel_rfl) (fun _ _ _ h => h) (Or.inl ⟨by rfl, ?_⟩) (by assumption) ?_
      rotate_left
      · intro w0 hSw; (try dsimp only at hSw); first | (go_simp; done) | (go_simp; with_reducible rfl)
      simp only [List.setIfInBounds_toArray, List.set_cons_zero, List.set_cons_succ]
      refine take_at (i := 2) (v := ?_) rfl rfl (by kernel_rfl) (by kernel_rfl) (by kernel_rfl) (fun _ _ _ h => h) (Or.inl ⟨by rfl, ?_⟩) (by assumption) ?_
      rotate_left
      · intro w0 hSw; (try dsimp only at hSw); first | (go_simp; done) | (go_simp; with_reducible rfl)
      simp only [List.setIfInBounds_toArray, List.set_cons_zero, List.set_cons_succ]
      have KS := Lib.hid (KS.out.more (w' := wr.drew) (below_drew (Below.refl _ _)))
      refine wpAnyH_ready (rs := [1, 3]) (by kernel_rfl) (by simp) ?_
      refine AllReadyH.cons rfl (fun K hK => ?_) ?_
      · refine step_cell (d := 9) rfl (by rfl) 62 _ rfl (g + 1) 0 rfl (.slice a k cc) (by rw [KS.out.var.cell 0]; rfl) (Tryz.isAgg62 _) ?_
        refine hK.out _ _ (by (try dsimp only); all_goals exact True.intro) (fun hHeld => ?_)
        clear hK K
        refine wpAnyH_ready (rs := [3]) (by kernel_rfl) (by simp) ?_
        refine AllReadyH.cons rfl (fun K hK => ?_) ?_
        · go_simp
          go_wp2_with ((go_at_call 38; (with_reducible refine (HU.out _ KS.out.eye).mono ?_); rintro e y3a ⟨rfl, he, hb⟩; have KS := Lib.hid (KS.out.read (s' := st') hyb hg2 hg3 he hb); clear he hb))
          refine hK.out _ _ (by (try dsimp only); all_goals exact True.intro) (fun hHeld => ?_)
          clear hK K
          refine wpAnyH_ready (rs := [4]) (by kernel_rfl) (by simp) ?_
          refine AllReadyH.cons rfl (fun K hK => ?_) ?_
          · refine step_one_gen (d := 12) (y := z) rfl (by rfl) rfl (by rfl) ?_
            intro p y4a hlit hbl
            have KS := Lib.hid (KS.out.more hbl)
            have LIT := Lib.hid (numbers_one hlit HFZ.out)
            clear hlit hbl
            refine hK.out _ _ (by (try dsimp only); all_goals exact True.intro) (fun hHeld => ?_)
            clear hK K
            refine wpAnyH_ready (rs := [5]) (by kernel_rfl) (by simp) ?_
            refine AllReadyH.cons rfl (fun K hK => ?_) ?_
            · refine step_append_z (d := 13) rfl (by rfl) _ _ rfl rfl w.heap.size (.slice a k cc) ks (by rfl) KS.out.own _ 1 1 [z] (by rfl) LIT.out (by rw [HKL.out]; omega) KS.out.but.size ?_
              intro a' c' y5 ho hgr
              rw [HKL.out] at ho ⊢
              obtain ⟨hv, hks⟩ := KS.out.grow hyb hg3 hne ho hgr
              have HV := Lib.hid hv
              have KS := Lib.hid hks
              clear hv hks ho hgr
              refine hK.out _ _ (by (try dsimp only); all_goals exact True.intro) (fun hHeld => ?_)
              clear hK K
              refine take_at (i := 6) (v := ?_) rfl rfl (by kernel_rfl) (by kernel_rfl) (by kernel_rfl) (fun _ _ _ h => h) (Or.inl ⟨by rfl, ?_⟩) (by assumption) ?_
              rotate_left
              · intro w0 hSw; (try dsimp only at hSw); first | (go_simp; done) | (go_simp; with_reducible rfl)
              simp only [List.setIfInBounds_toArray, List.set_cons_zero, List.set_cons_succ]
              refine wpAnyH_ready (rs := [7]) (by kernel_rfl) (by simp) ?_
              refine AllReadyH.cons rfl (fun K hK => ?_) ?_
              · refine step_store_cell (by rfl) 62 _ _ rfl (g + 1) 0 (by rfl) (.slice a' (k + 1) c') (by rfl) (.slice a k cc) (by rw [HV.out.cell 0]; rfl) (HV.out.free 0) (by kernel_rfl) rfl ?_
                refine hK.out _ _ (by (try dsimp only); all_goals exact True.intro) (fun hHeld => ?_)
                clear hK K
                refine wpAnyH_done (by kernel_rfl) ?_ _
                clear hHeld HV
                revert KS
                generalize World.setCell y5 _ _ = y7
                intro KS
                go_wp2_with fail
                go_roundw
                case rel => exact ⟨k + 1, a', c', ks ++ [z], st', by omega, by go_num, NX.out, KS.out⟩
                case measure => simp [intOf]; omega
              exact AllReadyH.nil
            exact AllReadyH.nil
          exact AllReadyH.nil
        exact AllReadyH.nil
      refine AllReadyH.cons rfl (fun K hK => ?_) ?_
      · go_simp
        go_wp2_with ((go_at_call 38; (with_reducible refine (HU.out _ KS.out.eye).mono ?_); rintro e y3b ⟨rfl, he, hb⟩; have KS := Lib.hid (KS.out.read (s' := st') hyb hg2 hg3 he hb); clear he hb))
        refine hK.out _ _ (by (try dsimp only); all_goals exact True.intro) (fun hHeld => ?_)
        clear hK K
        refine wpAnyH_ready (rs := [1, 4]) (by kernel_rfl) (by simp) ?_
        refine AllReadyH.cons rfl (fun K hK => ?_) ?_
        · refine step_cell (d := 9) rfl (by rfl) 62 _ rfl (g + 1) 0 rfl (.slice a k cc) (by rw [KS.out.var.cell 0]; rfl) (Tryz.isAgg62 _) ?_
          refine hK.out _ _ (by (try dsimp only); all_goals exact True.intro) (fun hHeld => ?_)
          clear hK K
          refine wpAnyH_ready (rs := [4]) (by kernel_rfl) (by simp) ?_
          refine AllReadyH.cons rfl (fun K hK => ?_) ?_
          · refine step_one_gen (d := 12) (y := z) rfl (by rfl) rfl (by rfl) ?_
            intro p y4a hlit hbl
            have KS := Lib.hid (KS.out.more hbl)
            have LIT := Lib.hid (numbers_one hlit HFZ.out)
            clear hlit hbl
            refine hK.out _ _ (by (try dsimp only); all_goals exact True.intro) (fun hHeld => ?_)
            clear hK K
            refine wpAnyH_ready (rs := [5]) (by kernel_rfl) (by simp) ?_
            refine AllReadyH.cons rfl (fun K hK => ?_) ?_
            · refine step_append_z (d := 13) rfl (by rfl) _ _ rfl rfl w.heap.size (.slice a k cc) ks (by rfl) KS.out.own _ 1 1 [z] (by rfl) LIT.out (by rw [HKL.out]; omega) KS.out.but.size ?_
              intro a' c' y5 ho hgr
              rw [HKL.out] at ho ⊢
              obtain ⟨hv, hks⟩ := KS.out.grow hyb hg3 hne ho hgr
              have HV := Lib.hid hv
              have KS := Lib.hid hks
              clear hv hks ho hgr
              refine hK.out _ _ (by (try dsimp only); all_goals exact True.intro) (fun hHeld => ?_)
              clear hK K
              refine take_at (i := 6) (v := ?_) rfl rfl (by kernel_rfl) (by kernel_rfl) (by kernel_rfl) (fun _ _ _ h => h) (Or.inl ⟨by rfl, ?_⟩) (by assumption) ?_
              rotate_left
              · intro w0 hSw; (try dsimp only at hSw); first | (go_simp; done) | (go_simp; with_reducible rfl)
              simp only [List.setIfInBounds_toArray, List.set_cons_zero, List.set_cons_succ]
              refine wpAnyH_ready (rs := [7]) (by kernel_rfl) (by simp) ?_
              refine AllReadyH.cons rfl (fun K hK => ?_) ?_
              · refine step_store_cell (by rfl) 62 _ _ rfl (g + 1) 0 (by rfl) (.slice a' (k + 1) c') (by rfl) (.slice a k cc) (by rw [HV.out.cell 0]; rfl) (HV.out.free 0) (by kernel_rfl) rfl ?_
                refine hK.out _ _ (by (try dsimp only); all_goals exact True.intro) (fun hHeld => ?_)
                clear hK K
                refine wpAnyH_done (by kernel_rfl) ?_ _
                clear hHeld HV
                revert KS
                generalize World.setCell y5 _ _ = y7
                intro KS
                go_wp2_with fail
                go_roundw
                case rel => exact ⟨k + 1, a', c', ks ++ [z], st', by omega, by go_num, NX.out, KS.out⟩
                case measure => simp [intOf]; omega
              exact AllReadyH.nil
            exact AllReadyH.nil
          exact AllReadyH.nil
        refine AllReadyH.cons rfl (fun K hK => ?_) ?_
        · refine step_one_gen (d := 12) (y := z) rfl (by rfl) rfl (by rfl) ?_
          intro p y4b hlit hbl
          have KS := Lib.hid (KS.out.more hbl)
          have LIT := Lib.hid (numbers_one hlit HFZ.out)
          clear hlit hbl
          refine hK.out _ _ (by (try dsimp only); all_goals exact True.intro) (fun hHeld => ?_)
          clear hK K
          refine wpAnyH_ready (rs := [1]) (by kernel_rfl) (by simp) ?_
          refine AllReadyH.cons rfl (fun K hK => ?_) ?_
          · refine step_cell (d := 9) rfl (by rfl) 62 _ rfl (g + 1) 0 rfl (.slice a k cc) (by rw [KS.out.var.cell 0]; rfl) (Tryz.isAgg62 _) ?_
            refine hK.out _ _ (by (try dsimp only); all_goals exact True.intro) (fun hHeld => ?_)
            clear hK K
            refine wpAnyH_ready (rs := [5]) (by kernel_rfl) (by simp) ?_
            refine AllReadyH.cons rfl (fun K hK => ?_) ?_
            · refine step_append_z (d := 13) rfl (by rfl) _ _ rfl rfl w.heap.size (.slice a k cc) ks (by rfl) KS.out.own _ 1 1 [z] (by rfl) LIT.out (by rw [HKL.out]; omega) KS.out.but.size ?_
              intro a' c' y5 ho hgr
              rw [HKL.out] at ho ⊢
              obtain ⟨hv, hks⟩ := KS.out.grow hyb hg3 hne ho hgr
              have HV := Lib.hid hv
              have KS := Lib.hid hks
              clear hv hks ho hgr
              refine hK.out _ _ (by (try dsimp only); all_goals exact True.intro) (fun hHeld => ?_)
              clear hK K
              refine take_at (i := 6) (v := ?_) rfl rfl (by kernel_rfl) (by kernel_rfl) (by kernel_rfl) (fun _ _ _ h => h) (Or.inl ⟨by rfl, ?_⟩) (by assumption) ?_
              rotate_left
              · intro w0 hSw; (try dsimp only at hSw); first | (go_simp; done) | (go_simp; with_reducible rfl)
              simp only [List.setIfInBounds_toArray, List.set_cons_zero, List.set_cons_succ]
              refine wpAnyH_ready (rs := [7]) (by kernel_rfl) (by simp) ?_
              refine AllReadyH.cons rfl (fun K hK => ?_) ?_
              · refine step_store_cell (by rfl) 62 _ _ rfl (g + 1) 0 (by rfl) (.slice a' (k + 1) c') (by rfl) (.slice a k cc) (by rw [HV.out.cell 0]; rfl) (HV.out.free 0) (by kernel_rfl) rfl ?_
                refine hK.out _ _ (by (try dsimp only); all_goals exact True.intro) (fun hHeld => ?_)
                clear hK K
                refine wpAnyH_done (by kernel_rfl) ?_ _
                clear hHeld HV
                revert KS
                generalize World.setCell y5 _ _ = y7
                intro KS
                go_wp2_with fail
                go_roundw
                case rel => exact ⟨k + 1, a', c', ks ++ [z], st', by omega, by go_num, NX.out, KS.out⟩
                case measure => simp [intOf]; omega
              exact AllReadyH.nil
            exact AllReadyH.nil
          exact AllReadyH.nil
        exact AllReadyH.nil
      exact AllReadyH.nil
    · obtain rfl : k = N := by omega
      have f1 : ¬ ((k : Int) < (k : Int)) := by omega
      obtain ⟨rfl, rfl⟩ : ks = ks0 ∧ st = s2 := by
        have h9 := HKS.out.symm.trans HE2.out
        cases h9
        exact ⟨rfl, rfl⟩
      have SZ := Lib.hid (size_of HLEN.out)
      go_wp2_with fail
      refine (HS2.out _ KS.out.eye).mono ?_
      rintro e y6 ⟨rfl, he, hb⟩
      have KS := Lib.hid (KS.out.read (s' := s3) hyb hg2 hg3 he hb)
      have TH : Hid (y6.there (g + 1) 1 (cellsOf hs).toArray.size) := Lib.hid (KS.out.var.there zero32_len (by rw [List.size_toArray, cellsOf_len, HLEN.out]; omega))
      clear he hb HS2
      go_upto_region 7 with (refine wpList_store_mid rfl 25 _ _ rfl (g + 1) 1 (cellsOf hs).toArray rfl rfl TH.out SZ.out (all_oneCell_toArray (cellsOf_one hs)) ?_)
      have KS := Lib.hid (KS.out.set hyb hg3 hne (but_setCells (cellsOf hs) 1 y6) (KS.out.var.sum zero32_len HLEN.out) rfl rfl rfl rfl)
      try simp only [List.toList_toArray]
      revert KS
      generalize World.setCells y6 _ _ _ = y7
      intro KS
      clear TH
      try simp only [Act.put]
      go_wp2_with fail
      refine (HU4.out _ KS.out.eye).mono ?_
      rintro e y8 ⟨rfl, he, hb⟩
      have KS := Lib.hid (KS.out.read (s' := s4) hyb hg2 hg3 he hb)
      have c33 : y8.cell? ⟨g + 1, 33, none⟩ = some (.int .i64 0) := by have h9 := way_after HLEN.out KS.out.var.range; rw [Nat.zero_add] at h9; exact h9
      have v33 := KS.out.var.free 33
      clear he hb HU4
      go_upto_region 8 with (fail)
      have KS := Lib.hid (KS.out.set hyb hg3 hne ((But.refl _ (g + 1) _).setCell ⟨g + 1, 33, none⟩ (.inl rfl) (.int .i64 z4)) (KS.out.var.setAfter HLEN.out) rfl rfl rfl rfl)
      clear c33 v33
      revert KS
      generalize World.setCell y8 _ _ = y9
      intro KS
      go_wp2_with fail
      refine (HU5.out _ KS.out.eye).mono ?_
      rintro e y10 ⟨rfl, he, hb⟩
      have KS := Lib.hid (KS.out.read (s' := s5) hyb hg2 hg3 he hb)
      have c34 : y10.cell? ⟨g + 1, 34, none⟩ = some (.int .i64 0) := by have h9 := way_wait HLEN.out KS.out.var.range; rw [Nat.zero_add] at h9; exact h9
      have v34 := KS.out.var.free 34
      clear he hb HU5
      go_upto_region 9 with (fail)
      have KS := Lib.hid (KS.out.set hyb hg3 hne ((But.refl _ (g + 1) _).setCell ⟨g + 1, 34, none⟩ (.inl rfl) (.int .i64 z5)) (KS.out.var.setWait HLEN.out) rfl rfl rfl rfl)
      clear c34 v34
      revert KS
      generalize World.setCell y10 _ _ = y11
      obtain ⟨x, hx⟩ : ∃ x : PWay, x = ⟨a, k, cc, ks, hs, z4, z5⟩ := ⟨_, rfl⟩
      dsimp only
      rw [← hx]
      intro KS
      have hxl : x.h.length = 32 := by rw [hx]; exact HLEN.out
      have hxa : Fits x.after := by rw [hx]; exact F4.out
      have hxw : Fits x.wait := by rw [hx]; exact F5.out
      have hst : x.strip = (wayR s).1 := by rw [HER.out, hx]; rfl
      have HEY : Hid ((wayR s).2 = s5) := Lib.hid (by rw [HER.out])
      have RX := Lib.hid KS.out.var.range
      have SX := Lib.hid (way_size hxl)
      have AX := Lib.hid (way_sizeA hxl)
      have ZX := Lib.hid (way_zero hxl)
      have HXL := Lib.hid hxl
      have HXA := Lib.hid hxa
      have HXW := Lib.hid hxw
      have HST := Lib.hid hst
      clear hx hxl hxa hxw hst HER HE2 HKS
      go_wp2_with (first | (refine wpList_load_mid rfl 64 _ rfl (g + 1) 0 rfl x.cells _ RX.out Tryz.underlying64 rfl SX.out ?_) | (refine wpList_store_row rfl 64 _ _ rfl g x.cells.toArray rfl rfl 64 noWay.cells.toArray KS.out.res AX.out ZX.out (all_oneCell_toArray x.cells_one) ?_) | fail)
      have hfin := KS.out.way hyb hg2 (but_setRow y11 g x.cells.toArray) HXL.out HXA.out HXW.out
      refine bodyPost_ret (results_cell_row rfl _ _ g 64 x.cells.toArray (0, 0) _ rfl (setRow_heap y11 g _ _ 64 _ KS.out.res) Tryz.underlying64 rfl AX.out) rfl ?_
      obtain ⟨q1, q2, q3, q4, q5⟩ := hfin
      exact ⟨x, rfl, q1, q2, q3, HST.out, by rw [HEY.out]; exact q4, q5⟩
end Go.Proofs.YtodbhopeknlgiaaGreatDoor
namespace Go.Proofs.YtodbhopeknlgiaaGreatDoor
open Go.RowKit

def cellsW (xs : List PWay) : List Value := xs.flatMap PWay.cells
theorem cellsW_append (l m : List PWay) : cellsW (l ++ m) = cellsW l ++ cellsW m := by simp [cellsW]
theorem cellsW_single (x : PWay) : cellsW [x] = x.cells := by simp [cellsW]
theorem cellsW_len : ∀ {xs : List PWay}, (∀ x ∈ xs, x.h.length = 32) → (cellsW xs).length = xs.length * 35
  | [], _ => rfl
  | x :: xs, h => by
    have ih := cellsW_len (xs := xs) (fun y hy => h y (by simp [hy]))
    have hs := PWay.cells_len (h x (by simp))
    show (x.cells ++ cellsW xs).length = _
    rw [List.length_append, ih, hs, List.length_cons, Nat.add_mul]
    omega
theorem cellsW_get : ∀ {xs : List PWay}, (∀ x ∈ xs, x.h.length = 32) → ∀ {j i : Nat}, j < xs.length → i < 35 → (cellsW xs)[j * 35 + i]? = (xs.getD j noWay).cells[i]?
  | [], _, _, _, hj, _ => by simp at hj
  | x :: xs, h, 0, i, _, hi => by
    have hs := PWay.cells_len (h x (by simp))
    show (x.cells ++ cellsW xs)[0 * 35 + i]? = x.cells[i]?
    rw [Nat.zero_mul, Nat.zero_add, List.getElem?_append_left (by rw [hs]; exact hi)]
  | x :: xs, h, j + 1, i, hj, hi => by
    have ih := cellsW_get (xs := xs) (fun y hy => h y (by simp [hy])) (j := j) (i := i) (by simpa using hj) hi
    have hs := PWay.cells_len (h x (by simp))
    show (x.cells ++ cellsW xs)[(j + 1) * 35 + i]? = (xs.getD j noWay).cells[i]?
    rw [List.getElem?_append_right (by rw [hs]; omega), hs, ← ih]
    congr 1
    omega
theorem cellsW_one {xs : List PWay} : ∀ v ∈ cellsW xs, v.oneCell' = true := by
  intro v hv
  obtain ⟨x, _, hx⟩ := List.mem_flatMap.1 hv
  exact x.cells_one v hx
/-- A slice of ways of the call's own. -/
def OwnW (w : World) (B : Nat) (v : Value) (xs : List PWay) : Prop := w.ownsRow B 64 35 v xs.length (cellsW xs) ∧ ∀ x ∈ xs, x.h.length = 32
theorem OwnW.shape {w : World} {B : Nat} {v : Value} {xs : List PWay} (h : OwnW w B v xs) : ∃ a c, v = .slice a xs.length c ∧ (∀ x, a = some x → B ≤ x.block) := by
  rcases h.1.2 with ⟨rfl, h0⟩ | ⟨g, cap, cur, rfl, hB, _⟩
  · exact ⟨none, 0, by rw [h0], fun x e => by cases e⟩
  · exact ⟨_, _, rfl, fun x e => by cases e; exact hB⟩
theorem OwnW.ways {w : World} {B : Nat} {a : Option Addr} {n c : Nat} {xs : List PWay} (h : OwnW w B (.slice a n c) xs) (hx : ∀ x ∈ xs, WayIn w x) : Ways w a n c xs := by
  rcases h.1.2 with ⟨hv, h0⟩ | ⟨g, cap, cur, hv, hB, hh, h1, h2, h3, h4⟩
  · cases hv
    obtain rfl : xs = [] := List.eq_nil_of_length_eq_zero h0
    exact Ways.nil w
  · cases hv
    refine ⟨rfl, h1, h2, (fun e => by cases e), hx, fun _ => ⟨g, 0, rfl, lt_of_block hh, fun j hj i v hv => ?_⟩⟩
    have hi : i < 35 := by
      have h5 := (List.getElem?_eq_some_iff.1 hv).1
      have h6 : (xs.getD j noWay).h.length = 32 := by
        rw [List.getD_eq_getElem?_getD, List.getElem?_eq_getElem hj]
        exact h.2 _ (List.getElem_mem hj)
      rw [PWay.cells_len h6] at h5
      exact h5
    rw [Nat.zero_add, cell_of_row w g _ _ _ _ hh, ← hv, ← cellsW_get h.2 hj hi, ← h4, List.getElem?_take, if_pos (by omega)]
    simp
theorem OwnW.lt {w : World} {B : Nat} {v : Value} {xs : List PWay} (h : OwnW w B v xs) : ∀ k, v.ownBlock = some k → B ≤ k ∧ k < w.heap.size := fun k e => World.ownsRow.lt h.1 k e
theorem OwnW.nil (w : World) (B : Nat) : OwnW w B (.slice none 0 0) [] := ⟨World.ownsRow_nil w B _ _, fun _ h => by cases h⟩
theorem OwnW.but {w w' : World} {B p : Nat} {v : Value} {xs : List PWay} (h : OwnW w B v xs) (hb : But w.heap.size p w w') (hp : ∀ cs fr, w.heap[p]? ≠ some (.cells cs 64 fr)) : OwnW w' B v xs := by
  refine ⟨⟨h.1.1, ?_⟩, h.2⟩
  rcases h.1.2 with h0 | ⟨g, cap, cur, hv, hB, hh, r⟩
  · exact .inl h0
  · have hg : g ≠ p := fun e => by subst e; exact hp _ _ hh
    exact .inr ⟨g, cap, cur, hv, hB, hb.heap hh (lt_of_block hh) hg, r⟩
theorem OwnW.below {w w' : World} {B : Nat} {v : Value} {xs : List PWay} (h : OwnW w B v xs) (hb : Below w.heap.size w w') : OwnW w' B v xs :=
  ⟨World.ownsRow.kept h.1 (row := none) ⟨hb.os, hb.tape, hb.output, hb.size, fun k hk _ => hb.block k hk⟩ (by cases h' : v.ownBlock <;> simp), h.2⟩
theorem OwnW.other {w : World} {B b : Nat} {v : Value} {xs : List PWay} {cs : Array Value} {t : TypeId} {fr : Nat × Nat} (h : OwnW w B v xs) (hb : w.heap[b]? = some (.cells cs t fr)) (ht : t ≠ 64) : v.ownBlock ≠ some b := by
  rcases h.1.2 with ⟨rfl, _⟩ | ⟨g, cap, cur, rfl, _, hh, _⟩
  · intro e; cases e
  · intro e
    simp [Value.ownBlock] at e
    subst e
    rw [hh] at hb
    simp at hb
    exact ht hb.2.1.symm
theorem OwnW.grows {w w' : World} {B : Nat} {v : Value} {xs : List PWay} (h : OwnW w B v xs) (hg : w.grownBy w' v.ownBlock) (hB : B ≤ w.heap.size) : Below B w w' :=
  ⟨hg.os, hg.tape, hg.output, hg.size, fun k hk => hg.block k (by omega) (fun e => by have := (h.lt k e.symm).1; omega)⟩
/-- A literal of one way. -/
theorem fill_way {x : PWay} (h : x.h.length = 32) (init : Array Value) (hi : init.size = 35) : Instr.fill (fun i => some (i * 35, 35)) init #[(0, Value.agg x.cells.toArray)].toList = some x.cells.toArray := by
  have hl := PWay.cells_len h
  obtain ⟨r, h1, h2, h3⟩ := Great.fill_dense (s := 35) (by omega) [Value.agg x.cells.toArray] 0 init (fun v hv => by
    simp at hv
    subst hv
    show x.cells.toArray.size = 35
    rw [List.size_toArray, hl]) (by simp; omega)
  have e : Instr.fill (fun i => some (i * 35, 35)) init #[(0, Value.agg x.cells.toArray)].toList = some r := h1
  rw [e]
  congr 1
  apply Array.ext_getElem?
  intro k
  rw [h3 k]
  by_cases hk : k < 35
  · have e1 : k / 35 = 0 := by omega
    have e2 : k % 35 = k := by omega
    rw [if_pos (by simp; omega)]
    simp [e1, e2, Value.cells]
  · rw [if_neg (by simp; omega), Array.getElem?_eq_none (by omega), Array.getElem?_eq_none (by rw [List.size_toArray, hl]; omega)]
theorem Tryz.zeroWay72 : (Tryz.prog.info? 64).map (fun i => (i.zero, i.size, i.bytes)) = some (some (.agg noWay.cells.toArray), 35, 72) := by kernel_rfl
theorem step_way_gen {ops : Array Oper} {o : Oper} {tmps : Array Value} {ds : List Deferred} {w : World} {K : Act → World → Prop} {Q : Exit → Act → World → Prop} {E : Prop} {d : Nat} {u : Operand} {x : PWay} (hd : o.dst = some d) (hw : Region.wanted o (yielded ops tmps) = true) (ho : o.op = .buildSlice 59 1 #[(0, u)])
    (hu : Act.eval { tmps := tmps, defers := ds } u = .agg x.cells.toArray) (hx : x.h.length = 32)
    (h : ∀ (p : Nat) (w' : World), w'.heap[p]? = some (.cells x.cells.toArray 64 (0, 0)) → Below w.heap.size w w' → K { tmps := tmps.setIfInBounds d (.slice (some ⟨p, 0, none⟩) 1 1), defers := ds } w') :
    if Region.wanted o (yielded ops tmps) = true then Oper.wp Tryz.prog o { tmps := tmps, defers := ds } w K Q else E := by
  rw [if_pos hw]
  obtain ⟨ie, h1, h2, h3, _⟩ := info_parts Tryz.zeroWay72
  have hf := fill_way hx ((Array.range (1 * 35)).map ((Value.cells (.agg noWay.cells.toArray))[· % (Value.cells (.agg noWay.cells.toArray)).size]!)) (by simp)
  have hrun : (Instr.buildSlice 59 1 #[(0, .agg x.cells.toArray)]).run Tryz.prog w = .ok (.slice (some ⟨w.heap.size, 0, none⟩) 1 1) (w.alloc (.cells x.cells.toArray 64)) :=
    run_buildSlice w 59 64 1 _ _ ie _ Tryz.underlying59 h1 h2 (by rw [h3]; omega) (by rw [h3]; omega) (by rw [h3]; exact hf)
  unfold Oper.wp execOp
  simp only [ho, List.map_toArray, List.map_cons, List.map_nil, hu, Sem.run_bind, hrun, Sem.run_pure, Result.andThen_ok]
  show K (Act.put _ o.dst _) _
  rw [hd]
  exact h _ _ (heap_alloc_new _ _) ((Below.refl _ _).alloc (Nat.le_refl _) _)
/-- A way that lies in a block is joined to a slice of the call's own. -/
theorem append_way (w : World) (B : Nat) (v : Value) (xs : List PWay) (h : OwnW w B v xs) (p : Nat) (x : PWay) (hp : w.heap[p]? = some (.cells x.cells.toArray 64 (0, 0))) (hx : x.h.length = 32) (hb : xs.length + 1 ≤ 1000000) (hbase : B ≤ w.heap.size) :
    ∃ a' c' w', (Builtin.append_ #[59, 59] 59 #[v, .slice (some ⟨p, 0, none⟩) 1 1]).run Tryz.prog w = .ok (.slice a' (xs.length + 1) c') w' ∧ OwnW w' B (.slice a' (xs.length + 1) c') (xs ++ [x]) ∧ w.grownBy w' v.ownBlock := by
  obtain ⟨ie, i1, i2, i3, i4⟩ := info_parts Tryz.zeroWay72
  have hl := PWay.cells_len hx
  have hall : ∀ y ∈ xs ++ [x], y.h.length = 32 := fun y hy => by
    rcases List.mem_append.1 hy with hy | hy
    · exact h.2 y hy
    · simp at hy
      subst hy
      exact hx
  obtain ⟨v', w', h1, h2, h3, _⟩ := run_append_own (P := Tryz.prog) w B 59 59 64 ie _ 35 72 Tryz.underlying59 i1 i2 i3 i4 rfl (by decide) v xs.length (cellsW xs) h.1 ⟨p, 0, none⟩ 1 1 x.cells (by omega)
    (fun j u hj => by
      have e1 : (⟨p, 0, none⟩ : Addr).add j = ⟨p, 0 + j, none⟩ := by unfold Addr.add; split <;> simp_all
      rw [e1, Nat.zero_add, cell_of_row w p _ _ _ _ hp, ← hj]
      simp)
    x.cells_one (by unfold maxLen; omega) (by omega) hbase
  have hO : OwnW w' B v' (xs ++ [x]) := ⟨by rw [List.length_append, cellsW_append, cellsW_single]; exact h2, hall⟩
  obtain ⟨a', c', rfl, _⟩ := hO.shape
  have e : (xs ++ [x]).length = xs.length + 1 := by simp
  rw [e] at h1 hO
  exact ⟨a', c', w', h1, hO, h3⟩
theorem step_append_w {ops : Array Oper} {o : Oper} {tmps : Array Value} {ds : List Deferred} {w : World} {K : Act → World → Prop} {Q : Exit → Act → World → Prop} {E : Prop} {d : Nat} (hd : o.dst = some d) (hw : Region.wanted o (yielded ops tmps) = true) (u y : Operand)
    (ho : o.op = .call { callee := .builtin .append, args := #[u, y], argTypes := #[59, 59] }) (hty : o.type = 59) (B : Nat) (v : Value) (xs : List PWay) (hu : (Act.eval { tmps := tmps, defers := ds } u) = v) (h : OwnW w B v xs) (p : Nat) (x : PWay) (hy : (Act.eval { tmps := tmps, defers := ds } y) = .slice (some ⟨p, 0, none⟩) 1 1) (hp : w.heap[p]? = some (.cells x.cells.toArray 64 (0, 0))) (hx : x.h.length = 32) (hb : xs.length + 1 ≤ 1000000) (hbase : B ≤ w.heap.size)
    (hk : ∀ a' c' w', OwnW w' B (.slice a' (xs.length + 1) c') (xs ++ [x]) → w.grownBy w' v.ownBlock → K { tmps := tmps.setIfInBounds d (.slice a' (xs.length + 1) c'), defers := ds } w') :
    if Region.wanted o (yielded ops tmps) = true then Oper.wp Tryz.prog o { tmps := tmps, defers := ds } w K Q else E := by
  rw [if_pos hw]
  obtain ⟨a', c', w', h1, h2, h3⟩ := append_way w B v xs h p x hp hx hb hbase
  unfold Oper.wp execOp
  simp only [ho, hty, resolve, invoke, builtin, Sem.run_bind, Sem.run_pure, Result.andThen_ok, List.map_toArray, List.map_cons, List.map_nil, hu, hy, h1]
  show K (Act.put _ o.dst _) _
  rw [hd]
  exact hk a' c' w' h2 h3
/-- Ways that stay where other blocks are written: their keys lie in blocks of numbers. -/
theorem way_but {w w' : World} {p : Nat} {x : PWay} (h : WayIn w x) (ht : KeyTag w x) (hb : But w.heap.size p w w') (hp : ∀ cs fr, w.heap[p]? ≠ some (.cells cs 3 fr)) : WayIn w' x ∧ KeyTag w' x := by
  have key : 0 < x.n → ∃ b off cs fr, x.a = some ⟨b, off, none⟩ ∧ w.heap[b]? = some (.cells cs 3 fr) ∧ b < w.heap.size ∧ b ≠ p := fun h0 => by
    obtain ⟨b, off, cs, fr, e, hh⟩ := ht h0
    exact ⟨b, off, cs, fr, e, hh, lt_of_block hh, fun e => by subst e; exact hp _ _ hh⟩
  refine ⟨⟨h.keys.butO (B := w.heap.size) (pb := p) (fun h0 ad e => ?_) hb, h.sum, h.after, h.wait⟩, fun h0 => ?_⟩
  · obtain ⟨b, off, cs, fr, e2, hh, hlt, hne⟩ := key h0
    rw [e] at e2
    cases e2
    exact ⟨hlt, hne⟩
  · obtain ⟨b, off, cs, fr, e2, hh, hlt, hne⟩ := key h0
    exact ⟨b, off, cs, fr, e2, hb.heap hh hlt hne⟩
theorem way_below {w w' : World} {x : PWay} (h : WayIn w x) (ht : KeyTag w x) (hb : Below w.heap.size w w') : WayIn w' x ∧ KeyTag w' x := ⟨h.below hb, fun h0 => by
  obtain ⟨b, off, cs, fr, e, hh⟩ := ht h0
  exact ⟨b, off, cs, fr, e, (hb.block _ (lt_of_block hh)).trans hh⟩⟩
/-- How all stands while an out is read: g3 is the variable, g2 the result. -/
structure OutSt (w0 : World) (yb g2 g3 : Nat) (m : Int) (a : Option Addr) (n c : Nat) (xs : List PWay) (s : List UInt8 × Int) (w : World) : Prop where
  own : OwnW w w0.heap.size (.slice a n c) xs
  keys : ∀ x ∈ xs, (WayIn w x ∧ KeyTag w x) ∧ NewB w0.heap.size x.a
  res : w.heap[g2]? = some (.cells #[.int .i64 0, .slice none 0 0] 61 (0, 0))
  var : w.heap[g3]? = some (.cells #[.int .i64 m, .slice a n c] 61 (0, 0))
  eye : EyeAt w yb s.1 s.2
  but : But w0.heap.size yb w0 w
theorem EyeAt.block {w : World} {yb : Nat} {l : List UInt8} {e : Int} (h : EyeAt w yb l e) : ∃ cs, w.heap[yb]? = some (.cells cs 117 (0, 0)) := by
  obtain ⟨a, n, c, h1, _⟩ := h
  exact ⟨_, h1⟩
theorem OutSt.read {w0 w w' : World} {yb g2 g3 n c : Nat} {m : Int} {a : Option Addr} {xs : List PWay} {s s' : List UInt8 × Int} (h : OutSt w0 yb g2 g3 m a n c xs s w) (hy : yb < w0.heap.size) (h2 : w0.heap.size ≤ g2) (h3 : w0.heap.size ≤ g3) (he : EyeAt w' yb s'.1 s'.2) (hb : But w.heap.size yb w w') : OutSt w0 yb g2 g3 m a n c xs s' w' := by
  obtain ⟨cs, hcs⟩ := h.eye.block
  refine ⟨h.own.but hb (fun _ _ e => by rw [hcs] at e; simp at e), fun x hx => ⟨way_but (h.keys x hx).1.1 (h.keys x hx).1.2 hb (fun _ _ e => by rw [hcs] at e; simp at e), (h.keys x hx).2⟩, hb.heap h.res (lt_of_block h.res) (by omega), hb.heap h.var (lt_of_block h.var) (by omega), he, h.but.trans (hb.mono h.but.size)⟩
theorem OutSt.more {w0 w w' : World} {yb g2 g3 n c : Nat} {m : Int} {a : Option Addr} {xs : List PWay} {s : List UInt8 × Int} (h : OutSt w0 yb g2 g3 m a n c xs s w) (hb : Below w.heap.size w w') : OutSt w0 yb g2 g3 m a n c xs s w' :=
  ⟨h.own.below hb, fun x hx => ⟨way_below (h.keys x hx).1.1 (h.keys x hx).1.2 hb, (h.keys x hx).2⟩, (hb.block _ (lt_of_block h.res)).trans h.res, (hb.block _ (lt_of_block h.var)).trans h.var, h.eye.below hb, h.but.trans (But.of (hb.mono h.but.size))⟩
theorem out_cell0 {w : World} {g : Nat} {u v : Value} {t : TypeId} (h : w.heap[g]? = some (.cells #[u, v] t (0, 0))) : w.cell? ⟨g, 0, none⟩ = some u := two_cell0 h
/-- A way more, and the variable's slice stored. -/
theorem OutSt.grow {w0 w w' : World} {yb g2 g3 n c n' c' : Nat} {m : Int} {a a' : Option Addr} {xs : List PWay} {x : PWay} {s : List UInt8 × Int} (h : OutSt w0 yb g2 g3 m a n c xs s w) (hy : yb < w0.heap.size) (h3 : w0.heap.size ≤ g3) (hne : g2 ≠ g3) (hx : WayIn w x) (hxt : KeyTag w x) (hxn : NewB w0.heap.size x.a)
    (ho : OwnW w' w0.heap.size (.slice a' n' c') (xs ++ [x])) (hg : w.grownBy w' (Value.slice a n c).ownBlock) : w'.heap[g3]? = some (.cells #[.int .i64 m, .slice a n c] 61 (0, 0)) ∧ OutSt w0 yb g2 g3 m a' n' c' (xs ++ [x]) s (w'.setCell ⟨g3, 1, none⟩ (.slice a' n' c')) := by
  have r1 : w'.heap[g2]? = some (.cells #[.int .i64 0, .slice none 0 0] 61 (0, 0)) := (hg.block g2 (lt_of_block h.res) (h.own.other h.res (by decide)).symm).trans h.res
  have r2 : w'.heap[g3]? = some (.cells #[.int .i64 m, .slice a n c] 61 (0, 0)) := (hg.block g3 (lt_of_block h.var) (h.own.other h.var (by decide)).symm).trans h.var
  -- the grown block
  have step : EyeAt w' yb s.1 s.2 ∧ ∀ y, WayIn w y → KeyTag w y → WayIn w' y ∧ KeyTag w' y := by
    rcases h.own.1.2 with ⟨hv, _⟩ | ⟨g, cap, cur, hv, hB, hh, _⟩
    · have hb : Below w.heap.size w w' := ⟨hg.os, hg.tape, hg.output, hg.size, fun k hk => hg.block k hk (fun e => by rw [hv] at e; cases e)⟩
      exact ⟨h.eye.below hb, fun y h1 h2 => way_below h1 h2 hb⟩
    · have hb : But w.heap.size g w w' := ⟨hg.os, hg.tape, hg.output, hg.size, fun k hk hne => hg.block k hk (fun e => hne (by rw [hv] at e; cases e; rfl))⟩
      exact ⟨h.eye.typed hb hh (by decide) (by omega), fun y h1 h2 => way_but h1 h2 hb (fun _ _ e => by rw [hh] at e; simp at e)⟩
  have r4 : But w0.heap.size yb w0 w' := h.but.trans (But.of (h.own.grows hg h.but.size))
  have hs : But w'.heap.size g3 w' (w'.setCell ⟨g3, 1, none⟩ (.slice a' n' c')) := (But.refl _ g3 _).setCell _ (.inl rfl) _
  refine ⟨r2, ho.but hs (fun _ _ e => by rw [r2] at e; simp at e), fun y hy' => ?_, hs.heap r1 (lt_of_block r1) hne, two_set1 r2, step.1.typed hs r2 (by decide) (by omega), r4.trans ⟨hs.os, hs.tape, hs.output, hs.size, fun k hk hkp => hs.block k (Nat.lt_of_lt_of_le hk r4.size) (by omega)⟩⟩
  have hh : (WayIn w y ∧ KeyTag w y) ∧ NewB w0.heap.size y.a := by
    rcases List.mem_append.1 hy' with h9 | h9
    · exact h.keys y h9
    · simp at h9
      subst h9
      exact ⟨⟨hx, hxt⟩, hxn⟩
  obtain ⟨q1, q2⟩ := step.2 y hh.1.1 hh.1.2
  exact ⟨way_but q1 q2 hs (fun _ _ e => by rw [r2] at e; simp at e), hh.2⟩
end Go.Proofs.YtodbhopeknlgiaaGreatDoor
namespace Go.Proofs.YtodbhopeknlgiaaGreatDoor
open Go.RowKit

theorem NewB.base {B B' : Nat} {a : Option Addr} (h : NewB B a) (hB : B' ≤ B) : NewB B' a := fun ad e => Nat.le_trans hB (h ad e)
/-- An out that was read. -/
def GotOut (w0 : World) (yb : Nat) (s : List UInt8 × Int) (r : Ending) (w : World) : Prop :=
  ∃ (a : Option Addr) (n c : Nat) (xs : List PWay), r = .returned (.agg #[.int .i64 (outR s).1.1, .slice a n c]) ∧ Ways w a n c xs ∧ (∀ x ∈ xs, KeyTag w x ∧ NewB w0.heap.size x.a) ∧ NewB w0.heap.size a ∧ xs.map PWay.strip = (outR s).1.2 ∧ EyeAt w yb (outR s).2.1 (outR s).2.2 ∧ But w0.heap.size yb w0 w
/-- Where ways lie: in a block of ways. -/
def WayTag (w : World) (a : Option Addr) (n : Nat) : Prop := 0 < n → ∃ b off cs fr, a = some ⟨b, off, none⟩ ∧ w.heap[b]? = some (.cells cs 64 fr)
theorem OwnW.tag {w : World} {B n c : Nat} {a : Option Addr} {xs : List PWay} (h : OwnW w B (.slice a n c) xs) : WayTag w a n := by
  rcases h.1.2 with ⟨hv, h1⟩ | ⟨g, cap, cur, hv, hB, hh, r⟩
  · cases hv
    exact fun h0 => absurd h0 (by omega)
  · cases hv
    exact fun _ => ⟨g, 0, _, _, rfl, hh⟩
/-- The same, with where the ways lie. -/
def GotOutT (w0 : World) (yb : Nat) (s : List UInt8 × Int) (r : Ending) (w : World) : Prop :=
  ∃ (a : Option Addr) (n c : Nat) (xs : List PWay), r = .returned (.agg #[.int .i64 (outR s).1.1, .slice a n c]) ∧ Ways w a n c xs ∧ (∀ x ∈ xs, KeyTag w x ∧ NewB w0.heap.size x.a) ∧ NewB w0.heap.size a ∧ xs.map PWay.strip = (outR s).1.2 ∧ EyeAt w yb (outR s).2.1 (outR s).2.2 ∧ But w0.heap.size yb w0 w ∧ WayTag w a n
theorem OutSt.out {w0 w w' : World} {yb g2 g3 n c : Nat} {m : Int} {a : Option Addr} {xs : List PWay} {s : List UInt8 × Int} (h : OutSt w0 yb g2 g3 m a n c xs s w) (hy : yb < w0.heap.size) (h2 : w0.heap.size ≤ g2) (hs : But w.heap.size g2 w w') :
    Ways w' a n c xs ∧ (∀ x ∈ xs, KeyTag w' x ∧ NewB w0.heap.size x.a) ∧ NewB w0.heap.size a ∧ EyeAt w' yb s.1 s.2 ∧ But w0.heap.size yb w0 w' ∧ WayTag w' a n := by
  have hw : ∀ x ∈ xs, WayIn w' x ∧ KeyTag w' x := fun x hx => way_but (h.keys x hx).1.1 (h.keys x hx).1.2 hs (fun _ _ e => by rw [h.res] at e; simp at e)
  have ho : OwnW w' w0.heap.size (.slice a n c) xs := h.own.but hs (fun _ _ e => by rw [h.res] at e; simp at e)
  refine ⟨ho.ways (fun x hx => (hw x hx).1), fun x hx => ⟨(hw x hx).2, (h.keys x hx).2⟩, fun ad e => ?_, h.eye.typed hs h.res (by decide) (by omega), h.but.trans ⟨hs.os, hs.tape, hs.output, hs.size, fun k hk hkp => hs.block k (Nat.lt_of_lt_of_le hk h.but.size) (by omega)⟩, ho.tag⟩
  obtain ⟨_, _, e2, h9⟩ := ho.shape
  cases e2
  exact h9 _ e
theorem two_one (u v : Value) (hu : u.oneCell' = true) (hv : v.oneCell' = true) : (#[u, v] : Array Value).all (·.oneCell') = true :=
  all_oneCell_toArray (cs := [u, v]) (fun x hx => by simp at hx; rcases hx with rfl | rfl <;> assumption)
theorem size_out : (Tryz.prog.info? 61).map (·.size) = some 2 := by kernel_rfl
set_option linter.unusedSimpArgs false in
set_option maxRecDepth 100000 in
set_option maxHeartbeats 12800000 in
theorem lockGet_tag {w : World} {yb : Nat} {s : List UInt8 × Int} (h : EyeAt w yb s.1 s.2) (hm : s.1.length ≤ 140737488355328) :
    Calls Tryz.prog 40 #[.pointer (some ⟨yb, 0, none⟩)] w (GotOutT w yb s) := by
  have hyb := h.lt
  obtain ⟨s1, s2, s3, s4, m, n, qs, e1, e2, e3, e4, eR⟩ := outR_parts s
  have r1 := upR_range s (m := 1125899906842624) (by omega)
  have r2 := upR_range s1 (m := 16) (by omega)
  rw [e1] at r1
  rw [e2] at r2
  dsimp only at r1 r2
  obtain ⟨N, rfl⟩ : ∃ N : Nat, n = N := ⟨n.toNat, by omega⟩
  rw [Int.toNat_natCast] at e3
  have l2 : s2.1.length ≤ 140737488355328 := by
    have h1 := upR_le s 1125899906842624
    have h2 := upR_le s1 16
    rw [e1] at h1
    rw [e2] at h2
    exact Nat.le_trans h2 (Nat.le_trans h1 hm)
  have HU1 := Lib.hid (fun (W : World) (hW : EyeAt W yb s.1 s.2) => by have h9 := upto_st 1125899906842624 hW; rw [e1] at h9; exact h9)
  have HU2 := Lib.hid (fun (W : World) (hW : EyeAt W yb s1.1 s1.2) => by have h9 := upto_st 16 hW; rw [e2] at h9; exact h9)
  have HE3 := Lib.hid e3
  have HE4 := Lib.hid e4
  have HER := Lib.hid eR
  have H := Lib.hid h
  have HL2 := Lib.hid l2
  have hN : N ≤ 16 := by omega
  have hN63 : (N : Int) ≤ 16 := by omega
  have FM : Hid (Fits m) := Lib.hid ⟨by omega, by omega⟩
  clear e1 e2 e3 e4 eR h hm l2 r1 r2
  go_enter Tryz.func40, Tryz.ntmps40
  go_upto_region 1 with (fail)
  have b1 : Below w.heap.size w (w.alloc (.cells #[.int .i64 0, .slice none 0 0] 61)) := (Below.refl _ _).alloc (Nat.le_refl _) _
  have h1 := heap_alloc_new w (.cells #[.int .i64 0, .slice none 0 0] 61)
  have hsz : (w.alloc (.cells #[.int .i64 0, .slice none 0 0] 61)).heap.size = w.heap.size + 1 := by simp
  revert b1 h1 hsz
  generalize (w.alloc (.cells #[.int .i64 0, .slice none 0 0] 61)) = w1
  intro b1 h1 hsz
  have HB1 := Lib.hid b1
  have H1 := Lib.hid h1
  have HY1 := Lib.hid (H.out.below b1)
  have HSZ := Lib.hid hsz
  clear b1 h1 H hsz
  obtain ⟨g, hg⟩ : ∃ g, g = w.heap.size := ⟨_, rfl⟩
  rw [← hg] at H1 HSZ ⊢
  have HG := Lib.hid hg
  clear hg
  go_wp2_with fail
  refine (HU1.out _ HY1.out).mono ?_
  rintro e w2 ⟨rfl, he2, hb2⟩
  have HB2 := Lib.hid hb2
  have HE2 := Lib.hid he2
  clear he2 hb2 HU1
  go_upto_region 2 with (fail)
  have b3 : Below w2.heap.size w2 (w2.alloc (.cells #[.int .i64 m, .slice none 0 0] 61)) := (Below.refl _ _).alloc (Nat.le_refl _) _
  have h3 := heap_alloc_new w2 (.cells #[.int .i64 m, .slice none 0 0] 61)
  revert b3 h3
  generalize (w2.alloc (.cells #[.int .i64 m, .slice none 0 0] 61)) = w3
  obtain ⟨q, hq⟩ : ∃ q, q = w2.heap.size := ⟨_, rfl⟩
  rw [← hq]
  intro b3 h3
  rw [hq] at b3
  have hg2 : w.heap.size ≤ g := by have := HG.out; omega
  have hsz2 : w1.heap.size ≤ w2.heap.size := HB2.out.size
  have hne : g ≠ q := by have := HG.out; have := HSZ.out; omega
  have hg3 : w.heap.size ≤ q := by have := HG.out; have := HSZ.out; omega
  have OS := Lib.hid (show OutSt w yb g q m none 0 0 [] s1 w3 from by
    have r2 := HB2.out.heap H1.out (lt_of_block H1.out) (by omega)
    refine ⟨OwnW.nil _ _, (fun x hx => by cases hx), (b3.block _ (lt_of_block r2)).trans r2, h3, HE2.out.below b3, ?_⟩
    exact (But.of HB1.out).trans ((HB2.out.mono (by have := HG.out; have := HSZ.out; omega)).trans (But.of (b3.mono (by have := HG.out; have := HSZ.out; omega)))))
  clear b3 h3 hq HB1 HB2 HE2 HY1 H1 HSZ HG hsz2
  go_wp2_with fail
  refine (HU2.out _ OS.out.eye).mono ?_
  rintro e w4 ⟨rfl, he, hb⟩
  have OS := Lib.hid (OS.out.read (s' := s2) hyb hg2 hg3 he hb)
  clear he hb HU2
  go_wp2_with fail
  go_loopw [9] (fun i wr => ∃ (k : Nat) (a : Option Addr) (cc : Nat) (xs : List PWay), k ≤ N ∧ i = .int .i64 k ∧ xs.map PWay.strip = (waysR k s2).1 ∧ OutSt w yb g q m a k cc xs (waysR k s2).2 wr) (fun i _ => N - (intOf i).toNat)
  case atStart => exact ⟨0, none, 0, [], Nat.zero_le _, rfl, rfl, OS.out⟩
  case round =>
    obtain ⟨k, a, cc, xs, hk, rfl, hmap, hOS⟩ := hrel
    have OS := Lib.hid hOS
    have HMAP := Lib.hid hmap
    clear hmap hOS
    by_cases hkn : k < N
    · have f1 : (k : Int) < (N : Int) := by omega
      have f0 : (0 : Int) ≤ (k : Int) := by omega
      have hkl : xs.length = k := by
        have h9 := congrArg List.length HMAP.out
        rw [List.length_map, waysR_len] at h9
        exact h9
      have HKL := Lib.hid hkl
      obtain ⟨st, hst⟩ : ∃ st, (waysR k s2).2 = st := ⟨_, rfl⟩
      rw [hst] at OS
      obtain ⟨y, st', hy⟩ : ∃ y st', wayR st = (y, st') := ⟨_, _, rfl⟩
      have HLE : Hid (st.1.length ≤ 140737488355328) := Lib.hid (by rw [← hst]; exact Nat.le_trans (waysR_le s2 k) HL2.out)
      have NX0 : Hid ((waysR (k + 1) s2).1 = (waysR k s2).1 ++ [y]) := Lib.hid (by rw [waysR, hst, hy])
      have NX1 : Hid ((waysR (k + 1) s2).2 = st') := Lib.hid (by rw [waysR, hst, hy])
      have HW := Lib.hid hy
      clear hkl hst hy
      go_upto_region 4 with (fail)
      refine wp_region_held_drew (S := fun _ => True) (by kernel_rfl) (True.intro) (fun hHeld => ?_)
      refine take_at (i := 0) (v := ?_) rfl rfl (by kernel_rfl) (by kernel_rfl) (by kernel_rfl) (fun _ _ _ h => h) (Or.inl ⟨by rfl, ?_⟩) (by assumption) ?_
      rotate_left
      · intro w0 hSw; (try dsimp only at hSw); first | (go_simp; done) | (go_simp; with_reducible rfl)
      simp only [List.setIfInBounds_toArray, List.set_cons_zero, List.set_cons_succ]
      refine take_at (i := 2) (v := ?_) rfl rfl (by kernel_rfl) (by kernel_rfl) (by kernel_rfl) (fun _ _ _ h => h) (Or.inl ⟨by rfl, ?_⟩) (by assumption) ?_
      rotate_left
      · intro w0 hSw; (try dsimp only at hSw); first | (go_simp; done) | (go_simp; with_reducible rfl)
      simp only [List.setIfInBounds_toArray, List.set_cons_zero, List.set_cons_succ]
      have OS := Lib.hid (OS.out.more (w' := wr.drew) (below_drew (Below.refl _ _)))
      refine wpAnyH_ready (rs := [1, 3]) (by kernel_rfl) (by simp) ?_
      refine AllReadyH.cons rfl (fun K hK => ?_) ?_
      · refine step_cell (d := 12) rfl (by rfl) 59 _ rfl q 1 rfl (.slice a k cc) (two_cell1 OS.out.var) (Tryz.isAgg59 _) ?_
        refine hK.out _ _ (by (try dsimp only); all_goals exact True.intro) (fun hHeld => ?_)
        clear hK K
        refine wpAnyH_ready (rs := [3]) (by kernel_rfl) (by simp) ?_
        refine AllReadyH.cons rfl (fun K hK => ?_) ?_
        · go_simp
          go_wp2_with ((go_at_call 69; (with_reducible refine (getWay_st OS.out.eye HLE.out).mono ?_); rintro e y3a ⟨x, rfl, hxw, hxt, hxn, hxs, he, hb⟩; rw [HW.out] at he hxs; have HXB := Lib.hid (hxn.base OS.out.but.size); have OS := Lib.hid (OS.out.read (s' := st') hyb hg2 hg3 he hb); have HXW := Lib.hid hxw; have HXT := Lib.hid hxt; have HXS := Lib.hid hxs; clear he hb hxw hxt hxn hxs))
          refine hK.out _ _ (by (try dsimp only); all_goals exact True.intro) (fun hHeld => ?_)
          clear hK K
          refine wpAnyH_ready (rs := [4]) (by kernel_rfl) (by simp) ?_
          refine AllReadyH.cons rfl (fun K hK => ?_) ?_
          · refine step_way_gen (d := 15) rfl (by rfl) rfl (by rfl) HXW.out.sum ?_
            intro p y4a hlit hbl
            have OS := Lib.hid (OS.out.more hbl)
            have LIT := Lib.hid hlit
            have HXP := Lib.hid (way_below HXW.out HXT.out hbl)
            clear hlit hbl
            refine hK.out _ _ (by (try dsimp only); all_goals exact True.intro) (fun hHeld => ?_)
            clear hK K
            refine wpAnyH_ready (rs := [5]) (by kernel_rfl) (by simp) ?_
            refine AllReadyH.cons rfl (fun K hK => ?_) ?_
            · refine step_append_w (d := 16) rfl (by rfl) _ _ rfl rfl w.heap.size (.slice a k cc) xs (by rfl) OS.out.own p x (by rfl) LIT.out HXP.out.1.sum (by rw [HKL.out]; omega) OS.out.but.size ?_
              intro a' c' y5 ho hgr
              rw [HKL.out] at ho ⊢
              obtain ⟨hv, hos⟩ := OS.out.grow hyb hg3 hne HXP.out.1 HXP.out.2 HXB.out ho hgr
              have HV := Lib.hid hv
              have OS := Lib.hid hos
              clear hv hos ho hgr
              refine hK.out _ _ (by (try dsimp only); all_goals exact True.intro) (fun hHeld => ?_)
              clear hK K
              refine take_at (i := 6) (v := ?_) rfl rfl (by kernel_rfl) (by kernel_rfl) (by kernel_rfl) (fun _ _ _ h => h) (Or.inl ⟨by rfl, ?_⟩) (by assumption) ?_
              rotate_left
              · intro w0 hSw; (try dsimp only at hSw); first | (go_simp; done) | (go_simp; with_reducible rfl)
              simp only [List.setIfInBounds_toArray, List.set_cons_zero, List.set_cons_succ]
              refine wpAnyH_ready (rs := [7]) (by kernel_rfl) (by simp) ?_
              refine AllReadyH.cons rfl (fun K hK => ?_) ?_
              · refine step_store_cell (by rfl) 59 _ _ rfl q 1 (by rfl) (.slice a' (k + 1) c') (by rfl) (.slice a k cc) (two_cell1 HV.out) (two_free1 HV.out) (by kernel_rfl) rfl ?_
                refine hK.out _ _ (by (try dsimp only); all_goals exact True.intro) (fun hHeld => ?_)
                clear hK K
                refine wpAnyH_done (by kernel_rfl) ?_ _
                clear hHeld HV
                revert OS
                generalize World.setCell y5 _ _ = y7
                intro OS
                have NX : Hid ((xs ++ [x]).map PWay.strip = (waysR (k + 1) s2).1) := Lib.hid (by rw [NX0.out, List.map_append, HMAP.out, List.map_singleton, HXS.out])
                go_wp2_with fail
                go_roundw
                case rel => exact ⟨k + 1, a', c', xs ++ [x], by omega, by go_num, NX.out, by rw [NX1.out]; exact OS.out⟩
                case measure => simp [intOf]; omega
              exact AllReadyH.nil
            exact AllReadyH.nil
          exact AllReadyH.nil
        exact AllReadyH.nil
      refine AllReadyH.cons rfl (fun K hK => ?_) ?_
      · go_simp
        go_wp2_with ((go_at_call 69; (with_reducible refine (getWay_st OS.out.eye HLE.out).mono ?_); rintro e y3b ⟨x, rfl, hxw, hxt, hxn, hxs, he, hb⟩; rw [HW.out] at he hxs; have HXB := Lib.hid (hxn.base OS.out.but.size); have OS := Lib.hid (OS.out.read (s' := st') hyb hg2 hg3 he hb); have HXW := Lib.hid hxw; have HXT := Lib.hid hxt; have HXS := Lib.hid hxs; clear he hb hxw hxt hxn hxs))
        refine hK.out _ _ (by (try dsimp only); all_goals exact True.intro) (fun hHeld => ?_)
        clear hK K
        refine wpAnyH_ready (rs := [1, 4]) (by kernel_rfl) (by simp) ?_
        refine AllReadyH.cons rfl (fun K hK => ?_) ?_
        · refine step_cell (d := 12) rfl (by rfl) 59 _ rfl q 1 rfl (.slice a k cc) (two_cell1 OS.out.var) (Tryz.isAgg59 _) ?_
          refine hK.out _ _ (by (try dsimp only); all_goals exact True.intro) (fun hHeld => ?_)
          clear hK K
          refine wpAnyH_ready (rs := [4]) (by kernel_rfl) (by simp) ?_
          refine AllReadyH.cons rfl (fun K hK => ?_) ?_
          · refine step_way_gen (d := 15) rfl (by rfl) rfl (by rfl) HXW.out.sum ?_
            intro p y4a hlit hbl
            have OS := Lib.hid (OS.out.more hbl)
            have LIT := Lib.hid hlit
            have HXP := Lib.hid (way_below HXW.out HXT.out hbl)
            clear hlit hbl
            refine hK.out _ _ (by (try dsimp only); all_goals exact True.intro) (fun hHeld => ?_)
            clear hK K
            refine wpAnyH_ready (rs := [5]) (by kernel_rfl) (by simp) ?_
            refine AllReadyH.cons rfl (fun K hK => ?_) ?_
            · refine step_append_w (d := 16) rfl (by rfl) _ _ rfl rfl w.heap.size (.slice a k cc) xs (by rfl) OS.out.own p x (by rfl) LIT.out HXP.out.1.sum (by rw [HKL.out]; omega) OS.out.but.size ?_
              intro a' c' y5 ho hgr
              rw [HKL.out] at ho ⊢
              obtain ⟨hv, hos⟩ := OS.out.grow hyb hg3 hne HXP.out.1 HXP.out.2 HXB.out ho hgr
              have HV := Lib.hid hv
              have OS := Lib.hid hos
              clear hv hos ho hgr
              refine hK.out _ _ (by (try dsimp only); all_goals exact True.intro) (fun hHeld => ?_)
              clear hK K
              refine take_at (i := 6) (v := ?_) rfl rfl (by kernel_rfl) (by kernel_rfl) (by kernel_rfl) (fun _ _ _ h => h) (Or.inl ⟨by rfl, ?_⟩) (by assumption) ?_
              rotate_left
              · intro w0 hSw; (try dsimp only at hSw); first | (go_simp; done) | (go_simp; with_reducible rfl)
              simp only [List.setIfInBounds_toArray, List.set_cons_zero, List.set_cons_succ]
              refine wpAnyH_ready (rs := [7]) (by kernel_rfl) (by simp) ?_
              refine AllReadyH.cons rfl (fun K hK => ?_) ?_
              · refine step_store_cell (by rfl) 59 _ _ rfl q 1 (by rfl) (.slice a' (k + 1) c') (by rfl) (.slice a k cc) (two_cell1 HV.out) (two_free1 HV.out) (by kernel_rfl) rfl ?_
                refine hK.out _ _ (by (try dsimp only); all_goals exact True.intro) (fun hHeld => ?_)
                clear hK K
                refine wpAnyH_done (by kernel_rfl) ?_ _
                clear hHeld HV
                revert OS
                generalize World.setCell y5 _ _ = y7
                intro OS
                have NX : Hid ((xs ++ [x]).map PWay.strip = (waysR (k + 1) s2).1) := Lib.hid (by rw [NX0.out, List.map_append, HMAP.out, List.map_singleton, HXS.out])
                go_wp2_with fail
                go_roundw
                case rel => exact ⟨k + 1, a', c', xs ++ [x], by omega, by go_num, NX.out, by rw [NX1.out]; exact OS.out⟩
                case measure => simp [intOf]; omega
              exact AllReadyH.nil
            exact AllReadyH.nil
          exact AllReadyH.nil
        refine AllReadyH.cons rfl (fun K hK => ?_) ?_
        · refine step_way_gen (d := 15) rfl (by rfl) rfl (by rfl) HXW.out.sum ?_
          intro p y4b hlit hbl
          have OS := Lib.hid (OS.out.more hbl)
          have LIT := Lib.hid hlit
          have HXP := Lib.hid (way_below HXW.out HXT.out hbl)
          clear hlit hbl
          refine hK.out _ _ (by (try dsimp only); all_goals exact True.intro) (fun hHeld => ?_)
          clear hK K
          refine wpAnyH_ready (rs := [1]) (by kernel_rfl) (by simp) ?_
          refine AllReadyH.cons rfl (fun K hK => ?_) ?_
          · refine step_cell (d := 12) rfl (by rfl) 59 _ rfl q 1 rfl (.slice a k cc) (two_cell1 OS.out.var) (Tryz.isAgg59 _) ?_
            refine hK.out _ _ (by (try dsimp only); all_goals exact True.intro) (fun hHeld => ?_)
            clear hK K
            refine wpAnyH_ready (rs := [5]) (by kernel_rfl) (by simp) ?_
            refine AllReadyH.cons rfl (fun K hK => ?_) ?_
            · refine step_append_w (d := 16) rfl (by rfl) _ _ rfl rfl w.heap.size (.slice a k cc) xs (by rfl) OS.out.own p x (by rfl) LIT.out HXP.out.1.sum (by rw [HKL.out]; omega) OS.out.but.size ?_
              intro a' c' y5 ho hgr
              rw [HKL.out] at ho ⊢
              obtain ⟨hv, hos⟩ := OS.out.grow hyb hg3 hne HXP.out.1 HXP.out.2 HXB.out ho hgr
              have HV := Lib.hid hv
              have OS := Lib.hid hos
              clear hv hos ho hgr
              refine hK.out _ _ (by (try dsimp only); all_goals exact True.intro) (fun hHeld => ?_)
              clear hK K
              refine take_at (i := 6) (v := ?_) rfl rfl (by kernel_rfl) (by kernel_rfl) (by kernel_rfl) (fun _ _ _ h => h) (Or.inl ⟨by rfl, ?_⟩) (by assumption) ?_
              rotate_left
              · intro w0 hSw; (try dsimp only at hSw); first | (go_simp; done) | (go_simp; with_reducible rfl)
              simp only [List.setIfInBounds_toArray, List.set_cons_zero, List.set_cons_succ]
              refine wpAnyH_ready (rs := [7]) (by kernel_rfl) (by simp) ?_
              refine AllReadyH.cons rfl (fun K hK => ?_) ?_
              · refine step_store_cell (by rfl) 59 _ _ rfl q 1 (by rfl) (.slice a' (k + 1) c') (by rfl) (.slice a k cc) (two_cell1 HV.out) (two_free1 HV.out) (by kernel_rfl) rfl ?_
                refine hK.out _ _ (by (try dsimp only); all_goals exact True.intro) (fun hHeld => ?_)
                clear hK K
                refine wpAnyH_done (by kernel_rfl) ?_ _
                clear hHeld HV
                revert OS
                generalize World.setCell y5 _ _ = y7
                intro OS
                have NX : Hid ((xs ++ [x]).map PWay.strip = (waysR (k + 1) s2).1) := Lib.hid (by rw [NX0.out, List.map_append, HMAP.out, List.map_singleton, HXS.out])
                go_wp2_with fail
                go_roundw
                case rel => exact ⟨k + 1, a', c', xs ++ [x], by omega, by go_num, NX.out, by rw [NX1.out]; exact OS.out⟩
                case measure => simp [intOf]; omega
              exact AllReadyH.nil
            exact AllReadyH.nil
          exact AllReadyH.nil
        exact AllReadyH.nil
      exact AllReadyH.nil
    · obtain rfl : k = N := by omega
      have f1 : ¬ ((k : Int) < (k : Int)) := by omega
      rw [HE3.out] at OS HMAP
      have hn63 : (k : Int) ≤ 16 := by omega
      have HWS := Lib.hid (OS.out.own.ways (fun x hx => (OS.out.keys x hx).1.1))
      have hok : outOk m xs = outOk m qs := by
        have h9 : xs.map PWay.strip = qs := HMAP.out
        rw [← h9, outOk_strip]
      have RV := Lib.hid (range_of (cs := [.int .i64 m, .slice a k cc]) OS.out.var)
      have HR := Lib.hid (lockRightOut_any (m := m) HWS.out)
      rw [hok] at HR
      clear hok
      go_wp2_with (first | (refine wpList_load_mid rfl 61 _ rfl q 0 rfl [.int .i64 m, .slice a k cc] _ RV.out Tryz.underlying61 rfl size_out ?_) | fail)
      refine HR.out.mono ?_
      rintro e w5 ⟨rfl, hb5⟩
      have OS := Lib.hid (OS.out.more hb5)
      clear hb5 HR HWS RV
      have HMP : Hid (xs.map PWay.strip = qs) := Lib.hid HMAP.out
      obtain ⟨ok, hok⟩ : ∃ ok, outOk m qs = ok := ⟨_, rfl⟩
      rw [hok] at HE4 ⊢
      clear hok HMAP HE3 HL2
      have HS4 := Lib.hid size_out
      cases ok
      · have h4 : failR s3 4 = s4 := HE4.out.symm
        have HF := Lib.hid (fun (W : World) (hW : EyeAt W yb s3.1 s3.2) => by have h9 := fail_st 4 hW; rw [h4] at h9; exact h9)
        clear h4 HE4
        go_wp2_with fail
        refine (HF.out _ OS.out.eye).mono ?_
        rintro e w6 ⟨rfl, he, hb⟩
        have OS := Lib.hid (OS.out.read (s' := s4) hyb hg2 hg3 he hb)
        clear he hb HF
        go_wp2_with fail
        refine (err_at OS.out.eye).mono ?_
        rintro e y6 ⟨rfl, rfl⟩
        obtain ⟨ec, hec⟩ : ∃ ec, ec = s4.2 := ⟨_, rfl⟩
        rw [← hec]
        by_cases h0 : ec = 0
        · have hb : (ec != 0) = false := by simp [h0]
          have HR : Hid (outR s = ((m, qs), s4)) := Lib.hid (by rw [HER.out, if_pos (by rw [← hec]; exact h0)])
          have RV := Lib.hid (range_of (cs := [.int .i64 m, .slice a k cc]) OS.out.var)
          clear h0 hec HER
          go_wp2_with (first | (refine wpList_load_mid rfl 61 _ rfl q 0 rfl [.int .i64 m, .slice a k cc] _ RV.out Tryz.underlying61 rfl HS4.out ?_) | (refine wpList_store_row rfl 61 _ _ rfl g #[.int .i64 m, .slice a k cc] rfl rfl 61 #[.int .i64 0, .slice none 0 0] OS.out.res HS4.out rfl (two_one _ _ rfl rfl) ?_) | fail)
          refine bodyPost_ret (results_cell_row rfl _ _ g 61 #[.int .i64 m, .slice a k cc] (0, 0) _ rfl (setRow_heap _ g _ _ 61 _ OS.out.res) Tryz.underlying61 rfl HS4.out) rfl ?_
          obtain ⟨q1, q2, q3, q4, q5, q6⟩ := OS.out.out hyb hg2 (but_setRow _ g #[.int .i64 m, .slice a k cc])
          refine ⟨a, k, cc, xs, ?_, q1, q2, q3, ?_, ?_, q5, q6⟩
          · rw [HR.out]
          · rw [HR.out]
            exact HMP.out
          · rw [HR.out]
            exact q4
        · have hb : (ec != 0) = true := by simp [h0]
          have HR : Hid (outR s = ((0, []), s4)) := Lib.hid (by rw [HER.out, if_neg (by rw [← hec]; exact h0)])
          clear h0 hec HER
          go_wp2_with (first | (refine wpList_store_row rfl 61 _ _ rfl g #[.int .i64 0, .slice none 0 0] rfl rfl 61 #[.int .i64 0, .slice none 0 0] OS.out.res HS4.out rfl (two_one _ _ rfl rfl) ?_) | fail)
          refine bodyPost_ret (results_cell_row rfl _ _ g 61 #[.int .i64 0, .slice none 0 0] (0, 0) _ rfl (setRow_heap _ g _ _ 61 _ OS.out.res) Tryz.underlying61 rfl HS4.out) rfl ?_
          obtain ⟨q1, q2, q3, q4, q5, _⟩ := OS.out.out hyb hg2 (but_setRow _ g #[.int .i64 0, .slice none 0 0])
          refine ⟨none, 0, 0, [], ?_, Ways.nil _, (fun x hx => by cases hx), (fun ad e => by cases e), ?_, ?_, q5, (fun h0 => absurd h0 (by omega))⟩
          · rw [HR.out]
          · rw [HR.out]
            rfl
          · rw [HR.out]
            exact q4
      · have h4 : s3 = s4 := HE4.out.symm
        subst h4
        clear HE4
        go_wp2_with fail
        refine (err_at OS.out.eye).mono ?_
        rintro e y6 ⟨rfl, rfl⟩
        obtain ⟨ec, hec⟩ : ∃ ec, ec = s3.2 := ⟨_, rfl⟩
        rw [← hec]
        by_cases h0 : ec = 0
        · have hb : (ec != 0) = false := by simp [h0]
          have HR : Hid (outR s = ((m, qs), s3)) := Lib.hid (by rw [HER.out, if_pos (by rw [← hec]; exact h0)])
          have RV := Lib.hid (range_of (cs := [.int .i64 m, .slice a k cc]) OS.out.var)
          clear h0 hec HER
          go_wp2_with (first | (refine wpList_load_mid rfl 61 _ rfl q 0 rfl [.int .i64 m, .slice a k cc] _ RV.out Tryz.underlying61 rfl HS4.out ?_) | (refine wpList_store_row rfl 61 _ _ rfl g #[.int .i64 m, .slice a k cc] rfl rfl 61 #[.int .i64 0, .slice none 0 0] OS.out.res HS4.out rfl (two_one _ _ rfl rfl) ?_) | fail)
          refine bodyPost_ret (results_cell_row rfl _ _ g 61 #[.int .i64 m, .slice a k cc] (0, 0) _ rfl (setRow_heap _ g _ _ 61 _ OS.out.res) Tryz.underlying61 rfl HS4.out) rfl ?_
          obtain ⟨q1, q2, q3, q4, q5, q6⟩ := OS.out.out hyb hg2 (but_setRow _ g #[.int .i64 m, .slice a k cc])
          refine ⟨a, k, cc, xs, ?_, q1, q2, q3, ?_, ?_, q5, q6⟩
          · rw [HR.out]
          · rw [HR.out]
            exact HMP.out
          · rw [HR.out]
            exact q4
        · have hb : (ec != 0) = true := by simp [h0]
          have HR : Hid (outR s = ((0, []), s3)) := Lib.hid (by rw [HER.out, if_neg (by rw [← hec]; exact h0)])
          clear h0 hec HER
          go_wp2_with (first | (refine wpList_store_row rfl 61 _ _ rfl g #[.int .i64 0, .slice none 0 0] rfl rfl 61 #[.int .i64 0, .slice none 0 0] OS.out.res HS4.out rfl (two_one _ _ rfl rfl) ?_) | fail)
          refine bodyPost_ret (results_cell_row rfl _ _ g 61 #[.int .i64 0, .slice none 0 0] (0, 0) _ rfl (setRow_heap _ g _ _ 61 _ OS.out.res) Tryz.underlying61 rfl HS4.out) rfl ?_
          obtain ⟨q1, q2, q3, q4, q5, _⟩ := OS.out.out hyb hg2 (but_setRow _ g #[.int .i64 0, .slice none 0 0])
          refine ⟨none, 0, 0, [], ?_, Ways.nil _, (fun x hx => by cases hx), (fun ad e => by cases e), ?_, ?_, q5, (fun h0 => absurd h0 (by omega))⟩
          · rw [HR.out]
          · rw [HR.out]
            rfl
          · rw [HR.out]
            exact q4
theorem lockGet_st {w : World} {yb : Nat} {s : List UInt8 × Int} (h : EyeAt w yb s.1 s.2) (hm : s.1.length ≤ 140737488355328) :
    Calls Tryz.prog 40 #[.pointer (some ⟨yb, 0, none⟩)] w (GotOut w yb s) :=
  (lockGet_tag h hm).mono fun _ _ ⟨a, n, c, xs, h1, h2, h3, h4, h5, h6, h7, _⟩ => ⟨a, n, c, xs, h1, h2, h3, h4, h5, h6, h7⟩
end Go.Proofs.YtodbhopeknlgiaaGreatDoor
