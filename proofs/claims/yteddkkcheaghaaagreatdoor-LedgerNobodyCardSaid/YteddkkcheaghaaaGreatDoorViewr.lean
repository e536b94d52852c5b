/- slices.Clone at []int, over slices of numbers. slices.Clone at ways: a row of its own of the same ways. Cells that hold a slice, written; slices.Clone at numbers. Rows of a view in memory: a Ref, an out, a height. No function of the program is named. Law 9's own words: less, find. The order of a view's rows: whole, and one list alone of given rows stands in it. No function of the program is named. What view.compare comes to: places by their sums, then by their places. It lays blocks, and nothing else turns. maps.Keys at a map by places: its iterator, for every loop body that keeps its word. slices.AppendSeq(nil, seq) and slices.Collect(seq) at places, against whatever iterator that gives. slices.SortFunc at places: the places in their order. slices.SortedFunc(maps.Keys(m), compare): the places of a view's coins, in order. view.copied: a coin that is alike, in memory of its own. -/
import Derived.Test.YteddkkcheaghaaaGreatDoorMaps
import Derived.Test.YteddkkcheaghaaaGreatDoorShelf
import Derived.Test.YteddkkcheaghaaaGreatDoorSliceOf
import Derived.Test.YteddkkcheaghaaaGreatDoorLock
import Derived.Test.YteddkkcheaghaaaGreatDoorTx
import Derived.Deep.CutRange
import Derived.Lib.Bytealg
import Derived.Sort.Grow
import Derived.Shelf.SlIter.Collect
import Derived.Shelf.SlSortCmp.NoneTotal
namespace Go.Proofs.YteddkkcheaghaaaGreatDoor
open Go.RowKit

theorem clone_any {w : World} {a : Option Addr} {n c : Nat} {zs : List Int} (h : Numbers w a n c zs) (hn : n ≤ 100000) :
    Calls Tryz.prog 78 #[.slice a n c] w fun e w' => ∃ v, e = .returned v ∧ OwnZ w' 3 w.heap.size v zs ∧ Below w.heap.size w w' := by
  cases a with
  | none =>
    have hc := h.2.2.2.1 rfl
    obtain rfl : n = 0 := by have := h.2.1; omega
    obtain rfl : zs = [] := List.eq_nil_of_length_eq_zero h.1
    exact (Tryz.slices_Clone_int_nil 0 c w).mono fun e w' ⟨he, hw⟩ => ⟨_, he, by rw [hw]; exact OwnZ.nil _ _ _, by rw [hw]; exact Below.refl _ _⟩
  | some ad =>
    by_cases h0 : n = 0
    · subst h0
      obtain rfl : zs = [] := List.eq_nil_of_length_eq_zero h.1
      exact (Tryz.slices_Clone_int_zero ad c w).mono fun e w' ⟨v, he, ho, _, hb⟩ => ⟨v, he, ⟨ho, fun _ h => by cases h⟩, hb⟩
    · obtain ⟨b, off, e, _, hc⟩ := h.2.2.2.2.2 (by omega)
      cases e
      refine (Tryz.slices_Clone_int b off n c zs w (by rw [h.1]; exact Nat.le_refl _) (by omega) (fun j hj => hc j (by rw [← h.1]; exact hj))).mono fun e w' ⟨v, he, ho, _, hb⟩ => ⟨v, he, ⟨?_, h.2.2.2.2.1⟩, hb⟩
      have e1 : zs.take n = zs := List.take_of_length_le (by rw [h.1]; exact Nat.le_refl _)
      rw [e1, ← h.1] at ho
      exact ho
end Go.Proofs.YteddkkcheaghaaaGreatDoor
namespace Go.Proofs.YteddkkcheaghaaaGreatDoor
open Go.RowKit

def wayK9 : Sort8 PWay := ⟨35, PWay.cells, WayIn, noWay, by omega, fun _ _ h => PWay.cells_len h.sum, PWay.cells_one, fun h hb => h.below hb⟩
theorem cloneWays_any {w : World} {a : Option Addr} {n c : Nat} {xs : List PWay} (h : Ways w a n c xs) (hn0 : a = none ∨ 1 ≤ n) (hn : n ≤ 1000) :
    Calls Tryz.prog 139 #[.slice a n c] w fun e w' => ∃ (a' : Option Addr) (c' : Nat), e = .returned (.slice a' n c') ∧ Ways w' a' n c' xs ∧ (a' = none ∨ 1 ≤ n) ∧ (1 ≤ n → ∃ g cur, a' = some ⟨g, 0, none⟩ ∧ w.heap.size ≤ g ∧ w'.heap[g]? = some (.cells cur 170 (0, 0))) ∧ Below w.heap.size w w' := by
  by_cases h0 : 1 ≤ n
  · obtain ⟨b, off, rfl, hlt, hc⟩ := h.2.2.2.2.2 h0
    obtain ⟨i0, hi, hz0, hz1, hz2⟩ := info_parts (show (Tryz.prog.info? 170).map (fun i => (i.zero, i.size, i.bytes)) = some (some (.agg noWay.cells.toArray), 35, 72) by kernel_rfl)
    have hall : ∀ x ∈ xs, (PWay.cells x).length = 35 := fun x hx => PWay.cells_len (h.2.2.2.2.1 x hx).sum
    have hlen : (xs.flatMap PWay.cells).length = n * 35 := by rw [cells_flat_len hall, h.1]
    refine (AnyE.slices_Clone Tryz.laysWays i0 (.agg noWay.cells.toArray) 35 72 hi hz0 hz1 hz2 (by kernel_rfl) (by omega) (by intro w; exact Tryz.sizeOf170 w) b off n c (xs.flatMap PWay.cells) w hlen (by unfold maxLen; omega) (by omega) (fun j u hj => ?_) (fun u hu => ?_)).mono ?_
    · have hjl : j < n * 35 := by rw [← hlen]; exact (List.getElem?_eq_some_iff.1 hj).1
      have h1 : j / 35 < n := Nat.div_lt_of_lt_mul (by omega)
      have h2 : j % 35 < 35 := Nat.mod_lt _ (by omega)
      have h3 := flat_get (d := noWay) hall (j := j / 35) (i := j % 35) (by rw [h.1]; exact h1) h2
      have h4 : j / 35 * 35 + j % 35 = j := Nat.div_add_mod' j 35
      rw [h4, hj] at h3
      have h5 := hc (j / 35) h1 (j % 35) u h3.symm
      rw [show off + j / 35 * 35 + j % 35 = off + j by omega] at h5
      exact h5
    · obtain ⟨x, hx, hu⟩ := List.mem_flatMap.1 hu
      exact PWay.cells_one x u hu
    · rintro e w' ⟨v', rfl, ho, hne, hb⟩
      have hO : OwnOf wayK9 170 w' w.heap.size v' xs := ⟨by rw [h.1]; exact ho, hall⟩
      rcases ho.2 with ⟨_, hz⟩ | ⟨g, cap, cur, rfl, hB, hh, _⟩
      · omega
      · refine ⟨_, _, rfl, ?_, .inr h0, fun _ => ⟨g, cur, rfl, hB, hh⟩, hb⟩
        exact hO.slice (fun x hx => (h.2.2.2.2.1 x hx).below hb)
  · obtain rfl : n = 0 := by omega
    obtain rfl : a = none := hn0.resolve_right h0
    obtain rfl : xs = [] := List.eq_nil_of_length_eq_zero h.1
    refine (AnyE.slices_Clone_nil Tryz.laysWays 0 c w).mono ?_
    rintro e w' ⟨rfl, rfl⟩
    exact ⟨none, 0, rfl, Ways.nil _, .inl rfl, fun h => by omega, Below.refl _ _⟩
/-- A way's keys are written anew: the same numbers, elsewhere. -/
def PWay.at9 (x : PWay) (a : Option Addr) (n c : Nat) : PWay := ⟨a, n, c, x.ks, x.h, x.after, x.wait⟩
theorem at9_strip (x : PWay) (a : Option Addr) (n c : Nat) : (x.at9 a n c).strip = x.strip := rfl
theorem cell_set_other {w : World} {a b : Addr} {v : Value} (h : a ≠ b) : (w.setCell a v).cell? b = w.cell? b := World.cell?_setCell_other w a b v h
theorem cell_set_same {w : World} {a : Addr} {v u : Value} (h : w.cell? a = some u) : (w.setCell a v).cell? a = some v := World.cell?_setCell_same w a v h
theorem numbers_setCell {w : World} {a : Option Addr} {n c : Nat} {zs : List Int} {g o : Nat} {v : Value} (h : Numbers w a n c zs) {u : Value} (hu : w.cell? ⟨g, o, none⟩ = some u) (hnz : ∀ z, u ≠ .int .i64 z) : Numbers (w.setCell ⟨g, o, none⟩ v) a n c zs := by
  obtain ⟨h1, h2, h3, h4, h6, h5⟩ := h
  refine ⟨h1, h2, h3, h4, h6, fun h0 => ?_⟩
  obtain ⟨b, off, rfl, hlt, hc⟩ := h5 h0
  refine ⟨b, off, rfl, by simpa using hlt, fun j hj => ?_⟩
  rw [cell_set_other (fun e => ?_)]
  · exact hc j hj
  · have h9 := hc j hj
    rw [← e, hu] at h9
    exact hnz _ (Option.some.inj h9)
theorem ways_key_set {w : World} {g n c : Nat} {ys : List PWay} {i : Nat} {a2 : Option Addr} {n2 c2 : Nat} (h : Ways w (some ⟨g, 0, none⟩) n c ys) (hi : i < n) (hN : Numbers w a2 n2 c2 (ys.getD i noWay).ks) :
    Ways (w.setCell ⟨g, i * 35, none⟩ (.slice a2 n2 c2)) (some ⟨g, 0, none⟩) n c (ys.set i ((ys.getD i noWay).at9 a2 n2 c2)) := by
  obtain ⟨h1, h2, h3, h4, h6, h5⟩ := h
  obtain ⟨b, off, e, hlt, hc⟩ := h5 (by omega)
  cases e
  have hk : w.cell? ⟨g, i * 35, none⟩ = some (.slice (ys.getD i noWay).a (ys.getD i noWay).n (ys.getD i noWay).c) := by
    have h9 := way_keys (hc i hi)
    rw [Nat.zero_add] at h9
    exact h9
  have hyi : i < ys.length := by omega
  have hwi : WayIn w (ys.getD i noWay) := by
    rw [List.getD_eq_getElem?_getD, List.getElem?_eq_getElem hyi]
    exact h6 _ (List.getElem_mem hyi)
  have kept : ∀ x, WayIn w x → WayIn (w.setCell ⟨g, i * 35, none⟩ (.slice a2 n2 c2)) x := fun x hx => ⟨numbers_setCell hx.keys hk (fun z e => by cases e), hx.sum, hx.after, hx.wait⟩
  have hlen : ∀ j, j < n → (ys.getD j noWay).cells.length = 35 := fun j hj => by
    have hj' : j < ys.length := by omega
    rw [List.getD_eq_getElem?_getD, List.getElem?_eq_getElem hj']
    exact PWay.cells_len (h6 _ (List.getElem_mem hj')).sum
  refine ⟨by rw [List.length_set]; exact h1, h2, h3, h4, fun x hx => ?_, fun _ => ⟨g, 0, rfl, by simpa using hlt, fun j hj k v hv => ?_⟩⟩
  · rcases List.mem_or_eq_of_mem_set hx with hx | rfl
    · exact kept x (h6 x hx)
    · exact ⟨numbers_setCell hN hk (fun z e => by cases e), hwi.sum, hwi.after, hwi.wait⟩
  · rw [Nat.zero_add]
    by_cases hji : j = i
    · subst hji
      have e1 : (ys.set j ((ys.getD j noWay).at9 a2 n2 c2)).getD j noWay = (ys.getD j noWay).at9 a2 n2 c2 := by
        rw [List.getD_eq_getElem?_getD, List.getElem?_set_self hyi]
        rfl
      rw [e1] at hv
      cases k with
      | zero =>
        have e2 : v = .slice a2 n2 c2 := by
          have h9 : (PWay.cells ((ys.getD j noWay).at9 a2 n2 c2))[0]? = some (.slice a2 n2 c2) := rfl
          rw [h9] at hv
          exact (Option.some.inj hv).symm
        rw [e2]
        exact cell_set_same hk
      | succ k =>
        rw [cell_set_other (fun e => by have h9 : j * 35 = j * 35 + (k + 1) := congrArg Addr.off e; omega)]
        have h9 := hc j hj (k + 1) v hv
        rw [Nat.zero_add] at h9
        exact h9
    · have e1 : (ys.set i ((ys.getD i noWay).at9 a2 n2 c2)).getD j noWay = ys.getD j noWay := by
        rw [List.getD_eq_getElem?_getD, List.getElem?_set_ne (fun e => hji e.symm), ← List.getD_eq_getElem?_getD]
      rw [e1] at hv
      have hkl : k < 35 := by
        have h9 := (List.getElem?_eq_some_iff.1 hv).1
        rw [hlen j hj] at h9
        exact h9
      rw [cell_set_other (fun e => by
        have h9 : i * 35 = j * 35 + k := congrArg Addr.off e
        rcases Nat.lt_or_gt_of_ne hji with h8 | h8
        · have := Nat.mul_le_mul_right 35 h8
          omega
        · have := Nat.mul_le_mul_right 35 h8
          omega)]
      have h9 := hc j hj k v hv
      rw [Nat.zero_add] at h9
      exact h9
theorem strip_set {ys : List PWay} {i : Nat} (hi : i < ys.length) (a2 : Option Addr) (n2 c2 : Nat) : (ys.set i ((ys.getD i noWay).at9 a2 n2 c2)).map PWay.strip = ys.map PWay.strip := by
  rw [List.map_set, at9_strip]
  apply List.ext_getElem?
  intro j
  by_cases hj : j = i
  · subst hj
    rw [List.getElem?_set_self (by simpa using hi), List.getElem?_map, List.getElem?_eq_getElem hi, List.getD_eq_getElem?_getD, List.getElem?_eq_getElem hi]
    rfl
  · rw [List.getElem?_set_ne (fun e => hj e.symm)]
end Go.Proofs.YteddkkcheaghaaaGreatDoor
namespace Go.Proofs.YteddkkcheaghaaaGreatDoor
open Go.RowKit

theorem heap_setCell_ne {w : World} {g o k : Nat} (h : k ≠ g) (v : Value) : (w.setCell ⟨g, o, none⟩ v).heap[k]? = w.heap[k]? := Below.heap_setCell _ _ _ k (fun e => h e)
theorem heap_setCell_eq {w : World} {g : Nat} {cur : Array Value} {t : TypeId} (h : w.heap[g]? = some (.cells cur t (0, 0))) (o : Nat) (v : Value) : (w.setCell ⟨g, o, none⟩ v).heap[g]? = some (.cells (cur.setIfInBounds o v) t (0, 0)) := by
  obtain ⟨hlt, hk⟩ := Array.getElem?_eq_some_iff.1 h
  show (w.heap.modify g _)[g]? = _
  rw [Array.getElem?_eq_getElem (by rw [Array.size_modify]; exact hlt), Array.getElem_modify_self, hk]
  rfl
theorem below_setCell9 {B : Nat} {w0 w : World} (h : Below B w0 w) {g : Nat} (hg : B ≤ g) (o : Nat) (v : Value) : Below B w0 (w.setCell ⟨g, o, none⟩ v) := h.setCell (p := ⟨g, o, none⟩) hg v
theorem ways_setCell {w : World} {a : Option Addr} {n c : Nat} {xs : List PWay} {g o : Nat} {u v : Value} (h : Ways w a n c xs) (hu : w.cell? ⟨g, o, none⟩ = some u) (hnz : ∀ z, u ≠ .int .i64 z) (hne : 0 < n → ∀ x, a = some x → x.block ≠ g) : Ways (w.setCell ⟨g, o, none⟩ v) a n c xs := by
  obtain ⟨h1, h2, h3, h4, h6, h5⟩ := h
  refine ⟨h1, h2, h3, h4, fun x hx => ⟨numbers_setCell (h6 x hx).keys hu hnz, (h6 x hx).sum, (h6 x hx).after, (h6 x hx).wait⟩, fun h0 => ?_⟩
  obtain ⟨b, off, rfl, hlt, hc⟩ := h5 h0
  refine ⟨b, off, rfl, by simpa using hlt, fun j hj k v hv => ?_⟩
  rw [cell_set_other (fun e => hne h0 _ rfl (congrArg Addr.block e).symm)]
  exact hc j hj k v hv
theorem cloneZ_any {w : World} {a : Option Addr} {n c : Nat} {zs : List Int} (h : Numbers w a n c zs) (hn : n ≤ 100000) :
    Calls Tryz.prog 78 #[.slice a n c] w fun e w' => ∃ (a' : Option Addr) (c' : Nat), e = .returned (.slice a' n c') ∧ Numbers w' a' n c' zs ∧ (∀ x, a' = some x → ∃ cs fr, w'.heap[x.block]? = some (.cells cs 3 fr)) ∧ Below w.heap.size w w' := by
  refine (clone_any h hn).mono ?_
  rintro e w' ⟨v, rfl, ho, hb⟩
  obtain ⟨a', c', rfl, _⟩ := ho.shape
  have hf : ∀ x, a' = some x → ∃ cs fr, w'.heap[x.block]? = some (.cells cs 3 fr) := fun x e => by
    subst e
    rcases ho.1.2 with ⟨hv, _⟩ | ⟨g, cap, cur, hv, _, hh, _⟩
    · cases hv
    · cases hv
      exact ⟨_, _, hh⟩
  have h9 := ho.numbers
  rw [h.1] at h9
  exact ⟨a', c', by rw [h.1], h9, hf, hb⟩
/-- A way's keys lie in a block of numbers. -/
def TypedKey (w : World) (y : PWay) : Prop := 0 < y.n → ∀ x, y.a = some x → ∃ cs fr, w.heap[x.block]? = some (.cells cs 3 fr)
/-- Ways lie in a block of ways, their keys in blocks of numbers. -/
def TypedW (w : World) (a : Option Addr) (n : Nat) (ys : List PWay) : Prop := (0 < n → ∀ x, a = some x → ∃ cs fr, w.heap[x.block]? = some (.cells cs 170 fr)) ∧ ∀ y ∈ ys, TypedKey w y
theorem TypedKey.but {w w' : World} {y : PWay} {p : Nat} (h : TypedKey w y) (hb : But w.heap.size p w w') (hp : ∀ cs fr, w.heap[p]? ≠ some (.cells cs 3 fr)) : TypedKey w' y := fun h0 x e => by
  obtain ⟨cs, fr, hh⟩ := h h0 x e
  exact ⟨cs, fr, hb.heap hh (lt_of_block hh) (fun e2 => hp cs fr (by rw [← e2]; exact hh))⟩
theorem TypedKey.below {w w' : World} {y : PWay} (h : TypedKey w y) (hb : Below w.heap.size w w') : TypedKey w' y := fun h0 x e => by
  obtain ⟨cs, fr, hh⟩ := h h0 x e
  exact ⟨cs, fr, (hb.block _ (lt_of_block hh)).trans hh⟩
theorem TypedW.below {w w' : World} {a : Option Addr} {n : Nat} {ys : List PWay} (h : TypedW w a n ys) (hb : Below w.heap.size w w') : TypedW w' a n ys :=
  ⟨fun h0 x e => by
    obtain ⟨cs, fr, hh⟩ := h.1 h0 x e
    exact ⟨cs, fr, (hb.block _ (lt_of_block hh)).trans hh⟩, fun y hy => (h.2 y hy).below hb⟩
theorem ways_typed9 {w w' : World} {a : Option Addr} {n c p : Nat} {ys : List PWay} (h : Ways w a n c ys) (ht : TypedW w a n ys) (hb : But w.heap.size p w w') (hp : ∀ cs fr, w.heap[p]? ≠ some (.cells cs 170 fr) ∧ w.heap[p]? ≠ some (.cells cs 3 fr)) : Ways w' a n c ys ∧ TypedW w' a n ys := by
  refine ⟨?_, ⟨fun h0 x e => ?_, fun y hy => (ht.2 y hy).but hb (fun cs fr => (hp cs fr).2)⟩⟩
  · obtain ⟨h1, h2, h3, h4, h6, h5⟩ := h
    refine ⟨h1, h2, h3, h4, fun y hy => ⟨?_, (h6 y hy).sum, (h6 y hy).after, (h6 y hy).wait⟩, fun h0 => ?_⟩
    · obtain ⟨k1, k2, k3, k4, k6, k5⟩ := (h6 y hy).keys
      refine ⟨k1, k2, k3, k4, k6, fun h0 => ?_⟩
      obtain ⟨b, off, e, hlt, hc⟩ := k5 h0
      obtain ⟨cs, fr, hh⟩ := ht.2 y hy h0 _ e
      have hne : b ≠ p := fun e2 => (hp cs fr).2 (by rw [← e2]; exact hh)
      exact ⟨b, off, e, Nat.lt_of_lt_of_le hlt hb.size, fun j hj => (hb.cell (a := ⟨b, off + j, none⟩) hlt hne).trans (hc j hj)⟩
    · obtain ⟨b, off, e, hlt, hc⟩ := h5 h0
      obtain ⟨cs, fr, hh⟩ := ht.1 h0 _ e
      have hne : b ≠ p := fun e2 => (hp cs fr).1 (by rw [← e2]; exact hh)
      exact ⟨b, off, e, Nat.lt_of_lt_of_le hlt hb.size, fun j hj i v hv => (hb.cell (a := ⟨b, off + j * 35 + i, none⟩) hlt hne).trans (hc j hj i v hv)⟩
  · obtain ⟨cs, fr, hh⟩ := ht.1 h0 x e
    exact ⟨cs, fr, hb.heap hh (lt_of_block hh) (fun e2 => (hp cs fr).1 (by rw [← e2]; exact hh))⟩
theorem typed_set {ys : List PWay} {j : Nat} {w : World} {y : PWay} (h : ∀ i, i < j → TypedKey w (ys.getD i noWay)) (hj : j < ys.length) (hy : TypedKey w y) : ∀ i, i < j + 1 → TypedKey w ((ys.set j y).getD i noWay) := fun i hi => by
  by_cases e : i = j
  · subst e
    rw [List.getD_eq_getElem?_getD, List.getElem?_set_self hj]
    exact hy
  · rw [List.getD_eq_getElem?_getD, List.getElem?_set_ne (fun e2 => e e2.symm), ← List.getD_eq_getElem?_getD]
    exact h i (by omega)
theorem But.below9 {B B' p : Nat} {w w' : World} (h : But B p w w') (hp : B' ≤ p) (hB : B' ≤ B) : Below B' w w' := ⟨h.os, h.tape, h.output, h.size, fun k hk => h.block k (by omega) (by omega)⟩
theorem but_setCell9 (w : World) (g o : Nat) (v : Value) : But w.heap.size g w (w.setCell ⟨g, o, none⟩ v) := (But.refl w.heap.size g w).setCell ⟨g, o, none⟩ (.inl rfl) v
/-- Ways whose keys are few. -/
def FewKeys (xs : List PWay) : Prop := ∀ x ∈ xs, x.ks.length ≤ 1000
theorem fewKeys_strip {xs ys : List PWay} (h : ys.map PWay.strip = xs.map PWay.strip) (hx : FewKeys xs) : FewKeys ys := fun y hy => by
  have h1 : y.strip ∈ xs.map PWay.strip := by rw [← h]; exact List.mem_map.2 ⟨y, hy, rfl⟩
  obtain ⟨x, hx1, hx2⟩ := List.mem_map.1 h1
  have h2 : y.ks = x.ks := (congrArg PWay.ks hx2).symm
  rw [h2]
  exact hx x hx1
end Go.Proofs.YteddkkcheaghaaaGreatDoor
namespace Go.Proofs.YteddkkcheaghaaaGreatDoor
open Go.RowKit

/-- A row. -/
structure PRow where
  tx : List UInt8
  place : Int
  out : POut
  height : Int
def PRow.cells (x : PRow) : List Value := cellsOf x.tx ++ (.int .i64 x.place :: (x.out.cells ++ [.int .i64 x.height]))
def noRow : PRow := ⟨zero32, 0, noOut, 0⟩
structure RowIn (w : World) (x : PRow) : Prop where
  tx : x.tx.length = 32
  place : Fits x.place
  out : OutIn w x.out
  height : Fits x.height
theorem OutIn.below {w w' : World} {x : POut} (h : OutIn w x) (hb : Below w.heap.size w w') : OutIn w' x := ⟨h.m, h.ws.below hb⟩
theorem RowIn.below {w w' : World} {x : PRow} (h : RowIn w x) (hb : Below w.heap.size w w') : RowIn w' x := ⟨h.tx, h.place, h.out.below hb, h.height⟩
theorem PRow.len {x : PRow} (h : x.tx.length = 32) : x.cells.length = 36 := by simp [PRow.cells, POut.cells, cellsOf_len, h]
theorem PRow.one (x : PRow) : ∀ v ∈ x.cells, v.oneCell' = true := by
  intro v hv
  simp only [PRow.cells, List.mem_cons, List.mem_append, List.not_mem_nil, or_false] at hv
  rcases hv with hv | rfl | hv | rfl
  · exact cellsOf_one _ v hv
  · rfl
  · exact x.out.one v hv
  · rfl
def rowK : Sort8 PRow := ⟨36, PRow.cells, RowIn, noRow, by omega, fun _ _ h => PRow.len h.tx, PRow.one, fun h hb => h.below hb⟩
theorem row_out {w : World} {b o : Nat} {x : PRow} (ht : x.tx.length = 32) (h : w.rangeAt b o x.cells) : w.rangeAt b (o + 33) x.out.cells := mid_range h (fun j v hv => by
  have hj := (List.getElem?_eq_some_iff.1 hv).1
  unfold PRow.cells
  rw [List.getElem?_append_right (by rw [cellsOf_len, ht]; omega), cellsOf_len, ht, show 33 + j - 32 = j + 1 by omega, List.getElem?_cons_succ, List.getElem?_append_left hj]
  exact hv)
theorem Tryz.sizeRow : (Tryz.prog.info? 132).map (·.size) = some 36 := by kernel_rfl
theorem row_size {x : PRow} (h : x.tx.length = 32) : (Tryz.prog.info? 132).map (·.size) = some x.cells.length := by rw [PRow.len h]; exact Tryz.sizeRow
end Go.Proofs.YteddkkcheaghaaaGreatDoor
namespace Go.Proofs.YteddkkcheaghaaaGreatDoor
open Go.RowKit

/-- Does a place stand ahead of another one? -/
def refLess : List UInt8 → List UInt8 → Int → Int → Bool
  | x :: xs, y :: ys, p, q => if x.toNat = y.toNat then refLess xs ys p q else decide (x.toNat < y.toNat)
  | _, _, p, q => decide (p < q)
theorem ref_at {W : World} {b o : Nat} {s : List UInt8} {p : Int} (hs : s.length = 32) (h : W.rangeAt b o (refCells s p)) : W.cell? ⟨b, o + 32, none⟩ = some (.int .i64 p) := h 32 _ (by
  unfold refCells
  rw [List.getElem?_append_right (by rw [cellsOf_len, hs]; omega), cellsOf_len, hs]
  rfl)
end Go.Proofs.YteddkkcheaghaaaGreatDoor
namespace Go.Proofs.YteddkkcheaghaaaGreatDoor
open Go.RowKit

theorem refLess_irrefl : ∀ (s : List UInt8) (p : Int), refLess s s p p = false
  | [], p => by simp [refLess]
  | x :: s, p => by rw [refLess, if_pos rfl]; exact refLess_irrefl s p
theorem refLess_total : ∀ {s t : List UInt8} {p q : Int}, s.length = t.length → refLess s t p q = false → refLess t s q p = false → s = t ∧ p = q
  | [], [], p, q, _, h1, h2 => by
    simp [refLess] at h1 h2
    exact ⟨rfl, by omega⟩
  | [], _ :: _, _, _, h, _, _ => by simp at h
  | _ :: _, [], _, _, h, _, _ => by simp at h
  | x :: s, y :: t, p, q, h, h1, h2 => by
    unfold refLess at h1 h2
    by_cases e : x.toNat = y.toNat
    · rw [if_pos e] at h1
      rw [if_pos e.symm] at h2
      obtain ⟨h3, h4⟩ := refLess_total (by simpa using h) h1 h2
      exact ⟨by rw [h3, UInt8.toNat_inj.1 e], h4⟩
    · rw [if_neg e] at h1
      rw [if_neg (fun e' => e e'.symm)] at h2
      simp at h1 h2
      omega
theorem refLess_trans : ∀ {s t u : List UInt8} {p q r : Int}, s.length = t.length → t.length = u.length → refLess s t p q = true → refLess t u q r = true → refLess s u p r = true
  | [], [], [], p, q, r, _, _, h1, h2 => by
    simp [refLess] at h1 h2 ⊢
    omega
  | [], _ :: _, _, _, _, _, h, _, _, _ => by simp at h
  | _ :: _, [], _, _, _, _, h, _, _, _ => by simp at h
  | _, [], _ :: _, _, _, _, _, h, _, _ => by simp at h
  | _, _ :: _, [], _, _, _, _, h, _, _ => by simp at h
  | x :: s, y :: t, z :: u, p, q, r, ha, hb, h1, h2 => by
    unfold refLess at h1 h2 ⊢
    by_cases e1 : x.toNat = y.toNat
    · rw [if_pos e1] at h1
      by_cases e2 : y.toNat = z.toNat
      · rw [if_pos e2] at h2
        rw [if_pos (e1.trans e2)]
        exact refLess_trans (by simpa using ha) (by simpa using hb) h1 h2
      · rw [if_neg e2] at h2
        rw [if_neg (by omega)]
        simp at h2 ⊢
        omega
    · rw [if_neg e1] at h1
      simp at h1
      by_cases e2 : y.toNat = z.toNat
      · rw [if_neg (by omega)]
        simp
        omega
      · rw [if_neg e2] at h2
        simp at h2
        rw [if_neg (by omega)]
        simp
        omega
def rowLess (x y : PRow) : Prop := refLess x.tx y.tx x.place y.place = true
/-- Rows that rise. -/
def Rising (xs : List PRow) : Prop := xs.Pairwise rowLess ∧ ∀ x ∈ xs, x.tx.length = 32
theorem rowLess_irrefl (x : PRow) : ¬ rowLess x x := by
  unfold rowLess
  rw [refLess_irrefl]
  simp
theorem rowLess_trans {x y z : PRow} (hx : x.tx.length = 32) (hy : y.tx.length = 32) (hz : z.tx.length = 32) (h1 : rowLess x y) (h2 : rowLess y z) : rowLess x z := refLess_trans (by omega) (by omega) h1 h2
/-- Rising lists of the same rows are one. -/
theorem rising_one : ∀ {xs ys : List PRow}, Rising xs → Rising ys → (∀ x, x ∈ xs ↔ x ∈ ys) → xs = ys
  | [], [], _, _, _ => rfl
  | [], y :: ys, _, _, h => by have := (h y).2 (by simp); simp at this
  | x :: xs, [], _, _, h => by have := (h x).1 (by simp); simp at this
  | x :: xs, y :: ys, hx, hy, h => by
    obtain ⟨px, lx⟩ := hx
    obtain ⟨py, ly⟩ := hy
    obtain ⟨px1, px2⟩ := List.pairwise_cons.1 px
    obtain ⟨py1, py2⟩ := List.pairwise_cons.1 py
    have exy : x = y := by
      rcases List.mem_cons.1 ((h x).1 (by simp)) with e | e
      · exact e
      · rcases List.mem_cons.1 ((h y).2 (by simp)) with e2 | e2
        · exact e2.symm
        · exact absurd (rowLess_trans (lx x (by simp)) (ly y (by simp)) (lx x (by simp)) (px1 y e2) (py1 x e)) (rowLess_irrefl x)
    subst exy
    rw [rising_one ⟨px2, fun z hz => lx z (by simp [hz])⟩ ⟨py2, fun z hz => ly z (by simp [hz])⟩ (fun z => ?_)]
    have hz := h z
    constructor
    · intro hm
      rcases List.mem_cons.1 (hz.1 (by simp [hm])) with e | e
      · subst e; exact absurd (px1 z hm) (rowLess_irrefl z)
      · exact e
    · intro hm
      rcases List.mem_cons.1 (hz.2 (by simp [hm])) with e | e
      · subst e; exact absurd (py1 z hm) (rowLess_irrefl z)
      · exact e
/-- A row more, at its place. -/
def insRow (r : PRow) : List PRow → List PRow
  | [] => [r]
  | x :: xs => if refLess r.tx x.tx r.place x.place = true then r :: x :: xs else x :: insRow r xs
theorem insRow_mem {r x : PRow} : ∀ {xs : List PRow}, x ∈ insRow r xs ↔ x = r ∨ x ∈ xs
  | [] => by simp [insRow]
  | y :: ys => by
    unfold insRow
    split
    · simp
    · rw [List.mem_cons, insRow_mem (xs := ys), List.mem_cons]
      constructor
      · rintro (h | h | h)
        · exact .inr (.inl h)
        · exact .inl h
        · exact .inr (.inr h)
      · rintro (h | h | h)
        · exact .inr (.inl h)
        · exact .inl h
        · exact .inr (.inr h)
theorem insRow_len (r : PRow) : ∀ xs : List PRow, (insRow r xs).length = xs.length + 1
  | [] => rfl
  | y :: ys => by
    unfold insRow
    split
    · rfl
    · simp [insRow_len r ys]
theorem insRow_rising {r : PRow} (hr : r.tx.length = 32) : ∀ {xs : List PRow}, Rising xs → (∀ x ∈ xs, ¬ (x.tx = r.tx ∧ x.place = r.place)) → Rising (insRow r xs)
  | [], _, _ => ⟨by simp [insRow], fun x hx => by simp [insRow] at hx; subst hx; exact hr⟩
  | y :: ys, h, hne => by
    obtain ⟨ph, lh⟩ := h
    obtain ⟨ph1, ph2⟩ := List.pairwise_cons.1 ph
    have ly := lh y (by simp)
    unfold insRow
    split
    · rename_i hl
      refine ⟨List.pairwise_cons.2 ⟨fun z hz => ?_, ph⟩, fun z hz => ?_⟩
      · rcases List.mem_cons.1 hz with e | e
        · subst e; exact hl
        · exact rowLess_trans hr ly (lh z (by simp [e])) hl (ph1 z e)
      · rcases List.mem_cons.1 hz with e | e
        · subst e; exact hr
        · exact lh z e
    · rename_i hl
      have hyr : rowLess y r := by
        unfold rowLess
        cases h1 : refLess y.tx r.tx y.place r.place with
        | true => rfl
        | false =>
          exfalso
          obtain ⟨e1, e2⟩ := refLess_total (by omega) h1 (by simpa using hl)
          exact hne y (by simp) ⟨e1, e2⟩
      obtain ⟨q1, q2⟩ := insRow_rising hr (xs := ys) ⟨ph2, fun z hz => lh z (by simp [hz])⟩ (fun z hz => hne z (by simp [hz]))
      refine ⟨List.pairwise_cons.2 ⟨fun z hz => ?_, q1⟩, fun z hz => ?_⟩
      · rcases insRow_mem.1 hz with e | e
        · subst e; exact hyr
        · exact ph1 z e
      · rcases List.mem_cons.1 hz with e | e
        · subst e; exact ly
        · exact q2 z e
/-- A row less. -/
theorem rising_erase {xs : List PRow} (h : Rising xs) (k : Nat) : Rising (xs.eraseIdx k) :=
  ⟨h.1.sublist (List.eraseIdx_sublist xs k), fun x hx => h.2 x ((List.eraseIdx_sublist xs k).subset hx)⟩
end Go.Proofs.YteddkkcheaghaaaGreatDoor
namespace Go.Proofs.YteddkkcheaghaaaGreatDoor
open Go.RowKit Go.Sort

/-- New blocks, and draws, and no more. -/
def Grew (w w' : World) : Prop := ∃ q os, w' = grow (w.drewN q) os
theorem Grew.refl (w : World) : Grew w w := ⟨0, #[], by simp [World.drewN]⟩
theorem Grew.drew {w w' : World} (h : Grew w w') : Grew w w'.drew := by
  obtain ⟨q, os, rfl⟩ := h
  exact ⟨q + 1, os, by simp [grow, World.drewN, World.drew, Nat.add_assoc]⟩
theorem Grew.alloc {w w' : World} (h : Grew w w') (o : Obj) : Grew w (w'.alloc o) := by
  obtain ⟨q, os, rfl⟩ := h
  exact ⟨q, os ++ #[o], by rw [alloc_eq_grow, grow_grow]⟩
theorem Grew.below {w w' : World} (h : Grew w w') : Below w.heap.size w w' := by
  obtain ⟨q, os, rfl⟩ := h
  refine ⟨rfl, rfl, rfl, by simp [grow, World.drewN], fun k hk => ?_⟩
  show (w.heap ++ os)[k]? = w.heap[k]?
  exact Array.getElem?_append_left hk
theorem step_two9 {ops : Array Oper} {o : Oper} {tmps : Array Value} {ds : List Deferred} {w : World} {K : Act → World → Prop} {Q : Exit → Act → World → Prop} {E : Prop} {d : Nat} {u v : Operand} {y z : Int} (hd : o.dst = some d) (hw : Region.wanted o (yielded ops tmps) = true) (ho : o.op = .buildSlice 38 2 #[(0, u), (1, v)])
    (hu : Act.eval { tmps := tmps, defers := ds } u = .int .i64 y) (hv : Act.eval { tmps := tmps, defers := ds } v = .int .i64 z)
    (h : K { tmps := tmps.setIfInBounds d (.slice (some ⟨w.heap.size, 0, none⟩) 2 2), defers := ds } (w.alloc (.cells #[.int .i64 y, .int .i64 z] 3))) :
    if Region.wanted o (yielded ops tmps) = true then Oper.wp Tryz.prog o { tmps := tmps, defers := ds } w K Q else E := by
  rw [if_pos hw]
  obtain ⟨ie, h1, h2, h3, _⟩ := info_parts (show (Tryz.prog.info? 3).map (fun i => (i.zero, i.size, i.bytes)) = some (some (.int .i64 0), 1, 8) by kernel_rfl)
  have hrun : (Instr.buildSlice 38 2 #[(0, .int .i64 y), (1, .int .i64 z)]).run Tryz.prog w = .ok (.slice (some ⟨w.heap.size, 0, none⟩) 2 2) (w.alloc (.cells #[.int .i64 y, .int .i64 z] 3)) :=
    run_buildSlice w 38 3 2 _ _ ie _ Tryz.underlying38 h1 h2 (by rw [h3]; omega) (by rw [h3]; omega) (by rw [h3]; simp [Instr.fill, Value.cells]; rw [show Array.range 2 = #[0, 1] by rfl]; simp)
  unfold Oper.wp execOp
  simp only [ho, List.map_toArray, List.map_cons, List.map_nil, hu, hv, Sem.run_bind, hrun, Sem.run_pure, Result.andThen_ok]
  show K (Act.put _ o.dst _) _
  rw [hd]
  exact h

/-! ### bytes.Compare -/
theorem run_loadBytes9 {w : World} {b : Nat} : ∀ (n off : Nat) (l : List UInt8) (acc : ByteArray), l.length = n → (∀ j, j < n → w.cell? ⟨b, off + j, none⟩ = some (.int .u8 (((l.getD j 0).toNat : Nat) : Int))) → (Extern.Bytes.loadBytes ⟨b, off, none⟩ n acc).run Tryz.prog w = .ok (⟨acc.data ++ l.toArray⟩ : ByteArray) w
  | 0, _, l, acc, hl, _ => by
    obtain rfl : l = [] := List.eq_nil_of_length_eq_zero hl
    simp [Extern.Bytes.loadBytes]
  | n + 1, off, l, acc, hl, hc => by
    match l, hl with
    | x :: l, hl =>
      have h0 : w.cell? ⟨b, off, none⟩ = some (.int .u8 ((x.toNat : Nat) : Int)) := hc 0 (by omega)
      have ih := run_loadBytes9 (w := w) (b := b) n (off + 1) l (acc.push x) (by simpa using hl) (fun j hj => by
        have h9 := hc (j + 1) (by omega)
        rw [show off + 1 + j = off + (j + 1) by omega, h9]
        simp)
      have hb := x.toNat_lt
      have h8 : (load ⟨b, off, none⟩).run Tryz.prog w = .ok (.int .u8 ((x.toNat : Nat) : Int)) w := by simp only [run_load, h0]
      have e : (UInt8.ofNat ((x.toNat : Nat) : Int).toNat) = x := by simp
      simp only [Extern.Bytes.loadBytes, Sem.run_bind, h8, Result.andThen]
      show (Extern.Bytes.loadBytes ⟨b, off + 1, none⟩ n (acc.push (UInt8.ofNat ((x.toNat : Nat) : Int).toNat))).run Tryz.prog w = _
      rw [e, ih]
      simp [ByteArray.push]
theorem bytealg_any {w : World} {b : Nat} {c d b2 : Nat} {s t : List UInt8} (hs : s.length = 32) (ht : t.length = 32) (h1 : w.rangeAt b 0 (cellsOf s)) (h2 : w.rangeAt b2 0 (cellsOf t)) :
    (Extern.BytealgCompare.compare #[.slice (some ⟨b, 0, none⟩) 32 c, .slice (some ⟨b2, 0, none⟩) 32 d]).run Tryz.prog w = .ok (.int .i64 (Lib.compareBytes s t)) w := by
  have e1 : (Extern.Bytes.bytesOf (.slice (some ⟨b, 0, none⟩) 32 c)).run Tryz.prog w = .ok (⟨s.toArray⟩ : ByteArray) w := by
    have h9 := run_loadBytes9 (w := w) (b := b) 32 0 s .empty hs (fun j hj => h1 j _ (cellsOf_get (by omega)))
    rw [show ((ByteArray.empty).data ++ s.toArray) = s.toArray from by show #[] ++ s.toArray = _; simp] at h9
    exact h9
  have e2 : (Extern.Bytes.bytesOf (.slice (some ⟨b2, 0, none⟩) 32 d)).run Tryz.prog w = .ok (⟨t.toArray⟩ : ByteArray) w := by
    have h9 := run_loadBytes9 (w := w) (b := b2) 32 0 t .empty ht (fun j hj => h2 j _ (cellsOf_get (by omega)))
    rw [show ((ByteArray.empty).data ++ t.toArray) = t.toArray from by show #[] ++ t.toArray = _; simp] at h9
    exact h9
  change Sem.run Tryz.prog (do pure (goInt (Extern.BytealgCompare.cmp (← Extern.Bytes.bytesOf (.slice (some ⟨b, 0, none⟩) 32 c)) (← Extern.Bytes.bytesOf (.slice (some ⟨b2, 0, none⟩) 32 d))))) w = _
  simp only [Sem.run_bind, e1, e2, Sem.run_pure, Result.andThen]
  rw [Lib.cmp_eq]
  rfl
set_option linter.unusedSimpArgs false in
set_option maxRecDepth 100000 in
set_option maxHeartbeats 12800000 in
theorem bytesCompare_any {w : World} {b : Nat} {c d b2 : Nat} {s t : List UInt8} (hs : s.length = 32) (ht : t.length = 32) (h1 : w.rangeAt b 0 (cellsOf s)) (h2 : w.rangeAt b2 0 (cellsOf t)) :
    Calls Tryz.prog 205 #[.slice (some ⟨b, 0, none⟩) 32 c, .slice (some ⟨b2, 0, none⟩) 32 d] w fun e w' => e = .returned (.int .i64 (Lib.compareBytes s t)) ∧ w = w' := by
  have hrun := bytealg_any (c := c) (d := d) hs ht h1 h2
  generalize Lib.compareBytes s t = r at hrun ⊢
  have HR := Lib.hid hrun
  clear hrun h1 h2 hs ht
  go_enter Tryz.func205, Tryz.ntmps205
  go_wp2
  rw [run_callFunc_extern Tryz.func225 (by kernel_rfl) (by kernel_rfl) (by kernel_rfl) (e := Extern.BytealgCompare.compare) (by kernel_rfl), HR.out]
  simp only [Result.andThen]
  rw [Oper.upon_value]
  go_wp2
  go_ret
  exact ⟨rfl, rfl⟩

/-! ### cmp.Or -/
def firstOf : List Int → Int
  | [] => 0
  | z :: zs => if z = 0 then firstOf zs else z
set_option linter.unusedSimpArgs false in
set_option maxRecDepth 100000 in
set_option maxHeartbeats 12800000 in
theorem or_any {w : World} {a : Option Addr} {n c : Nat} {zs : List Int} (h : Numbers w a n c zs) : Calls Tryz.prog 204 #[.slice a n c] w fun e w' => e = .returned (.int .i64 (firstOf zs)) ∧ w = w' := by
  obtain ⟨R, hR⟩ : ∃ R, R = firstOf zs := ⟨_, rfl⟩
  rw [← hR]
  have hlen := h.1
  have hn63 : (n : Int) ≤ 9223372036854775807 := by have h1 := h.2.1; have h2 := h.2.2.1; unfold maxLen at h2; omega
  have H := Lib.hid h
  have HR := Lib.hid hR
  have HL := Lib.hid hlen
  clear h hR hlen
  go_enter Tryz.func204, Tryz.ntmps204
  go_wp2
  go_loop [8] (fun i => ∃ (k : Nat), k ≤ n ∧ i = .int .i64 k ∧ R = firstOf (zs.drop k)) (fun i => n - (intOf i).toNat)
  case atStart => exact ⟨0, Nat.zero_le _, rfl, HR.out⟩
  case round =>
    obtain ⟨k, hk, rfl, hRk⟩ := hrel
    by_cases hkn : k < n
    · have f1 : (k : Int) < (n : Int) := by omega
      have f0 : (0 : Int) ≤ (k : Int) := by omega
      have ft : ((k : Int)).toNat = k := by omega
      obtain ⟨b, off, rfl, _, hcells⟩ := H.out.2.2.2.2.2 (by omega)
      have hc := hcells k hkn
      rw [drop_cons (by rw [HL.out]; exact hkn)] at hRk
      obtain ⟨z, hz⟩ : ∃ z, z = zs.getD k 0 := ⟨_, rfl⟩
      rw [← hz] at hc hRk
      have HRK := Lib.hid hRk
      clear hRk hz hcells HR
      by_cases h1 : z = 0
      · have hR5 := HRK.out
        rw [firstOf, if_pos h1] at hR5
        have HR5 := Lib.hid hR5
        subst h1
        clear hR5 HRK
        go_wp2
        go_round
        case rel => exact ⟨k + 1, by omega, by go_num, HR5.out⟩
        case measure => simp [intOf]; omega
      · have hR5 := HRK.out
        rw [firstOf, if_neg h1] at hR5
        subst hR5
        clear HRK
        go_wp2
        go_ret
        exact ⟨rfl, rfl⟩
    · have f1 : ¬ ((k : Int) < (n : Int)) := by omega
      have hd : zs.drop k = [] := List.drop_of_length_le (by rw [HL.out]; omega)
      rw [hd] at hRk
      have hRk : R = 0 := hRk
      subst hRk
      clear HR
      go_wp2
      go_ret
      exact ⟨rfl, rfl⟩
/-! ### view.compare -/
/-- A place. -/
structure RefD where
  tx : List UInt8
  place : Int
  hs : tx.length = 32
  hp : Fits place
def RefD.cells (x : RefD) : List Value := refCells x.tx x.place
def refCmp (x y : RefD) : Int := firstOf [Lib.compareBytes x.tx y.tx, Lib.compareInt x.place y.place]
theorem compareBytes_small : ∀ s t : List UInt8, Lib.compareBytes s t = 0 ∨ Lib.compareBytes s t = 1 ∨ Lib.compareBytes s t = -1
  | [], [] => by simp [Lib.compareBytes]
  | [], _ :: _ => by simp [Lib.compareBytes]
  | _ :: _, [] => by simp [Lib.compareBytes]
  | a :: s, b :: t => by
    have ih := compareBytes_small s t
    simp only [Lib.compareBytes]
    split
    · exact .inr (.inr rfl)
    · split
      · exact .inr (.inl rfl)
      · exact ih
theorem compareInt_small (p q : Int) : Lib.compareInt p q = 0 ∨ Lib.compareInt p q = 1 ∨ Lib.compareInt p q = -1 := by
  unfold Lib.compareInt
  split
  · exact .inr (.inr rfl)
  · split
    · exact .inr (.inl rfl)
    · exact .inl rfl
set_option linter.unusedSimpArgs false in
set_option maxRecDepth 100000 in
set_option maxHeartbeats 12800000 in
theorem compare_any (x y : RefD) (w : World) : Calls Tryz.prog 172 #[.agg x.cells.toArray, .agg y.cells.toArray] w fun e w' => e = .returned (.int .i64 (refCmp x y)) ∧ Grew w w' := by
  obtain ⟨s, p, hs, hp⟩ := x
  obtain ⟨t, q, ht, hq⟩ := y
  show Calls _ _ #[.agg (refCells s p).toArray, .agg (refCells t q).toArray] w _
  obtain ⟨R, hR⟩ : ∃ R, firstOf [Lib.compareBytes s t, Lib.compareInt p q] = R := ⟨_, rfl⟩
  have hR2 : refCmp ⟨s, p, hs, hp⟩ ⟨t, q, ht, hq⟩ = R := hR
  rw [hR2]
  clear hR2
  have fy : Fits (Lib.compareBytes s t) := by rcases compareBytes_small s t with h | h | h <;> rw [h] <;> constructor <;> decide
  have fz : Fits (Lib.compareInt p q) := by rcases compareInt_small p q with h | h | h <;> rw [h] <;> constructor <;> decide
  have hs1 : s.length = 32 := hs
  have ht1 : t.length = 32 := ht
  have b0 : Grew w ((w.alloc (.cells (refCells s p).toArray 71)).alloc (.cells (refCells t q).toArray 71)) := ((Grew.refl w).alloc _).alloc _
  have h1 : ((w.alloc (.cells (refCells s p).toArray 71)).alloc (.cells (refCells t q).toArray 71)).heap[w.heap.size]? = some (.cells (refCells s p).toArray 71 (0, 0)) := by
    rw [heap_alloc_old _ _ (by simp), heap_alloc_new]
  have h2 : ((w.alloc (.cells (refCells s p).toArray 71)).alloc (.cells (refCells t q).toArray 71)).heap[w.heap.size + 1]? = some (.cells (refCells t q).toArray 71 (0, 0)) := heap_alloc_at _ _ _ (by simp)
  clear hs ht hp hq
  go_enter Tryz.func172, Tryz.ntmps172
  go_upto_region 1 with (fail)
  revert b0 h1 h2
  generalize ((w.alloc (.cells (refCells s p).toArray 71)).alloc (.cells (refCells t q).toArray 71)) = w2
  obtain ⟨g1, hg1⟩ : ∃ g, g = w.heap.size := ⟨_, rfl⟩
  obtain ⟨g2, hg2⟩ : ∃ g, g = w.heap.size + 1 := ⟨_, rfl⟩
  rw [← hg2, ← hg1]
  intro b0 h1 h2
  have HB := Lib.hid b0
  have r1 : ∀ W, Grew w2 W → W.rangeAt g1 0 (refCells s p) := fun W hW => range_of (((hW.below).block _ (lt_of_block h1)).trans h1)
  have r2 : ∀ W, Grew w2 W → W.rangeAt g2 0 (refCells t q) := fun W hW => range_of (((hW.below).block _ (lt_of_block h2)).trans h2)
  have CA : Hid (∀ W, Grew w2 W → W.cell? ⟨g1, 32, none⟩ = some (.int .i64 p)) := Lib.hid (fun W hW => by have h9 := ref_at hs1 (r1 W hW); exact h9)
  have CB : Hid (∀ W, Grew w2 W → W.cell? ⟨g2, 32, none⟩ = some (.int .i64 q)) := Lib.hid (fun W hW => by have h9 := ref_at ht1 (r2 W hW); exact h9)
  obtain ⟨r, hr, hcon⟩ : ∃ r, Lib.compareBytes s t = r ∧ ∀ W, Grew w2 W → Calls Tryz.prog 205 #[.slice (some ⟨g1, 0, none⟩) 32 32, .slice (some ⟨g2, 0, none⟩) 32 32] W fun e w' => e = .returned (.int .i64 r) ∧ W = w' := ⟨_, rfl, fun W hW => bytesCompare_any hs1 ht1
    (fun j v hv => r1 W hW j v (by unfold refCells; rw [List.getElem?_append_left (List.getElem?_eq_some_iff.1 hv).1]; exact hv))
    (fun j v hv => r2 W hW j v (by unfold refCells; rw [List.getElem?_append_left (List.getElem?_eq_some_iff.1 hv).1]; exact hv))⟩
  rw [hr] at hR fy
  have BCC := Lib.hid hcon
  have FX := Lib.hid fy
  have FY := Lib.hid fz
  have HG := Lib.hid (Grew.refl w2)
  have HTR : Hid (∀ W, Grew w2 W → Grew w W) := Lib.hid (fun W hW => by
    obtain ⟨q1, o1, rfl⟩ := HB.out
    obtain ⟨q2, o2, rfl⟩ := hW
    exact ⟨q1 + q2, o1 ++ o2, by simp [grow, World.drewN, Nat.add_assoc, Array.append_assoc]⟩)
  have HR := Lib.hid hR
  clear b0 h1 h2 r1 r2 hr hcon fy fz hR hg1 hg2 HB hs1 ht1
  refine wp_region_held_drew (S := fun w' => Grew w2 w') (by kernel_rfl) (HG.out.drew) (fun hHeld => ?_)
  refine tkP 0 rfl rfl ?_
  refine tkP 1 rfl rfl ?_
  refine tkP 2 rfl rfl ?_
  refine tkP 3 rfl rfl ?_
  refine tkP 5 rfl rfl ?_
  refine tkP 7 rfl rfl ?_
  refine tkA 6 rfl rfl (yields_cell (b := g1) (o := 32) (by rfl) rfl rfl (fun w0 hSw => CA.out w0 hSw) (fun w0 => Tryz.isAgg3 w0)) ?_
  refine tkA 8 rfl rfl (yields_cell (b := g2) (o := 32) (by rfl) rfl rfl (fun w0 hSw => CB.out w0 hSw) (fun w0 => Tryz.isAgg3 w0)) ?_
  refine tkR 4 rfl (fun K hK => ?_)
  go_simp
  refine (BCC.out _ hHeld).mono ?_
  rintro e w5 ⟨rfl, rfl⟩
  dsimp only
  refine hK.out _ _ (by (try dsimp only); exact hHeld) (fun hHeld => ?_)
  clear hK K
  refine tkR 9 rfl (fun K hK => ?_)
  go_simp
  refine (Tryz.cmp_Compare_int p q _).mono ?_
  rintro e w6 ⟨rfl, rfl⟩
  dsimp only
  refine hK.out _ _ (by (try dsimp only); exact hHeld) (fun hHeld => ?_)
  clear hK K
  refine tkR 10 rfl (fun K hK => ?_)
  refine step_two9 rfl (by rfl) rfl rfl rfl ?_
  refine hK.out _ _ (by (try dsimp only); exact hHeld.alloc _) (fun hHeld => ?_)
  clear hK K
  refine tkR 11 rfl (fun K hK => ?_)
  go_simp
  refine Calls.mono (or_any (zs := [r, Lib.compareInt p q]) ?nn) ?_
  case nn => exact numbers_two (heap_alloc_new _ _) FX.out FY.out
  rintro e w7 ⟨rfl, rfl⟩
  dsimp only
  refine hK.out _ _ (by (try dsimp only); exact hHeld) (fun hHeld => ?_)
  clear hK K
  refine tkP 12 rfl rfl ?_
  refine wpAnyH_done (by kernel_rfl) ?_ _
  go_wp2_with fail
  go_ret
  have e9 := HR.out
  subst e9
  exact ⟨rfl, HTR.out _ hHeld⟩

end Go.Proofs.YteddkkcheaghaaaGreatDoor
namespace Go.Proofs.YteddkkcheaghaaaGreatDoor
open Go.RowKit Go.Maps

/-! ### Steps inside a fence -/
section
variable {F : Fence} {n : Nat} {P : Program} {ops : Array Oper} {rest : List Oper} {o : Oper} {a : Act} {w : World} {Q : Exit → Act → World → Prop}
theorem wpListIn_run {v : Value} {w' : World} (hg : o.guard = none) (hab : o.about P w a.eval = none) (hnd : ∀ c, o.op ≠ .defer c) (hrun : (execOp a.eval o).run P w = .ok (.value v) w')
    (h : wpListIn F n P ops Q rest (a.put o.dst v) w') : wpListIn F n P ops Q (o :: rest) a w := by
  refine wpListIn_plain hg fun K hK => ?_
  unfold Oper.wpIn
  refine ⟨fun f hf => (by rw [hab] at hf; cases hf), ?_⟩
  rw [Oper.semAt_plain F _ _ hnd, hrun]
  exact hK _ _ h
theorem wpListIn_run_skip {w' : World} (hg : o.guard = none) (hab : o.about P w a.eval = none) (hnd : ∀ c, o.op ≠ .defer c) (hrun : (execOp a.eval o).run P w = .ok .skip w')
    (h : wpListIn F n P ops Q rest (a.put o.dst undef) w') : wpListIn F n P ops Q (o :: rest) a w := by
  refine wpListIn_plain hg fun K hK => ?_
  unfold Oper.wpIn
  refine ⟨fun f hf => (by rw [hab] at hf; cases hf), ?_⟩
  rw [Oper.semAt_plain F _ _ hnd, hrun]
  exact hK _ _ h
theorem wpListIn_load_row9 (hg : o.guard = none) (ty : TypeId) (x : Operand) (ho : o.op = .load ty x)
    (g : Nat) (hx : a.eval x = .pointer (some ⟨g, 0, none⟩)) (t : TypeId) (cs : Array Value) (fr : Nat × Nat) (d : TypeDesc) (hc : w.heap[g]? = some (.cells cs t fr))
    (hu : P.underlying ty = some d) (hd : (match d with | .struct _ | .array _ _ => true | _ => false) = true) (hi : (P.info? ty).map (·.size) = some cs.size)
    (h : wpListIn F n P ops Q rest (a.put o.dst (.agg cs)) w) : wpListIn F n P ops Q (o :: rest) a w :=
  wpListIn_run hg (by simp [Oper.about, ho]) (by rw [ho]; intro c e; cases e) (by unfold execOp; simp only [ho, hx, Instr.loadAt, Instr.sureAddr, Sem.run_bind, Sem.run_pure, Result.andThen_ok, run_loadVar_row w g t ty cs fr d hc hu hd hi]) h
theorem wpListIn_store_row9 (hg : o.guard = none) (ty : TypeId) (x y : Operand) (ho : o.op = .store ty x y)
    (g : Nat) (cells : Array Value) (hx : a.eval x = .pointer (some ⟨g, 0, none⟩)) (hy : a.eval y = .agg cells)
    (t : TypeId) (old : Array Value) (hc : w.heap[g]? = some (.cells old t (0, 0))) (hi : (P.info? ty).map (·.size) = some cells.size)
    (hold : old.size = cells.size) (h1 : cells.all (·.oneCell') = true)
    (h : wpListIn F n P ops Q rest (a.put o.dst undef) (w.setRow g cells)) : wpListIn F n P ops Q (o :: rest) a w :=
  wpListIn_run_skip hg (by simp [Oper.about, ho]) (by rw [ho]; intro c e; cases e) (by unfold execOp; simp only [ho, hx, hy, Instr.storeAt, Instr.sureAddr, Sem.run_bind, Sem.run_pure, Result.andThen_ok, run_storeVar_row w g t ty old cells hc hi hold h1]) h
end

/-! ### Places as keys -/
theorem mapM_get {α β : Type} {f : α → Option β} : ∀ {l : List α} {r : List β}, l.mapM f = some r → ∀ x ∈ l, ∃ y, f x = some y
  | [], _, _, _, hx => by cases hx
  | a :: l, r, h, x, hx => by
    rw [List.mapM_cons] at h
    cases h1 : f a with
    | none => rw [h1] at h; cases h
    | some y =>
      rw [h1] at h
      cases h2 : l.mapM f with
      | none => rw [h2] at h; cases h
      | some r' =>
        rcases List.mem_cons.1 hx with rfl | hx
        · exact ⟨y, h1⟩
        · exact mapM_get h2 x hx
theorem byte_back {d : Nat} {v : Value} {r : List Lit} (h : Tryz.prog.keyLits d 5 [v] = some r) : ∃ b : UInt8, v = .int .u8 ((b.toNat : Nat) : Int) := by
  cases d with
  | zero => cases h
  | succ d =>
    unfold Program.keyLits at h
    simp only [Tryz.underlying5] at h
    cases v with
    | int q x =>
      simp only at h
      split at h
      · rename_i hq
        obtain ⟨rfl, hw⟩ := hq
        have h1 : IntKind.u8.min = 0 := by decide
        have h2 : IntKind.u8.max = 255 := by decide
        simp [Lit.wf, h1, h2] at hw
        refine ⟨UInt8.ofNat x.toNat, ?_⟩
        rw [UInt8.toNat_ofNat']
        have h3 : x.toNat % 2 ^ 8 = x.toNat := Nat.mod_eq_of_lt (by omega)
        rw [h3]
        congr 1
        omega
      · cases h
    | _ => cases h
theorem int_back {d : Nat} {v : Value} {r : List Lit} (h : Tryz.prog.keyLits d 3 [v] = some r) : ∃ z : Int, v = .int .i64 z ∧ Fits z := by
  cases d with
  | zero => cases h
  | succ d =>
    unfold Program.keyLits at h
    simp only [Tryz.underlying3] at h
    cases v with
    | int q x =>
      simp only at h
      split at h
      · rename_i hq
        obtain ⟨rfl, hw⟩ := hq
        have h1 : IntKind.i64.min = -9223372036854775808 := by decide
        have h2 : IntKind.i64.max = 9223372036854775807 := by decide
        simp [Lit.wf, h1, h2] at hw
        exact ⟨x, rfl, hw.1, hw.2⟩
      · cases h
    | _ => cases h
theorem cells_back : ∀ (vs : List Value), (∀ v ∈ vs, ∃ b : UInt8, v = .int .u8 ((b.toNat : Nat) : Int)) → ∃ s : List UInt8, vs = cellsOf s ∧ s.length = vs.length
  | [], _ => ⟨[], rfl, rfl⟩
  | v :: vs, h => by
    obtain ⟨b, rfl⟩ := h v (by simp)
    obtain ⟨s, rfl, hs⟩ := cells_back vs (fun x hx => h x (by simp [hx]))
    exact ⟨b :: s, rfl, by simp [hs]⟩
theorem sum_back {d : Nat} {cs : List Value} {r : List Lit} (hl : cs.length = 32) (h : Tryz.prog.keyLits d 28 cs = some r) : ∃ s : List UInt8, s.length = 32 ∧ cs = cellsOf s := by
  have hc1 : Tryz.prog.cellsOf 5 = 1 := by kernel_rfl
  cases d with
  | zero => cases h
  | succ d =>
    unfold Program.keyLits at h
    simp only [Tryz.underlying28] at h
    split at h
    · cases hm : (List.range 32).mapM (fun i => Tryz.prog.keyLits d 5 ((cs.drop (i * Tryz.prog.cellsOf 5)).take (Tryz.prog.cellsOf 5))) with
      | none => rw [hm] at h; cases h
      | some rr =>
        obtain ⟨s, hs, hsl⟩ := cells_back cs (fun v hv => by
          obtain ⟨i, hi, rfl⟩ := List.getElem_of_mem hv
          obtain ⟨y, hy⟩ := mapM_get hm i (List.mem_range.2 (by omega))
          rw [hc1, Nat.mul_one, List.drop_eq_getElem_cons hi] at hy
          exact byte_back (d := d) (r := y) hy)
        exact ⟨s, by omega, hs⟩
    · cases h
theorem key_ref_back {v : Value} {l : Lit} (h : keyOf Tryz.prog 71 v = some l) : ∃ x : RefD, v = .agg x.cells.toArray := by
  have hc : Tryz.prog.cellsOf 71 = 33 := by kernel_rfl
  have hcs : Tryz.prog.cellsOf 28 = 32 := by kernel_rfl
  have hci : Tryz.prog.cellsOf 3 = 1 := by kernel_rfl
  unfold keyOf at h
  simp only [Tryz.underlying71] at h
  split at h
  · rename_i hk
    have hf : v.formed Tryz.prog 71 = true := by
      cases hh : v.formed Tryz.prog 71 with
      | true => rfl
      | false => rw [hh] at hk; simp at hk
    cases hl : Tryz.prog.keyLits (Tryz.prog.types.size + 1) 71 v.cells.toList with
    | none => rw [hl] at h; cases h
    | some ls =>
      cases v with
      | agg cs =>
        have hcl : cs.toList.length = 33 := by
          simp [Value.formed, Tryz.underlying71, hc] at hf
          simpa using hf
        have e0 : (Value.agg cs).cells.toList = cs.toList := rfl
        rw [e0] at hl
        unfold Program.keyLits at hl
        simp only [Tryz.underlying71] at hl
        split at hl
        · cases hm : (List.mapM (fun f : Field => Tryz.prog.keyLits Tryz.prog.types.size f.type ((cs.toList.drop f.offset).take (Tryz.prog.cellsOf f.type))) [{ name := "Tx", type := 28, offset := 0, embedded := false, tag := "", pkgPath := "", byteOffset := 0 }, { name := "At", type := 3, offset := 32, embedded := false, tag := "", pkgPath := "", byteOffset := 32 }]) with
          | none =>
            have : (List.mapM (fun f : Field => Tryz.prog.keyLits Tryz.prog.types.size f.type ((cs.toList.drop f.offset).take (Tryz.prog.cellsOf f.type))) [{ name := "Tx", type := 28, offset := 0, embedded := false, tag := "", pkgPath := "", byteOffset := 0 }, { name := "At", type := 3, offset := 32, embedded := false, tag := "", pkgPath := "", byteOffset := 32 }]).map List.flatten = some ls := hl
            rw [hm] at this
            cases this
          | some rr =>
            obtain ⟨y1, h1⟩ := mapM_get hm { name := "Tx", type := 28, offset := 0, embedded := false, tag := "", pkgPath := "", byteOffset := 0 } (by simp)
            obtain ⟨y2, h2⟩ := mapM_get hm { name := "At", type := 3, offset := 32, embedded := false, tag := "", pkgPath := "", byteOffset := 32 } (by simp)
            simp only [hcs, hci, List.drop_zero] at h1 h2
            obtain ⟨s, hs, hs2⟩ := sum_back (by rw [List.length_take]; omega) h1
            have h3 : cs.toList.drop 32 = [cs.toList[32]'(by omega)] := by
              rw [List.drop_eq_getElem_cons (by omega), List.drop_of_length_le (by omega)]
            rw [h3] at h2
            obtain ⟨z, hz, hzf⟩ := int_back h2
            refine ⟨⟨s, z, hs, hzf⟩, ?_⟩
            apply congrArg Value.agg
            apply Array.toList_inj.1
            show cs.toList = refCells s z
            have e9 := List.take_append_drop 32 cs.toList
            rw [h3, hz, hs2] at e9
            exact e9.symm
        · cases hl
      | _ => simp [Value.formed, Tryz.underlying71] at hf
  · cases h
theorem refD_key (x : RefD) : ∃ l, keyOf Tryz.prog 71 (.agg x.cells.toArray) = some l := key_ref x.hs x.hp
theorem refD_inj {x y : RefD} (h : x.cells = y.cells) : x = y := by
  obtain ⟨s, p, hs, hp⟩ := x
  obtain ⟨t, q, ht, hq⟩ := y
  have h9 : refCells s p = refCells t q := h
  unfold refCells at h9
  have hs' : s.length = 32 := hs
  have ht' : t.length = 32 := ht
  have h8 := List.append_inj h9 (by rw [cellsOf_len, cellsOf_len, hs', ht'])
  have h7 : p = q := by simpa using h8.2
  have h6 := cellsOf_same h8.1
  subst h7 h6
  rfl
/-! ### What has come -/
/-- The places that have come are those of the map that are no longer to come; none twice. -/
def Come (D : DataW Value) (left : Lit → Bool) (ss : List RefD) : Prop :=
  ss.Nodup ∧ ∀ (x : RefD) (l : Lit), keyOf Tryz.prog 71 (.agg x.cells.toArray) = some l → (x ∈ ss ↔ Maps.has D l = true ∧ left l = false)
theorem Come.start (D : DataW Value) : Come D (Maps.has D) [] := ⟨List.nodup_nil, fun x l _ => by cases Maps.has D l <;> simp⟩
theorem Come.step {D : DataW Value} {left : Lit → Bool} {ss : List RefD} {x : RefD} {l : Lit} (h : Come D left ss) (hk : keyOf Tryz.prog 71 (.agg x.cells.toArray) = some l) (hl : left l = true) (hd : Maps.has D l = true) : Come D (fun z => left z && !z.sameKey l) (ss ++ [x]) := by
  have hx : x ∉ ss := fun e => by
    have h9 := ((h.2 x l hk).1 e).2
    rw [hl] at h9
    cases h9
  refine ⟨List.nodup_append.2 ⟨h.1, by simp, fun a ha b hb e => by
    simp at hb
    subst hb
    subst e
    exact hx ha⟩, fun y k hy => ?_⟩
  by_cases e : y = x
  · subst e
    obtain rfl : k = l := Option.some.inj (hy.symm.trans hk)
    have h9 : k.sameKey k = true := WideAt.sameKey_self (Tryz.keyRef.key hk)
    simp [hd, h9]
  · have hne : k ≠ l := fun e2 => by
      subst e2
      have h9 := Tryz.keyRef.inj hy hk
      simp at h9
      exact e (refD_inj h9)
    have h9 : k.sameKey l = false := Maps.sameKey_ne hne
    simp only [List.mem_append, List.mem_singleton, e, or_false, h9, Bool.not_false, Bool.and_true]
    exact h.2 y k hy
theorem Come.done {D : DataW Value} {left : Lit → Bool} {ss : List RefD} (h : Come D left ss) (hl : ∀ k, left k = false) (x : RefD) {l : Lit} (hk : keyOf Tryz.prog 71 (.agg x.cells.toArray) = some l) : x ∈ ss ↔ Maps.has D l = true := by
  rw [h.2 x l hk, hl]
  simp

/-- A variable that holds a place, made anew. -/
def noRef : RefD := ⟨zero32, 0, by decide, by constructor <;> decide⟩
instance : Inhabited RefD := ⟨noRef⟩
theorem RefD.len (x : RefD) : x.cells.length = 33 := refCells_len x.hs
theorem refD_size (x : RefD) : (Tryz.prog.info? 71).map (·.size) = some x.cells.toArray.size := by rw [List.size_toArray, RefD.len]; exact Tryz.sizeRef
theorem refD_zero (x : RefD) : noRef.cells.toArray.size = x.cells.toArray.size := by rw [List.size_toArray, List.size_toArray, RefD.len, RefD.len]
theorem RefD.one (x : RefD) : ∀ v ∈ x.cells, v.oneCell' = true := by
  intro v hv
  unfold RefD.cells refCells at hv
  rcases List.mem_append.1 hv with hv | hv
  · exact cellsOf_one _ v hv
  · simp at hv
    subst hv
    rfl
def layRef (w : World) (x : RefD) : World := (w.alloc (.cells noRef.cells.toArray 71)).setRow w.heap.size x.cells.toArray
theorem layRef_heap (w : World) (x : RefD) : (layRef w x).heap[w.heap.size]? = some (.cells x.cells.toArray 71 (0, 0)) := setRow_heap _ _ _ _ _ _ (heap_alloc_new _ _)
theorem layRef_size (w : World) (x : RefD) : (layRef w x).heap.size = w.heap.size + 1 := by simp [layRef, World.setRow]
theorem layRef_old (w : World) (x : RefD) {k : Nat} (hk : k < w.heap.size) : (layRef w x).heap[k]? = w.heap[k]? := by
  unfold layRef
  rw [setRow_other _ _ _ _ (by omega), heap_alloc_old _ _ hk]
theorem layRef_grown (w : World) (x : RefD) (r : Option Nat) : w.grownBy (layRef w x) r :=
  ⟨rfl, rfl, rfl, by rw [layRef_size]; omega, fun k hk _ => layRef_old w x hk⟩
theorem layRef_walks (w : World) (x : RefD) : KeepsWalks w (layRef w x) :=
  ⟨by rw [layRef_size]; omega, fun k o hk _ => (layRef_old w x (Array.getElem?_eq_some_iff.1 hk).1).trans hk⟩

/-- Its store, behind its making. -/
theorem wpListIn_layRef {F : Fence} {n : Nat} {ops : Array Oper} {rest : List Oper} {o : Oper} {a : Act} {w : World} {Q : Exit → Act → World → Prop} (hg : o.guard = none) (u v : Operand) (ho : o.op = .store 71 u v) (w0 : World) (x : RefD)
    (hx : a.eval u = .pointer (some ⟨w0.heap.size, 0, none⟩)) (hy : a.eval v = .agg x.cells.toArray) (hw : w = w0.alloc (.cells noRef.cells.toArray 71))
    (h : wpListIn F n Tryz.prog ops Q rest (a.put o.dst undef) (layRef w0 x)) : wpListIn F n Tryz.prog ops Q (o :: rest) a w := by
  subst hw
  exact wpListIn_store_row9 hg 71 u v ho w0.heap.size x.cells.toArray hx hy 71 noRef.cells.toArray (heap_alloc_new _ _) (refD_size x) (refD_zero x) (all_oneCell_toArray x.one) h

/-! ### The iterator -/
def KeysOf (F : List UInt8 → Int → Option Value) (ss : List RefD) : Prop := ss.Nodup ∧ ∀ x : RefD, x ∈ ss ↔ F x.tx x.place ≠ none
set_option linter.unusedSimpArgs false in
set_option maxRecDepth 100000 in
set_option maxHeartbeats 12800000 in
theorem keys1_in {Fm : List UInt8 → Int → Option Value} (F : Fence) (n : Nat) (hf : F.fn 203) (hro : F.round = none) (hn : 1 ≤ n) (l Bm b N m : Nat) (J : List RefD → World → Prop)
    (hY : ∀ pre x W, J pre W → pre.length < m → YieldAt F (n - 1) Tryz.prog l #[.agg x.cells.toArray] W fun e W' => e = .returned (.bool true) ∧ J (pre ++ [x]) W' ∧ KeepsWalks W W')
    (W : World) (hJ : AbidesFrom W.heap.size J) (hm : W.cell? ⟨Bm, 0, none⟩ = some (.map (some b))) (hown : MapRef W b N m Fm) (h0 : J [] W) :
    CallsIn F n Tryz.prog 203 #[.func (.yield l) #[] #[], .pointer (some ⟨Bm, 0, none⟩)] W fun e W' => (∃ v, e = .returned v) ∧ ∃ ss : List RefD, (KeysOf Fm ss ∧ ss.length ≤ m) ∧ J ss W' := by
  obtain ⟨D, hD, hsz, hF⟩ := hown
  have h1 : 1 ≤ n - 1 + 1 := by omega
  refine callsIn_of_wp Tryz.func203 rfl hf ?_ hro
  simp only [Tryz.ntmps203, List.size_toArray, List.length_cons, List.length_nil, Nat.reduceAdd, Nat.reduceSub, Array.replicate_succ, Array.replicate_zero, List.push_toArray, List.append_toArray, List.nil_append, List.cons_append]
  gi_wp2_with (first
    | (gi_at_range; refine wpListIn_range_own _ rfl _ 171 rfl 71 126 Tryz.keyRef Tryz.underlying171 _ b N _ rfl hD ?_; intro w0 hrg0 hg0 hs0)
    | gi_in)
  go_frame
  gi_loopw [3] (fun _ wr => ∃ (left : Lit → Bool) (cnt : Nat) (ss : List RefD), wr.ranges Tryz.prog 71 heldR b W.heap.size N D left cnt ∧ ss.length + cnt ≤ Maps.size D ∧ Come D left ss ∧ J ss wr)
    (fun _ wr => wr.rangeLeft b W.heap.size)
  case atStart =>
    exact ⟨_, _, [], hrg0, by simp, Come.start D, hJ [] W w0 none h0 hg0 (fun r e => by cases e)⟩
  case round =>
    obtain ⟨left, cnt, ss, hrg, hcs, hC, hJs⟩ := hrel
    gi_wp2_with (first
      | (gi_at_next; refine wpListIn_next_ranges _ rfl _ rfl 71 Tryz.keyRef heldR (fun x : RefD => .agg x.cells.toArray) id (fun key kl hk => key_ref_back hk) (fun v _ _ => ⟨v, rfl⟩) b W.heap.size N _ _ _ rfl hrg ?_ ?_)
      | gi_in)
    · intro hc0 hl0
      gi_wp2
      go_end0
      refine ⟨⟨_, rfl⟩, ss, ⟨⟨hC.1, fun x => ?_⟩, by omega⟩, hJs⟩
      obtain ⟨k, hk⟩ := refD_key x
      rw [hC.done hl0 x hk]
      have hv := hF x.tx x.place k x.hs x.hp hk
      cases hfx : Fm x.tx x.place with
      | none =>
        rw [hfx] at hv
        rw [has_false_of_atKey hv]
        simp
      | some v =>
        rw [hfx] at hv
        rw [has_true_of_atKey hv]
        simp
    · intro x c kl yd yp w2 cnt2 hkey hlk hv hat hrg2 hlt hg2 hs2 hen
      have hJ2 : J ss w2 := hJ ss wr w2 (some W.heap.size) hJs hg2 (fun r e => by cases e; exact ⟨Nat.le_refl _, hrg.iter_walk⟩)
      have hJ3 : J ss (layRef w2 x) := hJ ss w2 _ none hJ2 (layRef_grown w2 x none) (fun r e => by cases e)
      obtain ⟨fn, tmps, assign, body, hy, hR⟩ := hY ss x (layRef w2 x) hJ3 (by omega)
      have hh := layRef_heap w2 x
      have hrg3 := hrg2.of_walks (layRef_walks w2 x)
      have hC2 := hC.step hkey hlk (has_true_of_atKey hat)
      clear hs2 hg2
      gi_wp2_with (first
        | (refine wpListIn_layRef rfl _ _ rfl w2 x rfl rfl rfl ?_)
        | (refine wpListIn_load_row9 rfl 71 _ rfl w2.heap.size rfl 71 x.cells.toArray (0, 0) _ hh Tryz.underlying71 rfl (refD_size x) ?_)
        | gi_in)
      refine hR.mono ?_
      rintro e W3 ⟨rfl, hJ4, hk3⟩
      gi_wp2
      have hrg4 := hrg3.of_walks hk3
      go_roundw
      case rel => exact ⟨_, cnt2, ss ++ [x], hrg4, by simp; omega, hC2, hJ4⟩
      case measure => rw [hrg4.left_eq, hrg.left_eq]; exact hlt
theorem keys_gives {Fm : List UInt8 → Int → Option Value} (F : Fence) (n : Nat) (hf : F.fn 203) (hro : F.round = none) (hn : 1 ≤ n) (Bm b N m : Nat) (w : World) (hBm : Bm < w.heap.size)
    (hm : w.cell? ⟨Bm, 0, none⟩ = some (.map (some b))) (hown : MapRef w b N m Fm) :
    SeqGives F n Tryz.prog 203 #[.pointer (some ⟨Bm, 0, none⟩)] (fun x : RefD => .agg x.cells.toArray) (fun ss => KeysOf Fm ss ∧ ss.length ≤ m) m w := fun l J W hW hJ hY h0 =>
  keys1_in F n hf hro hn l Bm b N m J hY W hJ ((hW.cell (p := ⟨Bm, 0, none⟩) hBm).trans hm) (hown.below hW) h0
set_option linter.unusedSimpArgs false in
set_option maxRecDepth 100000 in
set_option maxHeartbeats 12800000 in
theorem keys1_nil_in (F : Fence) (n : Nat) (hf : F.fn 203) (hro : F.round = none) (l Bm : Nat) (J : List RefD → World → Prop) (W : World) (hJ : AbidesFrom W.heap.size J)
    (hm : W.cell? ⟨Bm, 0, none⟩ = some (.map none)) (h0 : J [] W) :
    CallsIn F n Tryz.prog 203 #[.func (.yield l) #[] #[], .pointer (some ⟨Bm, 0, none⟩)] W fun e W' => (∃ v, e = .returned v) ∧ ∃ ss : List RefD, ss = [] ∧ J ss W' := by
  have hrg := run_range_nilMap (P := Tryz.prog) W 171 71 126 Tryz.underlying171
  have hnx : ∀ ty, (Instr.next (.pointer (some ⟨W.heap.size, 0, none⟩)) false ty).run Tryz.prog (W.alloc (.mapIter none 0 #[] 0)) = _ := fun ty => run_next_nilMap _ ty 0 0 #[]
  refine callsIn_of_wp Tryz.func203 rfl hf ?_ hro
  simp only [Tryz.ntmps203, List.size_toArray, List.length_cons, List.length_nil, Nat.reduceAdd, Nat.reduceSub, Array.replicate_succ, Array.replicate_zero, List.push_toArray, List.append_toArray, List.nil_append, List.cons_append]
  gi_wp2
  refine wpIn_loop_rounds 1 ?_
  rw [roundsIn_succ]
  gi_wp2
  go_end0
  exact ⟨⟨_, rfl⟩, [], rfl, hJ [] W _ none h0 (World.grownBy_alloc W _ none) (fun r e => by cases e)⟩
theorem keys_gives_nil (F : Fence) (n : Nat) (hf : F.fn 203) (hro : F.round = none) (Bm : Nat) (w : World) (hBm : Bm < w.heap.size) (hm : w.cell? ⟨Bm, 0, none⟩ = some (.map none)) :
    SeqGives F n Tryz.prog 203 #[.pointer (some ⟨Bm, 0, none⟩)] (fun x : RefD => .agg x.cells.toArray) (fun ss : List RefD => ss = []) 0 w := fun l J W hW hJ _ h0 =>
  keys1_nil_in F n hf hro l Bm J W hJ ((hW.cell (p := ⟨Bm, 0, none⟩) hBm).trans hm) h0
set_option linter.unusedSimpArgs false in
set_option maxRecDepth 100000 in
set_option maxHeartbeats 12800000 in
theorem keys_any (mb : Option Nat) (w : World) : Calls Tryz.prog 171 #[.map mb] w fun e w' => e = .returned (.func (.func 203) #[] #[.pointer (some ⟨w.heap.size, 0, none⟩)]) ∧ w' = w.alloc (.cells #[.map mb] 171) := by
  go_enter Tryz.func171, Tryz.ntmps171
  go_wp2
  go_ret
  exact ⟨rfl, rfl⟩
end Go.Proofs.YteddkkcheaghaaaGreatDoor
namespace Go.Proofs.YteddkkcheaghaaaGreatDoor
open Go.RowKit Go.Maps

def refK : Sort8 RefD := ⟨33, RefD.cells, fun _ _ => True, noRef, by omega, fun _ x _ => x.len, RefD.one, fun h _ => h⟩
def Tryz.refAt : SortAt Tryz.prog refK 39 71 := ⟨40, by omega, by show 33 ≤ 100000; omega, .agg noRef.cells.toArray, Tryz.underlying39, by kernel_rfl, by kernel_rfl⟩
section
variable {α : Type} {F : Fence} {n : Nat} {P : Program} {ops : Array Oper} {rest : List Oper} {o : Oper} {a : Act} {w : World} {Q : Exit → Act → World → Prop}
theorem wpListIn_any {v : Value} {w' : World} (hg : o.guard = none) (hab : ∀ f, o.about P w a.eval = some f → F.fn f) (hnd : ∀ c, o.op ≠ .defer c) (hrun : (execOp a.eval o).run P w = .ok (.value v) w')
    (h : wpListIn F n P ops Q rest (a.put o.dst v) w') : wpListIn F n P ops Q (o :: rest) a w := by
  refine wpListIn_plain hg fun K hK => ?_
  unfold Oper.wpIn
  refine ⟨hab, ?_⟩
  rw [Oper.semAt_plain F _ _ hnd, hrun]
  exact hK _ _ h
theorem run_lit_of {K : Sort8 α} {ts t : TypeId} (S : SortAt P K ts t) (w : World) {x : α} (hx : (K.cells x).length = K.size) :
    (Instr.buildSlice ts 1 #[(0, .agg (K.cells x).toArray)]).run P w = .ok (.slice (some ⟨w.heap.size, 0, none⟩) 1 1) (w.alloc (.cells (K.cells x).toArray t)) := by
  obtain ⟨ie, h1, h2, h3, _⟩ := info_parts S.info
  have hk := S.ksmall
  have hp := K.pos
  have hf := fill_one K.pos hx ((Array.range (1 * K.size)).map (S.zero.cells[· % S.zero.cells.size]!)) (by simp)
  exact run_buildSlice w ts t 1 _ _ ie _ S.under h1 h2 (by rw [h3]; omega) (by rw [h3]; omega) (by rw [h3]; exact hf)
theorem wpListIn_lit_of {K : Sort8 α} {ts t : TypeId} (S : SortAt P K ts t) (hg : o.guard = none) (u : Operand) (ho : o.op = .buildSlice ts 1 #[(0, u)]) (x : α) (hu : a.eval u = .agg (K.cells x).toArray) (hx : (K.cells x).length = K.size)
    (h : wpListIn F n P ops Q rest (a.put o.dst (.slice (some ⟨w.heap.size, 0, none⟩) 1 1)) (w.alloc (.cells (K.cells x).toArray t))) : wpListIn F n P ops Q (o :: rest) a w :=
  wpListIn_any hg (by simp [Oper.about, ho]) (by rw [ho]; intro c e; cases e) (by unfold execOp; simp only [ho, List.map_toArray, List.map_cons, List.map_nil, hu, Sem.run_bind, run_lit_of S w hx, Sem.run_pure, Result.andThen_ok]) h
theorem wpListIn_append_of {K : Sort8 α} {ts t : TypeId} (S : SortAt P K ts t) (hg : o.guard = none) (u y : Operand) (ho : o.op = .call { callee := .builtin .append, args := #[u, y], argTypes := #[ts, ts] }) (hty : o.type = ts)
    (B : Nat) (v : Value) (xs : List α) (hu : a.eval u = v) (hO : OwnOf K t w B v xs) (p : Nat) (x : α) (hy : a.eval y = .slice (some ⟨p, 0, none⟩) 1 1) {tp : TypeId} {fr : Nat × Nat} (hp : w.heap[p]? = some (.cells (K.cells x).toArray tp fr)) (hx : (K.cells x).length = K.size) (hb : xs.length + 1 ≤ 1000000) (hB : B ≤ w.heap.size)
    (hk : ∀ a' c' w', OwnOf K t w' B (.slice a' (xs.length + 1) c') (xs ++ [x]) → w.grownBy w' v.ownBlock → wpListIn F n P ops Q rest (a.put o.dst (.slice a' (xs.length + 1) c')) w') : wpListIn F n P ops Q (o :: rest) a w := by
  obtain ⟨a', c', w', h1, h2, h3⟩ := append_of S w B v xs hO p x hp hx hb hB
  exact wpListIn_any hg (by simp [Oper.about, ho, resolve, Target.leads, Sem.run_pure]) (by rw [ho]; intro c e; cases e)
    (by unfold execOp; simp only [ho, hty, resolve, invoke, builtin, Sem.run_bind, Sem.run_pure, Result.andThen_ok, List.map_toArray, List.map_cons, List.map_nil, hu, hy, h1]) (hk a' c' w' h2 h3)
end
theorem OwnOf.grown {α : Type} {K : Sort8 α} {t : TypeId} {w w' : World} {B : Nat} {v : Value} {xs : List α} {r : Option Nat} (h : OwnOf K t w B v xs) (hg : w.grownBy w' r) (hne : ∀ k, v.ownBlock = some k → r ≠ some k) : OwnOf K t w' B v xs :=
  ⟨World.ownsRow.kept h.1 hg (by
    cases h' : v.ownBlock with
    | none => exact .inl rfl
    | some k => exact .inr (fun e => hne k h' e.symm)), h.2⟩
theorem OwnOf.no_walk {α : Type} {K : Sort8 α} {t : TypeId} {w : World} {B : Nat} {v : Value} {xs : List α} (h : OwnOf K t w B v xs) {j : Nat} {o : Obj} (hj : w.heap[j]? = some o) (ho : ∀ cs fr, o ≠ .cells cs t fr) : ∀ k, v.ownBlock = some k → j ≠ k := by
  intro k e
  rcases h.1.2 with ⟨rfl, _⟩ | ⟨g, cap, cur, rfl, _, hh, _⟩
  · cases e
  · simp [Value.ownBlock] at e
    subst e
    rintro rfl
    rw [hh] at hj
    exact ho _ _ (Option.some.inj hj).symm

def apAssign : Code := Code.region 2 #[{ dst := some 5, op := Op.alloc 71, type := 0, pos := "iter.go:51", after := #[], guard := none }, { dst := none, op := Op.store 71 (Operand.tmp 5) (Operand.tmp 7), type := 0, pos := "iter.go:51", after := #[{ on := 0, ground := Ground.data }, { on := 0, ground := Ground.phase }], guard := none }] false
def apBody : Code := Code.block 1 (Code.region 3 #[{ dst := some 8, op := Op.load 39 (Operand.tmp 2), type := 39, pos := "iter.go:52", after := #[], guard := none }, { dst := some 9, op := Op.load 71 (Operand.tmp 5), type := 71, pos := "iter.go:52", after := #[], guard := none }, { dst := some 10, op := Op.buildSlice 39 1 #[(0, Operand.tmp 9)], type := 39, pos := "iter.go:52", after := #[{ on := 1, ground := Ground.data }], guard := none }, { dst := some 11, op := Op.call { callee := Callee.builtin Builtin.append, args := #[Operand.tmp 8, Operand.tmp 10], argTypes := #[39, 39] }, type := 39, pos := "iter.go:52", after := #[{ on := 0, ground := Ground.data }, { on := 2, ground := Ground.data }], guard := none }, { dst := none, op := Op.store 39 (Operand.tmp 2) (Operand.tmp 11), type := 0, pos := "iter.go:52", after := #[{ on := 3, ground := Ground.data }, { on := 3, ground := Ground.chain }, { on := 0, ground := Ground.phase }, { on := 1, ground := Ground.phase }, { on := 2, ground := Ground.phase }, { on := 3, ground := Ground.phase }], guard := none }] false)
/-- The loop's record. -/
def apRec (fn : FuncId) (sv : Value) (Bs D : Nat) (st : LoopState) (pend : Option Code) : Loop :=
  { state := st, pending := pend, fn, tmps := #[.slice none 0 0, sv, .pointer (some ⟨Bs, 0, none⟩), undef, .slice none 0 0, undef, sv, undef, undef, undef, undef, undef, undef], params := #[7], assign := apAssign, body := apBody, defers := D }
/-- Between two rounds. -/
structure ApAt (w0 : World) (fn : FuncId) (sv : Value) (Bs l D : Nat) (ss : List RefD) (W : World) : Prop where
  box : ∃ v, W.heap[Bs]? = some (.cells #[v] 39 (0, 0)) ∧ OwnOf refK 71 W w0.heap.size v ss
  L : W.heap[l]? = some (.loop (apRec fn sv Bs D .ready none))
  K : W.heap[D]? = some (.deferred (some []))
  below : Below w0.heap.size w0 W
theorem ap_abides (w0 : World) (fn : FuncId) (sv : Value) (Bs l D B : Nat) (hB : w0.heap.size ≤ B) : AbidesFrom B (ApAt w0 fn sv Bs l D) := fun s W W' row h hg hrow => by
  have hrow' : ∀ r, row = some r → ∃ o : Obj, W.heap[r]? = some o ∧ o.isWalk = true := fun r e => (hrow r e).2
  obtain ⟨v, hv, hr⟩ := h.box
  refine ⟨⟨v, (grownBy_keeps hg hrow' hv rfl).trans hv, hr.grown hg (fun k e e2 => ?_)⟩, (grownBy_keeps hg hrow' h.L rfl).trans h.L, (grownBy_keeps hg hrow' h.K rfl).trans h.K,
    h.below.grown hg h.below.size (fun k e => Nat.le_trans hB (hrow k e).1)⟩
  obtain ⟨o, ho, hw⟩ := hrow' k e2
  exact hr.no_walk ho (fun cs fr e3 => by rw [e3] at hw; cases hw) k e rfl
set_option linter.unusedSimpArgs false in
set_option maxRecDepth 100000 in
set_option maxHeartbeats 12800000 in
theorem apYield (F : Fence) (m : Nat) (w0 : World) (fn : FuncId) (hfn : F.fn fn) (sv : Value) (Bs l D : Nat) (hBl : Bs ≠ l) (hDl : D ≠ l) (hDB : D ≠ Bs) (h0B : w0.heap.size ≤ Bs) (h0l : w0.heap.size ≤ l)
    (N : Nat) (hN : N ≤ 1000000) (ss : List RefD) (x : RefD) (W : World) (h : ApAt w0 fn sv Bs l D ss W) (hlen : ss.length < N) :
    YieldAt F m Tryz.prog l #[.agg x.cells.toArray] W fun e W' => e = .returned (.bool true) ∧ ApAt w0 fn sv Bs l D (ss ++ [x]) W' ∧ KeepsWalks W W' := by
  obtain ⟨v, hv, hrow⟩ := h.box
  refine ⟨fn, #[.slice none 0 0, sv, .pointer (some ⟨Bs, 0, none⟩), undef, .slice none 0 0, undef, sv, .agg x.cells.toArray, undef, undef, undef, undef, undef], apAssign, apBody, by simpa [apRec] using run_yield (P := Tryz.prog) (args := #[.agg x.cells.toArray]) h.L rfl, roundIn_of_wpIn hfn ?_⟩
  have hl : l < W.heap.size := (Array.getElem?_eq_some_iff.1 h.L).1
  have hBl0 : Bs < W.heap.size := (Array.getElem?_eq_some_iff.1 hv).1
  have hDl0 : D < W.heap.size := (Array.getElem?_eq_some_iff.1 h.K).1
  obtain ⟨W2, hW2⟩ : ∃ W2, layRef W x = W2 := ⟨_, rfl⟩
  have hg2 : W.grownBy W2 none := by rw [← hW2]; exact layRef_grown W x none
  have hk2 : KeepsWalks W W2 := by rw [← hW2]; exact layRef_walks W x
  have hh2 : W2.heap[W.heap.size]? = some (.cells x.cells.toArray 71 (0, 0)) := by rw [← hW2]; exact layRef_heap W x
  have hs2 : W2.heap.size = W.heap.size + 1 := by rw [← hW2]; exact layRef_size W x
  have hold2 : ∀ k, k < W.heap.size → W2.heap[k]? = W.heap[k]? := fun k hk => by rw [← hW2]; exact layRef_old W x hk
  have hv2 := (hold2 Bs hBl0).trans hv
  have hK2 := (hold2 D hDl0).trans h.K
  have hL2 := (hold2 l hl).trans h.L
  have hrow2 : OwnOf refK 71 W2 w0.heap.size v ss := hrow.grown hg2 (fun k _ e2 => by cases e2)
  have hb2 : Below w0.heap.size w0 W2 := h.below.grown hg2 h.below.size (fun k e => by cases e)
  have hbr := run_beginRound (P := Tryz.prog) hL2 rfl
  obtain ⟨W3, hW3⟩ : ∃ W3, W2.putObj l (.loop { (apRec fn sv Bs D .ready none) with state := .busy }) = W3 := ⟨_, rfl⟩
  rw [hW3] at hbr
  have hg3 : W2.grownBy W3 (some l) := by rw [← hW3]; exact grownBy_putObj_a _ _ _
  have hk3 : KeepsWalks W2 W3 := by rw [← hW3]; exact KeepsWalks.putObj _ hL2 rfl
  have hv3 : W3.heap[Bs]? = some (.cells #[v] 39 (0, 0)) := by rw [← hW3]; exact (World.putObj_heap_other hBl).trans hv2
  have hK3 : W3.heap[D]? = some (.deferred (some [])) := by rw [← hW3]; exact (World.putObj_heap_other hDl).trans hK2
  have hL3 : W3.heap[l]? = some (.loop { (apRec fn sv Bs D .ready none) with state := .busy }) := by rw [← hW3]; exact World.putObj_heap_same (by omega)
  have hh3 : W3.heap[W.heap.size]? = some (.cells x.cells.toArray 71 (0, 0)) := by rw [← hW3]; exact (World.putObj_heap_other (by omega)).trans hh2
  have hs3 : W3.heap.size = W2.heap.size := by rw [← hW3]; simp
  have hrow3 : OwnOf refK 71 W3 w0.heap.size v ss := hrow2.grown hg3 (fun k e e2 => hrow2.no_walk hL2 (fun cs fr e3 => by cases e3) k e (Option.some.inj e2))
  have hb3 : Below w0.heap.size w0 W3 := hb2.grown hg3 hb2.size (fun k e => by cases e; exact h0l)
  obtain ⟨hc3, hf3⟩ := cell_of_box_a hv3
  clear hW3
  unfold apAssign
  gi_wp2_with (first
    | (refine wpListIn_layRef rfl _ _ rfl W x rfl rfl rfl ?_; rw [hW2])
    | gi_round_op_a)
  clear hs2 hs3
  unfold apBody
  have hrow4 : OwnOf refK 71 (W3.alloc (.cells x.cells.toArray 71)) w0.heap.size v ss := hrow3.grown (World.grownBy_alloc W3 _ none) (fun k _ e2 => by cases e2)
  have hx : (refK.cells x).length = refK.size := x.len
  gi_wp2_with (first
    | (refine wpListIn_load_row9 rfl 71 _ rfl W.heap.size rfl 71 x.cells.toArray (0, 0) _ hh3 Tryz.underlying71 rfl (refD_size x) ?_)
    | (refine wpListIn_lit_of Tryz.refAt rfl _ rfl x rfl hx ?_)
    | (refine wpListIn_append_of Tryz.refAt rfl _ _ rfl rfl w0.heap.size v ss rfl hrow4 W3.heap.size x rfl (tp := 71) (fr := (0, 0)) (heap_alloc_new _ _) hx (by omega) (by have := hb3.size; simp; omega) ?_; intro a5 c5 W5 hown5 hg5
       have hv5 : W5.heap[Bs]? = some (.cells #[v] 39 (0, 0)) := (hg5.block Bs (by have := lt_of_block hv3; simp; omega) (fun e => hrow3.no_walk hv3 (fun cs fr e3 => by cases e3) Bs e.symm rfl)).trans ((heap_alloc_old _ _ (lt_of_block hv3)).trans hv3)
       obtain ⟨hc5, hf5⟩ := cell_of_box_a hv5
       go_frame)
    | gi_round_op_a)
  have hL5 : W5.heap[l]? = some (.loop { (apRec fn sv Bs D .ready none) with state := .busy }) := (hg5.block l (by have := (Array.getElem?_eq_some_iff.1 hL3).1; simp; omega) (fun e => hrow3.no_walk hL3 (fun cs fr e3 => by cases e3) l e.symm rfl)).trans ((heap_alloc_old _ _ (Array.getElem?_eq_some_iff.1 hL3).1).trans hL3)
  have hK5 : W5.heap[D]? = some (.deferred (some [])) := (hg5.block D (by have := (Array.getElem?_eq_some_iff.1 hK3).1; simp; omega) (fun e => hrow3.no_walk hK3 (fun cs fr e3 => by cases e3) D e.symm rfl)).trans ((heap_alloc_old _ _ (Array.getElem?_eq_some_iff.1 hK3).1).trans hK3)
  obtain ⟨W6, hW6⟩ : ∃ W6, W5.setCell ⟨Bs, 0, none⟩ (.slice a5 (ss.length + 1) c5) = W6 := ⟨_, rfl⟩
  rw [hW6]
  have hg6 : W5.grownBy W6 (some Bs) := by rw [← hW6]; exact grownBy_setCell0_a _ _ _
  have hv6 : W6.heap[Bs]? = some (.cells #[.slice a5 (ss.length + 1) c5] 39 (0, 0)) := by rw [← hW6]; exact heap_setCell_box_a _ hv5
  have hL6 : W6.heap[l]? = some (.loop { (apRec fn sv Bs D .ready none) with state := .busy }) := (hg6.block l (Array.getElem?_eq_some_iff.1 hL5).1 (fun e => hBl (by cases e; rfl))).trans hL5
  have hK6 : W6.heap[D]? = some (.deferred (some [])) := (hg6.block D (Array.getElem?_eq_some_iff.1 hK5).1 (fun e => hDB (by cases e; rfl))).trans hK5
  have hrow6 := hown5.grown hg6 (fun k e e2 => hown5.no_walk hv5 (fun cs fr e3 => by cases e3) k e (Option.some.inj e2))
  have hl6 : l < W6.heap.size := (Array.getElem?_eq_some_iff.1 hL6).1
  have hb5 : Below w0.heap.size w0 W5 := (hb3.alloc hb3.size _).grown hg5 (by have := hb3.size; simp; omega) (fun k e => (hrow3.lt k e).1)
  have hb6 : Below w0.heap.size w0 W6 := hb5.grown hg6 hb5.size (fun k e => by cases e; exact h0B)
  have hk6 : KeepsWalks W W6 := (((hk2.trans hk3).trans (KeepsWalks.alloc _ _)).trans (KeepsWalks.of_grownBy hg5 (fun j o e ho => by
    rcases hrow4.1.2 with ⟨rfl, _⟩ | ⟨g, cap, cur, rfl, _, hh, _⟩
    · cases e
    · simp [Value.ownBlock] at e
      subst e
      have e9 := hh.symm.trans ho
      cases e9
      rfl))).trans (by rw [← hW6]; exact KeepsWalks.setCell _ _ _)
  clear hW6
  refine ⟨_, _, run_endRound none hL6, rfl, ⟨⟨_, (World.putObj_heap_other hBl).trans hv6, ?_⟩, World.putObj_heap_same hl6, (World.putObj_heap_other hDl).trans hK6, hb6.grown (grownBy_putObj_a _ _ _) hb6.size (fun k e => by cases e; exact h0l)⟩, hk6.trans (KeepsWalks.putObj _ hL6 rfl)⟩
  exact hrow6.grown (grownBy_putObj_a _ _ _) (fun k e e2 => hrow6.no_walk hL6 (fun cs fr e3 => by cases e3) k e (Option.some.inj e2))
set_option linter.unusedSimpArgs false in
set_option maxRecDepth 100000 in
set_option maxHeartbeats 12800000 in
theorem appendSeq_in (F : Fence) (n : Nat) (hf : F.fn 223) (hro : F.round = none) (hn : 2 ≤ n) (g : Nat) (lb : Array Value) (hFg : F.fn g) (eg : ∀ args w, (callFunc g args).run Tryz.prog w = .ok (.enter g args) w)
    (S : List RefD → Prop) (N : Nat) (hN : N ≤ 1000000) (w : World) (hseq : SeqGives F (n - 1) Tryz.prog g lb (fun x : RefD => .agg x.cells.toArray) S N w) :
    CallsIn F n Tryz.prog 223 #[.slice none 0 0, .func (.func g) #[] lb] w fun e w' => ∃ (v : Value) (ss : List RefD), e = .returned v ∧ S ss ∧ OwnOf refK 71 w' w.heap.size v ss ∧ Below w.heap.size w w' := by
  have h1 : 1 ≤ n := by omega
  refine callsIn_of_wp_marks Tryz.func223 rfl hf ?_ hro
  simp only [Tryz.ntmps223, List.size_toArray, List.length_cons, List.length_nil, Nat.reduceAdd, Nat.reduceSub, Array.replicate_succ, Array.replicate_zero, List.push_toArray, List.append_toArray, List.nil_append, List.cons_append]
  gi_wp2
  refine wpIn_rangeFunc ?_
  intro fn hfn
  rw [hro]
  obtain ⟨W0, hW0⟩ : ∃ W0, w.alloc (.cells #[.slice none 0 0] 39) = W0 := ⟨_, rfl⟩
  have hs0 : W0.heap.size = w.heap.size + 1 := by rw [← hW0]; simp
  have hv0 : W0.heap[w.heap.size]? = some (.cells #[.slice none 0 0] 39 (0, 0)) := by rw [← hW0]; exact World.alloc_heap_new w _
  have hb0 : Below w.heap.size w W0 := by rw [← hW0]; exact (Below.refl _ w).alloc (Nat.le_refl _) _
  rw [hW0]
  obtain ⟨W1, hW1⟩ : ∃ W1, (W0.alloc (.deferred (some []))).alloc (.loop (apRec fn (.func (.func g) #[] lb) w.heap.size W0.heap.size .ready none)) = W1 := ⟨_, rfl⟩
  have hold : ∀ k, k < W0.heap.size → W1.heap[k]? = W0.heap[k]? := fun k hk => by
    rw [← hW1]; exact (Below.heap_alloc _ _ k (by simp; omega)).trans (Below.heap_alloc _ _ k hk)
  have hb1 : Below w.heap.size w W1 := by rw [← hW1]; exact (hb0.alloc hb0.size _).alloc (by have := hb0.size; simp; omega) _
  have hs1 : W1.heap.size = W0.heap.size + 2 := by rw [← hW1]; simp
  have hM : ApAt w fn (.func (.func g) #[] lb) w.heap.size (W0.heap.size + 1) W0.heap.size [] W1 :=
    ⟨⟨_, (hold w.heap.size (by omega)).trans hv0, OwnOf.nil _ _ _ _⟩,
     by rw [← hW1]; have := World.alloc_heap_new (W0.alloc (.deferred (some []))) (.loop (apRec fn (.func (.func g) #[] lb) w.heap.size W0.heap.size .ready none)); rwa [World.size_alloc] at this,
     by rw [← hW1]; exact (Below.heap_alloc _ _ _ (by simp)).trans (World.alloc_heap_new W0 _), hb1⟩
  refine ⟨W0.heap.size + 1, [{ target := .collected W0.heap.size, args := #[] }], W1, { target := .fn (.func g) lb, args := #[.func (.yield (W0.heap.size + 1)) #[] #[]] }, W1, g,
    #[.func (.yield (W0.heap.size + 1)) #[] #[]] ++ lb, W1, ?_, ?_, ?_, ?_, fun _ => h1, ?_⟩
  · rw [← hW1]; exact run_enterLoop_outer _ _ _ _ _
  · simp [resolve, go_sem]
  · intro f' hf'; simp [Target.leads] at hf'; subst hf'; exact hFg
  · simp [invoke, go_sem, eg]
  · refine (hseq (W0.heap.size + 1) (ApAt w fn (.func (.func g) #[] lb) w.heap.size (W0.heap.size + 1) W0.heap.size) W1 hb1 (ap_abides _ _ _ _ _ _ _ hb1.size)
      (fun pre x W hJ hl => apYield F (n - 1 - 1) w fn hfn _ w.heap.size (W0.heap.size + 1) W0.heap.size (by omega) (by omega) (by omega) (Nat.le_refl _) (by omega) N hN pre x W hJ hl) hM).mono ?_
    rintro e W2 ⟨⟨v0, rfl⟩, ss, hS, h2⟩
    obtain ⟨v, hv, hrow⟩ := h2.box
    have hend := run_endLoop (P := Tryz.prog) h2.L (by simp [apRec])
    obtain ⟨W3, hW3⟩ : ∃ W3, W2.putObj (W0.heap.size + 1) (.loop { apRec fn (.func (.func g) #[] lb) w.heap.size W0.heap.size .ready none with state := .exhausted }) = W3 := ⟨_, rfl⟩
    rw [hW3] at hend
    have hg3 : W2.grownBy W3 (some (W0.heap.size + 1)) := by rw [← hW3]; exact grownBy_putObj_a _ _ _
    have hv3 : W3.heap[w.heap.size]? = some (.cells #[v] 39 (0, 0)) := by rw [← hW3]; exact (World.putObj_heap_other (by omega)).trans hv
    have hK3 : W3.heap[W0.heap.size]? = some (.deferred (some [])) := by rw [← hW3]; exact (World.putObj_heap_other (by omega)).trans h2.K
    have hrow3 := hrow.grown hg3 (fun k e e2 => hrow.no_walk h2.L (fun cs fr e3 => by cases e3) k e (Option.some.inj e2))
    have hb3 : Below w.heap.size w W3 := h2.below.grown hg3 h2.below.size (fun k e => by cases e; omega)
    obtain ⟨hc3, hf3⟩ := cell_of_box_a hv3
    clear hW3
    refine ⟨none, W3, hend, ?_⟩
    gi_wp2
    rw [← hs0]
    refine ⟨by simp, .inl ⟨_, _, rfl, run_takeDeferred hK3, ?_⟩⟩
    exact ⟨_, results_tmp rfl _ _ _, v, ss, rfl, hS, hrow3.grown (grownBy_putObj_a _ _ _) (fun k e e2 => hrow3.no_walk hK3 (fun cs fr e3 => by cases e3) k e (Option.some.inj e2)), hb3.grown (grownBy_putObj_a _ _ _) hb3.size (fun k e => by cases e; omega)⟩
set_option linter.unusedSimpArgs false in
set_option maxRecDepth 100000 in
set_option maxHeartbeats 12800000 in
theorem collect_in (F : Fence) (n : Nat) (hf : F.fn 201) (hf2 : F.fn 223) (hro : F.round = none) (hn : 3 ≤ n) (g : Nat) (lb : Array Value) (hFg : F.fn g) (eg : ∀ args w, (callFunc g args).run Tryz.prog w = .ok (.enter g args) w)
    (S : List RefD → Prop) (N : Nat) (hN : N ≤ 1000000) (w : World) (hseq : SeqGives F (n - 1 - 1) Tryz.prog g lb (fun x : RefD => .agg x.cells.toArray) S N w) :
    CallsIn F n Tryz.prog 201 #[.func (.func g) #[] lb] w fun e w' => ∃ (v : Value) (ss : List RefD), e = .returned v ∧ S ss ∧ OwnOf refK 71 w' w.heap.size v ss ∧ Below w.heap.size w w' := by
  have h1 : 1 ≤ n := by omega
  refine callsIn_of_wp Tryz.func201 rfl hf ?_ hro
  simp only [Tryz.ntmps201, List.size_toArray, List.length_cons, List.length_nil, Nat.reduceAdd, Nat.reduceSub, Array.replicate_succ, Array.replicate_zero, List.push_toArray, List.append_toArray, List.nil_append, List.cons_append]
  gi_wp2_with (gi_at_call 223; refine (appendSeq_in F (n - 1) hf2 hro (by omega) g lb hFg eg S N hN _ hseq).mono ?_; rintro e w' ⟨v, ss, rfl, hS, hrow, hb⟩)
  go_ret
  exact ⟨v, ss, rfl, hS, hrow, hb⟩
end Go.Proofs.YteddkkcheaghaaaGreatDoor
namespace Go.Proofs.YteddkkcheaghaaaGreatDoor
open Go.RowKit Go.Sort

/-- Does a place stand ahead of another one? -/
def refLt (x y : RefD) : Bool := refLess x.tx y.tx x.place y.place
theorem cmp_less : ∀ (s t : List UInt8) (p q : Int), s.length = t.length → decide (firstOf [Lib.compareBytes s t, Lib.compareInt p q] < 0) = refLess s t p q
  | [], [], p, q, _ => by
    simp only [Lib.compareBytes, firstOf, if_true, refLess]
    rcases Int.lt_trichotomy p q with h | h | h
    · simp [Lib.compareInt, h]
    · simp [Lib.compareInt, h]
    · have h2 : ¬ p < q := by omega
      simp [Lib.compareInt, h, h2]
  | [], _ :: _, _, _, h => by simp at h
  | _ :: _, [], _, _, h => by simp at h
  | a :: s, b :: t, p, q, h => by
    have ih := cmp_less s t p q (by simpa using h)
    by_cases e : a.toNat = b.toNat
    · obtain rfl : a = b := UInt8.toNat_inj.1 e
      have h1 : ¬ a < a := UInt8.lt_irrefl a
      rw [refLess, if_pos rfl, ← ih]
      simp only [Lib.compareBytes, h1, if_false]
    · by_cases hlt : a < b
      · have h2 : a.toNat < b.toNat := UInt8.lt_iff_toNat_lt.1 hlt
        rw [refLess, if_neg e]
        simp [Lib.compareBytes, hlt, firstOf, h2]
      · have h2 : ¬ a.toNat < b.toNat := fun h9 => hlt (UInt8.lt_iff_toNat_lt.2 h9)
        have h3 : b < a := UInt8.lt_iff_toNat_lt.2 (by omega)
        rw [refLess, if_neg e]
        simp [Lib.compareBytes, hlt, h3, firstOf, h2]
theorem lt_refCmp (x y : RefD) : ltOf refCmp x y = refLt x y := cmp_less x.tx y.tx x.place y.place (by rw [x.hs, y.hs])
theorem RefD.ext9 {x y : RefD} (h1 : x.tx = y.tx) (h2 : x.place = y.place) : x = y := by
  cases x
  cases y
  cases h1
  cases h2
  rfl
theorem refLt_total {x y : RefD} (h1 : refLt x y = false) (h2 : refLt y x = false) : x = y := by
  obtain ⟨h3, h4⟩ := refLess_total (by rw [x.hs, y.hs]) h1 h2
  exact RefD.ext9 h3 h4
theorem refLt_trans {x y z : RefD} (h1 : refLt x y = true) (h2 : refLt y z = true) : refLt x z = true := refLess_trans (by rw [x.hs, y.hs]) (by rw [y.hs, z.hs]) h1 h2
theorem refLt_irrefl (x : RefD) : refLt x x = false := refLess_irrefl _ _
theorem refLt_asymm {x y : RefD} (h : refLt x y = true) : refLt y x = false := by
  cases h2 : refLt y x with
  | false => rfl
  | true => have h3 := refLt_trans h h2; rw [refLt_irrefl] at h3; cases h3
theorem swoRef : SWO (ltOf refCmp) where
  irrefl x := by rw [lt_refCmp]; exact refLt_irrefl x
  trans x y z h1 h2 := by rw [lt_refCmp] at *; exact refLt_trans h1 h2
  ntrans x y z h1 h2 := by
    rw [lt_refCmp] at *
    cases h3 : refLt x z with
    | false => rfl
    | true =>
      cases h4 : refLt y x with
      | true => rw [refLt_trans h4 h3] at h2; cases h2
      | false => obtain rfl := refLt_total h1 h4; rw [h3] at h2; cases h2
def sortRefs (ss : List RefD) : List RefD := ss.mergeSort fun x y => !(ltOf refCmp) y x
theorem sortRefs_perm (ss : List RefD) : (sortRefs ss).Perm ss := List.mergeSort_perm ss _
theorem sortRefs_len (ss : List RefD) : (sortRefs ss).length = ss.length := (sortRefs_perm ss).length_eq
theorem sortRefs_sorted {ss : List RefD} (h : ss.Nodup) : (sortRefs ss).Pairwise (fun x y => refLt x y = true) := by
  have h1 := List.pairwise_mergeSort (le := fun x y : RefD => !(ltOf refCmp) y x) (fun a b c h1 h2 => by
    simp only [lt_refCmp, Bool.not_eq_true'] at *
    cases h3 : refLt c a with
    | false => rfl
    | true =>
      cases h4 : refLt c b with
      | true => rw [h4] at h2; cases h2
      | false =>
        cases h5 : refLt b c with
        | true => rw [refLt_trans h5 h3] at h1; cases h1
        | false => obtain rfl := refLt_total h4 h5; rw [h3] at h1; cases h1) (fun a b => by
    simp only [lt_refCmp]
    cases h3 : refLt b a with
    | false => rfl
    | true => rw [refLt_asymm h3]; rfl) ss
  have h2 : (sortRefs ss).Nodup := (sortRefs_perm ss).nodup_iff.2 h
  refine (List.Pairwise.and h1 h2).imp fun {a b} hab => ?_
  obtain ⟨h3, h4⟩ := hab
  simp only [lt_refCmp, Bool.not_eq_true'] at h3
  cases h5 : refLt a b with
  | true => rfl
  | false => exact absurd (refLt_total h5 h3) h4

/-! ### In memory -/
theorem flat_flatK (ss : List RefD) : (flatK RefD.cells 33 ss.toArray).toList = ss.flatMap RefD.cells := by
  have hl : (ss.flatMap RefD.cells).length = ss.length * 33 := cells_flat_len (fun x _ => x.len)
  apply List.ext_getElem?
  intro t
  by_cases ht : t < ss.length * 33
  · have h1 : t / 33 < ss.length := Nat.div_lt_of_lt_mul (by omega)
    have h2 : t % 33 < 33 := Nat.mod_lt _ (by omega)
    have h3 := flat_get (f := RefD.cells) (k := 33) (d := noRef) (xs := ss) (fun x _ => x.len) h1 h2
    have h4 : t / 33 * 33 + t % 33 = t := Nat.div_add_mod' t 33
    rw [h4] at h3
    have h5 : t < (flatK RefD.cells 33 ss.toArray).size := by rw [size_flatK]; simpa using ht
    rw [Array.getElem?_toList, Array.getElem?_eq_getElem h5, h3, ← getElem!_pos (flatK RefD.cells 33 ss.toArray) t h5, get_flatK _ _ _ _ (by simpa using ht)]
    have h6 : (ss.toArray)[t / 33]! = ss.getD (t / 33) noRef := by
      rw [getElem!_pos ss.toArray (t / 33) (by simpa using h1)]
      simp [List.getD, h1]
    rw [h6]
    have h7 : t % 33 < (ss.getD (t / 33) noRef).cells.length := by rw [RefD.len]; exact h2
    rw [List.getElem?_eq_getElem h7, getElem!_pos (ss.getD (t / 33) noRef).cells (t % 33) h7]
  · rw [List.getElem?_eq_none (by rw [Array.length_toList, size_flatK]; simpa using ht), List.getElem?_eq_none (by omega)]
theorem holds_refs {w : World} {g : Nat} {cur : Array Value} {e : TypeId} {ss : List RefD} (hb : w.heap[g]? = some (.cells cur e (0, 0))) (ht : cur.toList.take (ss.length * 33) = ss.flatMap RefD.cells) : HoldsK RefD.cells 33 w g 0 ss.toArray := by
  intro j hj
  have hj' : j < ss.length * 33 := by simpa using hj
  refine ⟨?_, by simp [World.frozen?, hb]⟩
  have h1 : (cur.toList.take (ss.length * 33))[j]? = (flatK RefD.cells 33 ss.toArray).toList[j]? := by rw [ht, flat_flatK]
  rw [List.getElem?_take_of_lt hj'] at h1
  simp only [World.cell?, hb, Nat.zero_add]
  simp only [Option.isSome_none, Bool.false_eq_true, if_false]
  rw [← Array.getElem?_toList, h1, Array.getElem?_toList, Array.getElem?_eq_getElem hj, getElem!_pos (flatK RefD.cells 33 ss.toArray) j hj]
  rfl
theorem heap_sortedR {w : World} {g n : Nat} {os : Array Obj} {cur : Array Value} {e : TypeId} {fr : Nat × Nat} (F : Array Value) (hb : w.heap[g]? = some (.cells cur e fr)) :
    (grow (putRow id (Sort.ahead w n) g 0 F) os).heap[g]? = some (.cells (putCells id 0 F cur) e fr) := by
  have hg : g < w.heap.size := (Array.getElem?_eq_some_iff.1 hb).1
  rw [heap_grow_old _ _ (by simpa using hg)]
  simp [putRow, mapBlock, Sort.ahead, Array.getElem?_modify, hb, onCells]
theorem grownBy_sortedR {w : World} {g n : Nat} {os : Array Obj} (F : Array Value) : w.grownBy (grow (putRow id (Sort.ahead w n) g 0 F) os) (some g) := by
  refine ⟨rfl, rfl, rfl, by simp, fun k hk hne => ?_⟩
  rw [heap_grow_old _ _ (by simpa using hk)]
  have : g ≠ k := fun e => hne (by rw [e])
  simp [putRow, mapBlock, Sort.ahead, Array.getElem?_modify, this]
theorem take_putCellsR (cur F : Array Value) (h : F.size ≤ cur.size) : (putCells id 0 F cur).toList.take F.size = F.toList := by
  apply List.ext_getElem?
  intro j
  by_cases hj : j < F.size
  · rw [List.getElem?_take_of_lt hj, Array.getElem?_toList, Array.getElem?_toList, Array.getElem?_eq_getElem hj]
    simp [putCells, hj, show j < cur.size by omega]
  · rw [List.getElem?_eq_none (by rw [List.length_take]; omega), List.getElem?_eq_none (by simpa using hj)]
theorem Tryz.sortRefLaid (W : World) (g off cap : Nat) (ss : List RefD) (hH : HoldsK RefD.cells 33 W g off ss.toArray) (hg : g < W.heap.size) (hs : ss.length ≤ 1000000) :
    Calls Tryz.prog 202 #[.slice (some ⟨g, off, none⟩) ss.length cap, .func (.func 172) #[] #[]] W fun e w' => e = .returned (.tuple #[]) ∧ ∃ n os, w' = sortWorldK RefD.cells 33 W g off n (sortRefs ss).toArray os := by
  have eg : ∀ args w, (callFunc 172 args).run Tryz.prog w = .ok (.enter 172 args) w := enters_of Tryz.func172 (by kernel_rfl) rfl
  have h := AnyQ.slices_SortFunc_total Tryz.laysSort 33 Tryz.isAgg71 (by intro w; exact Tryz.sizeOf71 w) RefD.cells RefD.len RefD.one refCmp swoRef 172 #[] g off cap ss.toArray W eg
    (fun m os dk _ x y => compare_any x y _) hH hg (by simp; omega) (fun x y h1 h2 => refLt_total (by rw [← lt_refCmp]; exact h1) (by rw [← lt_refCmp]; exact h2))
  have e : ss.toArray.size = ss.length := by simp
  rw [e] at h
  exact h
theorem sortRef_any {W : World} {B : Nat} {v : Value} {ss : List RefD} (h : OwnOf refK 71 W B v ss) (hs : ss.length ≤ 1000000) :
    Calls Tryz.prog 202 #[v, .func (.func 172) #[] #[]] W fun e w' => e = .returned (.tuple #[]) ∧ OwnOf refK 71 w' B v (sortRefs ss) ∧ W.grownBy w' v.ownBlock := by
  have hnone : ∀ (p : Option Addr) (cap : Nat), Calls Tryz.prog 202 #[.slice p 0 cap, .func (.func 172) #[] #[]] W fun e w' => e = .returned (.tuple #[]) ∧ w' = W := fun p cap => AnyF.slices_SortFunc_none Tryz.laysSort p cap _ W
  rcases h.1.2 with ⟨rfl, hz⟩ | ⟨g, cap, cur, rfl, hbase, hh, h1, h2, h3, h4⟩
  · obtain rfl : ss = [] := List.eq_nil_of_length_eq_zero hz
    refine (hnone none 0).mono ?_
    rintro e w' ⟨rfl, rfl⟩
    have hsort : sortRefs ([] : List RefD) = [] := by simp [sortRefs]
    rw [hsort]
    exact ⟨rfl, h, ⟨rfl, rfl, rfl, Nat.le_refl _, fun _ _ _ => rfl⟩⟩
  · have hlen : (sortRefs ss).length = ss.length := sortRefs_len ss
    refine (Tryz.sortRefLaid W g 0 cap ss (holds_refs hh h4) (lt_of_block hh) hs).mono ?_
    rintro e w' ⟨rfl, n, os, rfl⟩
    refine ⟨rfl, ⟨⟨?_, .inr ⟨g, cap, _, ?_, hbase, heap_sortedR _ hh, ?_, h2, ?_, ?_⟩⟩, fun x _ => x.len⟩, grownBy_sortedR _⟩
    · have := cells_flat_len (f := refK.cells) (k := refK.size) (xs := sortRefs ss) (fun x _ => x.len)
      exact this
    · rw [hlen]
    · rw [hlen]; exact h1
    · have h5 : (putCells id 0 (flatK RefD.cells 33 (sortRefs ss).toArray) cur).size = cur.size := by simp [putCells]
      rw [h5, h3]
    · have h6 : (flatK RefD.cells 33 (sortRefs ss).toArray).size = (sortRefs ss).length * 33 := by simp
      have h7 := take_putCellsR cur (flatK RefD.cells 33 (sortRefs ss).toArray) (by rw [h6, hlen, h3]; exact Nat.mul_le_mul_right _ h1)
      rw [h6, flat_flatK] at h7
      exact h7
end Go.Proofs.YteddkkcheaghaaaGreatDoor
namespace Go.Proofs.YteddkkcheaghaaaGreatDoor
open Go.RowKit Go.Maps

/-- A map that may be nil: what each place has. -/
def MapOr (w : World) (mb : Option Nat) (F : List UInt8 → Int → Option Value) : Prop := (mb = none ∧ F = fun _ _ => none) ∨ ∃ b N m, mb = some b ∧ MapRef w b N m F ∧ N ≤ 1000
theorem MapOr.below {w w' : World} {mb : Option Nat} {F : List UInt8 → Int → Option Value} (h : MapOr w mb F) (hb : Below w.heap.size w w') : MapOr w' mb F := by
  rcases h with h | ⟨b, N, m, h1, h2, h3⟩
  · exact .inl h
  · exact .inr ⟨b, N, m, h1, h2.below hb, h3⟩
def SortedKeys (F : List UInt8 → Int → Option Value) (ss : List RefD) : Prop := ss.Pairwise (fun x y => refLt x y = true) ∧ ∀ x : RefD, x ∈ ss ↔ F x.tx x.place ≠ none
/-- A view that may be nil, or that New did not make: its map. -/
def Has (w : World) (pv : Value) (mb : Option Nat) : Prop := (pv = .pointer none ∧ mb = none) ∨ ∃ vb, pv = .pointer (some ⟨vb, 0, none⟩) ∧ vb < w.heap.size ∧ w.cell? ⟨vb, 0, none⟩ = some (.map mb)
theorem Has.below {w w' : World} {pv : Value} {mb : Option Nat} (h : Has w pv mb) (hb : Below w.heap.size w w') : Has w' pv mb := by
  rcases h with h | ⟨vb, h1, h2, h3⟩
  · exact .inl h
  · exact .inr ⟨vb, h1, Nat.lt_of_lt_of_le h2 hb.size, (hb.cell (p := ⟨vb, 0, none⟩) h2).trans h3⟩
set_option linter.unusedSimpArgs false in
set_option maxRecDepth 100000 in
set_option maxHeartbeats 12800000 in
theorem has_any {w : World} {pv : Value} {mb : Option Nat} (h : Has w pv mb) : Calls Tryz.prog 126 #[pv] w fun e w' => e = .returned (.map mb) ∧ w = w' := by
  rcases h with ⟨rfl, rfl⟩ | ⟨vb, rfl, _, hc⟩
  · go_enter Tryz.func126, Tryz.ntmps126
    go_wp2
    go_ret
    exact ⟨rfl, rfl⟩
  · go_enter Tryz.func126, Tryz.ntmps126
    go_wp2
    go_ret
    exact ⟨rfl, rfl⟩
theorem collect_any {w : World} {mb : Option Nat} {F : List UInt8 → Int → Option Value} (h : MapOr w mb F) (Bm : Nat) (hBm : Bm < w.heap.size) (hc : w.cell? ⟨Bm, 0, none⟩ = some (.map mb)) :
    Calls Tryz.prog 201 #[.func (.func 203) #[] #[.pointer (some ⟨Bm, 0, none⟩)]] w fun e w' => ∃ (v : Value) (ss : List RefD), e = .returned v ∧ (KeysOf F ss ∧ ss.length ≤ 1000) ∧ OwnOf refK 71 w' w.heap.size v ss ∧ Below w.heap.size w w' := by
  have eg : ∀ args w, (callFunc 203 args).run Tryz.prog w = .ok (.enter 203 args) w := enters_of Tryz.func203 (by kernel_rfl) rfl
  rcases h with ⟨rfl, rfl⟩ | ⟨b, N, m, rfl, hm, hN⟩
  · refine ((callsIn_wide (n := 3)).1 (collect_in Fence.wide 3 trivial trivial rfl (by omega) 203 #[.pointer (some ⟨Bm, 0, none⟩)] trivial eg _ 0 (by omega) w (keys_gives_nil Fence.wide 1 trivial rfl Bm w hBm hc))).mono ?_
    rintro e w' ⟨v, ss, rfl, rfl, ho, hb⟩
    exact ⟨v, [], rfl, ⟨⟨List.nodup_nil, fun x => by simp⟩, by simp⟩, ho, hb⟩
  · have hmN := hm.few
    refine ((callsIn_wide (n := 3)).1 (collect_in Fence.wide 3 trivial trivial rfl (by omega) 203 #[.pointer (some ⟨Bm, 0, none⟩)] trivial eg _ m (by omega) w (keys_gives Fence.wide 1 trivial rfl (Nat.le_refl _) Bm b N m w hBm hc hm))).mono ?_
    rintro e w' ⟨v, ss, rfl, ⟨hk, hl⟩, ho, hb⟩
    exact ⟨v, ss, rfl, ⟨hk, by omega⟩, ho, hb⟩
set_option linter.unusedSimpArgs false in
set_option maxRecDepth 100000 in
set_option maxHeartbeats 12800000 in
theorem sortedFunc_any {w : World} {mb : Option Nat} {F : List UInt8 → Int → Option Value} (h : MapOr w mb F) (Bm : Nat) (hBm : Bm < w.heap.size) (hc : w.cell? ⟨Bm, 0, none⟩ = some (.map mb)) :
    Calls Tryz.prog 170 #[.func (.func 203) #[] #[.pointer (some ⟨Bm, 0, none⟩)], .func (.func 172) #[] #[]] w fun e w' => ∃ (v : Value) (ss : List RefD), e = .returned v ∧ SortedKeys F ss ∧ OwnOf refK 71 w' w.heap.size v ss ∧ Below w.heap.size w w' := by
  have HC := Lib.hid (collect_any h Bm hBm hc)
  clear h hc
  go_enter Tryz.func170, Tryz.ntmps170
  go_wp2_with (go_at_call 201; refine HC.out.mono ?_; rintro e w2 ⟨v, ss, rfl, ⟨hk, hl⟩, ho, hb⟩; have HK := Lib.hid hk; have HO := Lib.hid ho; have HB := Lib.hid hb; have HS := Lib.hid (sortRef_any ho (by omega)); clear hk ho hb HC)
  go_wp2_with (go_at_call 202; refine HS.out.mono ?_; rintro e w3 ⟨rfl, ho3, hg3⟩; have HO3 := Lib.hid ho3; have HG3 := Lib.hid hg3; clear ho3 hg3 HS)
  go_ret
  exact ⟨v, _, rfl, ⟨sortRefs_sorted HK.out.1, fun x => by rw [(sortRefs_perm ss).mem_iff]; exact HK.out.2 x⟩, HO3.out, HB.out.trans (HO.out.grows HG3.out HB.out.size)⟩
set_option linter.unusedSimpArgs false in
set_option maxRecDepth 100000 in
set_option maxHeartbeats 12800000 in
theorem places_any {w : World} {pv : Value} {mb : Option Nat} {F : List UInt8 → Int → Option Value} (hv : Has w pv mb) (h : MapOr w mb F) :
    Calls Tryz.prog 115 #[pv] w fun e w' => ∃ (v : Value) (ss : List RefD), e = .returned v ∧ SortedKeys F ss ∧ OwnOf refK 71 w' w.heap.size v ss ∧ Below w.heap.size w w' := by
  have HV := Lib.hid hv
  have b1 : Below w.heap.size w (w.alloc (.cells #[.map mb] 171)) := (Below.refl _ _).alloc (Nat.le_refl _) _
  have HS := Lib.hid (sortedFunc_any (h.below b1) w.heap.size (by simp) (cell_of_row _ _ _ _ _ _ (heap_alloc_new w (.cells #[.map mb] 171))))
  have HB := Lib.hid b1
  clear hv h b1
  go_enter Tryz.func115, Tryz.ntmps115
  go_wp2_with (first
    | (go_at_call 126; refine (has_any HV.out).mono ?_; rintro e w2 ⟨rfl, rfl⟩)
    | (go_at_call 171; refine (keys_any mb w).mono ?_; rintro e w2 ⟨rfl, rfl⟩)
    | (go_at_call 170; refine HS.out.mono ?_; rintro e w2 ⟨v, ss, rfl, hk, ho, hb⟩; have HK := Lib.hid hk; have HO := Lib.hid ho; have HB2 := Lib.hid hb; clear hk ho hb HS))
  go_ret
  refine ⟨v, ss, rfl, HK.out, ?_, HB.out.trans (HB2.out.mono HB.out.size)⟩
  have h9 := HO.out
  refine ⟨⟨h9.1.1, ?_⟩, h9.2⟩
  rcases h9.1.2 with h8 | ⟨g, cap, cur, h1, h2, h3⟩
  · exact .inl h8
  · exact .inr ⟨g, cap, cur, h1, Nat.le_trans HB.out.size h2, h3⟩
end Go.Proofs.YteddkkcheaghaaaGreatDoor
namespace Go.Proofs.YteddkkcheaghaaaGreatDoor
open Go.RowKit

theorem coin_one9 (m h : Int) (a : Option Addr) (n c : Nat) : (#[Value.int .i64 m, .slice a n c, .int .i64 h]).all (·.oneCell') = true := by simp [Value.oneCell']
theorem coin_size9 (m h : Int) (a : Option Addr) (n c : Nat) : (Tryz.prog.info? 126).map (·.size) = some (#[Value.int .i64 m, .slice a n c, .int .i64 h]).size := by kernel_rfl
set_option linter.unusedSimpArgs false in
set_option maxRecDepth 100000 in
set_option maxHeartbeats 12800000 in
theorem copied_any {w : World} {m ht : Int} {a : Option Addr} {n c : Nat} {xs : List PWay} (hw : Ways w a n c xs) (hn0 : a = none ∨ 1 ≤ n) (hn : n ≤ 1000) (hk : FewKeys xs) :
    Calls Tryz.prog 116 #[.agg #[.int .i64 m, .slice a n c, .int .i64 ht]] w fun e w' => ∃ (a' : Option Addr) (c' : Nat) (ys : List PWay), e = .returned (.agg #[.int .i64 m, .slice a' n c', .int .i64 ht]) ∧ Ways w' a' n c' ys ∧ ys.map PWay.strip = xs.map PWay.strip ∧ (a' = none ∨ 1 ≤ n) ∧ TypedW w' a' n ys ∧ Below w.heap.size w w' := by
  have b2 : Below w.heap.size w ((w.alloc (.cells #[.int .i64 m, .slice a n c, .int .i64 ht] 126)).alloc (.cells #[.int .i64 0, .slice none 0 0, .int .i64 0] 126)) := ((Below.refl _ _).alloc (Nat.le_refl _) _).alloc (by simp) _
  have h1 : ((w.alloc (.cells #[.int .i64 m, .slice a n c, .int .i64 ht] 126)).alloc (.cells #[.int .i64 0, .slice none 0 0, .int .i64 0] 126)).heap[w.heap.size]? = some (.cells #[.int .i64 m, .slice a n c, .int .i64 ht] 126 (0, 0)) := by
    rw [heap_alloc_old _ _ (by simp), heap_alloc_new]
  have h2 : ((w.alloc (.cells #[.int .i64 m, .slice a n c, .int .i64 ht] 126)).alloc (.cells #[.int .i64 0, .slice none 0 0, .int .i64 0] 126)).heap[w.heap.size + 1]? = some (.cells #[.int .i64 0, .slice none 0 0, .int .i64 0] 126 (0, 0)) := heap_alloc_at _ _ _ (by simp)
  have hs2 : ((w.alloc (.cells #[.int .i64 m, .slice a n c, .int .i64 ht] 126)).alloc (.cells #[.int .i64 0, .slice none 0 0, .int .i64 0] 126)).heap.size = w.heap.size + 2 := by simp
  have HK := Lib.hid hk
  have HW := Lib.hid hw
  clear hk hw
  go_enter Tryz.func116, Tryz.ntmps116
  go_upto_region 1 with (fail)
  revert b2 h1 h2 hs2
  generalize ((w.alloc (.cells #[.int .i64 m, .slice a n c, .int .i64 ht] 126)).alloc (.cells #[.int .i64 0, .slice none 0 0, .int .i64 0] 126)) = w2
  obtain ⟨g1, hg1⟩ : ∃ g, g = w.heap.size := ⟨_, rfl⟩
  obtain ⟨g2, hg2⟩ : ∃ g, g = w.heap.size + 1 := ⟨_, rfl⟩
  rw [← hg2, ← hg1]
  intro b2 h1 h2 hs2
  have HB2 := Lib.hid b2
  have HC2 := Lib.hid (cloneWays_any (HW.out.below (by rw [hg1] at b2; exact b2)) hn0 hn)
  have H1 := Lib.hid h1
  have H2 := Lib.hid h2
  have l1 := lt_of_block h1
  have l2 := lt_of_block h2
  have c11 : w2.cell? ⟨g1, 1, none⟩ = some (.slice a n c) := cell_of_row w2 g1 1 _ _ _ h1
  have hne12 : g2 ≠ g1 := by omega
  have HG1 := Lib.hid hg1
  have HG2 := Lib.hid hg2
  clear b2 h1 h2 hg1 hg2
  go_upto_region 2 with (first | (go_at_call 139; refine HC2.out.mono ?_; rintro e w3 ⟨a3, c3, rfl, hw3, hn3, hg3, hb3⟩; have HW3 := Lib.hid hw3; have HN3 := Lib.hid hn3; have HG3 := Lib.hid hg3; have HB3 := Lib.hid hb3; have hx31 := (hb3.block _ l1).trans H1.out; have HX1 := Lib.hid hx31; have c31 := cell_of_row w3 g1 1 _ _ _ hx31; have f31 : w3.frozen? ⟨g1, 1, none⟩ = false := (by simp [World.frozen?, hx31]); clear hw3 hn3 hg3 hb3 HC2 hx31) | fail)
  clear f31
  have HW4 : Hid (Ways (w3.setCell ⟨g1, 1, none⟩ (.slice a3 n c3)) a3 n c3 xs) := Lib.hid (ways_setCell HW3.out c31 (fun _ e => by cases e) (fun h0 x e => by
    obtain ⟨g, cur, rfl, hg, _⟩ := HG3.out h0
    cases e
    show g ≠ g1
    omega))
  have HB4 : Hid (Below g1 w (w3.setCell ⟨g1, 1, none⟩ (.slice a3 n c3))) := Lib.hid (below_setCell9 (HB2.out.trans (HB3.out.mono (by omega))) (Nat.le_refl _) _ _)
  have HX14 : Hid ((w3.setCell ⟨g1, 1, none⟩ (.slice a3 n c3)).heap[g1]? = some (.cells #[.int .i64 m, .slice a3 n c3, .int .i64 ht] 126 (0, 0))) := Lib.hid (heap_setCell_eq HX1.out 1 _)
  have HX24 : Hid ((w3.setCell ⟨g1, 1, none⟩ (.slice a3 n c3)).heap[g2]? = some (.cells #[.int .i64 0, .slice none 0 0, .int .i64 0] 126 (0, 0))) := Lib.hid ((heap_setCell_ne (by omega) _).trans ((HB3.out.block _ l2).trans H2.out))
  have HG4 : Hid (1 ≤ n → ∃ g cur, a3 = some ⟨g, 0, none⟩ ∧ w2.heap.size ≤ g ∧ (w3.setCell ⟨g1, 1, none⟩ (.slice a3 n c3)).heap[g]? = some (.cells cur 170 (0, 0))) := Lib.hid (fun h0 => by
    obtain ⟨g, cur, e, hg, hh⟩ := HG3.out h0
    exact ⟨g, cur, e, hg, (heap_setCell_ne (by omega) _).trans hh⟩)
  revert HW4 HB4 HX14 HX24 HG4
  generalize (w3.setCell ⟨g1, 1, none⟩ (.slice a3 n c3)) = w4
  intro HW4 HB4 HX14 HX24 HG4
  have hn63 : (n : Int) ≤ 9223372036854775807 := by omega
  have hnc : (n : Int) ≤ (c3 : Int) := by have := HW4.out.2.1; omega
  have hc63 : (c3 : Int) ≤ 9223372036854775807 := by have h2 := HW4.out.2.2.1; unfold maxLen at h2; omega
  have c41 : w4.cell? ⟨g1, 1, none⟩ = some (.slice a3 n c3) := cell_of_row w4 g1 1 _ _ _ HX14.out
  clear c31 HX1 HW3 HB3 HG3 H1 H2
  try simp only [Act.put]
  go_upto_region 3 with (fail)
  clear c41
  go_loopw [15] (fun i wr => ∃ (j : Nat) (ys : List PWay), j ≤ n ∧ i = .int .i64 j ∧ Ways wr a3 n c3 ys ∧ ys.map PWay.strip = xs.map PWay.strip ∧ wr.heap[g1]? = some (.cells #[.int .i64 m, .slice a3 n c3, .int .i64 ht] 126 (0, 0)) ∧ wr.heap[g2]? = some (.cells #[.int .i64 0, .slice none 0 0, .int .i64 0] 126 (0, 0)) ∧ Below g1 w wr ∧ (∀ i, i < j → TypedKey wr (ys.getD i noWay)) ∧ (1 ≤ n → ∃ g cur, a3 = some ⟨g, 0, none⟩ ∧ w2.heap.size ≤ g ∧ wr.heap[g]? = some (.cells cur 170 (0, 0)))) (fun i _ => n - (intOf i).toNat)
  case atStart => exact ⟨0, xs, Nat.zero_le _, rfl, HW4.out, rfl, HX14.out, HX24.out, HB4.out, fun i hi => by omega, HG4.out⟩
  case round =>
    obtain ⟨j, ys, hj, rfl, hwy, hst, hx1, hx2, hbr, hok, hgr⟩ := hrel
    have HWY := Lib.hid hwy
    have HST := Lib.hid hst
    have HX1 := Lib.hid hx1
    have HX2 := Lib.hid hx2
    have HBR := Lib.hid hbr
    have HOK := Lib.hid hok
    have HGR := Lib.hid hgr
    clear hok hwy hst hx1 hx2 hbr hgr HW4 HX14 HX24 HB4 HG4
    by_cases hjn : j < n
    · have f1 : (j : Int) < (n : Int) := by omega
      have f0 : (0 : Int) ≤ (j : Int) := by omega
      have ft : ((j : Int)).toNat = j := by omega
      obtain ⟨g, cur, rfl, hgge, hxg⟩ := HGR.out (by omega)
      obtain ⟨b9, o9, e9, _, hcc⟩ := HWY.out.2.2.2.2.2 (by omega)
      cases e9
      have hrx := hcc j hjn
      rw [Nat.zero_add] at hrx
      have hwx := HWY.out.way hjn
      have hyl : j < ys.length := by rw [HWY.out.1]; exact hjn
      have hfew : (ys.getD j noWay).n ≤ 100000 := by
        have h8 := fewKeys_strip HST.out HK.out (ys.getD j noWay) (by rw [List.getD_eq_getElem?_getD, List.getElem?_eq_getElem hyl]; exact List.getElem_mem hyl)
        rw [hwx.keys.1] at h8
        omega
      obtain ⟨y, hy⟩ : ∃ y, y = ys.getD j noWay := ⟨_, rfl⟩
      rw [← hy] at hrx hwx hfew
      have RX := Lib.hid hrx
      have HX := Lib.hid hwx
      have HY := Lib.hid hy
      have SX := Lib.hid (way_size hwx.sum)
      have AX := Lib.hid (way_sizeA hwx.sum)
      have ZX := Lib.hid (way_zero hwx.sum)
      have HXG := Lib.hid hxg
      have HGB : Hid (g1 ≤ g) := Lib.hid (by omega)
      have lg1 := lt_of_block HX1.out
      have lg2 := lt_of_block HX2.out
      have lg := lt_of_block HXG.out
      clear hcc hrx hwx hy hxg HGR
      go_upto_region 5 with (first | (refine wpList_load_mid rfl 170 _ rfl g (j * 35) rfl y.cells _ RX.out Tryz.underlying170 rfl SX.out ?_) | (refine wpList_store_row rfl 170 _ _ rfl wr.heap.size y.cells.toArray rfl rfl 170 noWay.cells.toArray (heap_alloc_new _ _) AX.out ZX.out (all_oneCell_toArray y.cells_one) ?_) | fail)
      rw [← noWay_is, layWay_is]
      have h5 := layWay_heap wr y
      have b5 := layWay_self wr y
      revert h5 b5
      generalize layWay wr y = w5
      obtain ⟨g5, hg5⟩ : ∃ g, g = wr.heap.size := ⟨_, rfl⟩
      rw [← hg5]
      intro h5 b5
      rw [hg5] at b5
      have HB5 := Lib.hid (HBR.out.trans (b5.mono (by have h8 := HBR.out.size; rw [← HG1.out] at h8; exact h8)))
      have HX15 := Lib.hid ((b5.block _ lg1).trans HX1.out)
      have HX25 := Lib.hid ((b5.block _ lg2).trans HX2.out)
      have HXG5 := Lib.hid ((b5.block _ lg).trans HXG.out)
      have HWY5 := Lib.hid (HWY.out.below b5)
      have HOK5 : Hid (∀ i, i < j → TypedKey w5 (ys.getD i noWay)) := Lib.hid (fun i hi => (HOK.out i hi).below b5)
      have hyl5 : j < ys.length := hyl
      have hk5 := HX.out.keys.below b5
      have HC : Hid (∀ W : World, Below w5.heap.size w5 W → Calls Tryz.prog 78 #[.slice y.a y.n y.c] W fun e w' => ∃ (a' : Option Addr) (c' : Nat), e = .returned (.slice a' y.n c') ∧ Numbers w' a' y.n c' y.ks ∧ (∀ x, a' = some x → ∃ cs fr, w'.heap[x.block]? = some (.cells cs 3 fr)) ∧ Below W.heap.size W w') := Lib.hid (fun W hW => cloneZ_any (hk5.below hW) hfew)
      have C1 : Hid (∀ W : World, But w5.heap.size g w5 W → W.cell? ⟨g1, 1, none⟩ = some (.slice (some ⟨g, 0, none⟩) n c3)) := Lib.hid (fun W hW => cell_of_row W g1 1 _ _ _ (hW.heap HX15.out (lt_of_block HX15.out) (by omega)))
      have C5 : Hid (∀ W : World, But w5.heap.size g w5 W → W.cell? ⟨g5, 0, none⟩ = some (.slice y.a y.n y.c)) := Lib.hid (fun W hW => way_keys (range_of (hW.heap h5 (lt_of_block h5) (by omega))))
      have CK : Hid (∀ W : World, Below w5.heap.size w5 W → W.cell? ⟨g, j * 35, none⟩ = some (.slice y.a y.n y.c)) := Lib.hid (fun W hW => by
        obtain ⟨b9, o9, e9, hl9, hcc⟩ := (HWY5.out.below hW).2.2.2.2.2 (by omega)
        cases e9
        have h9 := way_keys (hcc j hjn)
        rw [Nat.zero_add, ← HY.out] at h9
        exact h9)
      have FK : Hid (∀ W : World, Below w5.heap.size w5 W → W.frozen? ⟨g, j * 35, none⟩ = false) := Lib.hid (fun W hW => by
        have h9 := (hW.block _ (lt_of_block HXG5.out)).trans HXG5.out
        simp [World.frozen?, h9])
      have HFIN : Hid (∀ (W : World) (a7 : Option Addr) (c7 : Nat), Below w5.heap.size w5 W → Numbers W a7 y.n c7 y.ks → Ways (W.setCell ⟨g, j * 35, none⟩ (.slice a7 y.n c7)) (some ⟨g, 0, none⟩) n c3 (ys.set j (y.at9 a7 y.n c7))) := Lib.hid (fun W a7 c7 hW hN => by
        have h9 := ways_key_set (HWY5.out.below hW) hjn (by rw [← HY.out]; exact hN)
        rw [← HY.out] at h9
        exact h9)
      have HSS : Hid (∀ (a7 : Option Addr) (c7 : Nat), (ys.set j (y.at9 a7 y.n c7)).map PWay.strip = xs.map PWay.strip) := Lib.hid (fun a7 c7 => by rw [HY.out, strip_set hyl]; exact HST.out)
      have HG15 : Hid (g1 ≤ w5.heap.size) := Lib.hid (Nat.le_of_lt (lt_of_block HX15.out))
      have L15 := lt_of_block HX15.out
      have L25 := lt_of_block HX25.out
      have LG5 := lt_of_block HXG5.out
      have hng1 : g1 ≠ g := by omega
      have hng2 : g2 ≠ g := by omega
      clear h5 b5 hg5 hk5 HBR HX1 HX2 HXG HWY RX HX HY hyl HOK lg1 lg2 lg
      try simp only [Act.put]
      refine wp_region_held_drew (S := fun w' => But w5.heap.size g w5 w') (by kernel_rfl) ((But.refl _ _ _).drew) (fun hHeld => ?_)
      refine tkP 0 rfl rfl ?_
      refine tkP 1 rfl rfl ?_
      refine tkA 2 rfl rfl (yields_cell (b := g1) (o := 1) (by rfl) rfl rfl (fun w0 hSw => C1.out w0 hSw) (fun w0 => Tryz.isAgg105 w0)) ?_
      refine tkP 3 rfl rfl ?_
      refine tkP 4 rfl rfl ?_
      refine tkA 5 rfl rfl (yields_cell (b := g5) (o := 0) (by rfl) rfl rfl (fun w0 hSw => C5.out w0 hSw) (fun w0 => Tryz.isAgg38 w0)) ?_
      refine tkR 6 rfl (fun K hK => ?_)
      go_simp
      refine (HC.out _ (below_drew (Below.refl _ _))).mono ?_
      rintro e w7 ⟨a7, c7, rfl, hN7, hf7, hb7⟩
      dsimp only
      have HF7 : Hid (∀ x, a7 = some x → ∃ cs fr, w7.heap[x.block]? = some (.cells cs 3 fr)) := Lib.hid hf7
      clear hf7
      have HN7 := Lib.hid hN7
      have HB7 : Hid (Below w5.heap.size w5 w7) := Lib.hid ((below_drew (Below.refl _ _)).trans hb7)
      clear hN7 hb7
      refine hK.out _ _ (by (try dsimp only); exact But.of HB7.out) (fun hHeld => ?_)
      clear hK K
      refine tkP 7 rfl rfl ?_
      refine tkP 8 rfl rfl ?_
      refine tkR 9 rfl (fun K hK => ?_)
      refine step_store_cell (by rfl) 38 _ _ rfl g (j * 35) rfl (.slice a7 y.n c7) rfl _ (CK.out _ HB7.out) (FK.out _ HB7.out) (by kernel_rfl) rfl ?_
      refine hK.out _ _ (by (try dsimp only); exact (But.of HB7.out).setCell ⟨g, j * 35, none⟩ (.inl rfl) _) (fun hHeld => ?_)
      clear hK K
      refine wpAnyH_done (by kernel_rfl) ?_ _
      go_wp2_with fail
      go_roundw
      case rel =>
        refine ⟨j + 1, ys.set j (y.at9 a7 y.n c7), by omega, by go_num, ?_, ?_, ?_, ?_, ?_, ?_, fun _ => ?_⟩
        · exact HFIN.out _ _ _ HB7.out HN7.out
        · exact HSS.out _ _
        · exact (heap_setCell_ne hng1 _).trans ((HB7.out.block _ L15).trans HX15.out)
        · exact (heap_setCell_ne hng2 _).trans ((HB7.out.block _ L25).trans HX25.out)
        · exact below_setCell9 (HB5.out.trans (HB7.out.mono HG15.out)) HGB.out _ _
        · exact typed_set (fun i hi => ((HOK5.out i hi).below HB7.out).but (but_setCell9 _ _ _ _) (fun cs fr e => by rw [(HB7.out.block _ LG5).trans HXG5.out] at e; cases e)) hyl5 (fun h0 x e => by
            obtain ⟨cs, fr, hh⟩ := HF7.out x e
            refine ⟨cs, fr, (heap_setCell_ne (fun e2 => ?_) _).trans hh⟩
            rw [e2, (HB7.out.block _ LG5).trans HXG5.out] at hh
            cases hh)
        · exact ⟨g, _, rfl, hgge, heap_setCell_eq ((HB7.out.block _ LG5).trans HXG5.out) _ _⟩
      case measure => simp [intOf]; omega
    · obtain rfl : j = n := by omega
      have f1 : ¬ ((j : Int) < (j : Int)) := by omega
      go_wp2_with (first | (refine wpList_load_row rfl 126 _ rfl g1 rfl 126 #[.int .i64 m, .slice a3 j c3, .int .i64 ht] (0, 0) _ HX1.out Tryz.underlying126 rfl (coin_size9 m ht a3 j c3) ?_) | (refine wpList_store_row rfl 126 _ _ rfl g2 #[.int .i64 m, .slice a3 j c3, .int .i64 ht] rfl rfl 126 #[.int .i64 0, .slice none 0 0, .int .i64 0] HX2.out (coin_size9 m ht a3 j c3) rfl (coin_one9 m ht a3 j c3) ?_) | fail)
      have HWF : Hid (Ways (wr.setRow g2 #[.int .i64 m, .slice a3 j c3, .int .i64 ht]) a3 j c3 ys ∧ TypedW (wr.setRow g2 #[.int .i64 m, .slice a3 j c3, .int .i64 ht]) a3 j ys) := Lib.hid (ways_typed9 HWY.out ⟨fun h0 x e => by
        obtain ⟨g, cur, rfl, _, hh⟩ := HGR.out h0
        cases e
        exact ⟨_, _, hh⟩, fun y hy => by
        obtain ⟨i, hi, rfl⟩ := List.getElem_of_mem hy
        have h8 := HOK.out i (by rw [← HWY.out.1]; exact hi)
        rw [List.getD_eq_getElem?_getD, List.getElem?_eq_getElem hi] at h8
        exact h8⟩ (but_setRow _ _ _) (fun cs fr => ⟨fun e => (by rw [HX2.out] at e; cases e), fun e => (by rw [HX2.out] at e; cases e)⟩))
      have HBF : Hid (Below w.heap.size w (wr.setRow g2 #[.int .i64 m, .slice a3 j c3, .int .i64 ht])) := Lib.hid ((by have h8 := HBR.out; rw [HG1.out] at h8; exact h8 : Below w.heap.size w wr).trans ((but_setRow wr g2 _).below9 (by have := HG1.out; have := HG2.out; omega) HBR.out.size))
      have h9 := setRow_heap wr g2 _ #[.int .i64 m, .slice a3 j c3, .int .i64 ht] _ _ HX2.out
      exact bodyPost_ret (results_cell_row rfl _ _ g2 126 _ _ _ rfl h9 Tryz.underlying126 rfl (coin_size9 m ht a3 j c3)) rfl ⟨a3, c3, rfl, ys, HWF.out.1, HST.out, HN3.out, HWF.out.2, HBF.out⟩
end Go.Proofs.YteddkkcheaghaaaGreatDoor
