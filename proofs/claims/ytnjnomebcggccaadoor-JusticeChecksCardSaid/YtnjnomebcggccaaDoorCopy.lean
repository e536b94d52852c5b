/- slices.Clone at []int, over slices of numbers. slices.Clone at ways: a row of its own of the same ways. Cells that hold a slice, written; slices.Clone at numbers. A transaction's rows while it is copied: what is written into cells that hold slices. No function of the program is named. slices.Clone at ins and outs: rows of their own of the same things. bytes.Clone, slices.Clone at numbers: the same bytes, the same numbers, in a row of their own. What tx.copied comes to, of any transaction without signs: one that says the same, its rows new. -/
import Derived.Test.YtnjnomebcggccaaDoorOwnZ
import Derived.Test.YtnjnomebcggccaaDoorShelf
import Derived.Test.YtnjnomebcggccaaDoorSliceOf
import Derived.Test.YtnjnomebcggccaaDoorLock
import Derived.Test.YtnjnomebcggccaaDoorTx
import Derived.Test.YtnjnomebcggccaaDoorMemory
import Derived.Test.YtnjnomebcggccaaDoorSteps
import Derived.Deep.CutRange
import Derived.Lib.BufferMore
namespace Go.Proofs.YtnjnomebcggccaaDoor
open Go.RowKit

theorem clone_any {w : World} {a : Option Addr} {n c : Nat} {zs : List Int} (h : Numbers w a n c zs) (hn : n ≤ 100000) :
    Calls Tryd.prog 52 #[.slice a n c] w fun e w' => ∃ v, e = .returned v ∧ OwnZ w' 3 w.heap.size v zs ∧ Below w.heap.size w w' := by
  cases a with
  | none =>
    have hc := h.2.2.2.1 rfl
    obtain rfl : n = 0 := by have := h.2.1; omega
    obtain rfl : zs = [] := List.eq_nil_of_length_eq_zero h.1
    exact (Tryd.slices_Clone_int_nil 0 c w).mono fun e w' ⟨he, hw⟩ => ⟨_, he, by rw [hw]; exact OwnZ.nil _ _ _, by rw [hw]; exact Below.refl _ _⟩
  | some ad =>
    by_cases h0 : n = 0
    · subst h0
      obtain rfl : zs = [] := List.eq_nil_of_length_eq_zero h.1
      exact (Tryd.slices_Clone_int_zero ad c w).mono fun e w' ⟨v, he, ho, _, hb⟩ => ⟨v, he, ⟨ho, fun _ h => by cases h⟩, hb⟩
    · obtain ⟨b, off, e, _, hc⟩ := h.2.2.2.2.2 (by omega)
      cases e
      refine (Tryd.slices_Clone_int b off n c zs w (by rw [h.1]; exact Nat.le_refl _) (by omega) (fun j hj => hc j (by rw [← h.1]; exact hj))).mono fun e w' ⟨v, he, ho, _, hb⟩ => ⟨v, he, ⟨?_, h.2.2.2.2.1⟩, hb⟩
      have e1 : zs.take n = zs := List.take_of_length_le (by rw [h.1]; exact Nat.le_refl _)
      rw [e1, ← h.1] at ho
      exact ho
end Go.Proofs.YtnjnomebcggccaaDoor
namespace Go.Proofs.YtnjnomebcggccaaDoor
open Go.RowKit

def wayK9 : Sort8 PWay := ⟨35, PWay.cells, WayIn, noWay, by omega, fun _ _ h => PWay.cells_len h.sum, PWay.cells_one, fun h hb => h.below hb⟩
/-- A way's keys are written anew: the same numbers, elsewhere. -/
def PWay.at9 (x : PWay) (a : Option Addr) (n c : Nat) : PWay := ⟨a, n, c, x.ks, x.h, x.after, x.wait⟩
theorem at9_strip (x : PWay) (a : Option Addr) (n c : Nat) : (x.at9 a n c).strip = x.strip := rfl
theorem cell_set_other {w : World} {a b : Addr} {v : Value} (h : a ≠ b) : (w.setCell a v).cell? b = w.cell? b := World.cell?_setCell_other w a b v h
theorem cell_set_same {w : World} {a : Addr} {v u : Value} (h : w.cell? a = some u) : (w.setCell a v).cell? a = some v := World.cell?_setCell_same w a v h
theorem numbers_setCell {w : World} {a : Option Addr} {n c : Nat} {zs : List Int} {g o : Nat} {v : Value} (h : Numbers w a n c zs) {u : Value} (hu : w.cell? ⟨g, o, none⟩ = some u) (hnz : ∀ z, u ≠ .int .i64 z) : Numbers (w.setCell ⟨g, o, none⟩ v) a n c zs := by
  obtain ⟨h1, h2, h3, h4, h6, h5⟩ := h
  refine ⟨h1, h2, h3, h4, h6, fun h0 => ?_⟩
  obtain ⟨b, off, rfl, hlt, hc⟩ := h5 h0
  refine ⟨b, off, rfl, by simpa using hlt, fun j hj => ?_⟩
  rw [cell_set_other (fun e => ?_)]
  · exact hc j hj
  · have h9 := hc j hj
    rw [← e, hu] at h9
    exact hnz _ (Option.some.inj h9)
theorem ways_key_set {w : World} {g n c : Nat} {ys : List PWay} {i : Nat} {a2 : Option Addr} {n2 c2 : Nat} (h : Ways w (some ⟨g, 0, none⟩) n c ys) (hi : i < n) (hN : Numbers w a2 n2 c2 (ys.getD i noWay).ks) :
    Ways (w.setCell ⟨g, i * 35, none⟩ (.slice a2 n2 c2)) (some ⟨g, 0, none⟩) n c (ys.set i ((ys.getD i noWay).at9 a2 n2 c2)) := by
  obtain ⟨h1, h2, h3, h4, h6, h5⟩ := h
  obtain ⟨b, off, e, hlt, hc⟩ := h5 (by omega)
  cases e
  have hk : w.cell? ⟨g, i * 35, none⟩ = some (.slice (ys.getD i noWay).a (ys.getD i noWay).n (ys.getD i noWay).c) := by
    have h9 := way_keys (hc i hi)
    rw [Nat.zero_add] at h9
    exact h9
  have hyi : i < ys.length := by omega
  have hwi : WayIn w (ys.getD i noWay) := by
    rw [List.getD_eq_getElem?_getD, List.getElem?_eq_getElem hyi]
    exact h6 _ (List.getElem_mem hyi)
  have kept : ∀ x, WayIn w x → WayIn (w.setCell ⟨g, i * 35, none⟩ (.slice a2 n2 c2)) x := fun x hx => ⟨numbers_setCell hx.keys hk (fun z e => by cases e), hx.sum, hx.after, hx.wait⟩
  have hlen : ∀ j, j < n → (ys.getD j noWay).cells.length = 35 := fun j hj => by
    have hj' : j < ys.length := by omega
    rw [List.getD_eq_getElem?_getD, List.getElem?_eq_getElem hj']
    exact PWay.cells_len (h6 _ (List.getElem_mem hj')).sum
  refine ⟨by rw [List.length_set]; exact h1, h2, h3, h4, fun x hx => ?_, fun _ => ⟨g, 0, rfl, by simpa using hlt, fun j hj k v hv => ?_⟩⟩
  · rcases List.mem_or_eq_of_mem_set hx with hx | rfl
    · exact kept x (h6 x hx)
    · exact ⟨numbers_setCell hN hk (fun z e => by cases e), hwi.sum, hwi.after, hwi.wait⟩
  · rw [Nat.zero_add]
    by_cases hji : j = i
    · subst hji
      have e1 : (ys.set j ((ys.getD j noWay).at9 a2 n2 c2)).getD j noWay = (ys.getD j noWay).at9 a2 n2 c2 := by
        rw [List.getD_eq_getElem?_getD, List.getElem?_set_self hyi]
        rfl
      rw [e1] at hv
      cases k with
      | zero =>
        have e2 : v = .slice a2 n2 c2 := by
          have h9 : (PWay.cells ((ys.getD j noWay).at9 a2 n2 c2))[0]? = some (.slice a2 n2 c2) := rfl
          rw [h9] at hv
          exact (Option.some.inj hv).symm
        rw [e2]
        exact cell_set_same hk
      | succ k =>
        rw [cell_set_other (fun e => by have h9 : j * 35 = j * 35 + (k + 1) := congrArg Addr.off e; omega)]
        have h9 := hc j hj (k + 1) v hv
        rw [Nat.zero_add] at h9
        exact h9
    · have e1 : (ys.set i ((ys.getD i noWay).at9 a2 n2 c2)).getD j noWay = ys.getD j noWay := by
        rw [List.getD_eq_getElem?_getD, List.getElem?_set_ne (fun e => hji e.symm), ← List.getD_eq_getElem?_getD]
      rw [e1] at hv
      have hkl : k < 35 := by
        have h9 := (List.getElem?_eq_some_iff.1 hv).1
        rw [hlen j hj] at h9
        exact h9
      rw [cell_set_other (fun e => by
        have h9 : i * 35 = j * 35 + k := congrArg Addr.off e
        rcases Nat.lt_or_gt_of_ne hji with h8 | h8
        · have := Nat.mul_le_mul_right 35 h8
          omega
        · have := Nat.mul_le_mul_right 35 h8
          omega)]
      have h9 := hc j hj k v hv
      rw [Nat.zero_add] at h9
      exact h9
theorem strip_set {ys : List PWay} {i : Nat} (hi : i < ys.length) (a2 : Option Addr) (n2 c2 : Nat) : (ys.set i ((ys.getD i noWay).at9 a2 n2 c2)).map PWay.strip = ys.map PWay.strip := by
  rw [List.map_set, at9_strip]
  apply List.ext_getElem?
  intro j
  by_cases hj : j = i
  · subst hj
    rw [List.getElem?_set_self (by simpa using hi), List.getElem?_map, List.getElem?_eq_getElem hi, List.getD_eq_getElem?_getD, List.getElem?_eq_getElem hi]
    rfl
  · rw [List.getElem?_set_ne (fun e => hj e.symm)]
end Go.Proofs.YtnjnomebcggccaaDoor
namespace Go.Proofs.YtnjnomebcggccaaDoor
open Go.RowKit

theorem heap_setCell_ne {w : World} {g o k : Nat} (h : k ≠ g) (v : Value) : (w.setCell ⟨g, o, none⟩ v).heap[k]? = w.heap[k]? := Below.heap_setCell _ _ _ k (fun e => h e)
theorem heap_setCell_eq {w : World} {g : Nat} {cur : Array Value} {t : TypeId} (h : w.heap[g]? = some (.cells cur t (0, 0))) (o : Nat) (v : Value) : (w.setCell ⟨g, o, none⟩ v).heap[g]? = some (.cells (cur.setIfInBounds o v) t (0, 0)) := by
  obtain ⟨hlt, hk⟩ := Array.getElem?_eq_some_iff.1 h
  show (w.heap.modify g _)[g]? = _
  rw [Array.getElem?_eq_getElem (by rw [Array.size_modify]; exact hlt), Array.getElem_modify_self, hk]
  rfl
theorem below_setCell9 {B : Nat} {w0 w : World} (h : Below B w0 w) {g : Nat} (hg : B ≤ g) (o : Nat) (v : Value) : Below B w0 (w.setCell ⟨g, o, none⟩ v) := h.setCell (p := ⟨g, o, none⟩) hg v
theorem ways_setCell {w : World} {a : Option Addr} {n c : Nat} {xs : List PWay} {g o : Nat} {u v : Value} (h : Ways w a n c xs) (hu : w.cell? ⟨g, o, none⟩ = some u) (hnz : ∀ z, u ≠ .int .i64 z) (hne : 0 < n → ∀ x, a = some x → x.block ≠ g) : Ways (w.setCell ⟨g, o, none⟩ v) a n c xs := by
  obtain ⟨h1, h2, h3, h4, h6, h5⟩ := h
  refine ⟨h1, h2, h3, h4, fun x hx => ⟨numbers_setCell (h6 x hx).keys hu hnz, (h6 x hx).sum, (h6 x hx).after, (h6 x hx).wait⟩, fun h0 => ?_⟩
  obtain ⟨b, off, rfl, hlt, hc⟩ := h5 h0
  refine ⟨b, off, rfl, by simpa using hlt, fun j hj k v hv => ?_⟩
  rw [cell_set_other (fun e => hne h0 _ rfl (congrArg Addr.block e).symm)]
  exact hc j hj k v hv
theorem cloneZ_any {w : World} {a : Option Addr} {n c : Nat} {zs : List Int} (h : Numbers w a n c zs) (hn : n ≤ 100000) :
    Calls Tryd.prog 52 #[.slice a n c] w fun e w' => ∃ (a' : Option Addr) (c' : Nat), e = .returned (.slice a' n c') ∧ Numbers w' a' n c' zs ∧ (∀ x, a' = some x → ∃ cs fr, w'.heap[x.block]? = some (.cells cs 3 fr)) ∧ Below w.heap.size w w' := by
  refine (clone_any h hn).mono ?_
  rintro e w' ⟨v, rfl, ho, hb⟩
  obtain ⟨a', c', rfl, _⟩ := ho.shape
  have hf : ∀ x, a' = some x → ∃ cs fr, w'.heap[x.block]? = some (.cells cs 3 fr) := fun x e => by
    subst e
    rcases ho.1.2 with ⟨hv, _⟩ | ⟨g, cap, cur, hv, _, hh, _⟩
    · cases hv
    · cases hv
      exact ⟨_, _, hh⟩
  have h9 := ho.numbers
  rw [h.1] at h9
  exact ⟨a', c', by rw [h.1], h9, hf, hb⟩
/-- A way's keys lie in a block of numbers. -/
def TypedKey (w : World) (y : PWay) : Prop := 0 < y.n → ∀ x, y.a = some x → ∃ cs fr, w.heap[x.block]? = some (.cells cs 3 fr)
/-- Ways lie in a block of ways, their keys in blocks of numbers. -/
def TypedW (w : World) (a : Option Addr) (n : Nat) (ys : List PWay) : Prop := (0 < n → ∀ x, a = some x → ∃ cs fr, w.heap[x.block]? = some (.cells cs 50 fr)) ∧ ∀ y ∈ ys, TypedKey w y
theorem TypedKey.but {w w' : World} {y : PWay} {p : Nat} (h : TypedKey w y) (hb : But w.heap.size p w w') (hp : ∀ cs fr, w.heap[p]? ≠ some (.cells cs 3 fr)) : TypedKey w' y := fun h0 x e => by
  obtain ⟨cs, fr, hh⟩ := h h0 x e
  exact ⟨cs, fr, hb.heap hh (lt_of_block hh) (fun e2 => hp cs fr (by rw [← e2]; exact hh))⟩
theorem TypedKey.below {w w' : World} {y : PWay} (h : TypedKey w y) (hb : Below w.heap.size w w') : TypedKey w' y := fun h0 x e => by
  obtain ⟨cs, fr, hh⟩ := h h0 x e
  exact ⟨cs, fr, (hb.block _ (lt_of_block hh)).trans hh⟩
theorem TypedW.below {w w' : World} {a : Option Addr} {n : Nat} {ys : List PWay} (h : TypedW w a n ys) (hb : Below w.heap.size w w') : TypedW w' a n ys :=
  ⟨fun h0 x e => by
    obtain ⟨cs, fr, hh⟩ := h.1 h0 x e
    exact ⟨cs, fr, (hb.block _ (lt_of_block hh)).trans hh⟩, fun y hy => (h.2 y hy).below hb⟩
theorem ways_typed9 {w w' : World} {a : Option Addr} {n c p : Nat} {ys : List PWay} (h : Ways w a n c ys) (ht : TypedW w a n ys) (hb : But w.heap.size p w w') (hp : ∀ cs fr, w.heap[p]? ≠ some (.cells cs 50 fr) ∧ w.heap[p]? ≠ some (.cells cs 3 fr)) : Ways w' a n c ys ∧ TypedW w' a n ys := by
  refine ⟨?_, ⟨fun h0 x e => ?_, fun y hy => (ht.2 y hy).but hb (fun cs fr => (hp cs fr).2)⟩⟩
  · obtain ⟨h1, h2, h3, h4, h6, h5⟩ := h
    refine ⟨h1, h2, h3, h4, fun y hy => ⟨?_, (h6 y hy).sum, (h6 y hy).after, (h6 y hy).wait⟩, fun h0 => ?_⟩
    · obtain ⟨k1, k2, k3, k4, k6, k5⟩ := (h6 y hy).keys
      refine ⟨k1, k2, k3, k4, k6, fun h0 => ?_⟩
      obtain ⟨b, off, e, hlt, hc⟩ := k5 h0
      obtain ⟨cs, fr, hh⟩ := ht.2 y hy h0 _ e
      have hne : b ≠ p := fun e2 => (hp cs fr).2 (by rw [← e2]; exact hh)
      exact ⟨b, off, e, Nat.lt_of_lt_of_le hlt hb.size, fun j hj => (hb.cell (a := ⟨b, off + j, none⟩) hlt hne).trans (hc j hj)⟩
    · obtain ⟨b, off, e, hlt, hc⟩ := h5 h0
      obtain ⟨cs, fr, hh⟩ := ht.1 h0 _ e
      have hne : b ≠ p := fun e2 => (hp cs fr).1 (by rw [← e2]; exact hh)
      exact ⟨b, off, e, Nat.lt_of_lt_of_le hlt hb.size, fun j hj i v hv => (hb.cell (a := ⟨b, off + j * 35 + i, none⟩) hlt hne).trans (hc j hj i v hv)⟩
  · obtain ⟨cs, fr, hh⟩ := ht.1 h0 x e
    exact ⟨cs, fr, hb.heap hh (lt_of_block hh) (fun e2 => (hp cs fr).1 (by rw [← e2]; exact hh))⟩
theorem typed_set {ys : List PWay} {j : Nat} {w : World} {y : PWay} (h : ∀ i, i < j → TypedKey w (ys.getD i noWay)) (hj : j < ys.length) (hy : TypedKey w y) : ∀ i, i < j + 1 → TypedKey w ((ys.set j y).getD i noWay) := fun i hi => by
  by_cases e : i = j
  · subst e
    rw [List.getD_eq_getElem?_getD, List.getElem?_set_self hj]
    exact hy
  · rw [List.getD_eq_getElem?_getD, List.getElem?_set_ne (fun e2 => e e2.symm), ← List.getD_eq_getElem?_getD]
    exact h i (by omega)
theorem But.below9 {B B' p : Nat} {w w' : World} (h : But B p w w') (hp : B' ≤ p) (hB : B' ≤ B) : Below B' w w' := ⟨h.os, h.tape, h.output, h.size, fun k hk => h.block k (by omega) (by omega)⟩
theorem but_setCell9 (w : World) (g o : Nat) (v : Value) : But w.heap.size g w (w.setCell ⟨g, o, none⟩ v) := (But.refl w.heap.size g w).setCell ⟨g, o, none⟩ (.inl rfl) v
/-- Ways whose keys are few. -/
def FewKeys (xs : List PWay) : Prop := ∀ x ∈ xs, x.ks.length ≤ 1000
theorem fewKeys_strip {xs ys : List PWay} (h : ys.map PWay.strip = xs.map PWay.strip) (hx : FewKeys xs) : FewKeys ys := fun y hy => by
  have h1 : y.strip ∈ xs.map PWay.strip := by rw [← h]; exact List.mem_map.2 ⟨y, hy, rfl⟩
  obtain ⟨x, hx1, hx2⟩ := List.mem_map.1 h1
  have h2 : y.ks = x.ks := (congrArg PWay.ks hx2).symm
  rw [h2]
  exact hx x hx1
end Go.Proofs.YtnjnomebcggccaaDoor
namespace Go.Proofs.YtnjnomebcggccaaDoor
open Go.RowKit

/-- What holds of the block that a slice lies in, if it has things. -/
def AllO (P : Nat → Prop) (n : Nat) (a : Option Addr) : Prop := 0 < n → ∀ x, a = some x → P x.block
theorem AllO.mono {P Q : Nat → Prop} {n : Nat} {a : Option Addr} (h : AllO P n a) (k : ∀ b, P b → Q b) : AllO Q n a := fun h0 x e => k _ (h h0 x e)
/-- A cell that holds a slice. -/
def SliceCell (w : World) (g o : Nat) : Prop := ∃ a n c, w.cell? ⟨g, o, none⟩ = some (.slice a n c)
theorem row_setCell {w : World} {a : Option Addr} {n c g o : Nat} {l : List UInt8} (h : Row w a n c l) (hs : SliceCell w g o) (v : Value) : Row (w.setCell ⟨g, o, none⟩ v) a n c l := by
  obtain ⟨h1, h2, h3, h4, h5⟩ := h
  refine ⟨h1, h2, h3, h4, fun h0 => ?_⟩
  obtain ⟨b, off, rfl, hlt, hc⟩ := h5 h0
  refine ⟨b, off, rfl, by simpa using hlt, fun j hj => ?_⟩
  rw [cell_set_other (fun e => ?_)]
  · exact hc j hj
  · obtain ⟨a', n', c', hs⟩ := hs
    have h9 := hc j hj
    rw [← e, hs] at h9
    cases h9
theorem InIn.set {w : World} {y : PIn} {g o : Nat} (h : InIn w y) (hs : SliceCell w g o) (v : Value) : InIn (w.setCell ⟨g, o, none⟩ v) y := ⟨h.tx, h.place, h.way, row_setCell h.pre hs v⟩
theorem OpIn.set {w : World} {y : POp} {g o : Nat} (h : OpIn w y) (hs : SliceCell w g o) (v : Value) : OpIn (w.setCell ⟨g, o, none⟩ v) y := ⟨h.kind, h.tower, h.channel, h.amount, h.root, row_setCell h.data hs v⟩
theorem Ways.set {w : World} {a : Option Addr} {n c g o : Nat} {xs : List PWay} (h : Ways w a n c xs) (hs : SliceCell w g o) (hne : AllO (· ≠ g) n a) (v : Value) : Ways (w.setCell ⟨g, o, none⟩ v) a n c xs := by
  obtain ⟨a', n', c', hs⟩ := hs
  exact ways_setCell h hs (fun z e => by cases e) hne
theorem OutIn.set {w : World} {y : POut} {g o : Nat} (h : OutIn w y) (hs : SliceCell w g o) (hne : AllO (· ≠ g) y.n y.a) (v : Value) : OutIn (w.setCell ⟨g, o, none⟩ v) y := ⟨h.m, h.ws.set hs hne v⟩
section
variable {α : Type} {K : Sort8 α}
theorem SliceOf.kept {w : World} {a : Option Addr} {n c g o : Nat} {xs : List α} {v : Value} (h : SliceOf K w a n c xs) (hne : AllO (· ≠ g) n a) (hx : ∀ x ∈ xs, K.ok (w.setCell ⟨g, o, none⟩ v) x) : SliceOf K (w.setCell ⟨g, o, none⟩ v) a n c xs :=
  h.moved (B := w.heap.size) (p := g) (fun h0 x e => ⟨h.block h0 x e, hne h0 x e⟩) hx (but_setCell9 w g o v)
theorem getD_set_self {xs : List α} {i : Nat} {x d : α} (hi : i < xs.length) : (xs.set i x).getD i d = x := by rw [List.getD_eq_getElem?_getD, List.getElem?_set_self hi]; rfl
theorem getD_set_ne {xs : List α} {i j : Nat} {x d : α} (h : j ≠ i) : (xs.set i x).getD j d = xs.getD j d := by rw [List.getD_eq_getElem?_getD, List.getElem?_set_ne (fun e => h e.symm), ← List.getD_eq_getElem?_getD]
/-- A cell of a row is written: one thing is another one now. -/
theorem SliceOf.put {w : World} {g n c i off : Nat} {xs : List α} {v : Value} (h : SliceOf K w (some ⟨g, 0, none⟩) n c xs) (hi : i < n) (ho : off < K.size) (x' : α) (hc : K.cells x' = (K.cells (xs.getD i K.dflt)).set off v)
    (hok : ∀ x ∈ xs.set i x', K.ok (w.setCell ⟨g, i * K.size + off, none⟩ v) x) : SliceOf K (w.setCell ⟨g, i * K.size + off, none⟩ v) (some ⟨g, 0, none⟩) n c (xs.set i x') := by
  have hlen : ∀ j, j < n → (K.cells (xs.getD j K.dflt)).length = K.size := fun j hj => K.len w _ (h.get hj)
  obtain ⟨h1, h2, h3, h4, _, h5⟩ := h
  have hil : i < xs.length := by omega
  obtain ⟨b, o, e, hlt, hr⟩ := h5 (by omega)
  cases e
  refine ⟨by rw [List.length_set]; exact h1, h2, h3, h4, hok, fun _ => ⟨g, 0, rfl, by simpa using hlt, fun j hj k u hu => ?_⟩⟩
  rw [Nat.zero_add]
  by_cases hji : j = i
  · subst hji
    rw [getD_set_self hil, hc] at hu
    by_cases hk : k = off
    · subst hk
      rw [List.getElem?_set_self (by rw [hlen j hj]; exact ho)] at hu
      cases hu
      obtain ⟨u0, hu0⟩ : ∃ u0, (K.cells (xs.getD j K.dflt))[k]? = some u0 := ⟨_, List.getElem?_eq_getElem (by rw [hlen j hj]; exact ho)⟩
      have h9 := hr j hj k u0 hu0
      rw [Nat.zero_add] at h9
      exact cell_set_same h9
    · rw [List.getElem?_set_ne (fun e => hk e.symm)] at hu
      rw [cell_set_other (fun e => hk (by have h9 := congrArg Addr.off e; simp at h9; omega))]
      have h9 := hr j hj k u hu
      rw [Nat.zero_add] at h9
      exact h9
  · rw [getD_set_ne hji] at hu
    have hk : k < K.size := by rw [← hlen j hj]; exact (List.getElem?_eq_some_iff.1 hu).1
    rw [cell_set_other (fun e => by
      have h9 := congrArg Addr.off e
      simp at h9
      rcases Nat.lt_or_gt_of_ne hji with hlt2 | hlt2
      · have h8 := Nat.mul_le_mul_right K.size (show j + 1 ≤ i by omega)
        rw [Nat.succ_mul] at h8
        omega
      · have h8 := Nat.mul_le_mul_right K.size (show i + 1 ≤ j by omega)
        rw [Nat.succ_mul] at h8
        omega)]
    have h9 := hr j hj k u hu
    rw [Nat.zero_add] at h9
    exact h9
/-- One thing of a row is another one of the same cells. -/
theorem SliceOf.swap {w : World} {a : Option Addr} {n c i : Nat} {xs : List α} (h : SliceOf K w a n c xs) (x' : α) (hc : K.cells x' = K.cells (xs.getD i K.dflt)) (hx : K.ok w x') : SliceOf K w a n c (xs.set i x') := by
  obtain ⟨h1, h2, h3, h4, h6, h5⟩ := h
  refine ⟨by rw [List.length_set]; exact h1, h2, h3, h4, fun x hxx => ?_, fun h0 => ?_⟩
  · rcases List.mem_or_eq_of_mem_set hxx with hxx | rfl
    · exact h6 x hxx
    · exact hx
  · obtain ⟨b, off, e, hlt, hr⟩ := h5 h0
    refine ⟨b, off, e, hlt, fun j hj => ?_⟩
    by_cases hji : j = i
    · subst hji
      rw [getD_set_self (by omega), hc]
      exact hr j hj
    · rw [getD_set_ne hji]
      exact hr j hj
theorem mem_getD15 {xs : List α} {m : Nat} {d : α} (h : m < xs.length) : xs.getD m d ∈ xs := by
  rw [List.getD_eq_getElem?_getD, List.getElem?_eq_getElem h]
  exact List.getElem_mem h
theorem mem_set_cases {xs : List α} {i : Nat} {x x' d : α} (h : x ∈ xs.set i x') : x = x' ∨ ∃ j, j < xs.length ∧ j ≠ i ∧ x = xs.getD j d := by
  obtain ⟨j, hj, rfl⟩ := List.getElem_of_mem h
  rw [List.length_set] at hj
  by_cases hji : j = i
  · subst hji
    exact .inl (List.getElem_set_self _)
  · refine .inr ⟨j, hj, hji, ?_⟩
    rw [List.getElem_set_ne (fun e => hji e.symm), List.getD_eq_getElem?_getD, List.getElem?_eq_getElem hj]
    rfl
theorem map_set_same {β : Type} {f : α → β} {xs : List α} {i : Nat} {x' d : α} (hi : i < xs.length) (hf : f x' = f (xs.getD i d)) : (xs.set i x').map f = xs.map f := by
  apply List.ext_getElem?
  intro j
  rw [List.getElem?_map, List.getElem?_map]
  by_cases hji : j = i
  · subst hji
    rw [List.getElem?_set_self hi, List.getElem?_eq_getElem hi, Option.map_some, Option.map_some, hf, List.getD_eq_getElem?_getD, List.getElem?_eq_getElem hi]
    rfl
  · rw [List.getElem?_set_ne (fun e => hji e.symm)]
end
def PIn.at15 (y : PIn) (a : Option Addr) (n c : Nat) : PIn := ⟨y.tx, y.place, y.way, a, n, c, y.pre⟩
def POut.at15 (z : POut) (a : Option Addr) (n c : Nat) (ws : List PWay) : POut := ⟨z.m, a, n, c, ws⟩
theorem PIn.cells_at (y : PIn) (hl : y.tx.length = 32) (a : Option Addr) (n c : Nat) : (y.at15 a n c).cells = y.cells.set 34 (.slice a n c) := by
  simp [PIn.cells, PIn.at15, cellsOf_len, hl]
theorem PIn.cell34 (y : PIn) (hl : y.tx.length = 32) : y.cells[34]? = some (.slice y.a y.n y.c) := by simp [PIn.cells, cellsOf_len, hl]
theorem POut.cells_at (z : POut) (a : Option Addr) (n c : Nat) (ws : List PWay) : (z.at15 a n c ws).cells = z.cells.set 1 (.slice a n c) := rfl

theorem row_stays {w : World} {k : Nat} {t : TypeId} (h : ∃ cur, w.heap[k]? = some (.cells cur t (0, 0))) (g o : Nat) (v : Value) : ∃ cur, (w.setCell ⟨g, o, none⟩ v).heap[k]? = some (.cells cur t (0, 0)) := by
  obtain ⟨cur, hh⟩ := h
  by_cases e : k = g
  · subst e
    exact ⟨_, heap_setCell_eq hh o v⟩
  · exact ⟨cur, (heap_setCell_ne e v).trans hh⟩
theorem frozen_row {w : World} {k : Nat} {t : TypeId} {cur : Array Value} (h : w.heap[k]? = some (.cells cur t (0, 0))) (i : Nat) : w.frozen? ⟨k, i, none⟩ = false := by simp [World.frozen?, h]
/-- A transaction's box while it is copied: its rows are new, what they say is the same. -/
structure CpSt (w0 : World) (g r B1 : Nat) (t : PTx) (X : List Value) (ai : Option Addr) (ci : Nat) (ao : Option Addr) (co : Nat) (ys : List PIn) (zs : List POut) (w : World) : Prop where
  box : w.heap[g]? = some (.cells X.toArray 35 (0, 0))
  ins : SliceOf inK w ai t.inn ci ys
  outs : SliceOf outK w ao t.on co zs
  op : OpIn w t.op
  sIns : ys.map PIn.strip = t.ins.map PIn.strip
  sOuts : zs.map POut.strip = t.outs.map POut.strip
  res : w.heap[r]? = some (.cells noTx.cells.toArray 35 (0, 0))
  newI : 0 < t.inn → ∃ gi, ai = some ⟨gi, 0, none⟩ ∧ r < gi ∧ gi < B1
  newO : 0 < t.on → ∃ go, ao = some ⟨go, 0, none⟩ ∧ r < go ∧ go < B1
  two : ∀ gi go, 0 < t.inn → 0 < t.on → ai = some ⟨gi, 0, none⟩ → ao = some ⟨go, 0, none⟩ → gi ≠ go
  rowI : ∀ gi, 0 < t.inn → ai = some ⟨gi, 0, none⟩ → ∃ cur, w.heap[gi]? = some (.cells cur 43 (0, 0))
  rowO : ∀ go, 0 < t.on → ao = some ⟨go, 0, none⟩ → ∃ cur, w.heap[go]? = some (.cells cur 47 (0, 0))
  far : ∀ z ∈ zs, AllO (fun b => b < w0.heap.size ∨ B1 ≤ b) z.n z.a
  apI : ∀ y ∈ ys, AllO (· ≠ r) y.n y.a
  apK : ∀ z ∈ zs, ∀ u ∈ z.ws, AllO (· ≠ r) u.n u.a
  apD : AllO (· ≠ r) t.op.n t.op.a
  lo : w0.heap.size ≤ g
  gr : g < r
  hi : r < B1
  size : B1 ≤ w.heap.size
  below : Below w0.heap.size w0 w
section
variable {w0 w w' : World} {g r B1 : Nat} {t : PTx} {X : List Value} {ai : Option Addr} {ci : Nat} {ao : Option Addr} {co : Nat} {ys : List PIn} {zs : List POut}
theorem CpSt.more (h : CpSt w0 g r B1 t X ai ci ao co ys zs w) (hb : Below w.heap.size w w') : CpSt w0 g r B1 t X ai ci ao co ys zs w' :=
  ⟨(hb.block _ (lt_of_block h.box)).trans h.box, h.ins.below hb, h.outs.below hb, h.op.below hb, h.sIns, h.sOuts, (hb.block _ (lt_of_block h.res)).trans h.res, h.newI, h.newO, h.two, (fun gi h0 e => (h.rowI gi h0 e).elim fun cur hh => ⟨cur, (hb.block _ (lt_of_block hh)).trans hh⟩), (fun go h0 e => (h.rowO go h0 e).elim fun cur hh => ⟨cur, (hb.block _ (lt_of_block hh)).trans hh⟩), h.far, h.apI, h.apK, h.apD, h.lo, h.gr, h.hi, Nat.le_trans h.size hb.size, h.below.trans (hb.mono h.below.size)⟩
/-- The box itself is written: one of its slices. -/
theorem CpSt.putBox (h : CpSt w0 g r B1 t X ai ci ao co ys zs w) {o : Nat} (hs : SliceCell w g o) (v : Value) : CpSt w0 g r B1 t (X.set o v) ai ci ao co ys zs (w.setCell ⟨g, o, none⟩ v) := by
  have hlo := h.lo
  have hgr := h.gr
  have hhi := h.hi
  refine ⟨?_, ?_, ?_, h.op.set hs _, h.sIns, h.sOuts, (heap_setCell_ne (by omega) _).trans h.res, h.newI, h.newO, h.two, (fun k h0 e2 => row_stays (h.rowI k h0 e2) _ _ _), (fun k h0 e2 => row_stays (h.rowO k h0 e2) _ _ _), h.far, h.apI, h.apK, h.apD, h.lo, h.gr, h.hi, by simpa using h.size, h.below.setCell (p := ⟨g, o, none⟩) hlo _⟩
  · have h9 := heap_setCell_eq h.box o v
    rw [List.setIfInBounds_toArray] at h9
    exact h9
  · refine h.ins.kept (fun h0 x e => ?_) (fun x hx => InIn.set (h.ins.2.2.2.2.1 x hx) hs _)
    obtain ⟨gi, e3, l1, l2⟩ := h.newI h0
    rw [e] at e3
    cases e3
    show gi ≠ g
    omega
  · refine h.outs.kept (fun h0 x e => ?_) (fun x hx => OutIn.set (h.outs.2.2.2.2.1 x hx) hs ((h.far x hx).mono fun b hb => by omega) _)
    obtain ⟨go, e3, l1, l2⟩ := h.newO h0
    rw [e] at e3
    cases e3
    show go ≠ g
    omega
theorem cell_range {w : World} {b o k : Nat} {cs : List Value} {v : Value} (h : w.rangeAt b o cs) (hv : cs[k]? = some v) : w.cell? ⟨b, o + k, none⟩ = some v := h k v hv
theorem CpSt.inCell (h : CpSt w0 g r B1 t X ai ci ao co ys zs w) {gi j : Nat} (e : ai = some ⟨gi, 0, none⟩) (hj : j < t.inn) : w.cell? ⟨gi, j * 35 + 34, none⟩ = some (.slice (ys.getD j noIn).a (ys.getD j noIn).n (ys.getD j noIn).c) := by
  obtain ⟨b, off, e2, _, hc⟩ := h.ins.2.2.2.2.2 (by omega)
  rw [e] at e2
  cases e2
  have hl : InIn w (ys.getD j noIn) := h.ins.get hj
  have h9 := hc j hj 34 _ (PIn.cell34 _ hl.tx)
  rw [Nat.zero_add] at h9
  exact h9
theorem CpSt.outCell (h : CpSt w0 g r B1 t X ai ci ao co ys zs w) {go j : Nat} (e : ao = some ⟨go, 0, none⟩) (hj : j < t.on) : w.cell? ⟨go, j * 2 + 1, none⟩ = some (.slice (zs.getD j noOut).a (zs.getD j noOut).n (zs.getD j noOut).c) := by
  obtain ⟨b, off, e2, _, hc⟩ := h.outs.2.2.2.2.2 (by omega)
  rw [e] at e2
  cases e2
  have h9 := hc j hj 1 (.slice (zs.getD j noOut).a (zs.getD j noOut).n (zs.getD j noOut).c) rfl
  rw [Nat.zero_add] at h9
  exact h9
/-- What an in shows is elsewhere. -/
theorem CpSt.putPre (h : CpSt w0 g r B1 t X ai ci ao co ys zs w) {gi j : Nat} (e : ai = some ⟨gi, 0, none⟩) (hj : j < t.inn) {a' : Option Addr} {n' c' : Nat} (hr : Row w a' n' c' (ys.getD j noIn).pre) (hn : AllO (· ≠ r) n' a') :
    CpSt w0 g r B1 t X ai ci ao co (ys.set j ((ys.getD j noIn).at15 a' n' c')) zs (w.setCell ⟨gi, j * 35 + 34, none⟩ (.slice a' n' c')) := by
  obtain ⟨gi', e2, l1, l2⟩ := h.newI (by omega)
  rw [e] at e2
  cases e2
  have hs : SliceCell w gi (j * 35 + 34) := ⟨_, _, _, h.inCell e hj⟩
  have hyl : j < ys.length := by rw [h.ins.1]; exact hj
  have hok : InIn w (ys.getD j noIn) := h.ins.get hj
  subst e
  have hlo := h.lo
  have hgr := h.gr
  refine ⟨(heap_setCell_ne (by omega) _).trans h.box, ?_, ?_, h.op.set hs _, ?_, h.sOuts, (heap_setCell_ne (by omega) _).trans h.res, h.newI, h.newO, h.two, (fun k h0 e2 => row_stays (h.rowI k h0 e2) _ _ _), (fun k h0 e2 => row_stays (h.rowO k h0 e2) _ _ _), h.far, (fun y hy => by
    rcases mem_set_cases (d := noIn) hy with rfl | ⟨k, hk, _, rfl⟩
    · exact hn
    · exact h.apI _ (h.ins.mem (by rw [← h.ins.1]; exact hk))), h.apK, h.apD, h.lo, h.gr, h.hi, by simpa using h.size, h.below.setCell (p := ⟨gi, j * 35 + 34, none⟩) (by show w0.heap.size ≤ gi; omega) _⟩
  · refine SliceOf.put (K := inK) (off := 34) h.ins hj (by show 34 < 35; omega) _ (PIn.cells_at _ hok.tx _ _ _) (fun x hx => ?_)
    rcases mem_set_cases (d := noIn) hx with rfl | ⟨k, hk, _, rfl⟩
    · exact ⟨hok.tx, hok.place, hok.way, row_setCell hr hs _⟩
    · exact InIn.set (h.ins.get (by rw [← h.ins.1]; exact hk)) hs _
  · refine h.outs.kept (fun h0 x e => ?_) (fun x hx => OutIn.set (h.outs.2.2.2.2.1 x hx) hs ((h.far x hx).mono fun b hb => by omega) _)
    obtain ⟨go, e3, _⟩ := h.newO h0
    rw [e] at e3
    cases e3
    exact fun e4 => h.two gi go (by omega) h0 rfl e e4.symm
  · rw [map_set_same (d := noIn) hyl (by rfl)]
    exact h.sIns
/-- An out's ways are elsewhere. -/
theorem CpSt.putWays (h : CpSt w0 g r B1 t X ai ci ao co ys zs w) {go j : Nat} (e : ao = some ⟨go, 0, none⟩) (hj : j < t.on) {a' : Option Addr} {n' c' : Nat} (hr : Ways w a' n' c' (zs.getD j noOut).ws) (hf : AllO (B1 ≤ ·) n' a') :
    CpSt w0 g r B1 t X ai ci ao co ys (zs.set j ((zs.getD j noOut).at15 a' n' c' (zs.getD j noOut).ws)) (w.setCell ⟨go, j * 2 + 1, none⟩ (.slice a' n' c')) := by
  obtain ⟨go', e2, l1, l2⟩ := h.newO (by omega)
  rw [e] at e2
  cases e2
  have hs : SliceCell w go (j * 2 + 1) := ⟨_, _, _, h.outCell e hj⟩
  have hzl : j < zs.length := by rw [h.outs.1]; exact hj
  have hok : OutIn w (zs.getD j noOut) := h.outs.get hj
  subst e
  have hlo := h.lo
  have hgr := h.gr
  refine ⟨(heap_setCell_ne (by omega) _).trans h.box, ?_, ?_, h.op.set hs _, h.sIns, ?_, (heap_setCell_ne (by omega) _).trans h.res, h.newI, h.newO, h.two, (fun k h0 e2 => row_stays (h.rowI k h0 e2) _ _ _), (fun k h0 e2 => row_stays (h.rowO k h0 e2) _ _ _), fun z hz => ?_, h.apI, (fun z hz => by
    rcases mem_set_cases (d := noOut) hz with rfl | ⟨k, hk, _, rfl⟩
    · exact h.apK (zs.getD j noOut) (h.outs.mem hj)
    · exact h.apK _ (h.outs.mem (by rw [← h.outs.1]; exact hk))), h.apD, h.lo, h.gr, h.hi, by simpa using h.size, h.below.setCell (p := ⟨go, j * 2 + 1, none⟩) (by show w0.heap.size ≤ go; omega) _⟩
  · refine h.ins.kept (fun h0 x e => ?_) (fun x hx => InIn.set (h.ins.2.2.2.2.1 x hx) hs _)
    obtain ⟨gi, e3, _⟩ := h.newI h0
    rw [e] at e3
    cases e3
    exact h.two gi go h0 (by omega) e rfl
  · refine SliceOf.put (K := outK) (off := 1) h.outs hj (by show 1 < 2; omega) _ (POut.cells_at _ _ _ _ _) (fun x hx => ?_)
    rcases mem_set_cases (d := noOut) hx with rfl | ⟨k, hk, _, rfl⟩
    · exact ⟨hok.m, Ways.set hr hs (hf.mono fun b hb => by omega) _⟩
    · have hk' : k < t.on := by rw [← h.outs.1]; exact hk
      exact OutIn.set (h.outs.get hk') hs ((h.far _ (h.outs.mem hk')).mono fun b hb => by omega) _
  · rw [map_set_same (d := noOut) hzl (by rfl)]
    exact h.sOuts
  · rcases mem_set_cases (d := noOut) hz with rfl | ⟨k, hk, _, rfl⟩
    · exact hf.mono fun b hb => .inr hb
    · exact h.far _ (h.outs.mem (by rw [← h.outs.1]; exact hk))
/-- A way's keys are elsewhere: the ways of one out, the others lie in other blocks. -/
theorem CpSt.putKey (h : CpSt w0 g r B1 t X ai ci ao co ys zs w) {gw j i : Nat} (hj : j < t.on) (e : (zs.getD j noOut).a = some ⟨gw, 0, none⟩) (hi : i < (zs.getD j noOut).n) (hB : B1 ≤ gw) (hd : ∀ k, k < t.on → k ≠ j → AllO (· ≠ gw) (zs.getD k noOut).n (zs.getD k noOut).a)
    {a' : Option Addr} {n' c' : Nat} (hr : Numbers w a' n' c' ((zs.getD j noOut).ws.getD i noWay).ks) (hn : AllO (· ≠ r) n' a') :
    CpSt w0 g r B1 t X ai ci ao co ys (zs.set j ((zs.getD j noOut).at15 (some ⟨gw, 0, none⟩) (zs.getD j noOut).n (zs.getD j noOut).c ((zs.getD j noOut).ws.set i (((zs.getD j noOut).ws.getD i noWay).at9 a' n' c')))) (w.setCell ⟨gw, i * 35, none⟩ (.slice a' n' c')) := by
  have hzl : j < zs.length := by rw [h.outs.1]; exact hj
  have hok : OutIn w (zs.getD j noOut) := h.outs.get hj
  have hws := hok.ws
  rw [e] at hws
  have hs : SliceCell w gw (i * 35) := by
    obtain ⟨b, off, e2, _, hc⟩ := hws.2.2.2.2.2 (by omega)
    cases e2
    have h9 := way_keys (hc i hi)
    rw [Nat.zero_add] at h9
    exact ⟨_, _, _, h9⟩
  have hwl : i < (zs.getD j noOut).ws.length := by rw [hws.1]; exact hi
  have h0g := h.below.size
  have hlo := h.lo
  have hgr := h.gr
  have hhi := h.hi
  refine ⟨(heap_setCell_ne (by omega) _).trans h.box, ?_, ?_, h.op.set hs _, h.sIns, ?_, (heap_setCell_ne (by omega) _).trans h.res, h.newI, h.newO, h.two, (fun k h0 e2 => row_stays (h.rowI k h0 e2) _ _ _), (fun k h0 e2 => row_stays (h.rowO k h0 e2) _ _ _), fun z hz => ?_, h.apI, (fun z hz => by
    rcases mem_set_cases (d := noOut) hz with rfl | ⟨k, hk, _, rfl⟩
    · intro u hu
      rcases mem_set_cases (d := noWay) hu with rfl | ⟨m, hm, _, rfl⟩
      · exact hn
      · exact h.apK (zs.getD j noOut) (h.outs.mem hj) _ (mem_getD15 hm)
    · exact h.apK _ (h.outs.mem (by rw [← h.outs.1]; exact hk))), h.apD, h.lo, h.gr, h.hi, by simpa using h.size, h.below.setCell (p := ⟨gw, i * 35, none⟩) (by show w0.heap.size ≤ gw; omega) _⟩
  · refine h.ins.kept (fun h0 x e => ?_) (fun x hx => InIn.set (h.ins.2.2.2.2.1 x hx) hs _)
    obtain ⟨gi, e3, _, l2⟩ := h.newI h0
    rw [e] at e3
    cases e3
    show gi ≠ gw
    omega
  · have hout : ∀ x ∈ zs.set j ((zs.getD j noOut).at15 (some ⟨gw, 0, none⟩) (zs.getD j noOut).n (zs.getD j noOut).c ((zs.getD j noOut).ws.set i (((zs.getD j noOut).ws.getD i noWay).at9 a' n' c'))), OutIn (w.setCell ⟨gw, i * 35, none⟩ (.slice a' n' c')) x := fun x hx => by
      rcases mem_set_cases (d := noOut) hx with rfl | ⟨k, hk, hkj, rfl⟩
      · exact ⟨hok.m, ways_key_set hws hi hr⟩
      · have hk' : k < t.on := by rw [← h.outs.1]; exact hk
        exact OutIn.set (h.outs.get hk') hs (hd k hk' hkj) _
    obtain ⟨h1, h2, h3, h4, _, h5⟩ := h.outs
    refine ⟨by rw [List.length_set]; exact h1, h2, h3, h4, hout, fun h0 => ?_⟩
    obtain ⟨b, off, e2, hlt, hc⟩ := h5 h0
    obtain ⟨go, e3, _, l2⟩ := h.newO h0
    rw [e2] at e3
    simp at e3
    obtain ⟨e4, rfl⟩ := e3
    refine ⟨b, 0, e2, by simpa using hlt, fun k hk u v hv => ?_⟩
    have hcell : outK.cells ((zs.set j ((zs.getD j noOut).at15 (some ⟨gw, 0, none⟩) (zs.getD j noOut).n (zs.getD j noOut).c ((zs.getD j noOut).ws.set i (((zs.getD j noOut).ws.getD i noWay).at9 a' n' c')))).getD k outK.dflt) = outK.cells (zs.getD k outK.dflt) := by
      by_cases hkj : k = j
      · subst hkj
        rw [getD_set_self hzl]
        show POut.cells _ = POut.cells (zs.getD k noOut)
        unfold POut.cells POut.at15
        rw [e]
      · rw [getD_set_ne hkj]
    rw [hcell] at hv
    rw [cell_set_other (fun e5 => by have h9 := congrArg Addr.block e5; simp at h9; omega)]
    exact hc k hk u v hv
  · rw [map_set_same (d := noOut) hzl (by
      show POut.strip _ = POut.strip (zs.getD j noOut)
      unfold POut.strip POut.at15
      dsimp only
      rw [List.length_set, strip_set hwl])]
    exact h.sOuts
  · rcases mem_set_cases (d := noOut) hz with rfl | ⟨k, hk, _, rfl⟩
    · exact fun _ x e5 => by
        cases e5
        exact .inr hB
    · exact h.far _ (h.outs.mem (by rw [← h.outs.1]; exact hk))
/-- The result's block is written: all that was copied stays. -/
theorem CpSt.last (h : CpSt w0 g r B1 t X ai ci ao co ys zs w) (hb : But w.heap.size r w w') : SliceOf inK w' ai t.inn ci ys ∧ SliceOf outK w' ao t.on co zs := by
  have hgr := h.gr
  have hlo := h.lo
  have hhi := h.hi
  constructor
  · refine h.ins.moved (B := w.heap.size) (p := r) (fun h0 x e => ⟨h.ins.block h0 x e, ?_⟩) (fun y hy => ?_) hb
    · obtain ⟨gi, e3, l1, _⟩ := h.newI h0
      rw [e] at e3
      cases e3
      show gi ≠ r
      omega
    · have hy1 : InIn w y := h.ins.2.2.2.2.1 y hy
      exact ⟨hy1.tx, hy1.place, hy1.way, hy1.pre.but hb (fun h0 b off e => h.apI y hy h0 _ e)⟩
  · refine h.outs.moved (B := w.heap.size) (p := r) (fun h0 x e => ⟨h.outs.block h0 x e, ?_⟩) (fun z hz => ?_) hb
    · obtain ⟨go, e3, l1, _⟩ := h.newO h0
      rw [e] at e3
      cases e3
      show go ≠ r
      omega
    · have hz1 : OutIn w z := h.outs.2.2.2.2.1 z hz
      refine ⟨hz1.m, SliceOf.moved (K := wayK9) (B := w.heap.size) (p := r) hz1.ws (fun h0 x e => ⟨SliceOf.block (K := wayK9) hz1.ws h0 x e, ?_⟩) (fun u hu => ?_) hb⟩
      · have h9 := h.far z hz h0 x e
        show x.block ≠ r
        omega
      · have hu1 : WayIn w u := hz1.ws.2.2.2.2.1 u hu
        exact ⟨hu1.keys.butO (B := w.heap.size) (pb := r) (fun h0 x e => ⟨by
          obtain ⟨b, off, e2, hlt, _⟩ := hu1.keys.2.2.2.2.2 h0
          rw [e] at e2
          cases e2
          exact hlt, h.apK z hz u hu h0 x e⟩) hb, hu1.sum, hu1.after, hu1.wait⟩
end
end Go.Proofs.YtnjnomebcggccaaDoor
namespace Go.Proofs.YtnjnomebcggccaaDoor
open Go.RowKit

end Go.Proofs.YtnjnomebcggccaaDoor
namespace Go.Proofs.YtnjnomebcggccaaDoor
open Go.RowKit

theorem cloneZ_new {w : World} {a : Option Addr} {n c : Nat} {zs : List Int} (h : Numbers w a n c zs) (hn : n ≤ 100000) :
    Calls Tryd.prog 52 #[.slice a n c] w fun e w' => ∃ (a' : Option Addr) (c' : Nat), e = .returned (.slice a' n c') ∧ Numbers w' a' n c' zs ∧ (∀ x, a' = some x → w.heap.size ≤ x.block) ∧ Below w.heap.size w w' := by
  refine (clone_any h hn).mono fun e w' ⟨v, he, ho, hb⟩ => ?_
  obtain ⟨a', c', rfl, hnew⟩ := ho.shape
  have h9 := ho.numbers
  rw [h.1] at h9
  exact ⟨a', c', by rw [he, h.1], h9, hnew, hb⟩
end Go.Proofs.YtnjnomebcggccaaDoor
namespace Go.Proofs.YtnjnomebcggccaaDoor
open Go.RowKit

/-- No more than some, and no signs. -/
structure FewTx (t : PTx) : Prop where
  inn : t.inn ≤ 1000
  on : t.on ≤ 1000
  ia : t.ia = none ∨ 1 ≤ t.inn
  oa : t.oa = none ∨ 1 ≤ t.on
  pre : ∀ y ∈ t.ins, y.n ≤ 100000
  ws : ∀ z ∈ t.outs, (z.a = none ∨ 1 ≤ z.n) ∧ z.n ≤ 1000
  ks : ∀ z ∈ t.outs, ∀ u ∈ z.ws, u.ks.length ≤ 100000
  data : t.op.n ≤ 100000
  sa : t.sa = none
  sn : t.sn = 0
  sc : t.sc = 0
  signs : t.signs = []
/-- What holds of all blocks that a transaction without signs lies in. -/
structure AllTx (P : Nat → Prop) (y : PTx) : Prop where
  ia : AllO P y.inn y.ia
  oa : AllO P y.on y.oa
  pre : ∀ x ∈ y.ins, AllO P x.n x.a
  ws : ∀ z ∈ y.outs, AllO P z.n z.a
  ks : ∀ z ∈ y.outs, ∀ u ∈ z.ws, AllO P u.n u.a
  data : AllO P y.op.n y.op.a
theorem box_cell {w0 w : World} {g r B1 : Nat} {t : PTx} {X : List Value} {ai : Option Addr} {ci : Nat} {ao : Option Addr} {co : Nat} {ys : List PIn} {zs : List POut} (h : CpSt w0 g r B1 t X ai ci ao co ys zs w) {k : Nat} {v : Value} (hx : X[k]? = some v) : w.cell? ⟨g, k, none⟩ = some v := by
  rw [cell_of_row _ _ _ _ _ _ h.box, List.getElem?_toArray]
  exact hx
/-- A new row: where it lies. -/
def NewAt (B : Nat) (w : World) (T : TypeId) (n : Nat) (a : Option Addr) : Prop := 0 < n → ∃ g cur, a = some ⟨g, 0, none⟩ ∧ B ≤ g ∧ w.heap[g]? = some (.cells cur T (0, 0))
theorem NewAt.more {B : Nat} {w w' : World} {T : TypeId} {n : Nat} {a : Option Addr} (h : NewAt B w T n a) (hb : Below w.heap.size w w') : NewAt B w' T n a := fun h0 => by
  obtain ⟨g, cur, e, l, hh⟩ := h h0
  exact ⟨g, cur, e, l, (hb.block _ (lt_of_block hh)).trans hh⟩
theorem NewAt.set {B : Nat} {w : World} {T : TypeId} {n : Nat} {a : Option Addr} (h : NewAt B w T n a) (k o : Nat) (v : Value) : NewAt B (w.setCell ⟨k, o, none⟩ v) T n a := fun h0 => by
  obtain ⟨g, cur, e, l, hh⟩ := h h0
  obtain ⟨cur', h9⟩ := row_stays ⟨cur, hh⟩ k o v
  exact ⟨g, cur', e, l, h9⟩
theorem NewAt.all {B : Nat} {w : World} {T : TypeId} {n : Nat} {a : Option Addr} (h : NewAt B w T n a) : AllO (B ≤ ·) n a := fun h0 x e => by
  obtain ⟨g, cur, e2, l, _⟩ := h h0
  rw [e] at e2
  cases e2
  exact l
theorem new_row15 {w w' : World} {T : TypeId} {n : Nat} {a : Option Addr} (h : 1 ≤ n → ∃ g cur, a = some ⟨g, 0, none⟩ ∧ w.heap.size ≤ g ∧ w'.heap[g]? = some (.cells cur T (0, 0))) : NewAt w.heap.size w' T n a := fun h0 => h (by omega)
theorem two_rows15 {B : Nat} {w : World} {T T' : TypeId} {n m : Nat} {a b : Option Addr} {w' : World} (h : NewAt B w T n a) (k : NewAt w.heap.size w' T' m b) : ∀ gi go, 0 < n → 0 < m → a = some ⟨gi, 0, none⟩ → b = some ⟨go, 0, none⟩ → gi ≠ go := fun gi go h0 h1 e1 e2 => by
  obtain ⟨g, _, e3, _, hh⟩ := h h0
  obtain ⟨g', _, e4, l, _⟩ := k h1
  rw [e1] at e3
  rw [e2] at e4
  cases e3
  cases e4
  have := lt_of_block hh
  omega
theorem begun15 {w0 w : World} {g r Bi Bo : Nat} {t : PTx} {X : List Value} {ai : Option Addr} {ci : Nat} {ao : Option Addr} {co : Nat} (hv : w.heap[g]? = some (.cells X.toArray 35 (0, 0))) (hr : w.heap[r]? = some (.cells noTx.cells.toArray 35 (0, 0)))
    (hi : SliceOf inK w ai t.inn ci t.ins) (ho : SliceOf outK w ao t.on co t.outs) (ht : TxIn w0 t) (ni : NewAt Bi w 43 t.inn ai) (no : NewAt Bo w 47 t.on ao) (li : r < Bi) (lo : r < Bo)
    (two : ∀ gi go, 0 < t.inn → 0 < t.on → ai = some ⟨gi, 0, none⟩ → ao = some ⟨go, 0, none⟩ → gi ≠ go) (hg : w0.heap.size ≤ g) (hgr : g < r) (hb : Below w0.heap.size w0 w) : CpSt w0 g r w.heap.size t X ai ci ao co t.ins t.outs w := by
  have hrl := lt_of_block hr
  have hrow : ∀ {n c : Nat} {a : Option Addr} {l : List UInt8}, Row w0 a n c l → AllO (· ≠ r) n a := fun h h0 x e => by
    obtain ⟨b, off, e2, hlt, _⟩ := h.2.2.2.2 h0
    rw [e] at e2
    cases e2
    show b ≠ r
    omega
  have hnum : ∀ {n c : Nat} {a : Option Addr} {l : List Int}, Numbers w0 a n c l → AllO (· ≠ r) n a := fun h h0 x e => by
    obtain ⟨b, off, e2, hlt, _⟩ := h.2.2.2.2.2 h0
    rw [e] at e2
    cases e2
    show b ≠ r
    omega
  refine ⟨hv, hi, ho, ht.op.below hb, rfl, rfl, hr, fun h0 => ?_, fun h0 => ?_, two, fun gi h0 e => ?_, fun go h0 e => ?_, fun z hz h0 x e => ?_, fun y hy => ?_, fun z hz u hu => ?_, hrow ht.op.data, hg, hgr, hrl, Nat.le_refl _, hb⟩
  · obtain ⟨gi, cur, e, l, hh⟩ := ni h0
    exact ⟨gi, e, by omega, lt_of_block hh⟩
  · obtain ⟨go, cur, e, l, hh⟩ := no h0
    exact ⟨go, e, by omega, lt_of_block hh⟩
  · obtain ⟨g2, cur, e2, _, hh⟩ := ni h0
    rw [e] at e2
    cases e2
    exact ⟨cur, hh⟩
  · obtain ⟨g2, cur, e2, _, hh⟩ := no h0
    rw [e] at e2
    cases e2
    exact ⟨cur, hh⟩
  · exact .inl (SliceOf.block (K := wayK9) (show OutIn w0 z from ht.outs.2.2.2.2.1 z hz).ws h0 x e)
  · exact hrow (show InIn w0 y from ht.ins.2.2.2.2.1 y hy).pre
  · exact hnum (show WayIn w0 u from (show OutIn w0 z from ht.outs.2.2.2.2.1 z hz).ws.2.2.2.2.1 u hu).keys
theorem zeroWay15 : (Tryd.prog.info? 50).map (fun i => (i.zero, i.size, i.bytes)) = some (some (.agg noWay.cells.toArray), 35, 72) := by kernel_rfl
theorem noTx15 : (Tryd.prog.info? 35).map (fun i => (i.zero, i.size, i.bytes)) = some (some (.agg noTx.cells.toArray), 40, 160) := by kernel_rfl
theorem tx_cells15 (t : PTx) (hl : t.op.root.length = 32) (a b c : Value) : ((t.cells.set 0 a).set 1 b).set 39 c = a :: b :: (t.op.cells ++ [c]) := by
  have h9 := POp.len hl
  show a :: b :: ((t.op.cells ++ [Value.slice t.sa t.sn t.sc]).set 37 c) = _
  rw [List.set_append_right _ _ (by omega), h9]
  rfl
theorem op_slot15 (x : POp) (hl : x.root.length = 32) (a : Option Addr) (n c : Nat) : x.cells.set 36 (.slice a n c) = POp.cells ⟨x.kind, x.tower, x.channel, x.amount, x.root, a, n, c, x.data⟩ := by
  simp [POp.cells, cellsOf_len, hl]
/-- The ways of an out while they are copied. -/
theorem way_at15 {w0 w : World} {g r B1 : Nat} {t : PTx} {X : List Value} {ai : Option Addr} {ci : Nat} {ao : Option Addr} {co : Nat} {ys : List PIn} {zs : List POut} {y : POut} {gw wc i j : Nat} {us : List PWay} (h : CpSt w0 g r B1 t X ai ci ao co ys (zs.set j (y.at15 (some ⟨gw, 0, none⟩) y.n wc us)) w) (hj : j < t.on) (hz : j < zs.length) (hi : i < y.n) :
    WayIn w (us.getD i noWay) ∧ w.rangeAt gw (i * 35) (us.getD i noWay).cells := by
  have h1 : OutIn w ((zs.set j (y.at15 (some ⟨gw, 0, none⟩) y.n wc us)).getD j noOut) := h.outs.get hj
  rw [getD_set_self hz] at h1
  have hw : Ways w (some ⟨gw, 0, none⟩) y.n wc us := h1.ws
  obtain ⟨b, off, e, _, hc⟩ := hw.2.2.2.2.2 (by omega)
  cases e
  have h9 := hc i hi
  rw [Nat.zero_add] at h9
  exact ⟨hw.way hi, h9⟩
theorem way_cap15 {w0 w : World} {g r B1 : Nat} {t : PTx} {X : List Value} {ai : Option Addr} {ci : Nat} {ao : Option Addr} {co : Nat} {ys : List PIn} {zs : List POut} {y : POut} {wa : Option Addr} {wc j : Nat} {us : List PWay} (h : CpSt w0 g r B1 t X ai ci ao co ys (zs.set j (y.at15 wa y.n wc us)) w) (hj : j < t.on) (hz : j < zs.length) : y.n ≤ wc ∧ wc ≤ maxLen := by
  have h1 : OutIn w ((zs.set j (y.at15 wa y.n wc us)).getD j noOut) := h.outs.get hj
  rw [getD_set_self hz] at h1
  have hw : Ways w wa y.n wc us := h1.ws
  exact ⟨hw.2.1, hw.2.2.1⟩
theorem way_len15 {w0 w : World} {g r B1 : Nat} {t : PTx} {X : List Value} {ai : Option Addr} {ci : Nat} {ao : Option Addr} {co : Nat} {ys : List PIn} {zs : List POut} {y : POut} {wa : Option Addr} {wc j : Nat} {us : List PWay} (h : CpSt w0 g r B1 t X ai ci ao co ys (zs.set j (y.at15 wa y.n wc us)) w) (hj : j < t.on) (hz : j < zs.length) : us.length = y.n := by
  have h1 : OutIn w ((zs.set j (y.at15 wa y.n wc us)).getD j noOut) := h.outs.get hj
  rw [getD_set_self hz] at h1
  exact h1.ws.1
theorem way_slot15 {w0 w : World} {g r B1 : Nat} {t : PTx} {X : List Value} {ai : Option Addr} {ci : Nat} {ao : Option Addr} {co : Nat} {ys : List PIn} {zs : List POut} {y : POut} {gw wc i j : Nat} {us : List PWay} (h : CpSt w0 g r B1 t X ai ci ao co ys (zs.set j (y.at15 (some ⟨gw, 0, none⟩) y.n wc us)) w) (hj : j < t.on) (hz : j < zs.length) (hi : i < y.n) :
    w.cell? ⟨gw, i * 35, none⟩ = some (.slice (us.getD i noWay).a (us.getD i noWay).n (us.getD i noWay).c) := way_keys (way_at15 h hj hz hi).2
theorem put_key15 {w0 w : World} {g r B1 : Nat} {t : PTx} {X : List Value} {ai : Option Addr} {ci : Nat} {ao : Option Addr} {co : Nat} {ys : List PIn} {zs : List POut} {y : POut} {gw wc i j : Nat} {us : List PWay} (h : CpSt w0 g r B1 t X ai ci ao co ys (zs.set j (y.at15 (some ⟨gw, 0, none⟩) y.n wc us)) w) (hj : j < t.on) (hz : j < zs.length) (hi : i < y.n) (hB : B1 ≤ gw)
    (hd : ∀ k, k < t.on → k ≠ j → AllO (· ≠ gw) (zs.getD k noOut).n (zs.getD k noOut).a) {a' : Option Addr} {n' c' : Nat} (hr : Numbers w a' n' c' (us.getD i noWay).ks) (hn : AllO (· ≠ r) n' a') :
    CpSt w0 g r B1 t X ai ci ao co ys (zs.set j (y.at15 (some ⟨gw, 0, none⟩) y.n wc (us.set i ((us.getD i noWay).at9 a' n' c')))) (w.setCell ⟨gw, i * 35, none⟩ (.slice a' n' c')) := by
  have e : (zs.set j (y.at15 (some ⟨gw, 0, none⟩) y.n wc us)).getD j noOut = y.at15 (some ⟨gw, 0, none⟩) y.n wc us := getD_set_self hz
  have h9 := h.putKey (gw := gw) (j := j) (i := i) (a' := a') (n' := n') (c' := c') hj (by rw [e]; rfl) (by rw [e]; exact hi) hB (fun k hk hkj => by rw [getD_set_ne hkj]; exact hd k hk hkj) (by rw [e]; exact hr) hn
  rw [e, List.set_set] at h9
  exact h9
end Go.Proofs.YtnjnomebcggccaaDoor
