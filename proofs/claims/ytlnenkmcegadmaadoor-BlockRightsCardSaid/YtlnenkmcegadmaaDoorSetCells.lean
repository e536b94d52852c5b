/- Cells that hold a slice, written; slices.Clone at numbers. -/
import Derived.Test.YtlnenkmcegadmaaDoorCloneWays
namespace Go.Proofs.YtlnenkmcegadmaaDoor
open Go.RowKit

theorem heap_setCell_ne {w : World} {g o k : Nat} (h : k ≠ g) (v : Value) : (w.setCell ⟨g, o, none⟩ v).heap[k]? = w.heap[k]? := Below.heap_setCell _ _ _ k (fun e => h e)
theorem heap_setCell_eq {w : World} {g : Nat} {cur : Array Value} {t : TypeId} (h : w.heap[g]? = some (.cells cur t (0, 0))) (o : Nat) (v : Value) : (w.setCell ⟨g, o, none⟩ v).heap[g]? = some (.cells (cur.setIfInBounds o v) t (0, 0)) := by
  obtain ⟨hlt, hk⟩ := Array.getElem?_eq_some_iff.1 h
  show (w.heap.modify g _)[g]? = _
  rw [Array.getElem?_eq_getElem (by rw [Array.size_modify]; exact hlt), Array.getElem_modify_self, hk]
  rfl
theorem below_setCell9 {B : Nat} {w0 w : World} (h : Below B w0 w) {g : Nat} (hg : B ≤ g) (o : Nat) (v : Value) : Below B w0 (w.setCell ⟨g, o, none⟩ v) := h.setCell (p := ⟨g, o, none⟩) hg v
theorem ways_setCell {w : World} {a : Option Addr} {n c : Nat} {xs : List PWay} {g o : Nat} {u v : Value} (h : Ways w a n c xs) (hu : w.cell? ⟨g, o, none⟩ = some u) (hnz : ∀ z, u ≠ .int .i64 z) (hne : 0 < n → ∀ x, a = some x → x.block ≠ g) : Ways (w.setCell ⟨g, o, none⟩ v) a n c xs := by
  obtain ⟨h1, h2, h3, h4, h6, h5⟩ := h
  refine ⟨h1, h2, h3, h4, fun x hx => ⟨numbers_setCell (h6 x hx).keys hu hnz, (h6 x hx).sum, (h6 x hx).after, (h6 x hx).wait⟩, fun h0 => ?_⟩
  obtain ⟨b, off, rfl, hlt, hc⟩ := h5 h0
  refine ⟨b, off, rfl, by simpa using hlt, fun j hj k v hv => ?_⟩
  rw [cell_set_other (fun e => hne h0 _ rfl (congrArg Addr.block e).symm)]
  exact hc j hj k v hv
theorem cloneZ_any {w : World} {a : Option Addr} {n c : Nat} {zs : List Int} (h : Numbers w a n c zs) (hn : n ≤ 100000) :
    Calls Tryd.prog 48 #[.slice a n c] w fun e w' => ∃ (a' : Option Addr) (c' : Nat), e = .returned (.slice a' n c') ∧ Numbers w' a' n c' zs ∧ (∀ x, a' = some x → ∃ cs fr, w'.heap[x.block]? = some (.cells cs 3 fr)) ∧ Below w.heap.size w w' := by
  refine (clone_any h hn).mono ?_
  rintro e w' ⟨v, rfl, ho, hb⟩
  obtain ⟨a', c', rfl, _⟩ := ho.shape
  have hf : ∀ x, a' = some x → ∃ cs fr, w'.heap[x.block]? = some (.cells cs 3 fr) := fun x e => by
    subst e
    rcases ho.1.2 with ⟨hv, _⟩ | ⟨g, cap, cur, hv, _, hh, _⟩
    · cases hv
    · cases hv
      exact ⟨_, _, hh⟩
  have h9 := ho.numbers
  rw [h.1] at h9
  exact ⟨a', c', by rw [h.1], h9, hf, hb⟩
/-- A way's keys lie in a block of numbers. -/
def TypedKey (w : World) (y : PWay) : Prop := 0 < y.n → ∀ x, y.a = some x → ∃ cs fr, w.heap[x.block]? = some (.cells cs 3 fr)
/-- Ways lie in a block of ways, their keys in blocks of numbers. -/
def TypedW (w : World) (a : Option Addr) (n : Nat) (ys : List PWay) : Prop := (0 < n → ∀ x, a = some x → ∃ cs fr, w.heap[x.block]? = some (.cells cs 82 fr)) ∧ ∀ y ∈ ys, TypedKey w y
theorem TypedKey.but {w w' : World} {y : PWay} {p : Nat} (h : TypedKey w y) (hb : But w.heap.size p w w') (hp : ∀ cs fr, w.heap[p]? ≠ some (.cells cs 3 fr)) : TypedKey w' y := fun h0 x e => by
  obtain ⟨cs, fr, hh⟩ := h h0 x e
  exact ⟨cs, fr, hb.heap hh (lt_of_block hh) (fun e2 => hp cs fr (by rw [← e2]; exact hh))⟩
theorem TypedKey.below {w w' : World} {y : PWay} (h : TypedKey w y) (hb : Below w.heap.size w w') : TypedKey w' y := fun h0 x e => by
  obtain ⟨cs, fr, hh⟩ := h h0 x e
  exact ⟨cs, fr, (hb.block _ (lt_of_block hh)).trans hh⟩
theorem TypedW.below {w w' : World} {a : Option Addr} {n : Nat} {ys : List PWay} (h : TypedW w a n ys) (hb : Below w.heap.size w w') : TypedW w' a n ys :=
  ⟨fun h0 x e => by
    obtain ⟨cs, fr, hh⟩ := h.1 h0 x e
    exact ⟨cs, fr, (hb.block _ (lt_of_block hh)).trans hh⟩, fun y hy => (h.2 y hy).below hb⟩
theorem ways_typed9 {w w' : World} {a : Option Addr} {n c p : Nat} {ys : List PWay} (h : Ways w a n c ys) (ht : TypedW w a n ys) (hb : But w.heap.size p w w') (hp : ∀ cs fr, w.heap[p]? ≠ some (.cells cs 82 fr) ∧ w.heap[p]? ≠ some (.cells cs 3 fr)) : Ways w' a n c ys ∧ TypedW w' a n ys := by
  refine ⟨?_, ⟨fun h0 x e => ?_, fun y hy => (ht.2 y hy).but hb (fun cs fr => (hp cs fr).2)⟩⟩
  · obtain ⟨h1, h2, h3, h4, h6, h5⟩ := h
    refine ⟨h1, h2, h3, h4, fun y hy => ⟨?_, (h6 y hy).sum, (h6 y hy).after, (h6 y hy).wait⟩, fun h0 => ?_⟩
    · obtain ⟨k1, k2, k3, k4, k6, k5⟩ := (h6 y hy).keys
      refine ⟨k1, k2, k3, k4, k6, fun h0 => ?_⟩
      obtain ⟨b, off, e, hlt, hc⟩ := k5 h0
      obtain ⟨cs, fr, hh⟩ := ht.2 y hy h0 _ e
      have hne : b ≠ p := fun e2 => (hp cs fr).2 (by rw [← e2]; exact hh)
      exact ⟨b, off, e, Nat.lt_of_lt_of_le hlt hb.size, fun j hj => (hb.cell (a := ⟨b, off + j, none⟩) hlt hne).trans (hc j hj)⟩
    · obtain ⟨b, off, e, hlt, hc⟩ := h5 h0
      obtain ⟨cs, fr, hh⟩ := ht.1 h0 _ e
      have hne : b ≠ p := fun e2 => (hp cs fr).1 (by rw [← e2]; exact hh)
      exact ⟨b, off, e, Nat.lt_of_lt_of_le hlt hb.size, fun j hj i v hv => (hb.cell (a := ⟨b, off + j * 35 + i, none⟩) hlt hne).trans (hc j hj i v hv)⟩
  · obtain ⟨cs, fr, hh⟩ := ht.1 h0 x e
    exact ⟨cs, fr, hb.heap hh (lt_of_block hh) (fun e2 => (hp cs fr).1 (by rw [← e2]; exact hh))⟩
theorem typed_set {ys : List PWay} {j : Nat} {w : World} {y : PWay} (h : ∀ i, i < j → TypedKey w (ys.getD i noWay)) (hj : j < ys.length) (hy : TypedKey w y) : ∀ i, i < j + 1 → TypedKey w ((ys.set j y).getD i noWay) := fun i hi => by
  by_cases e : i = j
  · subst e
    rw [List.getD_eq_getElem?_getD, List.getElem?_set_self hj]
    exact hy
  · rw [List.getD_eq_getElem?_getD, List.getElem?_set_ne (fun e2 => e e2.symm), ← List.getD_eq_getElem?_getD]
    exact h i (by omega)
theorem But.below9 {B B' p : Nat} {w w' : World} (h : But B p w w') (hp : B' ≤ p) (hB : B' ≤ B) : Below B' w w' := ⟨h.os, h.tape, h.output, h.size, fun k hk => h.block k (by omega) (by omega)⟩
theorem but_setCell9 (w : World) (g o : Nat) (v : Value) : But w.heap.size g w (w.setCell ⟨g, o, none⟩ v) := (But.refl w.heap.size g w).setCell ⟨g, o, none⟩ (.inl rfl) v
/-- Ways whose keys are few. -/
def FewKeys (xs : List PWay) : Prop := ∀ x ∈ xs, x.ks.length ≤ 1000
theorem fewKeys_strip {xs ys : List PWay} (h : ys.map PWay.strip = xs.map PWay.strip) (hx : FewKeys xs) : FewKeys ys := fun y hy => by
  have h1 : y.strip ∈ xs.map PWay.strip := by rw [← h]; exact List.mem_map.2 ⟨y, hy, rfl⟩
  obtain ⟨x, hx1, hx2⟩ := List.mem_map.1 h1
  have h2 : y.ks = x.ks := (congrArg PWay.ks hx2).symm
  rw [h2]
  exact hx x hx1
end Go.Proofs.YtlnenkmcegadmaaDoor
