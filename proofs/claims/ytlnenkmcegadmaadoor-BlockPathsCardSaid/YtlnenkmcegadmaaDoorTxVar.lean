/- How all stands while ins, ops, signs and transactions are read. -/
import Derived.Test.YtlnenkmcegadmaaDoorTx
import Derived.Test.YtlnenkmcegadmaaDoorLockGet
namespace Go.Proofs.YtlnenkmcegadmaaDoor
open Go.RowKit

/-! ### What stays where a block of another type is written -/
theorem row_typed {w w' : World} {p n c : Nat} {a : Option Addr} {l : List UInt8} {cs : Array Value} {t : TypeId} {fr : Nat × Nat} (h : Row w a n c l) (ht : Tag w a n) (hb : But w.heap.size p w w') (hp : w.heap[p]? = some (.cells cs t fr)) (hne : t ≠ 5) : Row w' a n c l ∧ Tag w' a n := by
  have key : 0 < n → ∃ b off cs fr, a = some ⟨b, off, none⟩ ∧ w.heap[b]? = some (.cells cs 5 fr) ∧ b ≠ p := fun h0 => by
    obtain ⟨b, off, cs', fr', e, hh⟩ := ht h0
    exact ⟨b, off, cs', fr', e, hh, fun e => by subst e; rw [hh] at hp; simp at hp; exact hne hp.2.1.symm⟩
  refine ⟨h.but hb (fun h0 b off e => ?_), fun h0 => ?_⟩
  · obtain ⟨b', off', _, _, e2, _, hne2⟩ := key h0
    rw [e] at e2
    cases e2
    exact hne2
  · obtain ⟨b, off, cs', fr', e, hh, hne2⟩ := key h0
    exact ⟨b, off, cs', fr', e, hb.heap hh (lt_of_block hh) hne2⟩
theorem ways_typed {w w' : World} {p n c : Nat} {a : Option Addr} {xs : List PWay} {cs : Array Value} {t : TypeId} {fr : Nat × Nat} (h : Ways w a n c xs) (hk : ∀ x ∈ xs, KeyTag w x) (ht : WayTag w a n) (hb : But w.heap.size p w w') (hp : w.heap[p]? = some (.cells cs t fr)) (h1 : t ≠ 3) (h2 : t ≠ 82) : Ways w' a n c xs ∧ (∀ x ∈ xs, KeyTag w' x) ∧ WayTag w' a n := by
  have hi : ∀ cs fr, w.heap[p]? ≠ some (.cells cs 3 fr) := fun _ _ e => by rw [hp] at e; simp at e; exact h1 e.2.1
  have hw : ∀ x ∈ xs, WayIn w' x ∧ KeyTag w' x := fun x hx => way_but (h.2.2.2.2.1 x hx) (hk x hx) hb hi
  have key : 0 < n → ∃ b off cs fr, a = some ⟨b, off, none⟩ ∧ w.heap[b]? = some (.cells cs 82 fr) ∧ b ≠ p := fun h0 => by
    obtain ⟨b, off, cs', fr', e, hh⟩ := ht h0
    exact ⟨b, off, cs', fr', e, hh, fun e => by subst e; rw [hh] at hp; simp at hp; exact h2 hp.2.1.symm⟩
  obtain ⟨g1, g2, g3, g4, _, g5⟩ := h
  refine ⟨⟨g1, g2, g3, g4, fun x hx => (hw x hx).1, fun h0 => ?_⟩, fun x hx => (hw x hx).2, fun h0 => ?_⟩
  · obtain ⟨b, off, e, hlt, hc⟩ := g5 h0
    obtain ⟨b', off', _, _, e2, _, hne2⟩ := key h0
    rw [e] at e2
    cases e2
    exact ⟨b, off, e, Nat.lt_of_lt_of_le hlt hb.size, fun j hj => rangeAt_but (hc j hj) hlt hne2 hb⟩
  · obtain ⟨b, off, cs', fr', e, hh, hne2⟩ := key h0
    exact ⟨b, off, cs', fr', e, hb.heap hh (lt_of_block hh) hne2⟩
/-- An in, an out, an op, with where their slices lie. -/
def InT (w : World) (y : PIn) : Prop := InIn w y ∧ Tag w y.a y.n
def OutT (w : World) (y : POut) : Prop := OutIn w y ∧ (∀ x ∈ y.ws, KeyTag w x) ∧ WayTag w y.a y.n
def OpT (w : World) (x : POp) : Prop := OpIn w x ∧ Tag w x.a x.n
theorem InT.below {w w' : World} {y : PIn} (h : InT w y) (hb : Below w.heap.size w w') : InT w' y := ⟨⟨h.1.tx, h.1.place, h.1.way, h.1.pre.below hb⟩, h.2.below hb⟩
theorem OpT.below {w w' : World} {y : POp} (h : OpT w y) (hb : Below w.heap.size w w') : OpT w' y := ⟨h.1.below hb, h.2.below hb⟩
theorem OutT.below {w w' : World} {y : POut} (h : OutT w y) (hb : Below w.heap.size w w') : OutT w' y :=
  ⟨⟨h.1.m, h.1.ws.below hb⟩, fun x hx h0 => by
    obtain ⟨b, off, cs, fr, e, hh⟩ := h.2.1 x hx h0
    exact ⟨b, off, cs, fr, e, (hb.block _ (lt_of_block hh)).trans hh⟩, fun h0 => by
    obtain ⟨b, off, cs, fr, e, hh⟩ := h.2.2 h0
    exact ⟨b, off, cs, fr, e, (hb.block _ (lt_of_block hh)).trans hh⟩⟩
theorem InT.typed {w w' : World} {p : Nat} {y : PIn} {cs : Array Value} {t : TypeId} {fr : Nat × Nat} (h : InT w y) (hb : But w.heap.size p w w') (hp : w.heap[p]? = some (.cells cs t fr)) (hne : t ≠ 5) : InT w' y :=
  have h9 := row_typed h.1.pre h.2 hb hp hne
  ⟨⟨h.1.tx, h.1.place, h.1.way, h9.1⟩, h9.2⟩
theorem OpT.typed {w w' : World} {p : Nat} {y : POp} {cs : Array Value} {t : TypeId} {fr : Nat × Nat} (h : OpT w y) (hb : But w.heap.size p w w') (hp : w.heap[p]? = some (.cells cs t fr)) (hne : t ≠ 5) : OpT w' y :=
  have h9 := row_typed h.1.data h.2 hb hp hne
  ⟨⟨h.1.kind, h.1.tower, h.1.channel, h.1.amount, h.1.root, h9.1⟩, h9.2⟩
theorem OutT.typed {w w' : World} {p : Nat} {y : POut} {cs : Array Value} {t : TypeId} {fr : Nat × Nat} (h : OutT w y) (hb : But w.heap.size p w w') (hp : w.heap[p]? = some (.cells cs t fr)) (h1 : t ≠ 3) (h2 : t ≠ 82) : OutT w' y :=
  have h9 := ways_typed h.1.ws h.2.1 h.2.2 hb hp h1 h2
  ⟨⟨h.1.m, h9.1⟩, h9.2⟩

/-! ### A variable that holds a struct -/
def VarC (w : World) (g : Nat) (t : TypeId) (cs : List Value) : Prop := w.heap[g]? = some (.cells cs.toArray t (0, 0))
theorem VarC.lt {w : World} {g : Nat} {t : TypeId} {cs : List Value} (h : VarC w g t cs) : g < w.heap.size := lt_of_block h
theorem VarC.free {w : World} {g : Nat} {t : TypeId} {cs : List Value} (h : VarC w g t cs) (i : Nat) : w.frozen? ⟨g, i, none⟩ = false := by
  unfold VarC at h
  simp [World.frozen?, h]
theorem VarC.cell {w : World} {g : Nat} {t : TypeId} {cs : List Value} (h : VarC w g t cs) (i : Nat) : w.cell? ⟨g, i, none⟩ = cs[i]? := by
  rw [cell_of_row _ _ _ _ _ _ h]
  simp
theorem VarC.there {w : World} {g o n : Nat} {t : TypeId} {cs : List Value} (h : VarC w g t cs) (ho : o + n ≤ cs.length) : w.there g o n := fun j hj => by
  refine ⟨?_, h.free _⟩
  rw [h.cell, List.getElem?_eq_getElem (by omega)]
  rfl
theorem VarC.range {w : World} {g : Nat} {t : TypeId} {cs : List Value} (h : VarC w g t cs) : w.rangeAt g 0 cs := range_of h
theorem VarC.but {w w' : World} {g B p : Nat} {t : TypeId} {cs : List Value} (h : VarC w g t cs) (hb : But B p w w') (hB : g < B) (hne : g ≠ p) : VarC w' g t cs := hb.heap h hB hne
theorem VarC.below {w w' : World} {g : Nat} {t : TypeId} {cs : List Value} (h : VarC w g t cs) (hb : Below w.heap.size w w') : VarC w' g t cs := (hb.block g h.lt).trans h
theorem VarC.put {w : World} {g o : Nat} {t : TypeId} {pre mid post vs : List Value} (h : VarC w g t (pre ++ (mid ++ post))) (hl : vs.length = mid.length) (ho : pre.length = o) : VarC (w.setCells g o vs) g t (pre ++ (vs ++ post)) := by
  have h1 := heap_setCells vs o w _ h
  rw [← ho, setL_mid vs mid pre post hl] at h1
  rw [← ho]
  exact h1
theorem VarC.put1 {w : World} {g o : Nat} {t : TypeId} {pre post : List Value} {u v : Value} (h : VarC w g t (pre ++ (u :: post))) (ho : pre.length = o) : VarC (w.setCell ⟨g, o, none⟩ v) g t (pre ++ (v :: post)) := VarC.put (mid := [u]) (vs := [v]) h rfl ho
theorem not_typed {w : World} {p : Nat} {cs : Array Value} {t u : TypeId} {fr : Nat × Nat} (hp : w.heap[p]? = some (.cells cs t fr)) (h : t ≠ u) : ∀ cs' fr', w.heap[p]? ≠ some (.cells cs' u fr') := fun _ _ e => by
  rw [hp] at e
  simp at e
  exact h e.2.1
theorem OwnOf.setOther {α : Type} {K : Sort8 α} {t : TypeId} {w : World} {B g i : Nat} {v u : Value} {xs : List α} (h : OwnOf K t w B v xs) (hg : v.ownBlock ≠ some g) : OwnOf K t (w.setCell ⟨g, i, none⟩ u) B v xs := ⟨ownsRow_setCell_other h.1 (fun e => hg e) _, h.2⟩
end Go.Proofs.YtlnenkmcegadmaaDoor
