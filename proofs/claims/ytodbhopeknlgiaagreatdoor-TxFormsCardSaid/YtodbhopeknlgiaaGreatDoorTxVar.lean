/- How all stands while ins, ops, signs and transactions are read. -/
import Derived.Test.YtodbhopeknlgiaaGreatDoorTxReads
import Derived.Test.YtodbhopeknlgiaaGreatDoorLock
namespace Go.Proofs.YtodbhopeknlgiaaGreatDoor
open Go.RowKit

/-! ### What stays where a block of another type is written -/
theorem row_typed {w w' : World} {p n c : Nat} {a : Option Addr} {l : List UInt8} {cs : Array Value} {t : TypeId} {fr : Nat × Nat} (h : Row w a n c l) (ht : Tag w a n) (hb : But w.heap.size p w w') (hp : w.heap[p]? = some (.cells cs t fr)) (hne : t ≠ 5) : Row w' a n c l ∧ Tag w' a n := by
  have key : 0 < n → ∃ b off cs fr, a = some ⟨b, off, none⟩ ∧ w.heap[b]? = some (.cells cs 5 fr) ∧ b ≠ p := fun h0 => by
    obtain ⟨b, off, cs', fr', e, hh⟩ := ht h0
    exact ⟨b, off, cs', fr', e, hh, fun e => by subst e; rw [hh] at hp; simp at hp; exact hne hp.2.1.symm⟩
  refine ⟨h.but hb (fun h0 b off e => ?_), fun h0 => ?_⟩
  · obtain ⟨b', off', _, _, e2, _, hne2⟩ := key h0
    rw [e] at e2
    cases e2
    exact hne2
  · obtain ⟨b, off, cs', fr', e, hh, hne2⟩ := key h0
    exact ⟨b, off, cs', fr', e, hb.heap hh (lt_of_block hh) hne2⟩
theorem ways_typed {w w' : World} {p n c : Nat} {a : Option Addr} {xs : List PWay} {cs : Array Value} {t : TypeId} {fr : Nat × Nat} (h : Ways w a n c xs) (hk : ∀ x ∈ xs, KeyTag w x) (ht : WayTag w a n) (hb : But w.heap.size p w w') (hp : w.heap[p]? = some (.cells cs t fr)) (h1 : t ≠ 3) (h2 : t ≠ 64) : Ways w' a n c xs ∧ (∀ x ∈ xs, KeyTag w' x) ∧ WayTag w' a n := by
  have hi : ∀ cs fr, w.heap[p]? ≠ some (.cells cs 3 fr) := fun _ _ e => by rw [hp] at e; simp at e; exact h1 e.2.1
  have hw : ∀ x ∈ xs, WayIn w' x ∧ KeyTag w' x := fun x hx => way_but (h.2.2.2.2.1 x hx) (hk x hx) hb hi
  have key : 0 < n → ∃ b off cs fr, a = some ⟨b, off, none⟩ ∧ w.heap[b]? = some (.cells cs 64 fr) ∧ b ≠ p := fun h0 => by
    obtain ⟨b, off, cs', fr', e, hh⟩ := ht h0
    exact ⟨b, off, cs', fr', e, hh, fun e => by subst e; rw [hh] at hp; simp at hp; exact h2 hp.2.1.symm⟩
  obtain ⟨g1, g2, g3, g4, _, g5⟩ := h
  refine ⟨⟨g1, g2, g3, g4, fun x hx => (hw x hx).1, fun h0 => ?_⟩, fun x hx => (hw x hx).2, fun h0 => ?_⟩
  · obtain ⟨b, off, e, hlt, hc⟩ := g5 h0
    obtain ⟨b', off', _, _, e2, _, hne2⟩ := key h0
    rw [e] at e2
    cases e2
    exact ⟨b, off, e, Nat.lt_of_lt_of_le hlt hb.size, fun j hj => rangeAt_but (hc j hj) hlt hne2 hb⟩
  · obtain ⟨b, off, cs', fr', e, hh, hne2⟩ := key h0
    exact ⟨b, off, cs', fr', e, hb.heap hh (lt_of_block hh) hne2⟩
/-- An in, an out, an op, with where their slices lie. -/
def InT (w : World) (y : PIn) : Prop := InIn w y ∧ Tag w y.a y.n
def OutT (w : World) (y : POut) : Prop := OutIn w y ∧ (∀ x ∈ y.ws, KeyTag w x) ∧ WayTag w y.a y.n
def OpT (w : World) (x : POp) : Prop := OpIn w x ∧ Tag w x.a x.n
theorem InT.below {w w' : World} {y : PIn} (h : InT w y) (hb : Below w.heap.size w w') : InT w' y := ⟨⟨h.1.tx, h.1.place, h.1.way, h.1.pre.below hb⟩, h.2.below hb⟩
theorem OpT.below {w w' : World} {y : POp} (h : OpT w y) (hb : Below w.heap.size w w') : OpT w' y := ⟨h.1.below hb, h.2.below hb⟩
theorem OutT.below {w w' : World} {y : POut} (h : OutT w y) (hb : Below w.heap.size w w') : OutT w' y :=
  ⟨⟨h.1.m, h.1.ws.below hb⟩, fun x hx h0 => by
    obtain ⟨b, off, cs, fr, e, hh⟩ := h.2.1 x hx h0
    exact ⟨b, off, cs, fr, e, (hb.block _ (lt_of_block hh)).trans hh⟩, fun h0 => by
    obtain ⟨b, off, cs, fr, e, hh⟩ := h.2.2 h0
    exact ⟨b, off, cs, fr, e, (hb.block _ (lt_of_block hh)).trans hh⟩⟩
theorem InT.typed {w w' : World} {p : Nat} {y : PIn} {cs : Array Value} {t : TypeId} {fr : Nat × Nat} (h : InT w y) (hb : But w.heap.size p w w') (hp : w.heap[p]? = some (.cells cs t fr)) (hne : t ≠ 5) : InT w' y :=
  have h9 := row_typed h.1.pre h.2 hb hp hne
  ⟨⟨h.1.tx, h.1.place, h.1.way, h9.1⟩, h9.2⟩
theorem OpT.typed {w w' : World} {p : Nat} {y : POp} {cs : Array Value} {t : TypeId} {fr : Nat × Nat} (h : OpT w y) (hb : But w.heap.size p w w') (hp : w.heap[p]? = some (.cells cs t fr)) (hne : t ≠ 5) : OpT w' y :=
  have h9 := row_typed h.1.data h.2 hb hp hne
  ⟨⟨h.1.kind, h.1.tower, h.1.channel, h.1.amount, h.1.root, h9.1⟩, h9.2⟩
theorem OutT.typed {w w' : World} {p : Nat} {y : POut} {cs : Array Value} {t : TypeId} {fr : Nat × Nat} (h : OutT w y) (hb : But w.heap.size p w w') (hp : w.heap[p]? = some (.cells cs t fr)) (h1 : t ≠ 3) (h2 : t ≠ 64) : OutT w' y :=
  have h9 := ways_typed h.1.ws h.2.1 h.2.2 hb hp h1 h2
  ⟨⟨h.1.m, h9.1⟩, h9.2⟩

/-! ### A variable that holds a struct -/
def VarC (w : World) (g : Nat) (t : TypeId) (cs : List Value) : Prop := w.heap[g]? = some (.cells cs.toArray t (0, 0))
theorem VarC.lt {w : World} {g : Nat} {t : TypeId} {cs : List Value} (h : VarC w g t cs) : g < w.heap.size := lt_of_block h
theorem VarC.free {w : World} {g : Nat} {t : TypeId} {cs : List Value} (h : VarC w g t cs) (i : Nat) : w.frozen? ⟨g, i, none⟩ = false := by
  unfold VarC at h
  simp [World.frozen?, h]
theorem VarC.cell {w : World} {g : Nat} {t : TypeId} {cs : List Value} (h : VarC w g t cs) (i : Nat) : w.cell? ⟨g, i, none⟩ = cs[i]? := by
  rw [cell_of_row _ _ _ _ _ _ h]
  simp
theorem VarC.there {w : World} {g o n : Nat} {t : TypeId} {cs : List Value} (h : VarC w g t cs) (ho : o + n ≤ cs.length) : w.there g o n := fun j hj => by
  refine ⟨?_, h.free _⟩
  rw [h.cell, List.getElem?_eq_getElem (by omega)]
  rfl
theorem VarC.range {w : World} {g : Nat} {t : TypeId} {cs : List Value} (h : VarC w g t cs) : w.rangeAt g 0 cs := range_of h
theorem VarC.but {w w' : World} {g B p : Nat} {t : TypeId} {cs : List Value} (h : VarC w g t cs) (hb : But B p w w') (hB : g < B) (hne : g ≠ p) : VarC w' g t cs := hb.heap h hB hne
theorem VarC.below {w w' : World} {g : Nat} {t : TypeId} {cs : List Value} (h : VarC w g t cs) (hb : Below w.heap.size w w') : VarC w' g t cs := (hb.block g h.lt).trans h
theorem VarC.put {w : World} {g o : Nat} {t : TypeId} {pre mid post vs : List Value} (h : VarC w g t (pre ++ (mid ++ post))) (hl : vs.length = mid.length) (ho : pre.length = o) : VarC (w.setCells g o vs) g t (pre ++ (vs ++ post)) := by
  have h1 := heap_setCells vs o w _ h
  rw [← ho, setL_mid vs mid pre post hl] at h1
  rw [← ho]
  exact h1
theorem VarC.put1 {w : World} {g o : Nat} {t : TypeId} {pre post : List Value} {u v : Value} (h : VarC w g t (pre ++ (u :: post))) (ho : pre.length = o) : VarC (w.setCell ⟨g, o, none⟩ v) g t (pre ++ (v :: post)) := VarC.put (mid := [u]) (vs := [v]) h rfl ho
/-- How all stands while a part is read: g3 is the variable, g2 the result. -/
structure PartSt (w0 : World) (yb g2 g3 : Nat) (t : TypeId) (z cs : List Value) (s : List UInt8 × Int) (w : World) : Prop where
  res : VarC w g2 t z
  var : VarC w g3 t cs
  eye : EyeAt w yb s.1 s.2
  but : But w0.heap.size yb w0 w
theorem PartSt.read {w0 w w' : World} {yb g2 g3 : Nat} {t : TypeId} {z cs : List Value} {s s' : List UInt8 × Int} (h : PartSt w0 yb g2 g3 t z cs s w) (hy : yb < w0.heap.size) (h2 : w0.heap.size ≤ g2) (h3 : w0.heap.size ≤ g3) (he : EyeAt w' yb s'.1 s'.2) (hb : But w.heap.size yb w w') : PartSt w0 yb g2 g3 t z cs s' w' :=
  ⟨h.res.but hb h.res.lt (by omega), h.var.but hb h.var.lt (by omega), he, h.but.trans (hb.mono h.but.size)⟩
theorem PartSt.set {w0 w w' : World} {yb g2 g3 : Nat} {t : TypeId} {z cs cs' : List Value} {s : List UInt8 × Int} (h : PartSt w0 yb g2 g3 t z cs s w) (ht : t ≠ 5) (hy : yb < w0.heap.size) (h3 : w0.heap.size ≤ g3) (hne : g2 ≠ g3) (hs : But w.heap.size g3 w w') (hv : VarC w' g3 t cs') : PartSt w0 yb g2 g3 t z cs' s w' :=
  ⟨h.res.but hs h.res.lt hne, hv, h.eye.typed hs h.var ht (by omega), h.but.trans ⟨hs.os, hs.tape, hs.output, hs.size, fun k hk hkp => hs.block k (Nat.lt_of_lt_of_le hk h.but.size) (by omega)⟩⟩
/-- The result is stored. -/
theorem PartSt.done {w0 w w' : World} {yb g2 g3 : Nat} {t : TypeId} {z cs : List Value} {s : List UInt8 × Int} (h : PartSt w0 yb g2 g3 t z cs s w) (ht : t ≠ 5) (hy : yb < w0.heap.size) (h2 : w0.heap.size ≤ g2) (hs : But w.heap.size g2 w w') : EyeAt w' yb s.1 s.2 ∧ But w0.heap.size yb w0 w' :=
  ⟨h.eye.typed hs h.res ht (by omega), h.but.trans ⟨hs.os, hs.tape, hs.output, hs.size, fun k hk hkp => hs.block k (Nat.lt_of_lt_of_le hk h.but.size) (by omega)⟩⟩

/-! ### While a transaction is read -/
/-- All but the slices of ins, outs, signs and the variable. -/
structure Core (w0 : World) (yb g2 : Nat) (is : List PIn) (os : List POut) (op : POp) (ss : List PSign) (s : List UInt8 × Int) (w : World) : Prop where
  inT : ∀ y ∈ is, InT w y
  outT : ∀ y ∈ os, OutT w y
  opT : OpT w op
  signT : ∀ y ∈ ss, SignIn y
  res : VarC w g2 31 noTx.cells
  eye : EyeAt w yb s.1 s.2
  but : Below w0.heap.size w0 w
theorem Core.below {w0 w w' : World} {yb g2 : Nat} {is : List PIn} {os : List POut} {op : POp} {ss : List PSign} {s : List UInt8 × Int} (h : Core w0 yb g2 is os op ss s w) (hb : Below w.heap.size w w') : Core w0 yb g2 is os op ss s w' :=
  ⟨fun y hy => (h.inT y hy).below hb, fun y hy => (h.outT y hy).below hb, h.opT.below hb, h.signT, h.res.below hb, h.eye.below hb, h.but.trans (hb.mono h.but.size)⟩
theorem Core.typed {w0 w w' : World} {yb g2 p : Nat} {is : List PIn} {os : List POut} {op : POp} {ss : List PSign} {s : List UInt8 × Int} {cs : Array Value} {t : TypeId} {fr : Nat × Nat} (h : Core w0 yb g2 is os op ss s w) (hb : But w.heap.size p w w') (hp : w.heap[p]? = some (.cells cs t fr)) (h1 : t ≠ 5) (h2 : t ≠ 3) (h3 : t ≠ 64) (h4 : t ≠ 117) (hg : p ≠ g2) (hB : w0.heap.size ≤ p) : Core w0 yb g2 is os op ss s w' := by
  obtain ⟨ce, hce⟩ := h.eye.block
  have hyp : yb ≠ p := fun e => by rw [e, hp] at hce; simp at hce; exact h4 hce.2.1
  exact ⟨fun y hy => (h.inT y hy).typed hb hp h1, fun y hy => (h.outT y hy).typed hb hp h2 h3, h.opT.typed hb hp h1, h.signT, h.res.but hb h.res.lt (Ne.symm hg), h.eye.typed hb hp h1 hyp, h.but.trans ((hb.mono h.but.size).below hB)⟩
theorem Core.read {w0 w w' : World} {yb g2 : Nat} {is : List PIn} {os : List POut} {op : POp} {ss : List PSign} {s s' : List UInt8 × Int} (h : Core w0 yb g2 is os op ss s w) (hy : w0.heap.size ≤ yb) (he : EyeAt w' yb s'.1 s'.2) (hb : But w.heap.size yb w w') : Core w0 yb g2 is os op ss s' w' := by
  obtain ⟨ce, hce⟩ := h.eye.block
  have hg : g2 ≠ yb := fun e => by
    have h9 := h.res
    unfold VarC at h9
    rw [e, hce] at h9
    simp at h9
  exact ⟨fun y hy => (h.inT y hy).typed hb hce (by decide), fun y hy => (h.outT y hy).typed hb hce (by decide) (by decide), h.opT.typed hb hce (by decide), h.signT, h.res.but hb h.res.lt hg, he, h.but.trans ((hb.mono h.but.size).below hy)⟩
/-- How all stands while a transaction is read: g5 is the variable, g2 the result. -/
structure ReadSt (w0 : World) (yb g2 g5 : Nat) (x : PTx) (s : List UInt8 × Int) (w : World) : Prop where
  ins : OwnOf inK 58 w w0.heap.size (.slice x.ia x.inn x.ic) x.ins
  outs : OwnOf outK 61 w w0.heap.size (.slice x.oa x.on x.oc) x.outs
  signs : OwnOf signK 49 w w0.heap.size (.slice x.sa x.sn x.sc) x.signs
  var : VarC w g5 31 x.cells
  core : Core w0 yb g2 x.ins x.outs x.op x.signs s w
theorem not_typed {w : World} {p : Nat} {cs : Array Value} {t u : TypeId} {fr : Nat × Nat} (hp : w.heap[p]? = some (.cells cs t fr)) (h : t ≠ u) : ∀ cs' fr', w.heap[p]? ≠ some (.cells cs' u fr') := fun _ _ e => by
  rw [hp] at e
  simp at e
  exact h e.2.1
theorem ReadSt.read {w0 w w' : World} {yb g2 g5 : Nat} {x : PTx} {s s' : List UInt8 × Int} (h : ReadSt w0 yb g2 g5 x s w) (hy : w0.heap.size ≤ yb) (he : EyeAt w' yb s'.1 s'.2) (hb : But w.heap.size yb w w') : ReadSt w0 yb g2 g5 x s' w' := by
  obtain ⟨ce, hce⟩ := h.core.eye.block
  have hg : g5 ≠ yb := fun e => by
    have h9 := h.var
    unfold VarC at h9
    rw [e, hce] at h9
    simp at h9
  exact ⟨h.ins.but hb (not_typed hce (by decide)), h.outs.but hb (not_typed hce (by decide)), h.signs.but hb (not_typed hce (by decide)), h.var.but hb h.var.lt hg, h.core.read hy he hb⟩
theorem ReadSt.more {w0 w w' : World} {yb g2 g5 : Nat} {x : PTx} {s : List UInt8 × Int} (h : ReadSt w0 yb g2 g5 x s w) (hb : Below w.heap.size w w') : ReadSt w0 yb g2 g5 x s w' :=
  ⟨h.ins.below hb, h.outs.below hb, h.signs.below hb, h.var.below hb, h.core.below hb⟩
theorem Core.ins' {w0 w : World} {yb g2 : Nat} {is : List PIn} {os : List POut} {op : POp} {ss : List PSign} {s : List UInt8 × Int} {y : PIn} (h : Core w0 yb g2 is os op ss s w) (hy : InT w y) : Core w0 yb g2 (is ++ [y]) os op ss s w :=
  ⟨fun z hz => by
    rcases List.mem_append.1 hz with hz | hz
    · exact h.inT z hz
    · simp at hz
      subst hz
      exact hy, h.outT, h.opT, h.signT, h.res, h.eye, h.but⟩
theorem Core.outs' {w0 w : World} {yb g2 : Nat} {is : List PIn} {os : List POut} {op : POp} {ss : List PSign} {s : List UInt8 × Int} {y : POut} (h : Core w0 yb g2 is os op ss s w) (hy : OutT w y) : Core w0 yb g2 is (os ++ [y]) op ss s w :=
  ⟨h.inT, fun z hz => by
    rcases List.mem_append.1 hz with hz | hz
    · exact h.outT z hz
    · simp at hz
      subst hz
      exact hy, h.opT, h.signT, h.res, h.eye, h.but⟩
theorem Core.signs' {w0 w : World} {yb g2 : Nat} {is : List PIn} {os : List POut} {op : POp} {ss : List PSign} {s : List UInt8 × Int} {y : PSign} (h : Core w0 yb g2 is os op ss s w) (hy : SignIn y) : Core w0 yb g2 is os op (ss ++ [y]) s w :=
  ⟨h.inT, h.outT, h.opT, fun z hz => by
    rcases List.mem_append.1 hz with hz | hz
    · exact h.signT z hz
    · simp at hz
      subst hz
      exact hy, h.res, h.eye, h.but⟩
theorem OwnOf.setOther {α : Type} {K : Sort8 α} {t : TypeId} {w : World} {B g i : Nat} {v u : Value} {xs : List α} (h : OwnOf K t w B v xs) (hg : v.ownBlock ≠ some g) : OwnOf K t (w.setCell ⟨g, i, none⟩ u) B v xs := ⟨ownsRow_setCell_other h.1 (fun e => hg e) _, h.2⟩
theorem ReadSt.addIn {w0 w w' : World} {yb g2 g5 n' c' : Nat} {a' : Option Addr} {x : PTx} {y : PIn} {s : List UInt8 × Int} (h : ReadSt w0 yb g2 g5 x s w) (hgg : g5 ≠ g2) (hB : w0.heap.size ≤ g5) (hy : InT w y)
    (ho : OwnOf inK 58 w' w0.heap.size (.slice a' n' c') (x.ins ++ [y])) (hg : w.grownBy w' (Value.slice x.ia x.inn x.ic).ownBlock) : VarC w' g5 31 x.cells ∧ ReadSt w0 yb g2 g5 { x with ia := a', inn := n', ic := c', ins := x.ins ++ [y] } s (w'.setCell ⟨g5, 0, none⟩ (.slice a' n' c')) := by
  have st : VarC w' g5 31 x.cells ∧ OwnOf outK 61 w' w0.heap.size (.slice x.oa x.on x.oc) x.outs ∧ OwnOf signK 49 w' w0.heap.size (.slice x.sa x.sn x.sc) x.signs ∧ Core w0 yb g2 x.ins x.outs x.op x.signs s w' ∧ InT w' y := by
    rcases h.ins.step hg with hb | ⟨g, cs, _, hBg, hh, hb⟩
    · exact ⟨h.var.below hb, h.outs.below hb, h.signs.below hb, h.core.below hb, hy.below hb⟩
    · have e5 : g5 ≠ g := fun e => by
        have h9 := h.var
        unfold VarC at h9
        rw [e, hh] at h9
        simp at h9
      have e2 : g ≠ g2 := fun e => by
        have h9 := h.core.res
        unfold VarC at h9
        rw [← e, hh] at h9
        simp at h9
      exact ⟨h.var.but hb h.var.lt e5, h.outs.but hb (not_typed hh (by decide)), h.signs.but hb (not_typed hh (by decide)), h.core.typed hb hh (by decide) (by decide) (by decide) (by decide) e2 hBg, hy.typed hb hh (by decide)⟩
  obtain ⟨r5, r1, r2, rc, ry⟩ := st
  have hs : But w'.heap.size g5 w' (w'.setCell ⟨g5, 0, none⟩ (.slice a' n' c')) := (But.refl _ g5 _).setCell _ (.inl rfl) _
  have hv : VarC (w'.setCell ⟨g5, 0, none⟩ (.slice a' n' c')) g5 31 ({ x with ia := a', inn := n', ic := c', ins := x.ins ++ [y] } : PTx).cells := VarC.put1 (pre := []) r5 rfl
  have rc2 := (rc.ins' ry).typed hs r5 (by decide) (by decide) (by decide) (by decide) hgg hB
  exact ⟨r5, ⟨ho.setOther (ho.other r5 (by decide)), r1.setOther (r1.other r5 (by decide)), r2.setOther (r2.other r5 (by decide)), hv, rc2⟩⟩
theorem ReadSt.addOut {w0 w w' : World} {yb g2 g5 n' c' : Nat} {a' : Option Addr} {x : PTx} {y : POut} {s : List UInt8 × Int} (h : ReadSt w0 yb g2 g5 x s w) (hgg : g5 ≠ g2) (hB : w0.heap.size ≤ g5) (hy : OutT w y)
    (ho : OwnOf outK 61 w' w0.heap.size (.slice a' n' c') (x.outs ++ [y])) (hg : w.grownBy w' (Value.slice x.oa x.on x.oc).ownBlock) : VarC w' g5 31 x.cells ∧ ReadSt w0 yb g2 g5 { x with oa := a', on := n', oc := c', outs := x.outs ++ [y] } s (w'.setCell ⟨g5, 1, none⟩ (.slice a' n' c')) := by
  have st : VarC w' g5 31 x.cells ∧ OwnOf inK 58 w' w0.heap.size (.slice x.ia x.inn x.ic) x.ins ∧ OwnOf signK 49 w' w0.heap.size (.slice x.sa x.sn x.sc) x.signs ∧ Core w0 yb g2 x.ins x.outs x.op x.signs s w' ∧ OutT w' y := by
    rcases h.outs.step hg with hb | ⟨g, cs, _, hBg, hh, hb⟩
    · exact ⟨h.var.below hb, h.ins.below hb, h.signs.below hb, h.core.below hb, hy.below hb⟩
    · have e5 : g5 ≠ g := fun e => by
        have h9 := h.var
        unfold VarC at h9
        rw [e, hh] at h9
        simp at h9
      have e2 : g ≠ g2 := fun e => by
        have h9 := h.core.res
        unfold VarC at h9
        rw [← e, hh] at h9
        simp at h9
      exact ⟨h.var.but hb h.var.lt e5, h.ins.but hb (not_typed hh (by decide)), h.signs.but hb (not_typed hh (by decide)), h.core.typed hb hh (by decide) (by decide) (by decide) (by decide) e2 hBg, hy.typed hb hh (by decide) (by decide)⟩
  obtain ⟨r5, r1, r2, rc, ry⟩ := st
  have hs : But w'.heap.size g5 w' (w'.setCell ⟨g5, 1, none⟩ (.slice a' n' c')) := (But.refl _ g5 _).setCell _ (.inl rfl) _
  have hv : VarC (w'.setCell ⟨g5, 1, none⟩ (.slice a' n' c')) g5 31 ({ x with oa := a', on := n', oc := c', outs := x.outs ++ [y] } : PTx).cells := VarC.put1 (pre := [.slice x.ia x.inn x.ic]) r5 rfl
  have rc2 := (rc.outs' ry).typed hs r5 (by decide) (by decide) (by decide) (by decide) hgg hB
  exact ⟨r5, ⟨r1.setOther (r1.other r5 (by decide)), ho.setOther (ho.other r5 (by decide)), r2.setOther (r2.other r5 (by decide)), hv, rc2⟩⟩
theorem ReadSt.addSign {w0 w w' : World} {yb g2 g5 n' c' : Nat} {a' : Option Addr} {x : PTx} {y : PSign} {s : List UInt8 × Int} (h : ReadSt w0 yb g2 g5 x s w) (hgg : g5 ≠ g2) (hB : w0.heap.size ≤ g5) (hy : SignIn y)
    (ho : OwnOf signK 49 w' w0.heap.size (.slice a' n' c') (x.signs ++ [y])) (hg : w.grownBy w' (Value.slice x.sa x.sn x.sc).ownBlock) : VarC w' g5 31 x.cells ∧ ReadSt w0 yb g2 g5 { x with sa := a', sn := n', sc := c', signs := x.signs ++ [y] } s (w'.setCell ⟨g5, 39, none⟩ (.slice a' n' c')) := by
  have st : VarC w' g5 31 x.cells ∧ OwnOf inK 58 w' w0.heap.size (.slice x.ia x.inn x.ic) x.ins ∧ OwnOf outK 61 w' w0.heap.size (.slice x.oa x.on x.oc) x.outs ∧ Core w0 yb g2 x.ins x.outs x.op x.signs s w' ∧ SignIn y := by
    rcases h.signs.step hg with hb | ⟨g, cs, _, hBg, hh, hb⟩
    · exact ⟨h.var.below hb, h.ins.below hb, h.outs.below hb, h.core.below hb, hy⟩
    · have e5 : g5 ≠ g := fun e => by
        have h9 := h.var
        unfold VarC at h9
        rw [e, hh] at h9
        simp at h9
      have e2 : g ≠ g2 := fun e => by
        have h9 := h.core.res
        unfold VarC at h9
        rw [← e, hh] at h9
        simp at h9
      exact ⟨h.var.but hb h.var.lt e5, h.ins.but hb (not_typed hh (by decide)), h.outs.but hb (not_typed hh (by decide)), h.core.typed hb hh (by decide) (by decide) (by decide) (by decide) e2 hBg, hy⟩
  obtain ⟨r5, r1, r2, rc, ry⟩ := st
  have hs : But w'.heap.size g5 w' (w'.setCell ⟨g5, 39, none⟩ (.slice a' n' c')) := (But.refl _ g5 _).setCell _ (.inl rfl) _
  have hv : VarC (w'.setCell ⟨g5, 39, none⟩ (.slice a' n' c')) g5 31 ({ x with sa := a', sn := n', sc := c', signs := x.signs ++ [y] } : PTx).cells := VarC.put1 (pre := .slice x.ia x.inn x.ic :: .slice x.oa x.on x.oc :: x.op.cells) (post := []) r5 (by simp [POp.len h.core.opT.1.root])
  have rc2 := (rc.signs' ry).typed hs r5 (by decide) (by decide) (by decide) (by decide) hgg hB
  exact ⟨r5, ⟨r1.setOther (r1.other r5 (by decide)), r2.setOther (r2.other r5 (by decide)), ho.setOther (ho.other r5 (by decide)), hv, rc2⟩⟩
/-- The op is stored. -/
theorem ReadSt.setOp {w0 w : World} {yb g2 g5 : Nat} {x : PTx} {y : POp} {s : List UInt8 × Int} (h : ReadSt w0 yb g2 g5 x s w) (hgg : g5 ≠ g2) (hB : w0.heap.size ≤ g5) (hy : OpT w y) : ReadSt w0 yb g2 g5 { x with op := y } s (w.setCells g5 2 y.cells) := by
  have hs : But w.heap.size g5 w (w.setCells g5 2 y.cells) := but_setCells y.cells 2 w
  have hv : VarC (w.setCells g5 2 y.cells) g5 31 ({ x with op := y } : PTx).cells := VarC.put (pre := [.slice x.ia x.inn x.ic, .slice x.oa x.on x.oc]) (mid := x.op.cells) (post := [.slice x.sa x.sn x.sc]) h.var (by rw [POp.len hy.1.root, POp.len h.core.opT.1.root]) rfl
  have hc : Core w0 yb g2 x.ins x.outs y x.signs s w := ⟨h.core.inT, h.core.outT, hy, h.core.signT, h.core.res, h.core.eye, h.core.but⟩
  exact ⟨h.ins.but hs (not_typed h.var (by decide)), h.outs.but hs (not_typed h.var (by decide)), h.signs.but hs (not_typed h.var (by decide)), hv, hc.typed hs h.var (by decide) (by decide) (by decide) (by decide) hgg hB⟩
theorem ReadSt.tx {w0 w : World} {yb g2 g5 : Nat} {x : PTx} {s : List UInt8 × Int} (h : ReadSt w0 yb g2 g5 x s w) : TxIn w x :=
  ⟨h.ins.slice (fun y hy => (h.core.inT y hy).1), h.outs.slice (fun y hy => (h.core.outT y hy).1), h.core.opT.1, h.signs.slice h.core.signT⟩
end Go.Proofs.YtodbhopeknlgiaaGreatDoor
