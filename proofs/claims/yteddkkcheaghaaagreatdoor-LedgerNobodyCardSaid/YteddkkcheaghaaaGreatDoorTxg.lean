/- A variable that holds a way: what is stored into its parts; and numbers that are read into it. What getWay comes to: a way is read, whatever the error. A slice of ways of the call's own, that grows by append; and how all stands while an out is read. What lock.Get comes to: an out is read, whatever the error. How all stands while ins, ops, signs and transactions are read. Clone, Sort and BinarySearch at []int, over slices of numbers of the call's own. -/
import Derived.Test.YteddkkcheaghaaaGreatDoorLock
import Derived.Test.YteddkkcheaghaaaGreatDoorMaps
import Derived.Test.YteddkkcheaghaaaGreatDoorMemory
import Derived.Test.YteddkkcheaghaaaGreatDoorTx
import Derived.Test.YteddkkcheaghaaaGreatDoorShelf
import Derived.Test.YteddkkcheaghaaaGreatDoorViewr
import Derived.Sort.OwnSortedInts
namespace Go.Proofs.YteddkkcheaghaaaGreatDoor
open Go.RowKit

def setL : List Value → Nat → List Value → List Value
  | cs, _, [] => cs
  | cs, o, v :: vs => setL (cs.set o v) (o + 1) vs
theorem setL_mid : ∀ (vs mid pre post : List Value), vs.length = mid.length → setL (pre ++ (mid ++ post)) pre.length vs = pre ++ (vs ++ post)
  | [], [], _, _, _ => rfl
  | [], _ :: _, _, _, h => by simp at h
  | _ :: _, [], _, _, h => by simp at h
  | v :: vs, m :: mid, pre, post, h => by
    have e : (pre ++ (m :: mid ++ post)).set pre.length v = (pre ++ [v]) ++ (mid ++ post) := by simp
    show setL ((pre ++ (m :: mid ++ post)).set pre.length v) (pre.length + 1) vs = _
    rw [e, show pre.length + 1 = (pre ++ [v]).length by simp, setL_mid vs mid (pre ++ [v]) post (by simpa using h)]
    simp
theorem heap_setCells {b : Nat} {t : TypeId} : ∀ (vs : List Value) (o : Nat) (w : World) (cs : List Value), w.heap[b]? = some (.cells cs.toArray t (0, 0)) → (w.setCells b o vs).heap[b]? = some (.cells (setL cs o vs).toArray t (0, 0))
  | [], _, _, _, h => h
  | v :: vs, o, w, cs, h => by
    have h1 := heap_setCell_same w b o cs.toArray t v h
    rw [List.setIfInBounds_toArray] at h1
    exact heap_setCells vs (o + 1) (w.setCell ⟨b, o, none⟩ v) (cs.set o v) h1
/-- A block that holds a way. -/
def VarW (w : World) (g : Nat) (x : PWay) : Prop := w.heap[g]? = some (.cells x.cells.toArray 170 (0, 0))
theorem VarW.lt {w : World} {g : Nat} {x : PWay} (h : VarW w g x) : g < w.heap.size := lt_of_block h
theorem VarW.cell {w : World} {g : Nat} {x : PWay} (h : VarW w g x) (i : Nat) : w.cell? ⟨g, i, none⟩ = x.cells[i]? := by
  rw [cell_of_row _ _ _ _ _ _ h]
  simp
theorem VarW.but {w w' : World} {g B p : Nat} {x : PWay} (h : VarW w g x) (hb : But B p w w') (hB : g < B) (hne : g ≠ p) : VarW w' g x := hb.heap h hB hne
theorem VarW.below {w w' : World} {g : Nat} {x : PWay} (h : VarW w g x) (hb : Below w.heap.size w w') : VarW w' g x := (hb.block g h.lt).trans h
theorem VarW.keys {w : World} {g n c : Nat} {a : Option Addr} {x : PWay} (h : VarW w g x) : VarW (w.setCell ⟨g, 0, none⟩ (.slice a n c)) g { x with a := a, n := n, c := c } := by
  have h1 := heap_setCells [.slice a n c] 0 w _ h
  have e : setL x.cells 0 [.slice a n c] = ({ x with a := a, n := n, c := c } : PWay).cells := setL_mid [.slice a n c] [.slice x.a x.n x.c] [] (cellsOf x.h ++ [.int .i64 x.after, .int .i64 x.wait]) rfl
  rw [e] at h1
  exact h1
theorem VarW.sum {w : World} {g : Nat} {x : PWay} {s : List UInt8} (h : VarW w g x) (hs : x.h.length = 32) (hs' : s.length = 32) : VarW (w.setCells g 1 (cellsOf s)) g { x with h := s } := by
  have h1 := heap_setCells (cellsOf s) 1 w _ h
  have e : setL x.cells 1 (cellsOf s) = ({ x with h := s } : PWay).cells := setL_mid (cellsOf s) (cellsOf x.h) [.slice x.a x.n x.c] [.int .i64 x.after, .int .i64 x.wait] (by rw [cellsOf_len, cellsOf_len, hs, hs'])
  rw [e] at h1
  exact h1
/-- An eye stays where another block, of no bytes, is written. -/
theorem EyeAt.grown {w w' : World} {yb : Nat} {l : List UInt8} {e : Int} {v : Value} {ks : List Int} {B : Nat} (h : EyeAt w yb l e) (ho : OwnZ w 3 B v ks) (hB : yb < B) (hg : w.grownBy w' v.ownBlock) : EyeAt w' yb l e := by
  rcases ho.1.2 with ⟨rfl, _⟩ | ⟨g, cap, cur, rfl, hb, hh, _⟩
  · exact h.below ⟨hg.os, hg.tape, hg.output, hg.size, fun k hk => hg.block k hk (fun e => by cases e)⟩
  · refine h.typed (p := g) ⟨hg.os, hg.tape, hg.output, hg.size, fun k hk hne => hg.block k hk (fun e => hne (by cases e; rfl))⟩ hh (by decide) (by omega)
theorem OwnZ.but {w w' : World} {e : TypeId} {B p : Nat} {v : Value} {l : List Int} (h : OwnZ w e B v l) (hb : But w.heap.size p w w') (hp : p < B) : OwnZ w' e B v l := by
  refine ⟨⟨h.1.1, ?_⟩, h.2⟩
  rcases h.1.2 with h0 | ⟨g, cap, cur, hv, hB, hh, r⟩
  · exact .inl h0
  · exact .inr ⟨g, cap, cur, hv, hB, hb.heap hh (lt_of_block hh) (by omega), r⟩
/-- How all stands while a way is read: g3 is the variable, g2 the result. -/
structure KeysSt (w0 : World) (yb g2 g3 : Nat) (x : PWay) (s : List UInt8 × Int) (w : World) : Prop where
  own : OwnZ w 3 w0.heap.size (.slice x.a x.n x.c) x.ks
  res : VarW w g2 noWay
  var : VarW w g3 x
  eye : EyeAt w yb s.1 s.2
  but : But w0.heap.size yb w0 w
/-- The variable is stored into. -/
theorem KeysSt.set {w0 w w' : World} {yb g2 g3 : Nat} {x x' : PWay} {s : List UInt8 × Int} (h : KeysSt w0 yb g2 g3 x s w) (hy : yb < w0.heap.size) (h3 : w0.heap.size ≤ g3) (hne : g2 ≠ g3) (hs : But w.heap.size g3 w w') (hv : VarW w' g3 x') (e1 : x'.a = x.a) (e2 : x'.n = x.n) (e3 : x'.c = x.c) (e4 : x'.ks = x.ks) : KeysSt w0 yb g2 g3 x' s w' := by
  refine ⟨?_, h.res.but hs h.res.lt hne, hv, h.eye.typed hs h.var (by decide) (by omega), h.but.trans ⟨hs.os, hs.tape, hs.output, hs.size, fun k hk hkp => hs.block k (Nat.lt_of_lt_of_le hk h.but.size) (by omega)⟩⟩
  rw [e1, e2, e3, e4]
  refine ⟨⟨h.own.1.1, ?_⟩, h.own.2⟩
  rcases h.own.1.2 with h0 | ⟨g, cap, cur, hv', hB, hh, r⟩
  · exact .inl h0
  · have hg : g ≠ g3 := fun e => by
      have h9 := h.var
      unfold VarW at h9
      rw [← e, hh] at h9
      simp at h9
    exact .inr ⟨g, cap, cur, hv', hB, hs.heap hh (lt_of_block hh) hg, r⟩
end Go.Proofs.YteddkkcheaghaaaGreatDoor
namespace Go.Proofs.YteddkkcheaghaaaGreatDoor
open Go.RowKit

/-- New: no older block holds it. -/
def NewB (B : Nat) (a : Option Addr) : Prop := ∀ ad, a = some ad → B ≤ ad.block
/-- Where a way's keys lie: in a block of numbers. -/
def KeyTag (w : World) (x : PWay) : Prop := 0 < x.n → ∃ b off cs fr, x.a = some ⟨b, off, none⟩ ∧ w.heap[b]? = some (.cells cs 3 fr)
theorem OwnZ.tag {w : World} {B n c : Nat} {a : Option Addr} {l : List Int} (h : OwnZ w 3 B (.slice a n c) l) : (0 < n → ∃ b off cs fr, a = some ⟨b, off, none⟩ ∧ w.heap[b]? = some (.cells cs 3 fr)) ∧ ∀ ad, a = some ad → B ≤ ad.block := by
  rcases h.1.2 with ⟨hv, h1⟩ | ⟨g, cap, cur, hv, hB, hh, r⟩
  · cases hv
    exact ⟨fun h0 => absurd h0 (by omega), fun ad e => by cases e⟩
  · cases hv
    exact ⟨fun _ => ⟨g, 0, _, _, rfl, hh⟩, fun ad e => by cases e; exact hB⟩
theorem KeysSt.way {w0 w w' : World} {yb g2 g3 : Nat} {x : PWay} {s : List UInt8 × Int} (h : KeysSt w0 yb g2 g3 x s w) (hy : yb < w0.heap.size) (h2 : w0.heap.size ≤ g2) (hs : But w.heap.size g2 w w') (hl : x.h.length = 32) (ha : Fits x.after) (hw : Fits x.wait) :
    WayIn w' x ∧ KeyTag w' x ∧ NewB w0.heap.size x.a ∧ EyeAt w' yb s.1 s.2 ∧ But w0.heap.size yb w0 w' := by
  have ho : OwnZ w' 3 w0.heap.size (.slice x.a x.n x.c) x.ks := by
    refine ⟨⟨h.own.1.1, ?_⟩, h.own.2⟩
    rcases h.own.1.2 with h0 | ⟨g, cap, cur, hv', hB, hh, r⟩
    · exact .inl h0
    · have hg : g ≠ g2 := fun e => by
        have h9 := h.res
        unfold VarW at h9
        rw [← e, hh] at h9
        simp at h9
      exact .inr ⟨g, cap, cur, hv', hB, hs.heap hh (lt_of_block hh) hg, r⟩
  refine ⟨⟨ho.numbers, hl, ha, hw⟩, fun h0 => ?_, fun ad e => ?_, h.eye.typed hs h.res (by decide) (by omega), h.but.trans ⟨hs.os, hs.tape, hs.output, hs.size, fun k hk hkp => hs.block k (Nat.lt_of_lt_of_le hk h.but.size) (by omega)⟩⟩
  · exact ho.tag.1 h0
  · exact ho.tag.2 ad e
end Go.Proofs.YteddkkcheaghaaaGreatDoor
namespace Go.Proofs.YteddkkcheaghaaaGreatDoor
open Go.RowKit

def cellsW (xs : List PWay) : List Value := xs.flatMap PWay.cells
theorem cellsW_get : ∀ {xs : List PWay}, (∀ x ∈ xs, x.h.length = 32) → ∀ {j i : Nat}, j < xs.length → i < 35 → (cellsW xs)[j * 35 + i]? = (xs.getD j noWay).cells[i]?
  | [], _, _, _, hj, _ => by simp at hj
  | x :: xs, h, 0, i, _, hi => by
    have hs := PWay.cells_len (h x (by simp))
    show (x.cells ++ cellsW xs)[0 * 35 + i]? = x.cells[i]?
    rw [Nat.zero_mul, Nat.zero_add, List.getElem?_append_left (by rw [hs]; exact hi)]
  | x :: xs, h, j + 1, i, hj, hi => by
    have ih := cellsW_get (xs := xs) (fun y hy => h y (by simp [hy])) (j := j) (i := i) (by simpa using hj) hi
    have hs := PWay.cells_len (h x (by simp))
    show (x.cells ++ cellsW xs)[(j + 1) * 35 + i]? = (xs.getD j noWay).cells[i]?
    rw [List.getElem?_append_right (by rw [hs]; omega), hs, ← ih]
    congr 1
    omega
/-- A slice of ways of the call's own. -/
def OwnW (w : World) (B : Nat) (v : Value) (xs : List PWay) : Prop := w.ownsRow B 170 35 v xs.length (cellsW xs) ∧ ∀ x ∈ xs, x.h.length = 32
theorem OwnW.shape {w : World} {B : Nat} {v : Value} {xs : List PWay} (h : OwnW w B v xs) : ∃ a c, v = .slice a xs.length c ∧ (∀ x, a = some x → B ≤ x.block) := by
  rcases h.1.2 with ⟨rfl, h0⟩ | ⟨g, cap, cur, rfl, hB, _⟩
  · exact ⟨none, 0, by rw [h0], fun x e => by cases e⟩
  · exact ⟨_, _, rfl, fun x e => by cases e; exact hB⟩
theorem OwnW.ways {w : World} {B : Nat} {a : Option Addr} {n c : Nat} {xs : List PWay} (h : OwnW w B (.slice a n c) xs) (hx : ∀ x ∈ xs, WayIn w x) : Ways w a n c xs := by
  rcases h.1.2 with ⟨hv, h0⟩ | ⟨g, cap, cur, hv, hB, hh, h1, h2, h3, h4⟩
  · cases hv
    obtain rfl : xs = [] := List.eq_nil_of_length_eq_zero h0
    exact Ways.nil w
  · cases hv
    refine ⟨rfl, h1, h2, (fun e => by cases e), hx, fun _ => ⟨g, 0, rfl, lt_of_block hh, fun j hj i v hv => ?_⟩⟩
    have hi : i < 35 := by
      have h5 := (List.getElem?_eq_some_iff.1 hv).1
      have h6 : (xs.getD j noWay).h.length = 32 := by
        rw [List.getD_eq_getElem?_getD, List.getElem?_eq_getElem hj]
        exact h.2 _ (List.getElem_mem hj)
      rw [PWay.cells_len h6] at h5
      exact h5
    rw [Nat.zero_add, cell_of_row w g _ _ _ _ hh, ← hv, ← cellsW_get h.2 hj hi, ← h4, List.getElem?_take, if_pos (by omega)]
    simp
theorem OwnW.lt {w : World} {B : Nat} {v : Value} {xs : List PWay} (h : OwnW w B v xs) : ∀ k, v.ownBlock = some k → B ≤ k ∧ k < w.heap.size := fun k e => World.ownsRow.lt h.1 k e
theorem OwnW.nil (w : World) (B : Nat) : OwnW w B (.slice none 0 0) [] := ⟨World.ownsRow_nil w B _ _, fun _ h => by cases h⟩
theorem OwnW.but {w w' : World} {B p : Nat} {v : Value} {xs : List PWay} (h : OwnW w B v xs) (hb : But w.heap.size p w w') (hp : ∀ cs fr, w.heap[p]? ≠ some (.cells cs 170 fr)) : OwnW w' B v xs := by
  refine ⟨⟨h.1.1, ?_⟩, h.2⟩
  rcases h.1.2 with h0 | ⟨g, cap, cur, hv, hB, hh, r⟩
  · exact .inl h0
  · have hg : g ≠ p := fun e => by subst e; exact hp _ _ hh
    exact .inr ⟨g, cap, cur, hv, hB, hb.heap hh (lt_of_block hh) hg, r⟩
theorem OwnW.below {w w' : World} {B : Nat} {v : Value} {xs : List PWay} (h : OwnW w B v xs) (hb : Below w.heap.size w w') : OwnW w' B v xs :=
  ⟨World.ownsRow.kept h.1 (row := none) ⟨hb.os, hb.tape, hb.output, hb.size, fun k hk _ => hb.block k hk⟩ (by cases h' : v.ownBlock <;> simp), h.2⟩
/-- Ways that stay where other blocks are written: their keys lie in blocks of numbers. -/
theorem way_but {w w' : World} {p : Nat} {x : PWay} (h : WayIn w x) (ht : KeyTag w x) (hb : But w.heap.size p w w') (hp : ∀ cs fr, w.heap[p]? ≠ some (.cells cs 3 fr)) : WayIn w' x ∧ KeyTag w' x := by
  have key : 0 < x.n → ∃ b off cs fr, x.a = some ⟨b, off, none⟩ ∧ w.heap[b]? = some (.cells cs 3 fr) ∧ b < w.heap.size ∧ b ≠ p := fun h0 => by
    obtain ⟨b, off, cs, fr, e, hh⟩ := ht h0
    exact ⟨b, off, cs, fr, e, hh, lt_of_block hh, fun e => by subst e; exact hp _ _ hh⟩
  refine ⟨⟨h.keys.butO (B := w.heap.size) (pb := p) (fun h0 ad e => ?_) hb, h.sum, h.after, h.wait⟩, fun h0 => ?_⟩
  · obtain ⟨b, off, cs, fr, e2, hh, hlt, hne⟩ := key h0
    rw [e] at e2
    cases e2
    exact ⟨hlt, hne⟩
  · obtain ⟨b, off, cs, fr, e2, hh, hlt, hne⟩ := key h0
    exact ⟨b, off, cs, fr, e2, hb.heap hh hlt hne⟩
/-- How all stands while an out is read: g3 is the variable, g2 the result. -/
structure OutSt (w0 : World) (yb g2 g3 : Nat) (m : Int) (a : Option Addr) (n c : Nat) (xs : List PWay) (s : List UInt8 × Int) (w : World) : Prop where
  own : OwnW w w0.heap.size (.slice a n c) xs
  keys : ∀ x ∈ xs, (WayIn w x ∧ KeyTag w x) ∧ NewB w0.heap.size x.a
  res : w.heap[g2]? = some (.cells #[.int .i64 0, .slice none 0 0] 107 (0, 0))
  var : w.heap[g3]? = some (.cells #[.int .i64 m, .slice a n c] 107 (0, 0))
  eye : EyeAt w yb s.1 s.2
  but : But w0.heap.size yb w0 w
theorem EyeAt.block {w : World} {yb : Nat} {l : List UInt8} {e : Int} (h : EyeAt w yb l e) : ∃ cs, w.heap[yb]? = some (.cells cs 226 (0, 0)) := by
  obtain ⟨a, n, c, h1, _⟩ := h
  exact ⟨_, h1⟩
end Go.Proofs.YteddkkcheaghaaaGreatDoor
namespace Go.Proofs.YteddkkcheaghaaaGreatDoor
open Go.RowKit

/-- Where ways lie: in a block of ways. -/
def WayTag (w : World) (a : Option Addr) (n : Nat) : Prop := 0 < n → ∃ b off cs fr, a = some ⟨b, off, none⟩ ∧ w.heap[b]? = some (.cells cs 170 fr)
theorem OwnW.tag {w : World} {B n c : Nat} {a : Option Addr} {xs : List PWay} (h : OwnW w B (.slice a n c) xs) : WayTag w a n := by
  rcases h.1.2 with ⟨hv, h1⟩ | ⟨g, cap, cur, hv, hB, hh, r⟩
  · cases hv
    exact fun h0 => absurd h0 (by omega)
  · cases hv
    exact fun _ => ⟨g, 0, _, _, rfl, hh⟩
theorem OutSt.out {w0 w w' : World} {yb g2 g3 n c : Nat} {m : Int} {a : Option Addr} {xs : List PWay} {s : List UInt8 × Int} (h : OutSt w0 yb g2 g3 m a n c xs s w) (hy : yb < w0.heap.size) (h2 : w0.heap.size ≤ g2) (hs : But w.heap.size g2 w w') :
    Ways w' a n c xs ∧ (∀ x ∈ xs, KeyTag w' x ∧ NewB w0.heap.size x.a) ∧ NewB w0.heap.size a ∧ EyeAt w' yb s.1 s.2 ∧ But w0.heap.size yb w0 w' ∧ WayTag w' a n := by
  have hw : ∀ x ∈ xs, WayIn w' x ∧ KeyTag w' x := fun x hx => way_but (h.keys x hx).1.1 (h.keys x hx).1.2 hs (fun _ _ e => by rw [h.res] at e; simp at e)
  have ho : OwnW w' w0.heap.size (.slice a n c) xs := h.own.but hs (fun _ _ e => by rw [h.res] at e; simp at e)
  refine ⟨ho.ways (fun x hx => (hw x hx).1), fun x hx => ⟨(hw x hx).2, (h.keys x hx).2⟩, fun ad e => ?_, h.eye.typed hs h.res (by decide) (by omega), h.but.trans ⟨hs.os, hs.tape, hs.output, hs.size, fun k hk hkp => hs.block k (Nat.lt_of_lt_of_le hk h.but.size) (by omega)⟩, ho.tag⟩
  obtain ⟨_, _, e2, h9⟩ := ho.shape
  cases e2
  exact h9 _ e
end Go.Proofs.YteddkkcheaghaaaGreatDoor
namespace Go.Proofs.YteddkkcheaghaaaGreatDoor
open Go.RowKit

/-! ### What stays where a block of another type is written -/
theorem row_typed {w w' : World} {p n c : Nat} {a : Option Addr} {l : List UInt8} {cs : Array Value} {t : TypeId} {fr : Nat × Nat} (h : Row w a n c l) (ht : Tag w a n) (hb : But w.heap.size p w w') (hp : w.heap[p]? = some (.cells cs t fr)) (hne : t ≠ 5) : Row w' a n c l ∧ Tag w' a n := by
  have key : 0 < n → ∃ b off cs fr, a = some ⟨b, off, none⟩ ∧ w.heap[b]? = some (.cells cs 5 fr) ∧ b ≠ p := fun h0 => by
    obtain ⟨b, off, cs', fr', e, hh⟩ := ht h0
    exact ⟨b, off, cs', fr', e, hh, fun e => by subst e; rw [hh] at hp; simp at hp; exact hne hp.2.1.symm⟩
  refine ⟨h.but hb (fun h0 b off e => ?_), fun h0 => ?_⟩
  · obtain ⟨b', off', _, _, e2, _, hne2⟩ := key h0
    rw [e] at e2
    cases e2
    exact hne2
  · obtain ⟨b, off, cs', fr', e, hh, hne2⟩ := key h0
    exact ⟨b, off, cs', fr', e, hb.heap hh (lt_of_block hh) hne2⟩
theorem ways_typed {w w' : World} {p n c : Nat} {a : Option Addr} {xs : List PWay} {cs : Array Value} {t : TypeId} {fr : Nat × Nat} (h : Ways w a n c xs) (hk : ∀ x ∈ xs, KeyTag w x) (ht : WayTag w a n) (hb : But w.heap.size p w w') (hp : w.heap[p]? = some (.cells cs t fr)) (h1 : t ≠ 3) (h2 : t ≠ 170) : Ways w' a n c xs ∧ (∀ x ∈ xs, KeyTag w' x) ∧ WayTag w' a n := by
  have hi : ∀ cs fr, w.heap[p]? ≠ some (.cells cs 3 fr) := fun _ _ e => by rw [hp] at e; simp at e; exact h1 e.2.1
  have hw : ∀ x ∈ xs, WayIn w' x ∧ KeyTag w' x := fun x hx => way_but (h.2.2.2.2.1 x hx) (hk x hx) hb hi
  have key : 0 < n → ∃ b off cs fr, a = some ⟨b, off, none⟩ ∧ w.heap[b]? = some (.cells cs 170 fr) ∧ b ≠ p := fun h0 => by
    obtain ⟨b, off, cs', fr', e, hh⟩ := ht h0
    exact ⟨b, off, cs', fr', e, hh, fun e => by subst e; rw [hh] at hp; simp at hp; exact h2 hp.2.1.symm⟩
  obtain ⟨g1, g2, g3, g4, _, g5⟩ := h
  refine ⟨⟨g1, g2, g3, g4, fun x hx => (hw x hx).1, fun h0 => ?_⟩, fun x hx => (hw x hx).2, fun h0 => ?_⟩
  · obtain ⟨b, off, e, hlt, hc⟩ := g5 h0
    obtain ⟨b', off', _, _, e2, _, hne2⟩ := key h0
    rw [e] at e2
    cases e2
    exact ⟨b, off, e, Nat.lt_of_lt_of_le hlt hb.size, fun j hj => rangeAt_but (hc j hj) hlt hne2 hb⟩
  · obtain ⟨b, off, cs', fr', e, hh, hne2⟩ := key h0
    exact ⟨b, off, cs', fr', e, hb.heap hh (lt_of_block hh) hne2⟩
/-- An in, an out, an op, with where their slices lie. -/
def InT (w : World) (y : PIn) : Prop := InIn w y ∧ Tag w y.a y.n
def OutT (w : World) (y : POut) : Prop := OutIn w y ∧ (∀ x ∈ y.ws, KeyTag w x) ∧ WayTag w y.a y.n
def OpT (w : World) (x : POp) : Prop := OpIn w x ∧ Tag w x.a x.n
theorem InT.below {w w' : World} {y : PIn} (h : InT w y) (hb : Below w.heap.size w w') : InT w' y := ⟨⟨h.1.tx, h.1.place, h.1.way, h.1.pre.below hb⟩, h.2.below hb⟩
theorem OpT.below {w w' : World} {y : POp} (h : OpT w y) (hb : Below w.heap.size w w') : OpT w' y := ⟨h.1.below hb, h.2.below hb⟩
theorem OutT.below {w w' : World} {y : POut} (h : OutT w y) (hb : Below w.heap.size w w') : OutT w' y :=
  ⟨⟨h.1.m, h.1.ws.below hb⟩, fun x hx h0 => by
    obtain ⟨b, off, cs, fr, e, hh⟩ := h.2.1 x hx h0
    exact ⟨b, off, cs, fr, e, (hb.block _ (lt_of_block hh)).trans hh⟩, fun h0 => by
    obtain ⟨b, off, cs, fr, e, hh⟩ := h.2.2 h0
    exact ⟨b, off, cs, fr, e, (hb.block _ (lt_of_block hh)).trans hh⟩⟩
theorem InT.typed {w w' : World} {p : Nat} {y : PIn} {cs : Array Value} {t : TypeId} {fr : Nat × Nat} (h : InT w y) (hb : But w.heap.size p w w') (hp : w.heap[p]? = some (.cells cs t fr)) (hne : t ≠ 5) : InT w' y :=
  have h9 := row_typed h.1.pre h.2 hb hp hne
  ⟨⟨h.1.tx, h.1.place, h.1.way, h9.1⟩, h9.2⟩
theorem OpT.typed {w w' : World} {p : Nat} {y : POp} {cs : Array Value} {t : TypeId} {fr : Nat × Nat} (h : OpT w y) (hb : But w.heap.size p w w') (hp : w.heap[p]? = some (.cells cs t fr)) (hne : t ≠ 5) : OpT w' y :=
  have h9 := row_typed h.1.data h.2 hb hp hne
  ⟨⟨h.1.kind, h.1.tower, h.1.channel, h.1.amount, h.1.root, h9.1⟩, h9.2⟩
theorem OutT.typed {w w' : World} {p : Nat} {y : POut} {cs : Array Value} {t : TypeId} {fr : Nat × Nat} (h : OutT w y) (hb : But w.heap.size p w w') (hp : w.heap[p]? = some (.cells cs t fr)) (h1 : t ≠ 3) (h2 : t ≠ 170) : OutT w' y :=
  have h9 := ways_typed h.1.ws h.2.1 h.2.2 hb hp h1 h2
  ⟨⟨h.1.m, h9.1⟩, h9.2⟩

/-! ### A variable that holds a struct -/
def VarC (w : World) (g : Nat) (t : TypeId) (cs : List Value) : Prop := w.heap[g]? = some (.cells cs.toArray t (0, 0))
theorem VarC.lt {w : World} {g : Nat} {t : TypeId} {cs : List Value} (h : VarC w g t cs) : g < w.heap.size := lt_of_block h
theorem VarC.free {w : World} {g : Nat} {t : TypeId} {cs : List Value} (h : VarC w g t cs) (i : Nat) : w.frozen? ⟨g, i, none⟩ = false := by
  unfold VarC at h
  simp [World.frozen?, h]
theorem VarC.cell {w : World} {g : Nat} {t : TypeId} {cs : List Value} (h : VarC w g t cs) (i : Nat) : w.cell? ⟨g, i, none⟩ = cs[i]? := by
  rw [cell_of_row _ _ _ _ _ _ h]
  simp
theorem VarC.range {w : World} {g : Nat} {t : TypeId} {cs : List Value} (h : VarC w g t cs) : w.rangeAt g 0 cs := range_of h
theorem VarC.but {w w' : World} {g B p : Nat} {t : TypeId} {cs : List Value} (h : VarC w g t cs) (hb : But B p w w') (hB : g < B) (hne : g ≠ p) : VarC w' g t cs := hb.heap h hB hne
theorem VarC.below {w w' : World} {g : Nat} {t : TypeId} {cs : List Value} (h : VarC w g t cs) (hb : Below w.heap.size w w') : VarC w' g t cs := (hb.block g h.lt).trans h
theorem VarC.put {w : World} {g o : Nat} {t : TypeId} {pre mid post vs : List Value} (h : VarC w g t (pre ++ (mid ++ post))) (hl : vs.length = mid.length) (ho : pre.length = o) : VarC (w.setCells g o vs) g t (pre ++ (vs ++ post)) := by
  have h1 := heap_setCells vs o w _ h
  rw [← ho, setL_mid vs mid pre post hl] at h1
  rw [← ho]
  exact h1
theorem VarC.put1 {w : World} {g o : Nat} {t : TypeId} {pre post : List Value} {u v : Value} (h : VarC w g t (pre ++ (u :: post))) (ho : pre.length = o) : VarC (w.setCell ⟨g, o, none⟩ v) g t (pre ++ (v :: post)) := VarC.put (mid := [u]) (vs := [v]) h rfl ho
/-- How all stands while a part is read: g3 is the variable, g2 the result. -/
structure PartSt (w0 : World) (yb g2 g3 : Nat) (t : TypeId) (z cs : List Value) (s : List UInt8 × Int) (w : World) : Prop where
  res : VarC w g2 t z
  var : VarC w g3 t cs
  eye : EyeAt w yb s.1 s.2
  but : But w0.heap.size yb w0 w
theorem PartSt.set {w0 w w' : World} {yb g2 g3 : Nat} {t : TypeId} {z cs cs' : List Value} {s : List UInt8 × Int} (h : PartSt w0 yb g2 g3 t z cs s w) (ht : t ≠ 5) (hy : yb < w0.heap.size) (h3 : w0.heap.size ≤ g3) (hne : g2 ≠ g3) (hs : But w.heap.size g3 w w') (hv : VarC w' g3 t cs') : PartSt w0 yb g2 g3 t z cs' s w' :=
  ⟨h.res.but hs h.res.lt hne, hv, h.eye.typed hs h.var ht (by omega), h.but.trans ⟨hs.os, hs.tape, hs.output, hs.size, fun k hk hkp => hs.block k (Nat.lt_of_lt_of_le hk h.but.size) (by omega)⟩⟩
/-! ### While a transaction is read -/
/-- All but the slices of ins, outs, signs and the variable. -/
structure Core (w0 : World) (yb g2 : Nat) (is : List PIn) (os : List POut) (op : POp) (ss : List PSign) (s : List UInt8 × Int) (w : World) : Prop where
  inT : ∀ y ∈ is, InT w y
  outT : ∀ y ∈ os, OutT w y
  opT : OpT w op
  signT : ∀ y ∈ ss, SignIn y
  res : VarC w g2 50 noTx.cells
  eye : EyeAt w yb s.1 s.2
  but : Below w0.heap.size w0 w
theorem Core.below {w0 w w' : World} {yb g2 : Nat} {is : List PIn} {os : List POut} {op : POp} {ss : List PSign} {s : List UInt8 × Int} (h : Core w0 yb g2 is os op ss s w) (hb : Below w.heap.size w w') : Core w0 yb g2 is os op ss s w' :=
  ⟨fun y hy => (h.inT y hy).below hb, fun y hy => (h.outT y hy).below hb, h.opT.below hb, h.signT, h.res.below hb, h.eye.below hb, h.but.trans (hb.mono h.but.size)⟩
theorem Core.typed {w0 w w' : World} {yb g2 p : Nat} {is : List PIn} {os : List POut} {op : POp} {ss : List PSign} {s : List UInt8 × Int} {cs : Array Value} {t : TypeId} {fr : Nat × Nat} (h : Core w0 yb g2 is os op ss s w) (hb : But w.heap.size p w w') (hp : w.heap[p]? = some (.cells cs t fr)) (h1 : t ≠ 5) (h2 : t ≠ 3) (h3 : t ≠ 170) (h4 : t ≠ 226) (hg : p ≠ g2) (hB : w0.heap.size ≤ p) : Core w0 yb g2 is os op ss s w' := by
  obtain ⟨ce, hce⟩ := h.eye.block
  have hyp : yb ≠ p := fun e => by rw [e, hp] at hce; simp at hce; exact h4 hce.2.1
  exact ⟨fun y hy => (h.inT y hy).typed hb hp h1, fun y hy => (h.outT y hy).typed hb hp h2 h3, h.opT.typed hb hp h1, h.signT, h.res.but hb h.res.lt (Ne.symm hg), h.eye.typed hb hp h1 hyp, h.but.trans ((hb.mono h.but.size).below hB)⟩
/-- How all stands while a transaction is read: g5 is the variable, g2 the result. -/
structure ReadSt (w0 : World) (yb g2 g5 : Nat) (x : PTx) (s : List UInt8 × Int) (w : World) : Prop where
  ins : OwnOf inK 93 w w0.heap.size (.slice x.ia x.inn x.ic) x.ins
  outs : OwnOf outK 107 w w0.heap.size (.slice x.oa x.on x.oc) x.outs
  signs : OwnOf signK 162 w w0.heap.size (.slice x.sa x.sn x.sc) x.signs
  var : VarC w g5 50 x.cells
  core : Core w0 yb g2 x.ins x.outs x.op x.signs s w
theorem not_typed {w : World} {p : Nat} {cs : Array Value} {t u : TypeId} {fr : Nat × Nat} (hp : w.heap[p]? = some (.cells cs t fr)) (h : t ≠ u) : ∀ cs' fr', w.heap[p]? ≠ some (.cells cs' u fr') := fun _ _ e => by
  rw [hp] at e
  simp at e
  exact h e.2.1
theorem ReadSt.tx {w0 w : World} {yb g2 g5 : Nat} {x : PTx} {s : List UInt8 × Int} (h : ReadSt w0 yb g2 g5 x s w) : TxIn w x :=
  ⟨h.ins.slice (fun y hy => (h.core.inT y hy).1), h.outs.slice (fun y hy => (h.core.outT y hy).1), h.core.opT.1, h.signs.slice h.core.signT⟩
end Go.Proofs.YteddkkcheaghaaaGreatDoor
namespace Go.Proofs.YteddkkcheaghaaaGreatDoor
open Go.RowKit

/-- In order. -/
def sortedZ (zs : List Int) : List Int := zs.mergeSort fun x y => decide (x ≤ y)
theorem sortedZ_len (zs : List Int) : (sortedZ zs).length = zs.length := List.length_mergeSort zs
theorem sortedZ_mem (zs : List Int) (x : Int) : x ∈ sortedZ zs ↔ x ∈ zs := List.mem_mergeSort
theorem sortedZ_up (zs : List Int) : (sortedZ zs).Pairwise (· ≤ ·) := by
  have h := List.pairwise_mergeSort (le := fun (x y : Int) => decide (x ≤ y)) (fun a b c h1 h2 => by simp at *; omega) (fun a b => by simp; omega) zs
  exact h.imp (fun h => by simpa using h)
theorem sort_any {w : World} {B : Nat} {v : Value} {zs : List Int} (h : OwnZ w 3 B v zs) (hB : B ≤ w.heap.size) (hn : zs.length ≤ 100000) :
    Calls Tryz.prog 79 #[v] w fun e w' => e = .returned (.tuple #[]) ∧ OwnZ w' 3 B v (sortedZ zs) ∧ w.grownBy w' v.ownBlock ∧ Below B w w' := by
  rcases h.1.2 with ⟨rfl, h0⟩ | ⟨g, cap, cur, rfl, hg, hb, h1, h2, h3, h4⟩
  · obtain rfl : zs = [] := List.eq_nil_of_length_eq_zero h0
    exact (Tryz.slices_Sort_int_none none 0 w).mono fun e w' ⟨he, hw⟩ => ⟨he, by rw [hw, show sortedZ [] = [] by simp [sortedZ]]; exact OwnZ.nil _ _ _, by rw [hw]; exact World.grownBy.refl _ _, by rw [hw]; exact Below.refl _ _⟩
  · refine (Tryz.slices_Sort_int g 0 cap zs w (holds_of_blockI hb (by rw [Nat.mul_one] at h4; exact h4)) (lt_of_block hb) (by omega)).mono ?_
    rintro e w' ⟨he, n, os, rfl⟩
    have hl := sortedZ_len zs
    have ho := ownsRow_sortedI (n := n) (os := os) (ts := sortedZ zs) hl hg hb h1 h2 h3
    have hgr := grownBy_sortedI (w := w) (g := g) (n := n) (os := os) (sortedZ zs).toArray
    refine ⟨he, ⟨?_, fun z hz => h.2 z ((sortedZ_mem zs z).1 hz)⟩, hgr, ?_⟩
    · rw [hl]
      exact ho
    · exact (Below.refl B w).grown hgr hB (fun j hj => by cases hj; exact hg)
theorem search_any {w : World} {a : Option Addr} {n c : Nat} {zs : List Int} (x : Int) (h : Numbers w a n c zs) (hs : zs.Pairwise (· ≤ ·)) (hn : n ≤ 100000) :
    Calls Tryz.prog 83 #[.slice a n c, .int .i64 x] w fun e w' => ∃ z : Int, e = .returned (.tuple #[.int .i64 z, .bool (decide (x ∈ zs))]) ∧ Below w.heap.size w w' := by
  by_cases h0 : n = 0
  · subst h0
    obtain rfl : zs = [] := List.eq_nil_of_length_eq_zero h.1
    exact (Tryz.slices_BinarySearch_int_empty a c x w).mono fun e w' ⟨he, hw⟩ => ⟨0, he, by rw [hw]; exact Below.refl _ _⟩
  · obtain ⟨b, off, rfl, _, hc⟩ := h.2.2.2.2.2 (by omega)
    have e1 : zs.take n = zs := List.take_of_length_le (by rw [h.1]; exact Nat.le_refl _)
    refine (Tryz.slices_BinarySearch_int b off n c zs x w (by rw [h.1]; exact Nat.le_refl _) (by omega) (fun j hj => hc j (by rw [← h.1]; exact hj)) (by rw [e1]; exact hs)).mono ?_
    rintro e w' ⟨he, q, hw⟩
    rw [e1] at he
    have e2 : zs.contains x = decide (x ∈ zs) := by rw [Bool.eq_iff_iff]; simp
    rw [e2] at he
    refine ⟨_, he, by rw [hw]; exact ⟨rfl, rfl, rfl, Nat.le_refl _, fun _ _ => rfl⟩⟩
end Go.Proofs.YteddkkcheaghaaaGreatDoor
