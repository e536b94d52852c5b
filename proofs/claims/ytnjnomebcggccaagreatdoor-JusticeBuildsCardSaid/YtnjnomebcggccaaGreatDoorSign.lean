/- A variable that holds a way: what is stored into its parts; and numbers that are read into it. What getWay comes to: a way is read, whatever the error. A slice of ways of the call's own, that grows by append; and how all stands while an out is read. What lock.Get comes to: an out is read, whatever the error. How all stands while ins, ops, signs and transactions are read. Clone, Sort and BinarySearch at []int, over slices of numbers of the call's own. Steps that walks of signing want: rows of signs of one, what the library does with one. What tx.Signed comes to, of any transaction without signs, by one key. -/
import Derived.Test.YtnjnomebcggccaaGreatDoorLock
import Derived.Test.YtnjnomebcggccaaGreatDoorOwnZ
import Derived.Test.YtnjnomebcggccaaGreatDoorMemory
import Derived.Test.YtnjnomebcggccaaGreatDoorTx
import Derived.Test.YtnjnomebcggccaaGreatDoorShelf
import Derived.Test.YtnjnomebcggccaaGreatDoorCopy
import Derived.Sort.OwnSortedInts
import Derived.Lib.BufferMore
namespace Go.Proofs.YtnjnomebcggccaaGreatDoor
open Go.RowKit

def setL : List Value → Nat → List Value → List Value
  | cs, _, [] => cs
  | cs, o, v :: vs => setL (cs.set o v) (o + 1) vs
theorem setL_mid : ∀ (vs mid pre post : List Value), vs.length = mid.length → setL (pre ++ (mid ++ post)) pre.length vs = pre ++ (vs ++ post)
  | [], [], _, _, _ => rfl
  | [], _ :: _, _, _, h => by simp at h
  | _ :: _, [], _, _, h => by simp at h
  | v :: vs, m :: mid, pre, post, h => by
    have e : (pre ++ (m :: mid ++ post)).set pre.length v = (pre ++ [v]) ++ (mid ++ post) := by simp
    show setL ((pre ++ (m :: mid ++ post)).set pre.length v) (pre.length + 1) vs = _
    rw [e, show pre.length + 1 = (pre ++ [v]).length by simp, setL_mid vs mid (pre ++ [v]) post (by simpa using h)]
    simp
theorem heap_setCells {b : Nat} {t : TypeId} : ∀ (vs : List Value) (o : Nat) (w : World) (cs : List Value), w.heap[b]? = some (.cells cs.toArray t (0, 0)) → (w.setCells b o vs).heap[b]? = some (.cells (setL cs o vs).toArray t (0, 0))
  | [], _, _, _, h => h
  | v :: vs, o, w, cs, h => by
    have h1 := heap_setCell_same w b o cs.toArray t v h
    rw [List.setIfInBounds_toArray] at h1
    exact heap_setCells vs (o + 1) (w.setCell ⟨b, o, none⟩ v) (cs.set o v) h1
/-- A block that holds a way. -/
def VarW (w : World) (g : Nat) (x : PWay) : Prop := w.heap[g]? = some (.cells x.cells.toArray 49 (0, 0))
theorem VarW.lt {w : World} {g : Nat} {x : PWay} (h : VarW w g x) : g < w.heap.size := lt_of_block h
theorem VarW.cell {w : World} {g : Nat} {x : PWay} (h : VarW w g x) (i : Nat) : w.cell? ⟨g, i, none⟩ = x.cells[i]? := by
  rw [cell_of_row _ _ _ _ _ _ h]
  simp
theorem VarW.range {w : World} {g : Nat} {x : PWay} (h : VarW w g x) : w.rangeAt g 0 x.cells := range_of h
theorem VarW.but {w w' : World} {g B p : Nat} {x : PWay} (h : VarW w g x) (hb : But B p w w') (hB : g < B) (hne : g ≠ p) : VarW w' g x := hb.heap h hB hne
theorem VarW.below {w w' : World} {g : Nat} {x : PWay} (h : VarW w g x) (hb : Below w.heap.size w w') : VarW w' g x := (hb.block g h.lt).trans h
theorem VarW.keys {w : World} {g n c : Nat} {a : Option Addr} {x : PWay} (h : VarW w g x) : VarW (w.setCell ⟨g, 0, none⟩ (.slice a n c)) g { x with a := a, n := n, c := c } := by
  have h1 := heap_setCells [.slice a n c] 0 w _ h
  have e : setL x.cells 0 [.slice a n c] = ({ x with a := a, n := n, c := c } : PWay).cells := setL_mid [.slice a n c] [.slice x.a x.n x.c] [] (cellsOf x.h ++ [.int .i64 x.after, .int .i64 x.wait]) rfl
  rw [e] at h1
  exact h1
theorem VarW.sum {w : World} {g : Nat} {x : PWay} {s : List UInt8} (h : VarW w g x) (hs : x.h.length = 32) (hs' : s.length = 32) : VarW (w.setCells g 1 (cellsOf s)) g { x with h := s } := by
  have h1 := heap_setCells (cellsOf s) 1 w _ h
  have e : setL x.cells 1 (cellsOf s) = ({ x with h := s } : PWay).cells := setL_mid (cellsOf s) (cellsOf x.h) [.slice x.a x.n x.c] [.int .i64 x.after, .int .i64 x.wait] (by rw [cellsOf_len, cellsOf_len, hs, hs'])
  rw [e] at h1
  exact h1
theorem OwnZ.but {w w' : World} {e : TypeId} {B p : Nat} {v : Value} {l : List Int} (h : OwnZ w e B v l) (hb : But w.heap.size p w w') (hp : p < B) : OwnZ w' e B v l := by
  refine ⟨⟨h.1.1, ?_⟩, h.2⟩
  rcases h.1.2 with h0 | ⟨g, cap, cur, hv, hB, hh, r⟩
  · exact .inl h0
  · exact .inr ⟨g, cap, cur, hv, hB, hb.heap hh (lt_of_block hh) (by omega), r⟩
end Go.Proofs.YtnjnomebcggccaaGreatDoor
namespace Go.Proofs.YtnjnomebcggccaaGreatDoor
open Go.RowKit

/-- New: no older block holds it. -/
def NewB (B : Nat) (a : Option Addr) : Prop := ∀ ad, a = some ad → B ≤ ad.block
/-- Where a way's keys lie: in a block of numbers. -/
def KeyTag (w : World) (x : PWay) : Prop := 0 < x.n → ∃ b off cs fr, x.a = some ⟨b, off, none⟩ ∧ w.heap[b]? = some (.cells cs 3 fr)
end Go.Proofs.YtnjnomebcggccaaGreatDoor
namespace Go.Proofs.YtnjnomebcggccaaGreatDoor
open Go.RowKit

def cellsW (xs : List PWay) : List Value := xs.flatMap PWay.cells
theorem cellsW_get : ∀ {xs : List PWay}, (∀ x ∈ xs, x.h.length = 32) → ∀ {j i : Nat}, j < xs.length → i < 35 → (cellsW xs)[j * 35 + i]? = (xs.getD j noWay).cells[i]?
  | [], _, _, _, hj, _ => by simp at hj
  | x :: xs, h, 0, i, _, hi => by
    have hs := PWay.cells_len (h x (by simp))
    show (x.cells ++ cellsW xs)[0 * 35 + i]? = x.cells[i]?
    rw [Nat.zero_mul, Nat.zero_add, List.getElem?_append_left (by rw [hs]; exact hi)]
  | x :: xs, h, j + 1, i, hj, hi => by
    have ih := cellsW_get (xs := xs) (fun y hy => h y (by simp [hy])) (j := j) (i := i) (by simpa using hj) hi
    have hs := PWay.cells_len (h x (by simp))
    show (x.cells ++ cellsW xs)[(j + 1) * 35 + i]? = (xs.getD j noWay).cells[i]?
    rw [List.getElem?_append_right (by rw [hs]; omega), hs, ← ih]
    congr 1
    omega
/-- A slice of ways of the call's own. -/
def OwnW (w : World) (B : Nat) (v : Value) (xs : List PWay) : Prop := w.ownsRow B 49 35 v xs.length (cellsW xs) ∧ ∀ x ∈ xs, x.h.length = 32
theorem OwnW.shape {w : World} {B : Nat} {v : Value} {xs : List PWay} (h : OwnW w B v xs) : ∃ a c, v = .slice a xs.length c ∧ (∀ x, a = some x → B ≤ x.block) := by
  rcases h.1.2 with ⟨rfl, h0⟩ | ⟨g, cap, cur, rfl, hB, _⟩
  · exact ⟨none, 0, by rw [h0], fun x e => by cases e⟩
  · exact ⟨_, _, rfl, fun x e => by cases e; exact hB⟩
theorem OwnW.ways {w : World} {B : Nat} {a : Option Addr} {n c : Nat} {xs : List PWay} (h : OwnW w B (.slice a n c) xs) (hx : ∀ x ∈ xs, WayIn w x) : Ways w a n c xs := by
  rcases h.1.2 with ⟨hv, h0⟩ | ⟨g, cap, cur, hv, hB, hh, h1, h2, h3, h4⟩
  · cases hv
    obtain rfl : xs = [] := List.eq_nil_of_length_eq_zero h0
    exact Ways.nil w
  · cases hv
    refine ⟨rfl, h1, h2, (fun e => by cases e), hx, fun _ => ⟨g, 0, rfl, lt_of_block hh, fun j hj i v hv => ?_⟩⟩
    have hi : i < 35 := by
      have h5 := (List.getElem?_eq_some_iff.1 hv).1
      have h6 : (xs.getD j noWay).h.length = 32 := by
        rw [List.getD_eq_getElem?_getD, List.getElem?_eq_getElem hj]
        exact h.2 _ (List.getElem_mem hj)
      rw [PWay.cells_len h6] at h5
      exact h5
    rw [Nat.zero_add, cell_of_row w g _ _ _ _ hh, ← hv, ← cellsW_get h.2 hj hi, ← h4, List.getElem?_take, if_pos (by omega)]
    simp
theorem OwnW.lt {w : World} {B : Nat} {v : Value} {xs : List PWay} (h : OwnW w B v xs) : ∀ k, v.ownBlock = some k → B ≤ k ∧ k < w.heap.size := fun k e => World.ownsRow.lt h.1 k e
theorem OwnW.nil (w : World) (B : Nat) : OwnW w B (.slice none 0 0) [] := ⟨World.ownsRow_nil w B _ _, fun _ h => by cases h⟩
theorem OwnW.but {w w' : World} {B p : Nat} {v : Value} {xs : List PWay} (h : OwnW w B v xs) (hb : But w.heap.size p w w') (hp : ∀ cs fr, w.heap[p]? ≠ some (.cells cs 49 fr)) : OwnW w' B v xs := by
  refine ⟨⟨h.1.1, ?_⟩, h.2⟩
  rcases h.1.2 with h0 | ⟨g, cap, cur, hv, hB, hh, r⟩
  · exact .inl h0
  · have hg : g ≠ p := fun e => by subst e; exact hp _ _ hh
    exact .inr ⟨g, cap, cur, hv, hB, hb.heap hh (lt_of_block hh) hg, r⟩
theorem OwnW.below {w w' : World} {B : Nat} {v : Value} {xs : List PWay} (h : OwnW w B v xs) (hb : Below w.heap.size w w') : OwnW w' B v xs :=
  ⟨World.ownsRow.kept h.1 (row := none) ⟨hb.os, hb.tape, hb.output, hb.size, fun k hk _ => hb.block k hk⟩ (by cases h' : v.ownBlock <;> simp), h.2⟩
theorem OwnW.grows {w w' : World} {B : Nat} {v : Value} {xs : List PWay} (h : OwnW w B v xs) (hg : w.grownBy w' v.ownBlock) (hB : B ≤ w.heap.size) : Below B w w' :=
  ⟨hg.os, hg.tape, hg.output, hg.size, fun k hk => hg.block k (by omega) (fun e => by have := (h.lt k e.symm).1; omega)⟩
end Go.Proofs.YtnjnomebcggccaaGreatDoor
namespace Go.Proofs.YtnjnomebcggccaaGreatDoor
open Go.RowKit

theorem NewB.base {B B' : Nat} {a : Option Addr} (h : NewB B a) (hB : B' ≤ B) : NewB B' a := fun ad e => Nat.le_trans hB (h ad e)
/-- Where ways lie: in a block of ways. -/
def WayTag (w : World) (a : Option Addr) (n : Nat) : Prop := 0 < n → ∃ b off cs fr, a = some ⟨b, off, none⟩ ∧ w.heap[b]? = some (.cells cs 49 fr)
end Go.Proofs.YtnjnomebcggccaaGreatDoor
namespace Go.Proofs.YtnjnomebcggccaaGreatDoor
open Go.RowKit

/-! ### What stays where a block of another type is written -/
/-- An in, an out, an op, with where their slices lie. -/
def InT (w : World) (y : PIn) : Prop := InIn w y ∧ Tag w y.a y.n
def OutT (w : World) (y : POut) : Prop := OutIn w y ∧ (∀ x ∈ y.ws, KeyTag w x) ∧ WayTag w y.a y.n
def OpT (w : World) (x : POp) : Prop := OpIn w x ∧ Tag w x.a x.n
theorem InT.below {w w' : World} {y : PIn} (h : InT w y) (hb : Below w.heap.size w w') : InT w' y := ⟨⟨h.1.tx, h.1.place, h.1.way, h.1.pre.below hb⟩, h.2.below hb⟩
theorem OpT.below {w w' : World} {y : POp} (h : OpT w y) (hb : Below w.heap.size w w') : OpT w' y := ⟨h.1.below hb, h.2.below hb⟩
theorem OutT.below {w w' : World} {y : POut} (h : OutT w y) (hb : Below w.heap.size w w') : OutT w' y :=
  ⟨⟨h.1.m, h.1.ws.below hb⟩, fun x hx h0 => by
    obtain ⟨b, off, cs, fr, e, hh⟩ := h.2.1 x hx h0
    exact ⟨b, off, cs, fr, e, (hb.block _ (lt_of_block hh)).trans hh⟩, fun h0 => by
    obtain ⟨b, off, cs, fr, e, hh⟩ := h.2.2 h0
    exact ⟨b, off, cs, fr, e, (hb.block _ (lt_of_block hh)).trans hh⟩⟩
/-! ### A variable that holds a struct -/
def VarC (w : World) (g : Nat) (t : TypeId) (cs : List Value) : Prop := w.heap[g]? = some (.cells cs.toArray t (0, 0))
theorem VarC.lt {w : World} {g : Nat} {t : TypeId} {cs : List Value} (h : VarC w g t cs) : g < w.heap.size := lt_of_block h
theorem VarC.free {w : World} {g : Nat} {t : TypeId} {cs : List Value} (h : VarC w g t cs) (i : Nat) : w.frozen? ⟨g, i, none⟩ = false := by
  unfold VarC at h
  simp [World.frozen?, h]
theorem VarC.cell {w : World} {g : Nat} {t : TypeId} {cs : List Value} (h : VarC w g t cs) (i : Nat) : w.cell? ⟨g, i, none⟩ = cs[i]? := by
  rw [cell_of_row _ _ _ _ _ _ h]
  simp
theorem VarC.range {w : World} {g : Nat} {t : TypeId} {cs : List Value} (h : VarC w g t cs) : w.rangeAt g 0 cs := range_of h
theorem VarC.but {w w' : World} {g B p : Nat} {t : TypeId} {cs : List Value} (h : VarC w g t cs) (hb : But B p w w') (hB : g < B) (hne : g ≠ p) : VarC w' g t cs := hb.heap h hB hne
theorem VarC.below {w w' : World} {g : Nat} {t : TypeId} {cs : List Value} (h : VarC w g t cs) (hb : Below w.heap.size w w') : VarC w' g t cs := (hb.block g h.lt).trans h
theorem VarC.put {w : World} {g o : Nat} {t : TypeId} {pre mid post vs : List Value} (h : VarC w g t (pre ++ (mid ++ post))) (hl : vs.length = mid.length) (ho : pre.length = o) : VarC (w.setCells g o vs) g t (pre ++ (vs ++ post)) := by
  have h1 := heap_setCells vs o w _ h
  rw [← ho, setL_mid vs mid pre post hl] at h1
  rw [← ho]
  exact h1
theorem VarC.put1 {w : World} {g o : Nat} {t : TypeId} {pre post : List Value} {u v : Value} (h : VarC w g t (pre ++ (u :: post))) (ho : pre.length = o) : VarC (w.setCell ⟨g, o, none⟩ v) g t (pre ++ (v :: post)) := VarC.put (mid := [u]) (vs := [v]) h rfl ho
theorem not_typed {w : World} {p : Nat} {cs : Array Value} {t u : TypeId} {fr : Nat × Nat} (hp : w.heap[p]? = some (.cells cs t fr)) (h : t ≠ u) : ∀ cs' fr', w.heap[p]? ≠ some (.cells cs' u fr') := fun _ _ e => by
  rw [hp] at e
  simp at e
  exact h e.2.1
end Go.Proofs.YtnjnomebcggccaaGreatDoor
namespace Go.Proofs.YtnjnomebcggccaaGreatDoor
open Go.RowKit

/-- In order. -/
def sortedZ (zs : List Int) : List Int := zs.mergeSort fun x y => decide (x ≤ y)
theorem sortedZ_len (zs : List Int) : (sortedZ zs).length = zs.length := List.length_mergeSort zs
theorem sortedZ_mem (zs : List Int) (x : Int) : x ∈ sortedZ zs ↔ x ∈ zs := List.mem_mergeSort
theorem sortedZ_up (zs : List Int) : (sortedZ zs).Pairwise (· ≤ ·) := by
  have h := List.pairwise_mergeSort (le := fun (x y : Int) => decide (x ≤ y)) (fun a b c h1 h2 => by simp at *; omega) (fun a b => by simp; omega) zs
  exact h.imp (fun h => by simpa using h)
theorem sort_any {w : World} {B : Nat} {v : Value} {zs : List Int} (h : OwnZ w 3 B v zs) (hB : B ≤ w.heap.size) (hn : zs.length ≤ 100000) :
    Calls Tryz.prog 28 #[v] w fun e w' => e = .returned (.tuple #[]) ∧ OwnZ w' 3 B v (sortedZ zs) ∧ w.grownBy w' v.ownBlock ∧ Below B w w' := by
  rcases h.1.2 with ⟨rfl, h0⟩ | ⟨g, cap, cur, rfl, hg, hb, h1, h2, h3, h4⟩
  · obtain rfl : zs = [] := List.eq_nil_of_length_eq_zero h0
    exact (Tryz.slices_Sort_int_none none 0 w).mono fun e w' ⟨he, hw⟩ => ⟨he, by rw [hw, show sortedZ [] = [] by simp [sortedZ]]; exact OwnZ.nil _ _ _, by rw [hw]; exact World.grownBy.refl _ _, by rw [hw]; exact Below.refl _ _⟩
  · refine (Tryz.slices_Sort_int g 0 cap zs w (holds_of_blockI hb (by rw [Nat.mul_one] at h4; exact h4)) (lt_of_block hb) (by omega)).mono ?_
    rintro e w' ⟨he, n, os, rfl⟩
    have hl := sortedZ_len zs
    have ho := ownsRow_sortedI (n := n) (os := os) (ts := sortedZ zs) hl hg hb h1 h2 h3
    have hgr := grownBy_sortedI (w := w) (g := g) (n := n) (os := os) (sortedZ zs).toArray
    refine ⟨he, ⟨?_, fun z hz => h.2 z ((sortedZ_mem zs z).1 hz)⟩, hgr, ?_⟩
    · rw [hl]
      exact ho
    · exact (Below.refl B w).grown hgr hB (fun j hj => by cases hj; exact hg)
theorem search_any {w : World} {a : Option Addr} {n c : Nat} {zs : List Int} (x : Int) (h : Numbers w a n c zs) (hs : zs.Pairwise (· ≤ ·)) (hn : n ≤ 100000) :
    Calls Tryz.prog 32 #[.slice a n c, .int .i64 x] w fun e w' => ∃ z : Int, e = .returned (.tuple #[.int .i64 z, .bool (decide (x ∈ zs))]) ∧ Below w.heap.size w w' := by
  by_cases h0 : n = 0
  · subst h0
    obtain rfl : zs = [] := List.eq_nil_of_length_eq_zero h.1
    exact (Tryz.slices_BinarySearch_int_empty a c x w).mono fun e w' ⟨he, hw⟩ => ⟨0, he, by rw [hw]; exact Below.refl _ _⟩
  · obtain ⟨b, off, rfl, _, hc⟩ := h.2.2.2.2.2 (by omega)
    have e1 : zs.take n = zs := List.take_of_length_le (by rw [h.1]; exact Nat.le_refl _)
    refine (Tryz.slices_BinarySearch_int b off n c zs x w (by rw [h.1]; exact Nat.le_refl _) (by omega) (fun j hj => hc j (by rw [← h.1]; exact hj)) (by rw [e1]; exact hs)).mono ?_
    rintro e w' ⟨he, q, hw⟩
    rw [e1] at he
    have e2 : zs.contains x = decide (x ∈ zs) := by rw [Bool.eq_iff_iff]; simp
    rw [e2] at he
    refine ⟨_, he, by rw [hw]; exact ⟨rfl, rfl, rfl, Nat.le_refl _, fun _ _ => rfl⟩⟩
end Go.Proofs.YtnjnomebcggccaaGreatDoor
namespace Go.Proofs.YtnjnomebcggccaaGreatDoor
open Go.RowKit

theorem wpList_append_of {α : Type} {P : Program} {K : Sort8 α} {ts t : TypeId} (S : SortAt P K ts t) {w : World} {ops : Array Oper} {rest : List Oper} {o : Oper} {A : Act} {Q : Exit → Act → World → Prop} (hgd : o.guard = none) (s x : Operand)
    (ho : o.op = .call { callee := .builtin .append, args := #[s, x], argTypes := #[ts, ts] }) (hty : o.type = ts) (B : Nat) (v : Value) (xs : List α) (hs : A.eval s = v) (hown : OwnOf K t w B v xs) (p : Nat) (y : α) (hx : A.eval x = .slice (some ⟨p, 0, none⟩) 1 1) {tp : TypeId} {fr : Nat × Nat} (hp : w.heap[p]? = some (.cells (K.cells y).toArray tp fr)) (hl : (K.cells y).length = K.size) (hb : xs.length + 1 ≤ 1000000) (hbase : B ≤ w.heap.size)
    (h : ∀ a' c' w', OwnOf K t w' B (.slice a' (xs.length + 1) c') (xs ++ [y]) → w.grownBy w' v.ownBlock → wpList P ops Q rest (A.put o.dst (.slice a' (xs.length + 1) c')) w') : wpList P ops Q (o :: rest) A w := by
  refine wpList_plain hgd fun K' hK => ?_
  obtain ⟨a', c', w', h1, h2, h3⟩ := append_of S w B v xs hown p y hp hl hb hbase
  unfold Oper.wp execOp
  simp only [ho, hty, resolve, invoke, builtin, Sem.run_bind, Sem.run_pure, Result.andThen_ok, List.map_toArray, List.map_cons, List.map_nil, hs, hx, h1]
  exact hK _ _ (h a' c' w' h2 h3)
/-- A store of what is there. -/
theorem store_same {w : World} {g i : Nat} {t : TypeId} {cs : Array Value} {v : Value} (h : w.heap[g]? = some (.cells cs t (0, 0))) (hi : cs[i]? = some v) : Below w.heap.size w (w.setCell ⟨g, i, none⟩ v) := by
  have hb : But w.heap.size g w (w.setCell ⟨g, i, none⟩ v) := (But.refl _ g _).setCell _ (.inl rfl) _
  refine ⟨hb.os, hb.tape, hb.output, hb.size, fun k hk => ?_⟩
  by_cases e : k = g
  · subst e
    rw [heap_setCell_same w k i cs t v h, h]
    congr 2
    apply Array.ext_getElem?
    intro j
    rw [Array.getElem?_setIfInBounds]
    by_cases e : i = j
    · subst e
      have hlt := (Array.getElem?_eq_some_iff.1 hi).1
      rw [if_pos rfl, if_pos hlt, hi]
    · rw [if_neg e]
  · exact hb.block k hk e
set_option linter.unusedSimpArgs false in
set_option maxRecDepth 100000 in
set_option maxHeartbeats 12800000 in
theorem indexSign_nil (f : Value) (w : World) : Calls Tryz.prog 62 #[.slice none 0 0, f] w fun e w' => e = .returned (.int .i64 (-1)) ∧ w = w' := by
  go_enter Tryz.func62, Tryz.ntmps62
  go_upto_region 2 with (fail)
  go_loop [8] (fun x => x = .int .i64 0) (fun _ => 0)
  case atStart => rfl
  case round =>
    subst hrel
    go_wp2
    go_ret
    exact ⟨rfl, rfl⟩
theorem deleteSign_nil (f : Value) (w : World) : Calls Tryz.prog 30 #[.slice none 0 0, f] w fun e w' => e = .returned (.slice none 0 0) ∧ w = w' := by
  go_enter Tryz.func30, Tryz.ntmps30
  go_wp2_with (first | (go_at_call 62; (with_reducible refine (indexSign_nil _ _).mono ?_); rintro e w9 ⟨rfl, rfl⟩) | fail)
  go_ret
  exact ⟨rfl, rfl⟩
set_option linter.unusedSimpArgs false in
set_option maxRecDepth 100000 in
set_option maxHeartbeats 12800000 in
theorem insertSign_one (a : Option Addr) (c : Nat) (f : Value) (w : World) : Calls Tryz.prog 89 #[.slice a 1 c, .int .i64 0, .int .i64 1, f] w fun e w' => e = .returned (.tuple #[]) ∧ w = w' := by
  go_enter Tryz.func89, Tryz.ntmps89
  go_upto_region 1 with (fail)
  go_loop [8] (fun x => x = .int .i64 1) (fun _ => 0)
  case atStart => rfl
  case round =>
    subst hrel
    go_wp2
    go_end0
    exact ⟨rfl, rfl⟩
theorem stableSign_one (a : Option Addr) (c : Nat) (f : Value) (w : World) : Calls Tryz.prog 65 #[.slice a 1 c, .int .i64 1, f] w fun e w' => e = .returned (.tuple #[]) ∧ w = w' := by
  go_enter Tryz.func65, Tryz.ntmps65
  go_upto_region 2 with (fail)
  go_loop [7, 8] (fun x y => x = .int .i64 0 ∧ y = .int .i64 20) (fun _ _ => 0)
  case atStart => exact ⟨rfl, rfl⟩
  case round =>
    obtain ⟨rfl, rfl⟩ := hrel
    go_wp2_with (first | (go_at_call 89; (with_reducible refine (insertSign_one _ _ _ _).mono ?_); rintro e w9 ⟨rfl, rfl⟩) | fail)
    go_loop [6] (fun x => x = .int .i64 20) (fun _ => 0)
    case atStart => rfl
    case round =>
      subst hrel
      go_wp2
      go_end0
      exact ⟨rfl, rfl⟩
theorem sortSign_one (a : Option Addr) (c : Nat) (f : Value) (w : World) : Calls Tryz.prog 33 #[.slice a 1 c, f] w fun e w' => e = .returned (.tuple #[]) ∧ w = w' := by
  go_enter Tryz.func33, Tryz.ntmps33
  go_wp2_with (first | (go_at_call 65; (with_reducible refine (stableSign_one _ _ _ _).mono ?_); rintro e w9 ⟨rfl, rfl⟩) | fail)
  go_end0
  exact ⟨rfl, rfl⟩
theorem compact_one (a : Option Addr) (c : Nat) (w : World) : Calls Tryz.prog 29 #[.slice a 1 c] w fun e w' => e = .returned (.slice a 1 c) ∧ w = w' := by
  go_enter Tryz.func29, Tryz.ntmps29
  go_wp2
  go_ret
  exact ⟨rfl, rfl⟩
theorem OwnOf.base {α : Type} {K : Sort8 α} {t : TypeId} {w : World} {B B' : Nat} {v : Value} {xs : List α} (h : OwnOf K t w B v xs) (hB : B' ≤ B) : OwnOf K t w B' v xs := by
  refine ⟨⟨h.1.1, ?_⟩, h.2⟩
  rcases h.1.2 with h0 | ⟨g, cap, cur, hv, hg, r⟩
  · exact .inl h0
  · exact .inr ⟨g, cap, cur, hv, Nat.le_trans hB hg, r⟩
theorem step_store_row {P : Program} {ops : Array Oper} {o : Oper} {a : Act} {w : World} {K : Act → World → Prop} {Q : Exit → Act → World → Prop} {E : Prop} (hw : Region.wanted o (yielded ops a.tmps) = true) (ty : TypeId) (x y : Operand) (ho : o.op = .store ty x y)
    (g : Nat) (cells : Array Value) (hx : a.eval x = .pointer (some ⟨g, 0, none⟩)) (hy : a.eval y = .agg cells) (t : TypeId) (old : Array Value) (hg : w.heap[g]? = some (.cells old t (0, 0))) (hi : (P.info? ty).map (·.size) = some cells.size) (hold : old.size = cells.size) (h1 : cells.all (·.oneCell') = true)
    (h : K (a.put o.dst undef) (w.setRow g cells)) : if Region.wanted o (yielded ops a.tmps) = true then Oper.wp P o a w K Q else E := by
  rw [if_pos hw]
  exact wp_store_row ty x y ho g cells hx hy t old hg hi hold h1 h
theorem step_alloc_of {P : Program} {ops : Array Oper} {o : Oper} {tmps : Array Value} {ds : List Deferred} {w : World} {K : Act → World → Prop} {Q : Exit → Act → World → Prop} {E : Prop} {d : Nat} (hd : o.dst = some d) (hw : Region.wanted o (yielded ops tmps) = true) (ty : TypeId) (ho : o.op = .alloc ty) (cs : Array Value)
    {sz by' : Nat} (hi : (P.info? ty).map (fun i => (i.zero, i.size, i.bytes)) = some (some (.agg cs), sz, by'))
    (h : ∀ p y, w.heap.size ≤ p → y.heap[p]? = some (.cells cs ty (0, 0)) → Below w.heap.size w y → K { tmps := tmps.setIfInBounds d (.pointer (some ⟨p, 0, none⟩)), defers := ds } y) :
    if Region.wanted o (yielded ops tmps) = true then Oper.wp P o { tmps := tmps, defers := ds } w K Q else E := by
  rw [if_pos hw]
  obtain ⟨ie, h1, h2, h3, _⟩ := info_parts hi
  have hrun : (Instr.alloc ty true (.tuple #[])).run P w = .ok (.pointer (some ⟨w.heap.size, 0, none⟩)) (w.alloc (.cells cs ty)) := by
    simp [Instr.alloc, zeroValue, typeInfo, h1, h2, newVar, newRow, Value.cells]
  unfold Oper.wp execOp
  simp only [ho, Sem.run_bind, hrun, Sem.run_pure, Result.andThen_ok]
  show K (Act.put _ o.dst _) _
  rw [hd]
  exact h _ _ (Nat.le_refl _) (heap_alloc_new _ _) ((Below.refl _ _).alloc (Nat.le_refl _) _)
theorem Tryz.zeroSum32 : (Tryz.prog.info? 23).map (fun i => (i.zero, i.size, i.bytes)) = some (some (.agg (cellsOf zero32).toArray), 32, 32) := by kernel_rfl
theorem Tryz.zeroTx160 : (Tryz.prog.info? 35).map (fun i => (i.zero, i.size, i.bytes)) = some (some (.agg noTx.cells.toArray), 40, 160) := by kernel_rfl
theorem Tryz.zeroSign40 : (Tryz.prog.info? 83).map (fun i => (i.zero, i.size, i.bytes)) = some (some (.agg noSign.cells.toArray), 33, 40) := by kernel_rfl
theorem Tryz.signFields : ∃ fs, Tryz.prog.underlying 83 = some (.struct fs) ∧ ∀ w : World, ((fs.mapM fun (f : Field) => do pure (f.offset, ← sizeOf f.type)) : Sem (Array (Nat × Nat))).run Tryz.prog w = .ok #[(0, 1), (1, 32)] w := by
  exact ⟨_, Tryz.underlying83, fun w => by kernel_rfl⟩
theorem fill_sign (s : List UInt8) (hs : s.length = 32) (z : Int) : Instr.fill ((#[(0, 1), (1, 32)] : Array (Nat × Nat))[·]?) noSign.cells.toArray [(0, .int .i64 z), (1, .agg (cellsOf s).toArray)] = some (PSign.cells ⟨z, s⟩).toArray := by
  have hl : (cellsOf s).length = 32 := by rw [cellsOf_len, hs]
  have hz : noSign.cells.length = 33 := rfl
  obtain ⟨I, hI⟩ : ∃ I, I = noSign.cells.toArray.setIfInBounds 0 (.int .i64 z) := ⟨_, rfl⟩
  have hIs : I.size = 33 := by rw [hI, Array.size_setIfInBounds]; rfl
  obtain ⟨g1, g2⟩ := Great.foldl_set 1 (cellsOf s) 0 I
  have e1 : (cellsOf s).toArray.zipIdx.foldl (fun cs (x : Value × Nat) => cs.setIfInBounds (1 + x.2) x.1) I = (((cellsOf s).zipIdx 0).foldl (fun cs (x : Value × Nat) => cs.setIfInBounds (1 + x.2) x.1) I) := by
    rw [← Array.foldl_toList, Array.toList_zipIdx]
  obtain ⟨M, hM⟩ : ∃ M, M = (((cellsOf s).zipIdx 0).foldl (fun cs (x : Value × Nat) => cs.setIfInBounds (1 + x.2) x.1) I) := ⟨_, rfl⟩
  rw [← hM] at g1 g2 e1
  unfold Instr.fill
  simp only [show (#[(0, 1), (1, 32)] : Array (Nat × Nat))[0]? = some (0, 1) from rfl]
  rw [if_neg (by simp [Value.cells, hz])]
  unfold Instr.fill
  simp only [show (#[(0, 1), (1, 32)] : Array (Nat × Nat))[1]? = some (1, 32) from rfl]
  rw [show ((Value.int IntKind.i64 z).cells.zipIdx.foldl (fun cs (x : Value × Nat) => cs.setIfInBounds (0 + x.2) x.1) noSign.cells.toArray) = I by rw [hI]; rfl]
  rw [if_neg (by simp [Value.cells, hl, hIs])]
  rw [show (Value.agg (cellsOf s).toArray).cells = (cellsOf s).toArray from rfl, e1]
  unfold Instr.fill
  congr 1
  apply Array.ext_getElem?
  intro k
  have eR : (PSign.cells ⟨z, s⟩).toArray[k]? = (PSign.cells ⟨z, s⟩)[k]? := by simp
  rw [g2 k, eR]
  unfold PSign.cells
  cases k with
  | zero =>
    rw [if_neg (by omega), hI, Array.getElem?_setIfInBounds]
    rfl
  | succ k =>
    rw [List.getElem?_cons_succ]
    by_cases h1 : k < 32
    · rw [if_pos (by omega)]
      congr 1
    · rw [if_neg (by omega), Array.getElem?_eq_none (by omega), List.getElem?_eq_none (by show (cellsOf s).length ≤ k; omega)]
theorem run_build_sign (s : List UInt8) (hs : s.length = 32) (z : Int) (w : World) : (Instr.build 83 #[(0, .int .i64 z), (1, .agg (cellsOf s).toArray)]).run Tryz.prog w = .ok (.agg (PSign.cells ⟨z, s⟩).toArray) w := by
  obtain ⟨ie, h1, h2, h3, _⟩ := info_parts Tryz.zeroSign40
  obtain ⟨fs, hu, hm⟩ := Tryz.signFields
  have hf := fill_sign s hs z
  have hz : (zeroValue 83).run Tryz.prog w = .ok (.agg noSign.cells.toArray) w := by simp [zeroValue, typeInfo, h1, h2]
  unfold Instr.build
  simp only [Sem.run_bind, hz, Result.andThen_ok, run_underlying hu, hm w]
  rw [show (Value.agg noSign.cells.toArray).cells = noSign.cells.toArray from rfl]
  simp only [hf]
  rfl
theorem run_lit_of {α : Type} {P : Program} {K : Sort8 α} {ts t : TypeId} (S : SortAt P K ts t) {x : α} (hx : (K.cells x).length = K.size) (w : World) : (Instr.buildSlice ts 1 #[(0, .agg (K.cells x).toArray)]).run P w = .ok (.slice (some ⟨w.heap.size, 0, none⟩) 1 1) (w.alloc (.cells (K.cells x).toArray t)) := by
  obtain ⟨ie, h1, h2, h3, _⟩ := info_parts S.info
  have hk := S.ksmall
  have hp := K.pos
  have hf := fill_one K.pos hx ((Array.range (1 * K.size)).map (S.zero.cells[· % S.zero.cells.size]!)) (by simp)
  exact run_buildSlice w ts t 1 _ _ ie _ S.under h1 h2 (by rw [h3]; omega) (by rw [h3]; omega) (by rw [h3]; exact hf)
theorem wpList_build_sign {ops : Array Oper} {rest : List Oper} {o : Oper} {A : Act} {w : World} {Q : Exit → Act → World → Prop} (hgd : o.guard = none) (u v : Operand) (ho : o.op = .build 83 #[(0, u), (1, v)]) (z : Int) (s : List UInt8) (hu : A.eval u = .int .i64 z) (hv : A.eval v = .agg (cellsOf s).toArray) (hs : s.length = 32) {Y : PSign} (hY : Y = ⟨z, s⟩)
    (h : wpList Tryz.prog ops Q rest (A.put o.dst (.agg Y.cells.toArray)) w) : wpList Tryz.prog ops Q (o :: rest) A w := by
  refine wpList_plain hgd fun K hK => ?_
  subst hY
  unfold Oper.wp execOp
  simp only [ho, Sem.run_bind, Sem.run_pure, Result.andThen_ok, List.map_toArray, List.map_cons, List.map_nil, hu, hv, run_build_sign s hs z w]
  exact hK _ _ h
theorem wpList_lit_of {α : Type} {P : Program} {K : Sort8 α} {ts t : TypeId} (S : SortAt P K ts t) {ops : Array Oper} {rest : List Oper} {o : Oper} {A : Act} {w : World} {Q : Exit → Act → World → Prop} (hgd : o.guard = none) (u : Operand) (ho : o.op = .buildSlice ts 1 #[(0, u)]) (x : α) (hu : A.eval u = .agg (K.cells x).toArray) (hx : (K.cells x).length = K.size)
    (h : ∀ (p : Nat) (w' : World), w.heap.size ≤ p → w'.heap[p]? = some (.cells (K.cells x).toArray t (0, 0)) → Below w.heap.size w w' → wpList P ops Q rest (A.put o.dst (.slice (some ⟨p, 0, none⟩) 1 1)) w') : wpList P ops Q (o :: rest) A w := by
  refine wpList_plain hgd fun K' hK => ?_
  unfold Oper.wp execOp
  simp only [ho, Sem.run_bind, Sem.run_pure, Result.andThen_ok, List.map_toArray, List.map_cons, List.map_nil, hu, run_lit_of S hx w]
  exact hK _ _ (h _ _ (Nat.le_refl _) (heap_alloc_new _ _) ((Below.refl _ _).alloc (Nat.le_refl _) _))
theorem varC_other {w w' : World} {g p : Nat} {t u : TypeId} {cs : List Value} {ds : Array Value} {fr : Nat × Nat} (h : VarC w g t cs) (hb : But w.heap.size p w w') (hp : w.heap[p]? = some (.cells ds u fr)) (hne : u ≠ t) : VarC w' g t cs := h.but hb h.lt (fun e => by
  unfold VarC at h
  rw [e, hp] at h
  simp at h
  exact hne h.2.1)
theorem ownZ_where {w : World} {B : Nat} {v : Value} {z : Int} (h : OwnZ w 3 B v [z]) : ∃ b c, v = .slice (some ⟨b, 0, none⟩) 1 c ∧ B ≤ b ∧ (∃ cur, w.heap[b]? = some (.cells cur 3 (0, 0))) ∧ w.cell? ⟨b, 0, none⟩ = some (.int .i64 z) ∧ 1 ≤ c ∧ c ≤ maxLen := by
  rcases h.1.2 with ⟨hv, h0⟩ | ⟨g, cap, cur, hv, hB, hh, h1, h2, h3, h4⟩
  · cases h0
  · refine ⟨g, cap, hv, hB, ⟨cur, hh⟩, ?_, h1, h2⟩
    have e : (cellsZ [z])[0]? = some (.int .i64 z) := rfl
    rw [← h4, List.getElem?_take, if_pos (show 0 < [z].length * 1 by simp)] at e
    rw [cell_of_row _ _ _ _ _ _ hh]
    simpa using e
end Go.Proofs.YtnjnomebcggccaaGreatDoor
namespace Go.Proofs.YtnjnomebcggccaaGreatDoor
open Go.RowKit

theorem AllTx.mono {P Q : Nat → Prop} {y : PTx} (h : AllTx P y) (k : ∀ b, P b → Q b) : AllTx Q y :=
  ⟨h.ia.mono k, h.oa.mono k, fun x hx => (h.pre x hx).mono k, fun z hz => (h.ws z hz).mono k, fun z hz u hu => (h.ks z hz u hu).mono k, h.data.mono k⟩
theorem AllTx.and {P Q : Nat → Prop} {y : PTx} (h : AllTx P y) (k : AllTx Q y) : AllTx (fun b => P b ∧ Q b) y :=
  ⟨fun a x e => ⟨h.ia a x e, k.ia a x e⟩, fun a x e => ⟨h.oa a x e, k.oa a x e⟩, fun i hi a x e => ⟨h.pre i hi a x e, k.pre i hi a x e⟩, fun z hz a x e => ⟨h.ws z hz a x e, k.ws z hz a x e⟩, fun z hz u hu a x e => ⟨h.ks z hz u hu a x e, k.ks z hz u hu a x e⟩, fun a x e => ⟨h.data a x e, k.data a x e⟩⟩
/-- All of it lies below the heap's end. -/
theorem TxIn.lt {w : World} {y : PTx} (h : TxIn w y) : AllTx (· < w.heap.size) y := by
  have hr : ∀ {n c : Nat} {a : Option Addr} {l : List UInt8}, Row w a n c l → AllO (· < w.heap.size) n a := fun h h0 x e => by
    obtain ⟨b, off, e2, hlt, _⟩ := h.2.2.2.2 h0
    rw [e] at e2
    cases e2
    exact hlt
  refine ⟨h.ins.block, h.outs.block, fun x hx => hr (show InIn w x from h.ins.2.2.2.2.1 x hx).pre, fun z hz => SliceOf.block (K := wayK9) (show OutIn w z from h.outs.2.2.2.2.1 z hz).ws, fun z hz u hu h0 x e => ?_, hr h.op.data⟩
  obtain ⟨b, off, e2, hlt, _⟩ := (show WayIn w u from (show OutIn w z from h.outs.2.2.2.2.1 z hz).ws.2.2.2.2.1 u hu).keys.2.2.2.2.2 h0
  rw [e] at e2
  cases e2
  exact hlt
/-- A block is written that none of it lies in. -/
theorem TxIn.butAll {w w' : World} {y : PTx} {p : Nat} (h : TxIn w y) (ha : AllTx (· ≠ p) y) (hn : y.sn = 0) (hb : But w.heap.size p w w') : TxIn w' y := by
  refine ⟨h.ins.moved (B := w.heap.size) (p := p) (fun h0 x e => ⟨h.ins.block h0 x e, ha.ia h0 x e⟩) (fun x hx => ?_) hb, h.outs.moved (B := w.heap.size) (p := p) (fun h0 x e => ⟨h.outs.block h0 x e, ha.oa h0 x e⟩) (fun z hz => ?_) hb,
    ⟨h.op.kind, h.op.tower, h.op.channel, h.op.amount, h.op.root, h.op.data.but hb (fun h0 b off e => ha.data h0 _ e)⟩, ?_⟩
  · have hx1 : InIn w x := h.ins.2.2.2.2.1 x hx
    exact ⟨hx1.tx, hx1.place, hx1.way, hx1.pre.but hb (fun h0 b off e => ha.pre x hx h0 _ e)⟩
  · have hz1 : OutIn w z := h.outs.2.2.2.2.1 z hz
    refine ⟨hz1.m, SliceOf.moved (K := wayK9) (B := w.heap.size) (p := p) hz1.ws (fun h0 x e => ⟨SliceOf.block (K := wayK9) hz1.ws h0 x e, ha.ws z hz h0 x e⟩) (fun u hu => ?_) hb⟩
    have hu1 : WayIn w u := hz1.ws.2.2.2.2.1 u hu
    exact ⟨hu1.keys.butO (B := w.heap.size) (pb := p) (fun h0 x e => ⟨h.lt.ks z hz u hu h0 x e, ha.ks z hz u hu h0 x e⟩) hb, hu1.sum, hu1.after, hu1.wait⟩
  · have h9 := h.signs
    rw [hn] at h9 ⊢
    exact ⟨h9.1, h9.2.1, h9.2.2.1, h9.2.2.2.1, fun s hs => (show SignIn s from h9.2.2.2.2.1 s hs), fun h0 => absurd h0 (by omega)⟩
/-- All of it is new. -/
structure NewTx (B : Nat) (y : PTx) : Prop where
  all : AllTx (B ≤ ·) y
  signs : AllO (B ≤ ·) y.sn y.sa
/-- An older block is written: it stays. -/
theorem TxIn.older {w w' : World} {y : PTx} {B p : Nat} (h : TxIn w y) (hn : NewTx B y) (hp : p < B) (hb : But w.heap.size p w w') : TxIn w' y := by
  have ha : AllTx (· ≠ p) y := hn.all.mono fun b hb => by omega
  refine ⟨h.ins.moved (B := w.heap.size) (p := p) (fun h0 x e => ⟨h.ins.block h0 x e, ha.ia h0 x e⟩) (fun x hx => ?_) hb, h.outs.moved (B := w.heap.size) (p := p) (fun h0 x e => ⟨h.outs.block h0 x e, ha.oa h0 x e⟩) (fun z hz => ?_) hb,
    ⟨h.op.kind, h.op.tower, h.op.channel, h.op.amount, h.op.root, h.op.data.but hb (fun h0 b off e => ha.data h0 _ e)⟩, ?_⟩
  · have hx1 : InIn w x := h.ins.2.2.2.2.1 x hx
    exact ⟨hx1.tx, hx1.place, hx1.way, hx1.pre.but hb (fun h0 b off e => ha.pre x hx h0 _ e)⟩
  · have hz1 : OutIn w z := h.outs.2.2.2.2.1 z hz
    refine ⟨hz1.m, SliceOf.moved (K := wayK9) (B := w.heap.size) (p := p) hz1.ws (fun h0 x e => ⟨SliceOf.block (K := wayK9) hz1.ws h0 x e, ha.ws z hz h0 x e⟩) (fun u hu => ?_) hb⟩
    have hu1 : WayIn w u := hz1.ws.2.2.2.2.1 u hu
    exact ⟨hu1.keys.butO (B := w.heap.size) (pb := p) (fun h0 x e => ⟨h.lt.ks z hz u hu h0 x e, ha.ks z hz u hu h0 x e⟩) hb, hu1.sum, hu1.after, hu1.wait⟩
  · exact h.signs.moved (B := w.heap.size) (p := p) (fun h0 x e => ⟨h.signs.block h0 x e, by have h9 := hn.signs h0 x e; omega⟩) (fun s hs => (show SignIn s from h.signs.2.2.2.2.1 s hs)) hb
/-- How all stands while one is signed. -/
structure SgTx (w0 : World) (g4 p5 p6 Bc : Nat) (y : PTx) (S : List UInt8) (w : World) : Prop where
  res : VarC w g4 35 noTx.cells
  sum : VarC w p5 23 (cellsOf S)
  var : VarC w p6 35 y.cells
  tx : TxIn w y
  lt : AllTx (· < Bc) y
  apart : AllTx (fun k => k ≠ p6 ∧ k ≠ g4) y
  l4 : g4 < Bc
  l5 : p5 < Bc
  l6 : p6 < Bc
  sn : y.sn = 0
  size : Bc ≤ w.heap.size
  but : Below w0.heap.size w0 w
  nw : AllTx (w0.heap.size ≤ ·) y
section
variable {w0 w w' : World} {g4 p5 p6 Bc : Nat} {y : PTx} {S : List UInt8}
theorem SgTx.below (h : SgTx w0 g4 p5 p6 Bc y S w) (hb : Below w.heap.size w w') : SgTx w0 g4 p5 p6 Bc y S w' :=
  ⟨h.res.below hb, h.sum.below hb, h.var.below hb, h.tx.below hb, h.lt, h.apart, h.l4, h.l5, h.l6, h.sn, Nat.le_trans h.size hb.size, h.but.trans (hb.mono h.but.size), h.nw⟩
/-- A block that came later is written. -/
theorem SgTx.newer {p : Nat} (h : SgTx w0 g4 p5 p6 Bc y S w) (hb : But w.heap.size p w w') (hp : Bc ≤ p) (h0 : w0.heap.size ≤ p) : SgTx w0 g4 p5 p6 Bc y S w' := by
  have h4 := h.l4
  have h5 := h.l5
  have h6 := h.l6
  exact ⟨h.res.but hb h.res.lt (by omega), h.sum.but hb h.sum.lt (by omega), h.var.but hb h.var.lt (by omega), h.tx.butAll (h.lt.mono fun b hb => by omega) h.sn hb, h.lt, h.apart, h.l4, h.l5, h.l6, h.sn, Nat.le_trans h.size hb.size, h.but.trans ((hb.mono h.but.size).below h0), h.nw⟩
end
theorem sign_cell15 {y : PTx} (hl : y.op.root.length = 32) : y.cells[39]? = some (.slice y.sa y.sn y.sc) := by
  have h9 := POp.len hl
  show (y.op.cells ++ [Value.slice y.sa y.sn y.sc])[37]? = _
  rw [List.getElem?_append_right (by omega), h9]
  rfl
def signS15 : SortAt Tryz.prog signK 33 83 := ⟨40, by omega, by show 33 ≤ 100000; omega, .agg noSign.cells.toArray, Tryz.underlying33, Tryz.zeroSign40, rfl⟩
def signedP (t : PTx) (z : Int) (S : List UInt8) : PTx := ⟨t.ia, t.inn, t.ic, t.ins, t.oa, t.on, t.oc, t.outs, t.op, none, 1, 0, [⟨z, S⟩]⟩
set_option linter.unusedSimpArgs false in
set_option maxRecDepth 100000 in
set_option maxHeartbeats 6400000 in
theorem txSigned_any {w : World} {t : PTx} {A : Option Addr} {cq : Nat} {z : Int} (ht : TxIn w t) (hf : FewTx t) (hff : FrontFew false t) (hk : KsAt w) (hq : Numbers w A 1 cq [z]) (hz : Fits z) :
    Calls Tryz.prog 12 #[.agg t.cells.toArray, .slice A 1 cq] w fun e w' => ∃ y : PTx, e = .returned (.agg y.cells.toArray) ∧ TxIn w' y ∧ y.strip = (signedP t z (txSum t)).strip ∧ NewTx w.heap.size y ∧ Below w.heap.size w w' := by
  obtain ⟨S, hS, hSl⟩ : ∃ S, txSum t = S ∧ S.length = 32 := ⟨_, rfl, txSum_len _⟩
  have hsum : ∀ W : World, Below w.heap.size w W → Calls Tryz.prog 10 #[.agg t.cells.toArray] W fun e w' => e = .returned (.agg (cellsOf S).toArray) ∧ Below W.heap.size W w' := fun W hW => by rw [← hS]; exact txSum_any (ht.below hW) (hk.below hW) hff
  have hcp := fun (W : World) (hW : Below w.heap.size w W) => txCopied_any (ht.below hW) hf
  rw [hS]
  have SS := Lib.hid (size_of hSl)
  have SSL := Lib.hid (sumLen hSl)
  have SZ : Hid ((cellsOf zero32).toArray.size = (cellsOf S).toArray.size) := Lib.hid (by rw [List.size_toArray, List.size_toArray, cellsOf_len, cellsOf_len, hSl]; exact zero32_len)
  have SXT := Lib.hid (tx_size (x := t) ht.op.root)
  have AXY : Hid (∀ y : PTx, y.op.root.length = 32 → (Tryz.prog.info? 35).map (·.size) = some y.cells.toArray.size) := Lib.hid (fun y h => tx_sizeA h)
  have HSL := Lib.hid hSl
  have HNQ := Lib.hid hq
  have HZ := Lib.hid hz
  clear hS hff hk hq hz hf ht hSl
  go_enter Tryz.func12, Tryz.ntmps12
  go_upto_region 1 with (first | (refine wpList_new rfl 35 rfl noTx.cells.toArray noTx15 ?_; intro r w2 hr hh hb; go_frame) | fail)
  have b0 : Below w.heap.size w (w.alloc (.cells t.cells.toArray 35)) := (Below.refl _ _).alloc (Nat.le_refl _) _
  have h1 := keep hb (heap_alloc_new w (.cells t.cells.toArray 35))
  have b2 := bthen b0 hb
  obtain ⟨g, hg⟩ : ∃ g, g = w.heap.size := ⟨_, rfl⟩
  rw [← hg] at h1 ⊢
  have hr0 : w.heap.size ≤ r := Nat.le_trans b0.size hr
  have RES : Hid (VarC w2 r 35 noTx.cells) := Lib.hid hh
  have HG1L := Lib.hid (lt_of_block hh)
  have HB2 := Lib.hid b2
  have V2 := Lib.hid h1
  have HSUM := Lib.hid (fun (W : World) (hW : Below w2.heap.size w2 W) => hsum W (bthen b2 hW))
  have HCP := Lib.hid (fun (W : World) (hW : Below w2.heap.size w2 W) => hcp W (bthen b2 hW))
  clear b0 h1 b2 hr hh hb hsum hcp hg
  go_cut [5, 6] from 11 to 14 (fun u v w' => ∃ (p5 p6 : Nat) (y : PTx), u = .pointer (some ⟨p5, 0, none⟩) ∧ v = .pointer (some ⟨p6, 0, none⟩) ∧ SgTx w r p5 p6 w'.heap.size y S w' ∧ y.strip = t.strip ∧ w.heap.size ≤ p6 ∧ r ≠ p6 ∧ (y.sa = none ∧ y.sn = 0 ∧ y.sc = 0 ∧ y.signs = []))
  case first =>
    try simp only [Act.put]
    refine wp_region_held_drew (S := fun w' => Below w2.heap.size w2 w') (by kernel_rfl) (below_drew (Below.refl _ _)) (fun hHeld => ?_)
    refine take_at (i := 0) rfl rfl (by kernel_rfl) (by kernel_rfl) (by kernel_rfl) (fun _ _ _ h => h) (yieldsIf_load_mid (by rfl) _ _ rfl g 0 rfl t.cells _ (fun w0 hSw => range_of (keep hSw V2.out)) Tryz.underlying35 rfl SXT.out) (by assumption) ?_
    simp only [nrmA, nrmB, nrmC]
    refine take_at (i := 2) rfl rfl (by kernel_rfl) (by kernel_rfl) (by kernel_rfl) (fun _ _ _ h => h) (yieldsIf_load_mid (by rfl) _ _ rfl g 0 rfl t.cells _ (fun w0 hSw => range_of (keep hSw V2.out)) Tryz.underlying35 rfl SXT.out) (by assumption) ?_
    simp only [nrmA, nrmB, nrmC]
    refine wpAnyH_ready (rs := [1, 4, 5]) (by kernel_rfl) (by simp) ?_
    refine AllReadyH.cons rfl (fun K hK => ?_) ?_
    · have HCx := Lib.hid (HSUM.out _ hHeld)
      go_simp
      go_wp2_with ((go_at_call 10; (with_reducible refine (HCx.out).mono ?_); rintro e y1 ⟨rfl, hb⟩; have HX := Lib.hid (bthen hHeld hb); clear hb HCx))
      refine hK.out _ _ (by (try dsimp only); exact HX.out) (fun hHeld => ?_)
      clear hK K
      refine wpAnyH_ready (rs := [3, 4, 5]) (by kernel_rfl) (by simp) ?_
      refine AllReadyH.cons rfl (fun K hK => ?_) ?_
      · have HCx := Lib.hid (HCP.out _ hHeld)
        go_simp
        go_wp2_with ((go_at_call 26; (with_reducible refine (HCx.out).mono ?_); rintro e y2 ⟨y, rfl, hty, hsy, hny, hsa, hsn, hsc, hss, hb⟩; have HNW : Hid (AllTx (w.heap.size ≤ ·) y) := Lib.hid (hny.mono fun b hb2 => by have h9 := HB2.out.size; have h8 := Below.size hHeld; omega); have HAG : Hid (AllTx (· ≠ r) y) := Lib.hid (hny.mono fun b hb2 => by have h9 := HG1L.out; have h8 := Below.size hHeld; omega); have HTY := Lib.hid hty; have HNY := Lib.hid hny; have HSY := Lib.hid hsy; have HSN := Lib.hid hsn; have HSA := Lib.hid (show y.sa = none ∧ y.sn = 0 ∧ y.sc = 0 ∧ y.signs = [] from ⟨hsa, hsn, hsc, hss⟩); have HX := Lib.hid (bthen hHeld hb); clear hty hny hsy hsn hsa hsc hss hb HCx))
        refine hK.out _ _ (by (try dsimp only); exact HX.out) (fun hHeld => ?_)
        clear hK K
        refine wpAnyH_ready (rs := [4, 5]) (by kernel_rfl) (by simp) ?_
        refine AllReadyH.cons rfl (fun K hK => ?_) ?_
        · refine step_alloc_of (d := 5) rfl (by rfl) 23 rfl (cellsOf zero32).toArray Tryz.zeroSum32 ?_
          intro p5 y3 hp5 hh5 hb
          have HA5 : Hid (AllTx (· ≠ p5) y) := Lib.hid (HTY.out.lt.mono fun b hb2 => by omega)
          have HTY := Lib.hid (HTY.out.below hb)
          have V5 : Hid (VarC y3 p5 23 (cellsOf zero32)) := Lib.hid hh5
          have P5 : Hid (w2.heap.size ≤ p5) := Lib.hid (Nat.le_trans (Below.size hHeld) hp5)
          have L5 := Lib.hid (lt_of_block hh5)
          have HX := Lib.hid (bthen hHeld hb)
          clear hb hh5 hp5
          refine hK.out _ _ (by (try dsimp only); exact HX.out) (fun hHeld => ?_)
          clear hK K
          refine wpAnyH_ready (rs := [5]) (by kernel_rfl) (by simp) ?_
          refine AllReadyH.cons rfl (fun K hK => ?_) ?_
          · refine step_alloc_of (d := 6) rfl (by rfl) 35 rfl noTx.cells.toArray Tryz.zeroTx160 ?_
            intro p6 y4 hp6 hh6 hb
            have HA6 : Hid (AllTx (· ≠ p6) y) := Lib.hid (HTY.out.lt.mono fun b hb2 => by omega)
            have HTY := Lib.hid (HTY.out.below hb); have V5 := Lib.hid (V5.out.below hb)
            have V6 : Hid (VarC y4 p6 35 noTx.cells) := Lib.hid hh6
            have P6 : Hid (w2.heap.size ≤ p6) := Lib.hid (Nat.le_trans (Below.size hHeld) hp6)
            have L6 := Lib.hid (lt_of_block hh6)
            have HX := Lib.hid (bthen hHeld hb)
            clear hb hh6 hp6
            refine hK.out _ _ (by (try dsimp only); exact HX.out) (fun hHeld => ?_)
            clear hK K
            refine wpAnyH_ready (rs := [6]) (by kernel_rfl) (by simp) ?_
            refine AllReadyH.cons rfl (fun K hK => ?_) ?_
            · refine step_store_row (by rfl) 23 _ _ rfl p5 (cellsOf S).toArray (by rfl) (by rfl) 23 (cellsOf zero32).toArray V5.out SS.out SZ.out (all_oneCell_toArray (cellsOf_one S)) ?_
              have hs := but_setRow y4 p5 (cellsOf S).toArray
              have V5b := Lib.hid (show VarC (y4.setRow p5 (cellsOf S).toArray) p5 23 (cellsOf S) from setRow_heap y4 p5 _ _ 23 _ V5.out)
              have V6b := Lib.hid (varC_other V6.out hs V5.out (by decide))
              have HTYb := Lib.hid (HTY.out.butAll HA5.out HSN.out hs)
              have HSS := Lib.hid ((hs.mono (Below.size hHeld)).below P5.out)
              clear hs
              revert V5b V6b HTYb HSS
              generalize World.setRow y4 _ _ = z6
              intro V5b V6b HTYb HSS
              refine hK.out _ _ (by (try dsimp only); exact Below.trans hHeld HSS.out) (fun hHeld => ?_)
              clear hK K
              refine wpAnyH_ready (rs := [7]) (by kernel_rfl) (by simp) ?_
              refine AllReadyH.cons rfl (fun K hK => ?_) ?_
              · refine step_store_row (by rfl) 35 _ _ rfl p6 y.cells.toArray (by rfl) (by rfl) 35 noTx.cells.toArray V6b.out (AXY.out y HTYb.out.op.root) (by have h9 := PTx.len HTYb.out.op.root; rw [List.size_toArray, List.size_toArray, h9]; rfl) (all_oneCell_toArray y.one) ?_
                have hs := but_setRow z6 p6 y.cells.toArray
                have V6c := Lib.hid (show VarC (z6.setRow p6 y.cells.toArray) p6 35 y.cells from setRow_heap z6 p6 _ _ 35 _ V6b.out)
                have V5c := Lib.hid (varC_other V5b.out hs V6b.out (by decide))
                have HTYc := Lib.hid (HTYb.out.butAll HA6.out HSN.out hs)
                have HST := Lib.hid ((hs.mono (Below.size hHeld)).below P6.out)
                clear hs
                revert V6c V5c HTYc HST
                generalize World.setRow z6 _ _ = z7
                intro V6c V5c HTYc HST
                refine hK.out _ _ (by (try dsimp only); exact Below.trans hHeld HST.out) (fun hHeld => ?_)
                clear hK K
                refine wpAnyH_done (by kernel_rfl) ?_ _
                have HFB := Lib.hid (show Below w2.heap.size w2 z7 from hHeld)
                clear hHeld
                have SGT : Hid (SgTx w r p5 p6 z7.heap.size y S z7) := Lib.hid ⟨VarC.below RES.out HFB.out, V5c.out, V6c.out, HTYc.out, HTYc.out.lt, HA6.out.and HAG.out, Nat.lt_of_lt_of_le HG1L.out HFB.out.size, V5c.out.lt, V6c.out.lt, HSN.out, Nat.le_refl _, bthen HB2.out HFB.out, HNW.out⟩
                go_wp2_with fail
                go_meet
                exact ⟨p5, p6, y, rfl, rfl, SGT.out, HSY.out, Nat.le_trans HB2.out.size P6.out, (by have h9 := P6.out; have h8 := HG1L.out; omega), HSA.out⟩
              exact AllReadyH.nil
            exact AllReadyH.nil
          exact AllReadyH.nil
        refine AllReadyH.cons rfl (fun K hK => ?_) ?_
        · refine step_alloc_of (d := 6) rfl (by rfl) 35 rfl noTx.cells.toArray Tryz.zeroTx160 ?_
          intro p6 y3 hp6 hh6 hb
          have HA6 : Hid (AllTx (· ≠ p6) y) := Lib.hid (HTY.out.lt.mono fun b hb2 => by omega)
          have HTY := Lib.hid (HTY.out.below hb)
          have V6 : Hid (VarC y3 p6 35 noTx.cells) := Lib.hid hh6
          have P6 : Hid (w2.heap.size ≤ p6) := Lib.hid (Nat.le_trans (Below.size hHeld) hp6)
          have L6 := Lib.hid (lt_of_block hh6)
          have HX := Lib.hid (bthen hHeld hb)
          clear hb hh6 hp6
          refine hK.out _ _ (by (try dsimp only); exact HX.out) (fun hHeld => ?_)
          clear hK K
          refine wpAnyH_ready (rs := [4]) (by kernel_rfl) (by simp) ?_
          refine AllReadyH.cons rfl (fun K hK => ?_) ?_
          · refine step_alloc_of (d := 5) rfl (by rfl) 23 rfl (cellsOf zero32).toArray Tryz.zeroSum32 ?_
            intro p5 y4 hp5 hh5 hb
            have HA5 : Hid (AllTx (· ≠ p5) y) := Lib.hid (HTY.out.lt.mono fun b hb2 => by omega)
            have HTY := Lib.hid (HTY.out.below hb); have V6 := Lib.hid (V6.out.below hb)
            have V5 : Hid (VarC y4 p5 23 (cellsOf zero32)) := Lib.hid hh5
            have P5 : Hid (w2.heap.size ≤ p5) := Lib.hid (Nat.le_trans (Below.size hHeld) hp5)
            have L5 := Lib.hid (lt_of_block hh5)
            have HX := Lib.hid (bthen hHeld hb)
            clear hb hh5 hp5
            refine hK.out _ _ (by (try dsimp only); exact HX.out) (fun hHeld => ?_)
            clear hK K
            refine wpAnyH_ready (rs := [6]) (by kernel_rfl) (by simp) ?_
            refine AllReadyH.cons rfl (fun K hK => ?_) ?_
            · refine step_store_row (by rfl) 23 _ _ rfl p5 (cellsOf S).toArray (by rfl) (by rfl) 23 (cellsOf zero32).toArray V5.out SS.out SZ.out (all_oneCell_toArray (cellsOf_one S)) ?_
              have hs := but_setRow y4 p5 (cellsOf S).toArray
              have V5b := Lib.hid (show VarC (y4.setRow p5 (cellsOf S).toArray) p5 23 (cellsOf S) from setRow_heap y4 p5 _ _ 23 _ V5.out)
              have V6b := Lib.hid (varC_other V6.out hs V5.out (by decide))
              have HTYb := Lib.hid (HTY.out.butAll HA5.out HSN.out hs)
              have HSS := Lib.hid ((hs.mono (Below.size hHeld)).below P5.out)
              clear hs
              revert V5b V6b HTYb HSS
              generalize World.setRow y4 _ _ = z6
              intro V5b V6b HTYb HSS
              refine hK.out _ _ (by (try dsimp only); exact Below.trans hHeld HSS.out) (fun hHeld => ?_)
              clear hK K
              refine wpAnyH_ready (rs := [7]) (by kernel_rfl) (by simp) ?_
              refine AllReadyH.cons rfl (fun K hK => ?_) ?_
              · refine step_store_row (by rfl) 35 _ _ rfl p6 y.cells.toArray (by rfl) (by rfl) 35 noTx.cells.toArray V6b.out (AXY.out y HTYb.out.op.root) (by have h9 := PTx.len HTYb.out.op.root; rw [List.size_toArray, List.size_toArray, h9]; rfl) (all_oneCell_toArray y.one) ?_
                have hs := but_setRow z6 p6 y.cells.toArray
                have V6c := Lib.hid (show VarC (z6.setRow p6 y.cells.toArray) p6 35 y.cells from setRow_heap z6 p6 _ _ 35 _ V6b.out)
                have V5c := Lib.hid (varC_other V5b.out hs V6b.out (by decide))
                have HTYc := Lib.hid (HTYb.out.butAll HA6.out HSN.out hs)
                have HST := Lib.hid ((hs.mono (Below.size hHeld)).below P6.out)
                clear hs
                revert V6c V5c HTYc HST
                generalize World.setRow z6 _ _ = z7
                intro V6c V5c HTYc HST
                refine hK.out _ _ (by (try dsimp only); exact Below.trans hHeld HST.out) (fun hHeld => ?_)
                clear hK K
                refine wpAnyH_done (by kernel_rfl) ?_ _
                have HFB := Lib.hid (show Below w2.heap.size w2 z7 from hHeld)
                clear hHeld
                have SGT : Hid (SgTx w r p5 p6 z7.heap.size y S z7) := Lib.hid ⟨VarC.below RES.out HFB.out, V5c.out, V6c.out, HTYc.out, HTYc.out.lt, HA6.out.and HAG.out, Nat.lt_of_lt_of_le HG1L.out HFB.out.size, V5c.out.lt, V6c.out.lt, HSN.out, Nat.le_refl _, bthen HB2.out HFB.out, HNW.out⟩
                go_wp2_with fail
                go_meet
                exact ⟨p5, p6, y, rfl, rfl, SGT.out, HSY.out, Nat.le_trans HB2.out.size P6.out, (by have h9 := P6.out; have h8 := HG1L.out; omega), HSA.out⟩
              exact AllReadyH.nil
            exact AllReadyH.nil
          exact AllReadyH.nil
        exact AllReadyH.nil
      refine AllReadyH.cons rfl (fun K hK => ?_) ?_
      · refine step_alloc_of (d := 5) rfl (by rfl) 23 rfl (cellsOf zero32).toArray Tryz.zeroSum32 ?_
        intro p5 y2 hp5 hh5 hb
        have V5 : Hid (VarC y2 p5 23 (cellsOf zero32)) := Lib.hid hh5
        have P5 : Hid (w2.heap.size ≤ p5) := Lib.hid (Nat.le_trans (Below.size hHeld) hp5)
        have L5 := Lib.hid (lt_of_block hh5)
        have HX := Lib.hid (bthen hHeld hb)
        clear hb hh5 hp5
        refine hK.out _ _ (by (try dsimp only); exact HX.out) (fun hHeld => ?_)
        clear hK K
        refine wpAnyH_ready (rs := [3, 5]) (by kernel_rfl) (by simp) ?_
        refine AllReadyH.cons rfl (fun K hK => ?_) ?_
        · have HCx := Lib.hid (HCP.out _ hHeld)
          go_simp
          go_wp2_with ((go_at_call 26; (with_reducible refine (HCx.out).mono ?_); rintro e y3 ⟨y, rfl, hty, hsy, hny, hsa, hsn, hsc, hss, hb⟩; have LV5 := Lib.hid V5.out.lt; have HNW : Hid (AllTx (w.heap.size ≤ ·) y) := Lib.hid (hny.mono fun b hb2 => by have h9 := HB2.out.size; have h8 := Below.size hHeld; omega); have HAG : Hid (AllTx (· ≠ r) y) := Lib.hid (hny.mono fun b hb2 => by have h9 := HG1L.out; have h8 := Below.size hHeld; omega); have HA5 : Hid (AllTx (· ≠ p5) y) := Lib.hid (hny.mono fun b hb2 => by have h9 := LV5.out; omega); have HTY := Lib.hid hty; have HNY := Lib.hid hny; have HSY := Lib.hid hsy; have HSN := Lib.hid hsn; have HSA := Lib.hid (show y.sa = none ∧ y.sn = 0 ∧ y.sc = 0 ∧ y.signs = [] from ⟨hsa, hsn, hsc, hss⟩); have V5 := Lib.hid (V5.out.below hb); have HX := Lib.hid (bthen hHeld hb); clear hty hny hsy hsn hsa hsc hss hb HCx))
          refine hK.out _ _ (by (try dsimp only); exact HX.out) (fun hHeld => ?_)
          clear hK K
          refine wpAnyH_ready (rs := [5]) (by kernel_rfl) (by simp) ?_
          refine AllReadyH.cons rfl (fun K hK => ?_) ?_
          · refine step_alloc_of (d := 6) rfl (by rfl) 35 rfl noTx.cells.toArray Tryz.zeroTx160 ?_
            intro p6 y4 hp6 hh6 hb
            have HA6 : Hid (AllTx (· ≠ p6) y) := Lib.hid (HTY.out.lt.mono fun b hb2 => by omega)
            have V5 := Lib.hid (V5.out.below hb); have HTY := Lib.hid (HTY.out.below hb)
            have V6 : Hid (VarC y4 p6 35 noTx.cells) := Lib.hid hh6
            have P6 : Hid (w2.heap.size ≤ p6) := Lib.hid (Nat.le_trans (Below.size hHeld) hp6)
            have L6 := Lib.hid (lt_of_block hh6)
            have HX := Lib.hid (bthen hHeld hb)
            clear hb hh6 hp6
            refine hK.out _ _ (by (try dsimp only); exact HX.out) (fun hHeld => ?_)
            clear hK K
            refine wpAnyH_ready (rs := [6]) (by kernel_rfl) (by simp) ?_
            refine AllReadyH.cons rfl (fun K hK => ?_) ?_
            · refine step_store_row (by rfl) 23 _ _ rfl p5 (cellsOf S).toArray (by rfl) (by rfl) 23 (cellsOf zero32).toArray V5.out SS.out SZ.out (all_oneCell_toArray (cellsOf_one S)) ?_
              have hs := but_setRow y4 p5 (cellsOf S).toArray
              have V5b := Lib.hid (show VarC (y4.setRow p5 (cellsOf S).toArray) p5 23 (cellsOf S) from setRow_heap y4 p5 _ _ 23 _ V5.out)
              have V6b := Lib.hid (varC_other V6.out hs V5.out (by decide))
              have HTYb := Lib.hid (HTY.out.butAll HA5.out HSN.out hs)
              have HSS := Lib.hid ((hs.mono (Below.size hHeld)).below P5.out)
              clear hs
              revert V5b V6b HTYb HSS
              generalize World.setRow y4 _ _ = z6
              intro V5b V6b HTYb HSS
              refine hK.out _ _ (by (try dsimp only); exact Below.trans hHeld HSS.out) (fun hHeld => ?_)
              clear hK K
              refine wpAnyH_ready (rs := [7]) (by kernel_rfl) (by simp) ?_
              refine AllReadyH.cons rfl (fun K hK => ?_) ?_
              · refine step_store_row (by rfl) 35 _ _ rfl p6 y.cells.toArray (by rfl) (by rfl) 35 noTx.cells.toArray V6b.out (AXY.out y HTYb.out.op.root) (by have h9 := PTx.len HTYb.out.op.root; rw [List.size_toArray, List.size_toArray, h9]; rfl) (all_oneCell_toArray y.one) ?_
                have hs := but_setRow z6 p6 y.cells.toArray
                have V6c := Lib.hid (show VarC (z6.setRow p6 y.cells.toArray) p6 35 y.cells from setRow_heap z6 p6 _ _ 35 _ V6b.out)
                have V5c := Lib.hid (varC_other V5b.out hs V6b.out (by decide))
                have HTYc := Lib.hid (HTYb.out.butAll HA6.out HSN.out hs)
                have HST := Lib.hid ((hs.mono (Below.size hHeld)).below P6.out)
                clear hs
                revert V6c V5c HTYc HST
                generalize World.setRow z6 _ _ = z7
                intro V6c V5c HTYc HST
                refine hK.out _ _ (by (try dsimp only); exact Below.trans hHeld HST.out) (fun hHeld => ?_)
                clear hK K
                refine wpAnyH_done (by kernel_rfl) ?_ _
                have HFB := Lib.hid (show Below w2.heap.size w2 z7 from hHeld)
                clear hHeld
                have SGT : Hid (SgTx w r p5 p6 z7.heap.size y S z7) := Lib.hid ⟨VarC.below RES.out HFB.out, V5c.out, V6c.out, HTYc.out, HTYc.out.lt, HA6.out.and HAG.out, Nat.lt_of_lt_of_le HG1L.out HFB.out.size, V5c.out.lt, V6c.out.lt, HSN.out, Nat.le_refl _, bthen HB2.out HFB.out, HNW.out⟩
                go_wp2_with fail
                go_meet
                exact ⟨p5, p6, y, rfl, rfl, SGT.out, HSY.out, Nat.le_trans HB2.out.size P6.out, (by have h9 := P6.out; have h8 := HG1L.out; omega), HSA.out⟩
              exact AllReadyH.nil
            exact AllReadyH.nil
          exact AllReadyH.nil
        refine AllReadyH.cons rfl (fun K hK => ?_) ?_
        · refine step_alloc_of (d := 6) rfl (by rfl) 35 rfl noTx.cells.toArray Tryz.zeroTx160 ?_
          intro p6 y3 hp6 hh6 hb
          have V5 := Lib.hid (V5.out.below hb)
          have V6 : Hid (VarC y3 p6 35 noTx.cells) := Lib.hid hh6
          have P6 : Hid (w2.heap.size ≤ p6) := Lib.hid (Nat.le_trans (Below.size hHeld) hp6)
          have L6 := Lib.hid (lt_of_block hh6)
          have HX := Lib.hid (bthen hHeld hb)
          clear hb hh6 hp6
          refine hK.out _ _ (by (try dsimp only); exact HX.out) (fun hHeld => ?_)
          clear hK K
          refine wpAnyH_ready (rs := [3]) (by kernel_rfl) (by simp) ?_
          refine AllReadyH.cons rfl (fun K hK => ?_) ?_
          · have HCx := Lib.hid (HCP.out _ hHeld)
            go_simp
            go_wp2_with ((go_at_call 26; (with_reducible refine (HCx.out).mono ?_); rintro e y4 ⟨y, rfl, hty, hsy, hny, hsa, hsn, hsc, hss, hb⟩; have LV5 := Lib.hid V5.out.lt; have LV6 := Lib.hid V6.out.lt; have HNW : Hid (AllTx (w.heap.size ≤ ·) y) := Lib.hid (hny.mono fun b hb2 => by have h9 := HB2.out.size; have h8 := Below.size hHeld; omega); have HAG : Hid (AllTx (· ≠ r) y) := Lib.hid (hny.mono fun b hb2 => by have h9 := HG1L.out; have h8 := Below.size hHeld; omega); have HA5 : Hid (AllTx (· ≠ p5) y) := Lib.hid (hny.mono fun b hb2 => by have h9 := LV5.out; omega); have HA6 : Hid (AllTx (· ≠ p6) y) := Lib.hid (hny.mono fun b hb2 => by have h9 := LV6.out; omega); have HTY := Lib.hid hty; have HNY := Lib.hid hny; have HSY := Lib.hid hsy; have HSN := Lib.hid hsn; have HSA := Lib.hid (show y.sa = none ∧ y.sn = 0 ∧ y.sc = 0 ∧ y.signs = [] from ⟨hsa, hsn, hsc, hss⟩); have V5 := Lib.hid (V5.out.below hb); have V6 := Lib.hid (V6.out.below hb); have HX := Lib.hid (bthen hHeld hb); clear hty hny hsy hsn hsa hsc hss hb HCx))
            refine hK.out _ _ (by (try dsimp only); exact HX.out) (fun hHeld => ?_)
            clear hK K
            refine wpAnyH_ready (rs := [6]) (by kernel_rfl) (by simp) ?_
            refine AllReadyH.cons rfl (fun K hK => ?_) ?_
            · refine step_store_row (by rfl) 23 _ _ rfl p5 (cellsOf S).toArray (by rfl) (by rfl) 23 (cellsOf zero32).toArray V5.out SS.out SZ.out (all_oneCell_toArray (cellsOf_one S)) ?_
              have hs := but_setRow y4 p5 (cellsOf S).toArray
              have V5b := Lib.hid (show VarC (y4.setRow p5 (cellsOf S).toArray) p5 23 (cellsOf S) from setRow_heap y4 p5 _ _ 23 _ V5.out)
              have V6b := Lib.hid (varC_other V6.out hs V5.out (by decide))
              have HTYb := Lib.hid (HTY.out.butAll HA5.out HSN.out hs)
              have HSS := Lib.hid ((hs.mono (Below.size hHeld)).below P5.out)
              clear hs
              revert V5b V6b HTYb HSS
              generalize World.setRow y4 _ _ = z6
              intro V5b V6b HTYb HSS
              refine hK.out _ _ (by (try dsimp only); exact Below.trans hHeld HSS.out) (fun hHeld => ?_)
              clear hK K
              refine wpAnyH_ready (rs := [7]) (by kernel_rfl) (by simp) ?_
              refine AllReadyH.cons rfl (fun K hK => ?_) ?_
              · refine step_store_row (by rfl) 35 _ _ rfl p6 y.cells.toArray (by rfl) (by rfl) 35 noTx.cells.toArray V6b.out (AXY.out y HTYb.out.op.root) (by have h9 := PTx.len HTYb.out.op.root; rw [List.size_toArray, List.size_toArray, h9]; rfl) (all_oneCell_toArray y.one) ?_
                have hs := but_setRow z6 p6 y.cells.toArray
                have V6c := Lib.hid (show VarC (z6.setRow p6 y.cells.toArray) p6 35 y.cells from setRow_heap z6 p6 _ _ 35 _ V6b.out)
                have V5c := Lib.hid (varC_other V5b.out hs V6b.out (by decide))
                have HTYc := Lib.hid (HTYb.out.butAll HA6.out HSN.out hs)
                have HST := Lib.hid ((hs.mono (Below.size hHeld)).below P6.out)
                clear hs
                revert V6c V5c HTYc HST
                generalize World.setRow z6 _ _ = z7
                intro V6c V5c HTYc HST
                refine hK.out _ _ (by (try dsimp only); exact Below.trans hHeld HST.out) (fun hHeld => ?_)
                clear hK K
                refine wpAnyH_done (by kernel_rfl) ?_ _
                have HFB := Lib.hid (show Below w2.heap.size w2 z7 from hHeld)
                clear hHeld
                have SGT : Hid (SgTx w r p5 p6 z7.heap.size y S z7) := Lib.hid ⟨VarC.below RES.out HFB.out, V5c.out, V6c.out, HTYc.out, HTYc.out.lt, HA6.out.and HAG.out, Nat.lt_of_lt_of_le HG1L.out HFB.out.size, V5c.out.lt, V6c.out.lt, HSN.out, Nat.le_refl _, bthen HB2.out HFB.out, HNW.out⟩
                go_wp2_with fail
                go_meet
                exact ⟨p5, p6, y, rfl, rfl, SGT.out, HSY.out, Nat.le_trans HB2.out.size P6.out, (by have h9 := P6.out; have h8 := HG1L.out; omega), HSA.out⟩
              exact AllReadyH.nil
            exact AllReadyH.nil
          exact AllReadyH.nil
        exact AllReadyH.nil
      refine AllReadyH.cons rfl (fun K hK => ?_) ?_
      · refine step_alloc_of (d := 6) rfl (by rfl) 35 rfl noTx.cells.toArray Tryz.zeroTx160 ?_
        intro p6 y2 hp6 hh6 hb
        have V6 : Hid (VarC y2 p6 35 noTx.cells) := Lib.hid hh6
        have P6 : Hid (w2.heap.size ≤ p6) := Lib.hid (Nat.le_trans (Below.size hHeld) hp6)
        have L6 := Lib.hid (lt_of_block hh6)
        have HX := Lib.hid (bthen hHeld hb)
        clear hb hh6 hp6
        refine hK.out _ _ (by (try dsimp only); exact HX.out) (fun hHeld => ?_)
        clear hK K
        refine wpAnyH_ready (rs := [3, 4]) (by kernel_rfl) (by simp) ?_
        refine AllReadyH.cons rfl (fun K hK => ?_) ?_
        · have HCx := Lib.hid (HCP.out _ hHeld)
          go_simp
          go_wp2_with ((go_at_call 26; (with_reducible refine (HCx.out).mono ?_); rintro e y3 ⟨y, rfl, hty, hsy, hny, hsa, hsn, hsc, hss, hb⟩; have LV6 := Lib.hid V6.out.lt; have HNW : Hid (AllTx (w.heap.size ≤ ·) y) := Lib.hid (hny.mono fun b hb2 => by have h9 := HB2.out.size; have h8 := Below.size hHeld; omega); have HAG : Hid (AllTx (· ≠ r) y) := Lib.hid (hny.mono fun b hb2 => by have h9 := HG1L.out; have h8 := Below.size hHeld; omega); have HA6 : Hid (AllTx (· ≠ p6) y) := Lib.hid (hny.mono fun b hb2 => by have h9 := LV6.out; omega); have HTY := Lib.hid hty; have HNY := Lib.hid hny; have HSY := Lib.hid hsy; have HSN := Lib.hid hsn; have HSA := Lib.hid (show y.sa = none ∧ y.sn = 0 ∧ y.sc = 0 ∧ y.signs = [] from ⟨hsa, hsn, hsc, hss⟩); have V6 := Lib.hid (V6.out.below hb); have HX := Lib.hid (bthen hHeld hb); clear hty hny hsy hsn hsa hsc hss hb HCx))
          refine hK.out _ _ (by (try dsimp only); exact HX.out) (fun hHeld => ?_)
          clear hK K
          refine wpAnyH_ready (rs := [4]) (by kernel_rfl) (by simp) ?_
          refine AllReadyH.cons rfl (fun K hK => ?_) ?_
          · refine step_alloc_of (d := 5) rfl (by rfl) 23 rfl (cellsOf zero32).toArray Tryz.zeroSum32 ?_
            intro p5 y4 hp5 hh5 hb
            have HA5 : Hid (AllTx (· ≠ p5) y) := Lib.hid (HTY.out.lt.mono fun b hb2 => by omega)
            have V6 := Lib.hid (V6.out.below hb); have HTY := Lib.hid (HTY.out.below hb)
            have V5 : Hid (VarC y4 p5 23 (cellsOf zero32)) := Lib.hid hh5
            have P5 : Hid (w2.heap.size ≤ p5) := Lib.hid (Nat.le_trans (Below.size hHeld) hp5)
            have L5 := Lib.hid (lt_of_block hh5)
            have HX := Lib.hid (bthen hHeld hb)
            clear hb hh5 hp5
            refine hK.out _ _ (by (try dsimp only); exact HX.out) (fun hHeld => ?_)
            clear hK K
            refine wpAnyH_ready (rs := [6]) (by kernel_rfl) (by simp) ?_
            refine AllReadyH.cons rfl (fun K hK => ?_) ?_
            · refine step_store_row (by rfl) 23 _ _ rfl p5 (cellsOf S).toArray (by rfl) (by rfl) 23 (cellsOf zero32).toArray V5.out SS.out SZ.out (all_oneCell_toArray (cellsOf_one S)) ?_
              have hs := but_setRow y4 p5 (cellsOf S).toArray
              have V5b := Lib.hid (show VarC (y4.setRow p5 (cellsOf S).toArray) p5 23 (cellsOf S) from setRow_heap y4 p5 _ _ 23 _ V5.out)
              have V6b := Lib.hid (varC_other V6.out hs V5.out (by decide))
              have HTYb := Lib.hid (HTY.out.butAll HA5.out HSN.out hs)
              have HSS := Lib.hid ((hs.mono (Below.size hHeld)).below P5.out)
              clear hs
              revert V5b V6b HTYb HSS
              generalize World.setRow y4 _ _ = z6
              intro V5b V6b HTYb HSS
              refine hK.out _ _ (by (try dsimp only); exact Below.trans hHeld HSS.out) (fun hHeld => ?_)
              clear hK K
              refine wpAnyH_ready (rs := [7]) (by kernel_rfl) (by simp) ?_
              refine AllReadyH.cons rfl (fun K hK => ?_) ?_
              · refine step_store_row (by rfl) 35 _ _ rfl p6 y.cells.toArray (by rfl) (by rfl) 35 noTx.cells.toArray V6b.out (AXY.out y HTYb.out.op.root) (by have h9 := PTx.len HTYb.out.op.root; rw [List.size_toArray, List.size_toArray, h9]; rfl) (all_oneCell_toArray y.one) ?_
                have hs := but_setRow z6 p6 y.cells.toArray
                have V6c := Lib.hid (show VarC (z6.setRow p6 y.cells.toArray) p6 35 y.cells from setRow_heap z6 p6 _ _ 35 _ V6b.out)
                have V5c := Lib.hid (varC_other V5b.out hs V6b.out (by decide))
                have HTYc := Lib.hid (HTYb.out.butAll HA6.out HSN.out hs)
                have HST := Lib.hid ((hs.mono (Below.size hHeld)).below P6.out)
                clear hs
                revert V6c V5c HTYc HST
                generalize World.setRow z6 _ _ = z7
                intro V6c V5c HTYc HST
                refine hK.out _ _ (by (try dsimp only); exact Below.trans hHeld HST.out) (fun hHeld => ?_)
                clear hK K
                refine wpAnyH_done (by kernel_rfl) ?_ _
                have HFB := Lib.hid (show Below w2.heap.size w2 z7 from hHeld)
                clear hHeld
                have SGT : Hid (SgTx w r p5 p6 z7.heap.size y S z7) := Lib.hid ⟨VarC.below RES.out HFB.out, V5c.out, V6c.out, HTYc.out, HTYc.out.lt, HA6.out.and HAG.out, Nat.lt_of_lt_of_le HG1L.out HFB.out.size, V5c.out.lt, V6c.out.lt, HSN.out, Nat.le_refl _, bthen HB2.out HFB.out, HNW.out⟩
                go_wp2_with fail
                go_meet
                exact ⟨p5, p6, y, rfl, rfl, SGT.out, HSY.out, Nat.le_trans HB2.out.size P6.out, (by have h9 := P6.out; have h8 := HG1L.out; omega), HSA.out⟩
              exact AllReadyH.nil
            exact AllReadyH.nil
          exact AllReadyH.nil
        refine AllReadyH.cons rfl (fun K hK => ?_) ?_
        · refine step_alloc_of (d := 5) rfl (by rfl) 23 rfl (cellsOf zero32).toArray Tryz.zeroSum32 ?_
          intro p5 y3 hp5 hh5 hb
          have V6 := Lib.hid (V6.out.below hb)
          have V5 : Hid (VarC y3 p5 23 (cellsOf zero32)) := Lib.hid hh5
          have P5 : Hid (w2.heap.size ≤ p5) := Lib.hid (Nat.le_trans (Below.size hHeld) hp5)
          have L5 := Lib.hid (lt_of_block hh5)
          have HX := Lib.hid (bthen hHeld hb)
          clear hb hh5 hp5
          refine hK.out _ _ (by (try dsimp only); exact HX.out) (fun hHeld => ?_)
          clear hK K
          refine wpAnyH_ready (rs := [3]) (by kernel_rfl) (by simp) ?_
          refine AllReadyH.cons rfl (fun K hK => ?_) ?_
          · have HCx := Lib.hid (HCP.out _ hHeld)
            go_simp
            go_wp2_with ((go_at_call 26; (with_reducible refine (HCx.out).mono ?_); rintro e y4 ⟨y, rfl, hty, hsy, hny, hsa, hsn, hsc, hss, hb⟩; have LV6 := Lib.hid V6.out.lt; have LV5 := Lib.hid V5.out.lt; have HNW : Hid (AllTx (w.heap.size ≤ ·) y) := Lib.hid (hny.mono fun b hb2 => by have h9 := HB2.out.size; have h8 := Below.size hHeld; omega); have HAG : Hid (AllTx (· ≠ r) y) := Lib.hid (hny.mono fun b hb2 => by have h9 := HG1L.out; have h8 := Below.size hHeld; omega); have HA5 : Hid (AllTx (· ≠ p5) y) := Lib.hid (hny.mono fun b hb2 => by have h9 := LV5.out; omega); have HA6 : Hid (AllTx (· ≠ p6) y) := Lib.hid (hny.mono fun b hb2 => by have h9 := LV6.out; omega); have HTY := Lib.hid hty; have HNY := Lib.hid hny; have HSY := Lib.hid hsy; have HSN := Lib.hid hsn; have HSA := Lib.hid (show y.sa = none ∧ y.sn = 0 ∧ y.sc = 0 ∧ y.signs = [] from ⟨hsa, hsn, hsc, hss⟩); have V6 := Lib.hid (V6.out.below hb); have V5 := Lib.hid (V5.out.below hb); have HX := Lib.hid (bthen hHeld hb); clear hty hny hsy hsn hsa hsc hss hb HCx))
            refine hK.out _ _ (by (try dsimp only); exact HX.out) (fun hHeld => ?_)
            clear hK K
            refine wpAnyH_ready (rs := [6]) (by kernel_rfl) (by simp) ?_
            refine AllReadyH.cons rfl (fun K hK => ?_) ?_
            · refine step_store_row (by rfl) 23 _ _ rfl p5 (cellsOf S).toArray (by rfl) (by rfl) 23 (cellsOf zero32).toArray V5.out SS.out SZ.out (all_oneCell_toArray (cellsOf_one S)) ?_
              have hs := but_setRow y4 p5 (cellsOf S).toArray
              have V5b := Lib.hid (show VarC (y4.setRow p5 (cellsOf S).toArray) p5 23 (cellsOf S) from setRow_heap y4 p5 _ _ 23 _ V5.out)
              have V6b := Lib.hid (varC_other V6.out hs V5.out (by decide))
              have HTYb := Lib.hid (HTY.out.butAll HA5.out HSN.out hs)
              have HSS := Lib.hid ((hs.mono (Below.size hHeld)).below P5.out)
              clear hs
              revert V5b V6b HTYb HSS
              generalize World.setRow y4 _ _ = z6
              intro V5b V6b HTYb HSS
              refine hK.out _ _ (by (try dsimp only); exact Below.trans hHeld HSS.out) (fun hHeld => ?_)
              clear hK K
              refine wpAnyH_ready (rs := [7]) (by kernel_rfl) (by simp) ?_
              refine AllReadyH.cons rfl (fun K hK => ?_) ?_
              · refine step_store_row (by rfl) 35 _ _ rfl p6 y.cells.toArray (by rfl) (by rfl) 35 noTx.cells.toArray V6b.out (AXY.out y HTYb.out.op.root) (by have h9 := PTx.len HTYb.out.op.root; rw [List.size_toArray, List.size_toArray, h9]; rfl) (all_oneCell_toArray y.one) ?_
                have hs := but_setRow z6 p6 y.cells.toArray
                have V6c := Lib.hid (show VarC (z6.setRow p6 y.cells.toArray) p6 35 y.cells from setRow_heap z6 p6 _ _ 35 _ V6b.out)
                have V5c := Lib.hid (varC_other V5b.out hs V6b.out (by decide))
                have HTYc := Lib.hid (HTYb.out.butAll HA6.out HSN.out hs)
                have HST := Lib.hid ((hs.mono (Below.size hHeld)).below P6.out)
                clear hs
                revert V6c V5c HTYc HST
                generalize World.setRow z6 _ _ = z7
                intro V6c V5c HTYc HST
                refine hK.out _ _ (by (try dsimp only); exact Below.trans hHeld HST.out) (fun hHeld => ?_)
                clear hK K
                refine wpAnyH_done (by kernel_rfl) ?_ _
                have HFB := Lib.hid (show Below w2.heap.size w2 z7 from hHeld)
                clear hHeld
                have SGT : Hid (SgTx w r p5 p6 z7.heap.size y S z7) := Lib.hid ⟨VarC.below RES.out HFB.out, V5c.out, V6c.out, HTYc.out, HTYc.out.lt, HA6.out.and HAG.out, Nat.lt_of_lt_of_le HG1L.out HFB.out.size, V5c.out.lt, V6c.out.lt, HSN.out, Nat.le_refl _, bthen HB2.out HFB.out, HNW.out⟩
                go_wp2_with fail
                go_meet
                exact ⟨p5, p6, y, rfl, rfl, SGT.out, HSY.out, Nat.le_trans HB2.out.size P6.out, (by have h9 := P6.out; have h8 := HG1L.out; omega), HSA.out⟩
              exact AllReadyH.nil
            exact AllReadyH.nil
          exact AllReadyH.nil
        exact AllReadyH.nil
      exact AllReadyH.nil
    refine AllReadyH.cons rfl (fun K hK => ?_) ?_
    · refine step_alloc_of (d := 5) rfl (by rfl) 23 rfl (cellsOf zero32).toArray Tryz.zeroSum32 ?_
      intro p5 y1 hp5 hh5 hb
      have V5 : Hid (VarC y1 p5 23 (cellsOf zero32)) := Lib.hid hh5
      have P5 : Hid (w2.heap.size ≤ p5) := Lib.hid (Nat.le_trans (Below.size hHeld) hp5)
      have L5 := Lib.hid (lt_of_block hh5)
      have HX := Lib.hid (bthen hHeld hb)
      clear hb hh5 hp5
      refine hK.out _ _ (by (try dsimp only); exact HX.out) (fun hHeld => ?_)
      clear hK K
      refine wpAnyH_ready (rs := [1, 5]) (by kernel_rfl) (by simp) ?_
      refine AllReadyH.cons rfl (fun K hK => ?_) ?_
      · have HCx := Lib.hid (HSUM.out _ hHeld)
        go_simp
        go_wp2_with ((go_at_call 10; (with_reducible refine (HCx.out).mono ?_); rintro e y2 ⟨rfl, hb⟩; have V5 := Lib.hid (V5.out.below hb); have HX := Lib.hid (bthen hHeld hb); clear hb HCx))
        refine hK.out _ _ (by (try dsimp only); exact HX.out) (fun hHeld => ?_)
        clear hK K
        refine wpAnyH_ready (rs := [3, 5]) (by kernel_rfl) (by simp) ?_
        refine AllReadyH.cons rfl (fun K hK => ?_) ?_
        · have HCx := Lib.hid (HCP.out _ hHeld)
          go_simp
          go_wp2_with ((go_at_call 26; (with_reducible refine (HCx.out).mono ?_); rintro e y3 ⟨y, rfl, hty, hsy, hny, hsa, hsn, hsc, hss, hb⟩; have LV5 := Lib.hid V5.out.lt; have HNW : Hid (AllTx (w.heap.size ≤ ·) y) := Lib.hid (hny.mono fun b hb2 => by have h9 := HB2.out.size; have h8 := Below.size hHeld; omega); have HAG : Hid (AllTx (· ≠ r) y) := Lib.hid (hny.mono fun b hb2 => by have h9 := HG1L.out; have h8 := Below.size hHeld; omega); have HA5 : Hid (AllTx (· ≠ p5) y) := Lib.hid (hny.mono fun b hb2 => by have h9 := LV5.out; omega); have HTY := Lib.hid hty; have HNY := Lib.hid hny; have HSY := Lib.hid hsy; have HSN := Lib.hid hsn; have HSA := Lib.hid (show y.sa = none ∧ y.sn = 0 ∧ y.sc = 0 ∧ y.signs = [] from ⟨hsa, hsn, hsc, hss⟩); have V5 := Lib.hid (V5.out.below hb); have HX := Lib.hid (bthen hHeld hb); clear hty hny hsy hsn hsa hsc hss hb HCx))
          refine hK.out _ _ (by (try dsimp only); exact HX.out) (fun hHeld => ?_)
          clear hK K
          refine wpAnyH_ready (rs := [5]) (by kernel_rfl) (by simp) ?_
          refine AllReadyH.cons rfl (fun K hK => ?_) ?_
          · refine step_alloc_of (d := 6) rfl (by rfl) 35 rfl noTx.cells.toArray Tryz.zeroTx160 ?_
            intro p6 y4 hp6 hh6 hb
            have HA6 : Hid (AllTx (· ≠ p6) y) := Lib.hid (HTY.out.lt.mono fun b hb2 => by omega)
            have V5 := Lib.hid (V5.out.below hb); have HTY := Lib.hid (HTY.out.below hb)
            have V6 : Hid (VarC y4 p6 35 noTx.cells) := Lib.hid hh6
            have P6 : Hid (w2.heap.size ≤ p6) := Lib.hid (Nat.le_trans (Below.size hHeld) hp6)
            have L6 := Lib.hid (lt_of_block hh6)
            have HX := Lib.hid (bthen hHeld hb)
            clear hb hh6 hp6
            refine hK.out _ _ (by (try dsimp only); exact HX.out) (fun hHeld => ?_)
            clear hK K
            refine wpAnyH_ready (rs := [6]) (by kernel_rfl) (by simp) ?_
            refine AllReadyH.cons rfl (fun K hK => ?_) ?_
            · refine step_store_row (by rfl) 23 _ _ rfl p5 (cellsOf S).toArray (by rfl) (by rfl) 23 (cellsOf zero32).toArray V5.out SS.out SZ.out (all_oneCell_toArray (cellsOf_one S)) ?_
              have hs := but_setRow y4 p5 (cellsOf S).toArray
              have V5b := Lib.hid (show VarC (y4.setRow p5 (cellsOf S).toArray) p5 23 (cellsOf S) from setRow_heap y4 p5 _ _ 23 _ V5.out)
              have V6b := Lib.hid (varC_other V6.out hs V5.out (by decide))
              have HTYb := Lib.hid (HTY.out.butAll HA5.out HSN.out hs)
              have HSS := Lib.hid ((hs.mono (Below.size hHeld)).below P5.out)
              clear hs
              revert V5b V6b HTYb HSS
              generalize World.setRow y4 _ _ = z6
              intro V5b V6b HTYb HSS
              refine hK.out _ _ (by (try dsimp only); exact Below.trans hHeld HSS.out) (fun hHeld => ?_)
              clear hK K
              refine wpAnyH_ready (rs := [7]) (by kernel_rfl) (by simp) ?_
              refine AllReadyH.cons rfl (fun K hK => ?_) ?_
              · refine step_store_row (by rfl) 35 _ _ rfl p6 y.cells.toArray (by rfl) (by rfl) 35 noTx.cells.toArray V6b.out (AXY.out y HTYb.out.op.root) (by have h9 := PTx.len HTYb.out.op.root; rw [List.size_toArray, List.size_toArray, h9]; rfl) (all_oneCell_toArray y.one) ?_
                have hs := but_setRow z6 p6 y.cells.toArray
                have V6c := Lib.hid (show VarC (z6.setRow p6 y.cells.toArray) p6 35 y.cells from setRow_heap z6 p6 _ _ 35 _ V6b.out)
                have V5c := Lib.hid (varC_other V5b.out hs V6b.out (by decide))
                have HTYc := Lib.hid (HTYb.out.butAll HA6.out HSN.out hs)
                have HST := Lib.hid ((hs.mono (Below.size hHeld)).below P6.out)
                clear hs
                revert V6c V5c HTYc HST
                generalize World.setRow z6 _ _ = z7
                intro V6c V5c HTYc HST
                refine hK.out _ _ (by (try dsimp only); exact Below.trans hHeld HST.out) (fun hHeld => ?_)
                clear hK K
                refine wpAnyH_done (by kernel_rfl) ?_ _
                have HFB := Lib.hid (show Below w2.heap.size w2 z7 from hHeld)
                clear hHeld
                have SGT : Hid (SgTx w r p5 p6 z7.heap.size y S z7) := Lib.hid ⟨VarC.below RES.out HFB.out, V5c.out, V6c.out, HTYc.out, HTYc.out.lt, HA6.out.and HAG.out, Nat.lt_of_lt_of_le HG1L.out HFB.out.size, V5c.out.lt, V6c.out.lt, HSN.out, Nat.le_refl _, bthen HB2.out HFB.out, HNW.out⟩
                go_wp2_with fail
                go_meet
                exact ⟨p5, p6, y, rfl, rfl, SGT.out, HSY.out, Nat.le_trans HB2.out.size P6.out, (by have h9 := P6.out; have h8 := HG1L.out; omega), HSA.out⟩
              exact AllReadyH.nil
            exact AllReadyH.nil
          exact AllReadyH.nil
        refine AllReadyH.cons rfl (fun K hK => ?_) ?_
        · refine step_alloc_of (d := 6) rfl (by rfl) 35 rfl noTx.cells.toArray Tryz.zeroTx160 ?_
          intro p6 y3 hp6 hh6 hb
          have V5 := Lib.hid (V5.out.below hb)
          have V6 : Hid (VarC y3 p6 35 noTx.cells) := Lib.hid hh6
          have P6 : Hid (w2.heap.size ≤ p6) := Lib.hid (Nat.le_trans (Below.size hHeld) hp6)
          have L6 := Lib.hid (lt_of_block hh6)
          have HX := Lib.hid (bthen hHeld hb)
          clear hb hh6 hp6
          refine hK.out _ _ (by (try dsimp only); exact HX.out) (fun hHeld => ?_)
          clear hK K
          refine wpAnyH_ready (rs := [3]) (by kernel_rfl) (by simp) ?_
          refine AllReadyH.cons rfl (fun K hK => ?_) ?_
          · have HCx := Lib.hid (HCP.out _ hHeld)
            go_simp
            go_wp2_with ((go_at_call 26; (with_reducible refine (HCx.out).mono ?_); rintro e y4 ⟨y, rfl, hty, hsy, hny, hsa, hsn, hsc, hss, hb⟩; have LV5 := Lib.hid V5.out.lt; have LV6 := Lib.hid V6.out.lt; have HNW : Hid (AllTx (w.heap.size ≤ ·) y) := Lib.hid (hny.mono fun b hb2 => by have h9 := HB2.out.size; have h8 := Below.size hHeld; omega); have HAG : Hid (AllTx (· ≠ r) y) := Lib.hid (hny.mono fun b hb2 => by have h9 := HG1L.out; have h8 := Below.size hHeld; omega); have HA5 : Hid (AllTx (· ≠ p5) y) := Lib.hid (hny.mono fun b hb2 => by have h9 := LV5.out; omega); have HA6 : Hid (AllTx (· ≠ p6) y) := Lib.hid (hny.mono fun b hb2 => by have h9 := LV6.out; omega); have HTY := Lib.hid hty; have HNY := Lib.hid hny; have HSY := Lib.hid hsy; have HSN := Lib.hid hsn; have HSA := Lib.hid (show y.sa = none ∧ y.sn = 0 ∧ y.sc = 0 ∧ y.signs = [] from ⟨hsa, hsn, hsc, hss⟩); have V5 := Lib.hid (V5.out.below hb); have V6 := Lib.hid (V6.out.below hb); have HX := Lib.hid (bthen hHeld hb); clear hty hny hsy hsn hsa hsc hss hb HCx))
            refine hK.out _ _ (by (try dsimp only); exact HX.out) (fun hHeld => ?_)
            clear hK K
            refine wpAnyH_ready (rs := [6]) (by kernel_rfl) (by simp) ?_
            refine AllReadyH.cons rfl (fun K hK => ?_) ?_
            · refine step_store_row (by rfl) 23 _ _ rfl p5 (cellsOf S).toArray (by rfl) (by rfl) 23 (cellsOf zero32).toArray V5.out SS.out SZ.out (all_oneCell_toArray (cellsOf_one S)) ?_
              have hs := but_setRow y4 p5 (cellsOf S).toArray
              have V5b := Lib.hid (show VarC (y4.setRow p5 (cellsOf S).toArray) p5 23 (cellsOf S) from setRow_heap y4 p5 _ _ 23 _ V5.out)
              have V6b := Lib.hid (varC_other V6.out hs V5.out (by decide))
              have HTYb := Lib.hid (HTY.out.butAll HA5.out HSN.out hs)
              have HSS := Lib.hid ((hs.mono (Below.size hHeld)).below P5.out)
              clear hs
              revert V5b V6b HTYb HSS
              generalize World.setRow y4 _ _ = z6
              intro V5b V6b HTYb HSS
              refine hK.out _ _ (by (try dsimp only); exact Below.trans hHeld HSS.out) (fun hHeld => ?_)
              clear hK K
              refine wpAnyH_ready (rs := [7]) (by kernel_rfl) (by simp) ?_
              refine AllReadyH.cons rfl (fun K hK => ?_) ?_
              · refine step_store_row (by rfl) 35 _ _ rfl p6 y.cells.toArray (by rfl) (by rfl) 35 noTx.cells.toArray V6b.out (AXY.out y HTYb.out.op.root) (by have h9 := PTx.len HTYb.out.op.root; rw [List.size_toArray, List.size_toArray, h9]; rfl) (all_oneCell_toArray y.one) ?_
                have hs := but_setRow z6 p6 y.cells.toArray
                have V6c := Lib.hid (show VarC (z6.setRow p6 y.cells.toArray) p6 35 y.cells from setRow_heap z6 p6 _ _ 35 _ V6b.out)
                have V5c := Lib.hid (varC_other V5b.out hs V6b.out (by decide))
                have HTYc := Lib.hid (HTYb.out.butAll HA6.out HSN.out hs)
                have HST := Lib.hid ((hs.mono (Below.size hHeld)).below P6.out)
                clear hs
                revert V6c V5c HTYc HST
                generalize World.setRow z6 _ _ = z7
                intro V6c V5c HTYc HST
                refine hK.out _ _ (by (try dsimp only); exact Below.trans hHeld HST.out) (fun hHeld => ?_)
                clear hK K
                refine wpAnyH_done (by kernel_rfl) ?_ _
                have HFB := Lib.hid (show Below w2.heap.size w2 z7 from hHeld)
                clear hHeld
                have SGT : Hid (SgTx w r p5 p6 z7.heap.size y S z7) := Lib.hid ⟨VarC.below RES.out HFB.out, V5c.out, V6c.out, HTYc.out, HTYc.out.lt, HA6.out.and HAG.out, Nat.lt_of_lt_of_le HG1L.out HFB.out.size, V5c.out.lt, V6c.out.lt, HSN.out, Nat.le_refl _, bthen HB2.out HFB.out, HNW.out⟩
                go_wp2_with fail
                go_meet
                exact ⟨p5, p6, y, rfl, rfl, SGT.out, HSY.out, Nat.le_trans HB2.out.size P6.out, (by have h9 := P6.out; have h8 := HG1L.out; omega), HSA.out⟩
              exact AllReadyH.nil
            exact AllReadyH.nil
          exact AllReadyH.nil
        exact AllReadyH.nil
      refine AllReadyH.cons rfl (fun K hK => ?_) ?_
      · refine step_alloc_of (d := 6) rfl (by rfl) 35 rfl noTx.cells.toArray Tryz.zeroTx160 ?_
        intro p6 y2 hp6 hh6 hb
        have V5 := Lib.hid (V5.out.below hb)
        have V6 : Hid (VarC y2 p6 35 noTx.cells) := Lib.hid hh6
        have P6 : Hid (w2.heap.size ≤ p6) := Lib.hid (Nat.le_trans (Below.size hHeld) hp6)
        have L6 := Lib.hid (lt_of_block hh6)
        have HX := Lib.hid (bthen hHeld hb)
        clear hb hh6 hp6
        refine hK.out _ _ (by (try dsimp only); exact HX.out) (fun hHeld => ?_)
        clear hK K
        refine wpAnyH_ready (rs := [1]) (by kernel_rfl) (by simp) ?_
        refine AllReadyH.cons rfl (fun K hK => ?_) ?_
        · have HCx := Lib.hid (HSUM.out _ hHeld)
          go_simp
          go_wp2_with ((go_at_call 10; (with_reducible refine (HCx.out).mono ?_); rintro e y3 ⟨rfl, hb⟩; have V5 := Lib.hid (V5.out.below hb); have V6 := Lib.hid (V6.out.below hb); have HX := Lib.hid (bthen hHeld hb); clear hb HCx))
          refine hK.out _ _ (by (try dsimp only); exact HX.out) (fun hHeld => ?_)
          clear hK K
          refine wpAnyH_ready (rs := [3]) (by kernel_rfl) (by simp) ?_
          refine AllReadyH.cons rfl (fun K hK => ?_) ?_
          · have HCx := Lib.hid (HCP.out _ hHeld)
            go_simp
            go_wp2_with ((go_at_call 26; (with_reducible refine (HCx.out).mono ?_); rintro e y4 ⟨y, rfl, hty, hsy, hny, hsa, hsn, hsc, hss, hb⟩; have LV5 := Lib.hid V5.out.lt; have LV6 := Lib.hid V6.out.lt; have HNW : Hid (AllTx (w.heap.size ≤ ·) y) := Lib.hid (hny.mono fun b hb2 => by have h9 := HB2.out.size; have h8 := Below.size hHeld; omega); have HAG : Hid (AllTx (· ≠ r) y) := Lib.hid (hny.mono fun b hb2 => by have h9 := HG1L.out; have h8 := Below.size hHeld; omega); have HA5 : Hid (AllTx (· ≠ p5) y) := Lib.hid (hny.mono fun b hb2 => by have h9 := LV5.out; omega); have HA6 : Hid (AllTx (· ≠ p6) y) := Lib.hid (hny.mono fun b hb2 => by have h9 := LV6.out; omega); have HTY := Lib.hid hty; have HNY := Lib.hid hny; have HSY := Lib.hid hsy; have HSN := Lib.hid hsn; have HSA := Lib.hid (show y.sa = none ∧ y.sn = 0 ∧ y.sc = 0 ∧ y.signs = [] from ⟨hsa, hsn, hsc, hss⟩); have V5 := Lib.hid (V5.out.below hb); have V6 := Lib.hid (V6.out.below hb); have HX := Lib.hid (bthen hHeld hb); clear hty hny hsy hsn hsa hsc hss hb HCx))
            refine hK.out _ _ (by (try dsimp only); exact HX.out) (fun hHeld => ?_)
            clear hK K
            refine wpAnyH_ready (rs := [6]) (by kernel_rfl) (by simp) ?_
            refine AllReadyH.cons rfl (fun K hK => ?_) ?_
            · refine step_store_row (by rfl) 23 _ _ rfl p5 (cellsOf S).toArray (by rfl) (by rfl) 23 (cellsOf zero32).toArray V5.out SS.out SZ.out (all_oneCell_toArray (cellsOf_one S)) ?_
              have hs := but_setRow y4 p5 (cellsOf S).toArray
              have V5b := Lib.hid (show VarC (y4.setRow p5 (cellsOf S).toArray) p5 23 (cellsOf S) from setRow_heap y4 p5 _ _ 23 _ V5.out)
              have V6b := Lib.hid (varC_other V6.out hs V5.out (by decide))
              have HTYb := Lib.hid (HTY.out.butAll HA5.out HSN.out hs)
              have HSS := Lib.hid ((hs.mono (Below.size hHeld)).below P5.out)
              clear hs
              revert V5b V6b HTYb HSS
              generalize World.setRow y4 _ _ = z6
              intro V5b V6b HTYb HSS
              refine hK.out _ _ (by (try dsimp only); exact Below.trans hHeld HSS.out) (fun hHeld => ?_)
              clear hK K
              refine wpAnyH_ready (rs := [7]) (by kernel_rfl) (by simp) ?_
              refine AllReadyH.cons rfl (fun K hK => ?_) ?_
              · refine step_store_row (by rfl) 35 _ _ rfl p6 y.cells.toArray (by rfl) (by rfl) 35 noTx.cells.toArray V6b.out (AXY.out y HTYb.out.op.root) (by have h9 := PTx.len HTYb.out.op.root; rw [List.size_toArray, List.size_toArray, h9]; rfl) (all_oneCell_toArray y.one) ?_
                have hs := but_setRow z6 p6 y.cells.toArray
                have V6c := Lib.hid (show VarC (z6.setRow p6 y.cells.toArray) p6 35 y.cells from setRow_heap z6 p6 _ _ 35 _ V6b.out)
                have V5c := Lib.hid (varC_other V5b.out hs V6b.out (by decide))
                have HTYc := Lib.hid (HTYb.out.butAll HA6.out HSN.out hs)
                have HST := Lib.hid ((hs.mono (Below.size hHeld)).below P6.out)
                clear hs
                revert V6c V5c HTYc HST
                generalize World.setRow z6 _ _ = z7
                intro V6c V5c HTYc HST
                refine hK.out _ _ (by (try dsimp only); exact Below.trans hHeld HST.out) (fun hHeld => ?_)
                clear hK K
                refine wpAnyH_done (by kernel_rfl) ?_ _
                have HFB := Lib.hid (show Below w2.heap.size w2 z7 from hHeld)
                clear hHeld
                have SGT : Hid (SgTx w r p5 p6 z7.heap.size y S z7) := Lib.hid ⟨VarC.below RES.out HFB.out, V5c.out, V6c.out, HTYc.out, HTYc.out.lt, HA6.out.and HAG.out, Nat.lt_of_lt_of_le HG1L.out HFB.out.size, V5c.out.lt, V6c.out.lt, HSN.out, Nat.le_refl _, bthen HB2.out HFB.out, HNW.out⟩
                go_wp2_with fail
                go_meet
                exact ⟨p5, p6, y, rfl, rfl, SGT.out, HSY.out, Nat.le_trans HB2.out.size P6.out, (by have h9 := P6.out; have h8 := HG1L.out; omega), HSA.out⟩
              exact AllReadyH.nil
            exact AllReadyH.nil
          exact AllReadyH.nil
        exact AllReadyH.nil
      exact AllReadyH.nil
    refine AllReadyH.cons rfl (fun K hK => ?_) ?_
    · refine step_alloc_of (d := 6) rfl (by rfl) 35 rfl noTx.cells.toArray Tryz.zeroTx160 ?_
      intro p6 y1 hp6 hh6 hb
      have V6 : Hid (VarC y1 p6 35 noTx.cells) := Lib.hid hh6
      have P6 : Hid (w2.heap.size ≤ p6) := Lib.hid (Nat.le_trans (Below.size hHeld) hp6)
      have L6 := Lib.hid (lt_of_block hh6)
      have HX := Lib.hid (bthen hHeld hb)
      clear hb hh6 hp6
      refine hK.out _ _ (by (try dsimp only); exact HX.out) (fun hHeld => ?_)
      clear hK K
      refine wpAnyH_ready (rs := [1, 4]) (by kernel_rfl) (by simp) ?_
      refine AllReadyH.cons rfl (fun K hK => ?_) ?_
      · have HCx := Lib.hid (HSUM.out _ hHeld)
        go_simp
        go_wp2_with ((go_at_call 10; (with_reducible refine (HCx.out).mono ?_); rintro e y2 ⟨rfl, hb⟩; have V6 := Lib.hid (V6.out.below hb); have HX := Lib.hid (bthen hHeld hb); clear hb HCx))
        refine hK.out _ _ (by (try dsimp only); exact HX.out) (fun hHeld => ?_)
        clear hK K
        refine wpAnyH_ready (rs := [3, 4]) (by kernel_rfl) (by simp) ?_
        refine AllReadyH.cons rfl (fun K hK => ?_) ?_
        · have HCx := Lib.hid (HCP.out _ hHeld)
          go_simp
          go_wp2_with ((go_at_call 26; (with_reducible refine (HCx.out).mono ?_); rintro e y3 ⟨y, rfl, hty, hsy, hny, hsa, hsn, hsc, hss, hb⟩; have LV6 := Lib.hid V6.out.lt; have HNW : Hid (AllTx (w.heap.size ≤ ·) y) := Lib.hid (hny.mono fun b hb2 => by have h9 := HB2.out.size; have h8 := Below.size hHeld; omega); have HAG : Hid (AllTx (· ≠ r) y) := Lib.hid (hny.mono fun b hb2 => by have h9 := HG1L.out; have h8 := Below.size hHeld; omega); have HA6 : Hid (AllTx (· ≠ p6) y) := Lib.hid (hny.mono fun b hb2 => by have h9 := LV6.out; omega); have HTY := Lib.hid hty; have HNY := Lib.hid hny; have HSY := Lib.hid hsy; have HSN := Lib.hid hsn; have HSA := Lib.hid (show y.sa = none ∧ y.sn = 0 ∧ y.sc = 0 ∧ y.signs = [] from ⟨hsa, hsn, hsc, hss⟩); have V6 := Lib.hid (V6.out.below hb); have HX := Lib.hid (bthen hHeld hb); clear hty hny hsy hsn hsa hsc hss hb HCx))
          refine hK.out _ _ (by (try dsimp only); exact HX.out) (fun hHeld => ?_)
          clear hK K
          refine wpAnyH_ready (rs := [4]) (by kernel_rfl) (by simp) ?_
          refine AllReadyH.cons rfl (fun K hK => ?_) ?_
          · refine step_alloc_of (d := 5) rfl (by rfl) 23 rfl (cellsOf zero32).toArray Tryz.zeroSum32 ?_
            intro p5 y4 hp5 hh5 hb
            have HA5 : Hid (AllTx (· ≠ p5) y) := Lib.hid (HTY.out.lt.mono fun b hb2 => by omega)
            have V6 := Lib.hid (V6.out.below hb); have HTY := Lib.hid (HTY.out.below hb)
            have V5 : Hid (VarC y4 p5 23 (cellsOf zero32)) := Lib.hid hh5
            have P5 : Hid (w2.heap.size ≤ p5) := Lib.hid (Nat.le_trans (Below.size hHeld) hp5)
            have L5 := Lib.hid (lt_of_block hh5)
            have HX := Lib.hid (bthen hHeld hb)
            clear hb hh5 hp5
            refine hK.out _ _ (by (try dsimp only); exact HX.out) (fun hHeld => ?_)
            clear hK K
            refine wpAnyH_ready (rs := [6]) (by kernel_rfl) (by simp) ?_
            refine AllReadyH.cons rfl (fun K hK => ?_) ?_
            · refine step_store_row (by rfl) 23 _ _ rfl p5 (cellsOf S).toArray (by rfl) (by rfl) 23 (cellsOf zero32).toArray V5.out SS.out SZ.out (all_oneCell_toArray (cellsOf_one S)) ?_
              have hs := but_setRow y4 p5 (cellsOf S).toArray
              have V5b := Lib.hid (show VarC (y4.setRow p5 (cellsOf S).toArray) p5 23 (cellsOf S) from setRow_heap y4 p5 _ _ 23 _ V5.out)
              have V6b := Lib.hid (varC_other V6.out hs V5.out (by decide))
              have HTYb := Lib.hid (HTY.out.butAll HA5.out HSN.out hs)
              have HSS := Lib.hid ((hs.mono (Below.size hHeld)).below P5.out)
              clear hs
              revert V5b V6b HTYb HSS
              generalize World.setRow y4 _ _ = z6
              intro V5b V6b HTYb HSS
              refine hK.out _ _ (by (try dsimp only); exact Below.trans hHeld HSS.out) (fun hHeld => ?_)
              clear hK K
              refine wpAnyH_ready (rs := [7]) (by kernel_rfl) (by simp) ?_
              refine AllReadyH.cons rfl (fun K hK => ?_) ?_
              · refine step_store_row (by rfl) 35 _ _ rfl p6 y.cells.toArray (by rfl) (by rfl) 35 noTx.cells.toArray V6b.out (AXY.out y HTYb.out.op.root) (by have h9 := PTx.len HTYb.out.op.root; rw [List.size_toArray, List.size_toArray, h9]; rfl) (all_oneCell_toArray y.one) ?_
                have hs := but_setRow z6 p6 y.cells.toArray
                have V6c := Lib.hid (show VarC (z6.setRow p6 y.cells.toArray) p6 35 y.cells from setRow_heap z6 p6 _ _ 35 _ V6b.out)
                have V5c := Lib.hid (varC_other V5b.out hs V6b.out (by decide))
                have HTYc := Lib.hid (HTYb.out.butAll HA6.out HSN.out hs)
                have HST := Lib.hid ((hs.mono (Below.size hHeld)).below P6.out)
                clear hs
                revert V6c V5c HTYc HST
                generalize World.setRow z6 _ _ = z7
                intro V6c V5c HTYc HST
                refine hK.out _ _ (by (try dsimp only); exact Below.trans hHeld HST.out) (fun hHeld => ?_)
                clear hK K
                refine wpAnyH_done (by kernel_rfl) ?_ _
                have HFB := Lib.hid (show Below w2.heap.size w2 z7 from hHeld)
                clear hHeld
                have SGT : Hid (SgTx w r p5 p6 z7.heap.size y S z7) := Lib.hid ⟨VarC.below RES.out HFB.out, V5c.out, V6c.out, HTYc.out, HTYc.out.lt, HA6.out.and HAG.out, Nat.lt_of_lt_of_le HG1L.out HFB.out.size, V5c.out.lt, V6c.out.lt, HSN.out, Nat.le_refl _, bthen HB2.out HFB.out, HNW.out⟩
                go_wp2_with fail
                go_meet
                exact ⟨p5, p6, y, rfl, rfl, SGT.out, HSY.out, Nat.le_trans HB2.out.size P6.out, (by have h9 := P6.out; have h8 := HG1L.out; omega), HSA.out⟩
              exact AllReadyH.nil
            exact AllReadyH.nil
          exact AllReadyH.nil
        refine AllReadyH.cons rfl (fun K hK => ?_) ?_
        · refine step_alloc_of (d := 5) rfl (by rfl) 23 rfl (cellsOf zero32).toArray Tryz.zeroSum32 ?_
          intro p5 y3 hp5 hh5 hb
          have V6 := Lib.hid (V6.out.below hb)
          have V5 : Hid (VarC y3 p5 23 (cellsOf zero32)) := Lib.hid hh5
          have P5 : Hid (w2.heap.size ≤ p5) := Lib.hid (Nat.le_trans (Below.size hHeld) hp5)
          have L5 := Lib.hid (lt_of_block hh5)
          have HX := Lib.hid (bthen hHeld hb)
          clear hb hh5 hp5
          refine hK.out _ _ (by (try dsimp only); exact HX.out) (fun hHeld => ?_)
          clear hK K
          refine wpAnyH_ready (rs := [3]) (by kernel_rfl) (by simp) ?_
          refine AllReadyH.cons rfl (fun K hK => ?_) ?_
          · have HCx := Lib.hid (HCP.out _ hHeld)
            go_simp
            go_wp2_with ((go_at_call 26; (with_reducible refine (HCx.out).mono ?_); rintro e y4 ⟨y, rfl, hty, hsy, hny, hsa, hsn, hsc, hss, hb⟩; have LV6 := Lib.hid V6.out.lt; have LV5 := Lib.hid V5.out.lt; have HNW : Hid (AllTx (w.heap.size ≤ ·) y) := Lib.hid (hny.mono fun b hb2 => by have h9 := HB2.out.size; have h8 := Below.size hHeld; omega); have HAG : Hid (AllTx (· ≠ r) y) := Lib.hid (hny.mono fun b hb2 => by have h9 := HG1L.out; have h8 := Below.size hHeld; omega); have HA5 : Hid (AllTx (· ≠ p5) y) := Lib.hid (hny.mono fun b hb2 => by have h9 := LV5.out; omega); have HA6 : Hid (AllTx (· ≠ p6) y) := Lib.hid (hny.mono fun b hb2 => by have h9 := LV6.out; omega); have HTY := Lib.hid hty; have HNY := Lib.hid hny; have HSY := Lib.hid hsy; have HSN := Lib.hid hsn; have HSA := Lib.hid (show y.sa = none ∧ y.sn = 0 ∧ y.sc = 0 ∧ y.signs = [] from ⟨hsa, hsn, hsc, hss⟩); have V6 := Lib.hid (V6.out.below hb); have V5 := Lib.hid (V5.out.below hb); have HX := Lib.hid (bthen hHeld hb); clear hty hny hsy hsn hsa hsc hss hb HCx))
            refine hK.out _ _ (by (try dsimp only); exact HX.out) (fun hHeld => ?_)
            clear hK K
            refine wpAnyH_ready (rs := [6]) (by kernel_rfl) (by simp) ?_
            refine AllReadyH.cons rfl (fun K hK => ?_) ?_
            · refine step_store_row (by rfl) 23 _ _ rfl p5 (cellsOf S).toArray (by rfl) (by rfl) 23 (cellsOf zero32).toArray V5.out SS.out SZ.out (all_oneCell_toArray (cellsOf_one S)) ?_
              have hs := but_setRow y4 p5 (cellsOf S).toArray
              have V5b := Lib.hid (show VarC (y4.setRow p5 (cellsOf S).toArray) p5 23 (cellsOf S) from setRow_heap y4 p5 _ _ 23 _ V5.out)
              have V6b := Lib.hid (varC_other V6.out hs V5.out (by decide))
              have HTYb := Lib.hid (HTY.out.butAll HA5.out HSN.out hs)
              have HSS := Lib.hid ((hs.mono (Below.size hHeld)).below P5.out)
              clear hs
              revert V5b V6b HTYb HSS
              generalize World.setRow y4 _ _ = z6
              intro V5b V6b HTYb HSS
              refine hK.out _ _ (by (try dsimp only); exact Below.trans hHeld HSS.out) (fun hHeld => ?_)
              clear hK K
              refine wpAnyH_ready (rs := [7]) (by kernel_rfl) (by simp) ?_
              refine AllReadyH.cons rfl (fun K hK => ?_) ?_
              · refine step_store_row (by rfl) 35 _ _ rfl p6 y.cells.toArray (by rfl) (by rfl) 35 noTx.cells.toArray V6b.out (AXY.out y HTYb.out.op.root) (by have h9 := PTx.len HTYb.out.op.root; rw [List.size_toArray, List.size_toArray, h9]; rfl) (all_oneCell_toArray y.one) ?_
                have hs := but_setRow z6 p6 y.cells.toArray
                have V6c := Lib.hid (show VarC (z6.setRow p6 y.cells.toArray) p6 35 y.cells from setRow_heap z6 p6 _ _ 35 _ V6b.out)
                have V5c := Lib.hid (varC_other V5b.out hs V6b.out (by decide))
                have HTYc := Lib.hid (HTYb.out.butAll HA6.out HSN.out hs)
                have HST := Lib.hid ((hs.mono (Below.size hHeld)).below P6.out)
                clear hs
                revert V6c V5c HTYc HST
                generalize World.setRow z6 _ _ = z7
                intro V6c V5c HTYc HST
                refine hK.out _ _ (by (try dsimp only); exact Below.trans hHeld HST.out) (fun hHeld => ?_)
                clear hK K
                refine wpAnyH_done (by kernel_rfl) ?_ _
                have HFB := Lib.hid (show Below w2.heap.size w2 z7 from hHeld)
                clear hHeld
                have SGT : Hid (SgTx w r p5 p6 z7.heap.size y S z7) := Lib.hid ⟨VarC.below RES.out HFB.out, V5c.out, V6c.out, HTYc.out, HTYc.out.lt, HA6.out.and HAG.out, Nat.lt_of_lt_of_le HG1L.out HFB.out.size, V5c.out.lt, V6c.out.lt, HSN.out, Nat.le_refl _, bthen HB2.out HFB.out, HNW.out⟩
                go_wp2_with fail
                go_meet
                exact ⟨p5, p6, y, rfl, rfl, SGT.out, HSY.out, Nat.le_trans HB2.out.size P6.out, (by have h9 := P6.out; have h8 := HG1L.out; omega), HSA.out⟩
              exact AllReadyH.nil
            exact AllReadyH.nil
          exact AllReadyH.nil
        exact AllReadyH.nil
      refine AllReadyH.cons rfl (fun K hK => ?_) ?_
      · refine step_alloc_of (d := 5) rfl (by rfl) 23 rfl (cellsOf zero32).toArray Tryz.zeroSum32 ?_
        intro p5 y2 hp5 hh5 hb
        have V6 := Lib.hid (V6.out.below hb)
        have V5 : Hid (VarC y2 p5 23 (cellsOf zero32)) := Lib.hid hh5
        have P5 : Hid (w2.heap.size ≤ p5) := Lib.hid (Nat.le_trans (Below.size hHeld) hp5)
        have L5 := Lib.hid (lt_of_block hh5)
        have HX := Lib.hid (bthen hHeld hb)
        clear hb hh5 hp5
        refine hK.out _ _ (by (try dsimp only); exact HX.out) (fun hHeld => ?_)
        clear hK K
        refine wpAnyH_ready (rs := [1]) (by kernel_rfl) (by simp) ?_
        refine AllReadyH.cons rfl (fun K hK => ?_) ?_
        · have HCx := Lib.hid (HSUM.out _ hHeld)
          go_simp
          go_wp2_with ((go_at_call 10; (with_reducible refine (HCx.out).mono ?_); rintro e y3 ⟨rfl, hb⟩; have V6 := Lib.hid (V6.out.below hb); have V5 := Lib.hid (V5.out.below hb); have HX := Lib.hid (bthen hHeld hb); clear hb HCx))
          refine hK.out _ _ (by (try dsimp only); exact HX.out) (fun hHeld => ?_)
          clear hK K
          refine wpAnyH_ready (rs := [3]) (by kernel_rfl) (by simp) ?_
          refine AllReadyH.cons rfl (fun K hK => ?_) ?_
          · have HCx := Lib.hid (HCP.out _ hHeld)
            go_simp
            go_wp2_with ((go_at_call 26; (with_reducible refine (HCx.out).mono ?_); rintro e y4 ⟨y, rfl, hty, hsy, hny, hsa, hsn, hsc, hss, hb⟩; have LV6 := Lib.hid V6.out.lt; have LV5 := Lib.hid V5.out.lt; have HNW : Hid (AllTx (w.heap.size ≤ ·) y) := Lib.hid (hny.mono fun b hb2 => by have h9 := HB2.out.size; have h8 := Below.size hHeld; omega); have HAG : Hid (AllTx (· ≠ r) y) := Lib.hid (hny.mono fun b hb2 => by have h9 := HG1L.out; have h8 := Below.size hHeld; omega); have HA5 : Hid (AllTx (· ≠ p5) y) := Lib.hid (hny.mono fun b hb2 => by have h9 := LV5.out; omega); have HA6 : Hid (AllTx (· ≠ p6) y) := Lib.hid (hny.mono fun b hb2 => by have h9 := LV6.out; omega); have HTY := Lib.hid hty; have HNY := Lib.hid hny; have HSY := Lib.hid hsy; have HSN := Lib.hid hsn; have HSA := Lib.hid (show y.sa = none ∧ y.sn = 0 ∧ y.sc = 0 ∧ y.signs = [] from ⟨hsa, hsn, hsc, hss⟩); have V6 := Lib.hid (V6.out.below hb); have V5 := Lib.hid (V5.out.below hb); have HX := Lib.hid (bthen hHeld hb); clear hty hny hsy hsn hsa hsc hss hb HCx))
            refine hK.out _ _ (by (try dsimp only); exact HX.out) (fun hHeld => ?_)
            clear hK K
            refine wpAnyH_ready (rs := [6]) (by kernel_rfl) (by simp) ?_
            refine AllReadyH.cons rfl (fun K hK => ?_) ?_
            · refine step_store_row (by rfl) 23 _ _ rfl p5 (cellsOf S).toArray (by rfl) (by rfl) 23 (cellsOf zero32).toArray V5.out SS.out SZ.out (all_oneCell_toArray (cellsOf_one S)) ?_
              have hs := but_setRow y4 p5 (cellsOf S).toArray
              have V5b := Lib.hid (show VarC (y4.setRow p5 (cellsOf S).toArray) p5 23 (cellsOf S) from setRow_heap y4 p5 _ _ 23 _ V5.out)
              have V6b := Lib.hid (varC_other V6.out hs V5.out (by decide))
              have HTYb := Lib.hid (HTY.out.butAll HA5.out HSN.out hs)
              have HSS := Lib.hid ((hs.mono (Below.size hHeld)).below P5.out)
              clear hs
              revert V5b V6b HTYb HSS
              generalize World.setRow y4 _ _ = z6
              intro V5b V6b HTYb HSS
              refine hK.out _ _ (by (try dsimp only); exact Below.trans hHeld HSS.out) (fun hHeld => ?_)
              clear hK K
              refine wpAnyH_ready (rs := [7]) (by kernel_rfl) (by simp) ?_
              refine AllReadyH.cons rfl (fun K hK => ?_) ?_
              · refine step_store_row (by rfl) 35 _ _ rfl p6 y.cells.toArray (by rfl) (by rfl) 35 noTx.cells.toArray V6b.out (AXY.out y HTYb.out.op.root) (by have h9 := PTx.len HTYb.out.op.root; rw [List.size_toArray, List.size_toArray, h9]; rfl) (all_oneCell_toArray y.one) ?_
                have hs := but_setRow z6 p6 y.cells.toArray
                have V6c := Lib.hid (show VarC (z6.setRow p6 y.cells.toArray) p6 35 y.cells from setRow_heap z6 p6 _ _ 35 _ V6b.out)
                have V5c := Lib.hid (varC_other V5b.out hs V6b.out (by decide))
                have HTYc := Lib.hid (HTYb.out.butAll HA6.out HSN.out hs)
                have HST := Lib.hid ((hs.mono (Below.size hHeld)).below P6.out)
                clear hs
                revert V6c V5c HTYc HST
                generalize World.setRow z6 _ _ = z7
                intro V6c V5c HTYc HST
                refine hK.out _ _ (by (try dsimp only); exact Below.trans hHeld HST.out) (fun hHeld => ?_)
                clear hK K
                refine wpAnyH_done (by kernel_rfl) ?_ _
                have HFB := Lib.hid (show Below w2.heap.size w2 z7 from hHeld)
                clear hHeld
                have SGT : Hid (SgTx w r p5 p6 z7.heap.size y S z7) := Lib.hid ⟨VarC.below RES.out HFB.out, V5c.out, V6c.out, HTYc.out, HTYc.out.lt, HA6.out.and HAG.out, Nat.lt_of_lt_of_le HG1L.out HFB.out.size, V5c.out.lt, V6c.out.lt, HSN.out, Nat.le_refl _, bthen HB2.out HFB.out, HNW.out⟩
                go_wp2_with fail
                go_meet
                exact ⟨p5, p6, y, rfl, rfl, SGT.out, HSY.out, Nat.le_trans HB2.out.size P6.out, (by have h9 := P6.out; have h8 := HG1L.out; omega), HSA.out⟩
              exact AllReadyH.nil
            exact AllReadyH.nil
          exact AllReadyH.nil
        exact AllReadyH.nil
      exact AllReadyH.nil
    exact AllReadyH.nil
  case rest =>
    obtain ⟨p5, p6, y, rfl, rfl, hsg, hsy, hp6, hng, hsa⟩ := hcut
    obtain ⟨ia, inn, ic, ins, oa, on, oc, outs, op, sa, sn, sc, ss⟩ := y
    dsimp only at hsa
    obtain ⟨rfl, rfl, rfl, rfl⟩ := hsa
    have SG := Lib.hid hsg
    have HROOT := Lib.hid hsg.tx.op.root
    have HCB := Lib.hid hsg.but
    have HP6B := Lib.hid hp6
    have HNG := Lib.hid hng
    have HSY := Lib.hid hsy
    have BCW := Lib.hid hsg.size
    have HBC0 := Lib.hid hsg.but.size
    clear hsg hp6 hng hsy HSUM HCP V2 SXT SS SZ RES
    have HCL := Lib.hid (clone_any (HNQ.out.below SG.out.but) (by omega))
    go_wp2_with fail
    refine HCL.out.mono ?_
    rintro e w3 ⟨v, rfl, hov, hb3⟩
    have SG := Lib.hid (SG.out.below hb3)
    have hbs : w.heap.size ≤ wc.heap.size := by have := HCB.out.size; exact this
    have hwc3 : wc.heap.size ≤ w3.heap.size := hb3.size
    have OV := Lib.hid hov
    obtain ⟨b, cv, rfl, hbB, _, _, _, _⟩ := ownZ_where hov
    clear hov hb3 HCL HNQ
    go_upto_region 3 with (fail)
    have b4 : Below w3.heap.size w3 (w3.alloc (.cells #[.slice (some ⟨b, 0, none⟩) 1 cv] 47)) := (Below.refl _ _).alloc (Nat.le_refl _) _
    have h7 : VarC (w3.alloc (.cells #[.slice (some ⟨b, 0, none⟩) 1 cv] 47)) w3.heap.size 47 [.slice (some ⟨b, 0, none⟩) 1 cv] := heap_alloc_new _ _
    revert b4 h7
    generalize (w3.alloc (.cells #[.slice (some ⟨b, 0, none⟩) 1 cv] 47)) = w4
    obtain ⟨p7, hp7⟩ : ∃ p, p = w3.heap.size := ⟨_, rfl⟩
    rw [← hp7]
    intro b4 h7
    rw [hp7] at b4
    have SG := Lib.hid (SG.out.below b4)
    have OV := Lib.hid (OV.out.below b4)
    have V7 := Lib.hid h7
    have hwc4 : wc.heap.size ≤ w4.heap.size := Nat.le_trans hwc3 b4.size
    have HSO := Lib.hid (sort_any OV.out hwc4 (by simp))
    have c7 : w4.cell? ⟨p7, 0, none⟩ = some (.slice (some ⟨b, 0, none⟩) 1 cv) := (V7.out.cell 0).trans rfl
    obtain ⟨_, _, e, _, ⟨cur, hcur⟩, _, _, _⟩ := ownZ_where OV.out
    cases e
    have HCUR := Lib.hid hcur
    clear h7 b4 hp7 hcur OV
    go_wp2_with fail
    refine HSO.out.mono ?_
    rintro e w5 ⟨rfl, ho5, hg5, _⟩
    have hbt : But w4.heap.size b w4 w5 := ⟨hg5.os, hg5.tape, hg5.output, hg5.size, fun k hk hne => hg5.block k hk (fun e => hne (by cases e; rfl))⟩
    have SG := Lib.hid (SG.out.newer hbt hbB (by omega))
    have V7 := Lib.hid (varC_other V7.out hbt HCUR.out (by decide))
    have hz1 : sortedZ [z] = [z] := by simp [sortedZ]
    rw [hz1] at ho5
    have hwc5 : wc.heap.size ≤ w5.heap.size := Nat.le_trans hwc4 hbt.size
    obtain ⟨_, _, e, _, ⟨cur5, hcur5⟩, hcb, _, _⟩ := ownZ_where ho5
    cases e
    have HCB5 := Lib.hid hcb
    have HCU5 := Lib.hid hcur5
    have hlb := lt_of_block hcur5
    have c7' : w5.cell? ⟨p7, 0, none⟩ = some (.slice (some ⟨b, 0, none⟩) 1 cv) := (V7.out.cell 0).trans rfl
    have f7 := V7.out.free 0
    clear c7 ho5 hg5 hbt hz1 hcb hcur5 HSO HCUR
    go_upto_region 5 with (first | (go_at_call 29; (with_reducible refine (compact_one _ _ _).mono ?_); rintro e w9 ⟨rfl, rfl⟩) | fail)
    have hb6 := store_same (i := 0) (v := .slice (some ⟨b, 0, none⟩) 1 cv) V7.out rfl
    have SG6 := Lib.hid (SG.out.below hb6)
    have V76 := Lib.hid (V7.out.below hb6)
    have HC6 := Lib.hid ((hb6.cell (p := ⟨b, 0, none⟩) hlb).trans HCB5.out)
    have HBB6 := Lib.hid ((hb6.block b hlb).trans HCU5.out)
    have hwc6 := Nat.le_trans hwc5 hb6.size
    clear c7' f7 hb6 SG V7 HCB5 HCU5 hlb
    revert SG6 V76 HC6 HBB6 hwc6
    generalize World.setCell w5 _ _ = w6
    intro SG6 V76 HC6 HBB6 hwc6
    have c39 : w6.cell? ⟨p6, 39, none⟩ = some (.slice none 0 0) := (SG6.out.var.cell 39).trans (sign_cell15 HROOT.out)
    have c7 : w6.cell? ⟨p7, 0, none⟩ = some (.slice (some ⟨b, 0, none⟩) 1 cv) := (V76.out.cell 0).trans rfl
    have hmf : ∀ (fn : Fn) (first cap : Array Value) (w : World), (Instr.makeFunc fn first cap).run Tryz.prog w = .ok (.func fn first cap) w := fun _ _ _ _ => rfl
    go_upto_region 7 with (first | (go_at_call 30; (with_reducible refine (deleteSign_nil _ _).mono ?_); rintro e w9 ⟨rfl, rfl⟩) | fail)
    clear c39 c7 V76
    obtain ⟨Y, hY⟩ : ∃ Y : PSign, Y = ⟨z, S⟩ := ⟨_, rfl⟩
    have hYl : Y.sum.length = 32 := by rw [hY]; exact HSL.out
    have hYs : SignIn Y := by rw [hY]; exact ⟨HZ.out, HSL.out⟩
    have HY := Lib.hid hY
    have HYL := Lib.hid (PSign.len hYl)
    have HYS := Lib.hid hYs
    clear hY hYl hYs
    go_loopw [8, 27] (fun l i wr => ∃ (k : Nat) (a8 : Option Addr) (c8 : Nat), k ≤ 1 ∧ i = .int .i64 k ∧ l = .slice a8 k c8 ∧ OwnOf signK 83 wr wc.heap.size (.slice a8 k c8) (([Y] : List PSign).take k) ∧ SgTx w r p5 p6 wc.heap.size (⟨ia, inn, ic, ins, oa, on, oc, outs, op, none, 0, 0, []⟩ : PTx) S wr ∧ wr.cell? ⟨b, 0, none⟩ = some (.int .i64 z) ∧ wc.heap.size ≤ wr.heap.size ∧ ∃ cb, wr.heap[b]? = some (.cells cb 3 (0, 0))) (fun _ i _ => 1 - (intOf i).toNat)
    case atStart => exact ⟨0, none, 0, by omega, rfl, rfl, OwnOf.nil _ _ _ _, SG6.out, HC6.out, hwc6, ⟨_, HBB6.out⟩⟩
    case round =>
      obtain ⟨k, a8, c8, hk, rfl, rfl, ho8, hs8, hcz, hwr, cb, hcb⟩ := hrel
      have hbr := lt_of_block hcb
      have HCB9 := Lib.hid hcb
      have SG := Lib.hid hs8
      clear SG6 HC6 HBB6 hs8 hwc6 hcb
      by_cases hk0 : k = 0
      · subst hk0
        have O8 := Lib.hid (show OwnOf signK 83 wr wc.heap.size (.slice a8 0 c8) [] from ho8)
        have RS5 := Lib.hid SG.out.sum.range
        have HCZ0 := Lib.hid hcz
        have HWR := Lib.hid hwr
        have HBR0 := Lib.hid hbr
        clear ho8
        go_wp2_with (first | (refine wpList_load_mid rfl 23 _ rfl p5 0 rfl (cellsOf S) _ RS5.out Tryz.underlying23 rfl SSL.out ?_) | (refine wpList_build_sign rfl _ _ rfl z S rfl rfl HSL.out HY.out ?_) | (refine wpList_lit_of signS15 rfl _ rfl Y rfl HYL.out ?_; intro p9 w9 _ hlit hbl; have O9 := Lib.hid (O8.out.below hbl); have HP9 := Lib.hid hlit; have SG9 := Lib.hid (SG.out.below hbl); have HBK := Lib.hid ((hbl.block b HBR0.out).trans HCB9.out); have HCZ := Lib.hid ((hbl.cell (p := ⟨b, 0, none⟩) HBR0.out).trans HCZ0.out); have HSZ9 := Lib.hid SG9.out.size; have HW9 := Lib.hid (Nat.le_trans HWR.out hbl.size); have HB9 := Lib.hid (Nat.lt_of_lt_of_le HBR0.out hbl.size); clear hlit hbl) | (at_builtin; refine wpList_append_of signS15 rfl _ _ rfl rfl wc.heap.size (.slice a8 0 c8) [] rfl O9.out p9 Y rfl HP9.out HYL.out (by simp) HSZ9.out ?_; intro aa cc wa ho hg; have HOA := Lib.hid ho; have HGA := Lib.hid hg; clear ho hg) | fail)
        have hfin : SgTx w r p5 p6 wc.heap.size (⟨ia, inn, ic, ins, oa, on, oc, outs, op, none, 0, 0, []⟩ : PTx) S wa ∧ wa.cell? ⟨b, 0, none⟩ = some (.int .i64 z) ∧ wc.heap.size ≤ wa.heap.size ∧ ∃ cb, wa.heap[b]? = some (.cells cb 3 (0, 0)) := by
          rcases O9.out.step HGA.out with hb | ⟨gg, cs, _, hBg, hh, hb⟩
          · exact ⟨SG9.out.below hb, (hb.cell (p := ⟨b, 0, none⟩) HB9.out).trans HCZ.out, Nat.le_trans HW9.out hb.size, ⟨_, (hb.block b HB9.out).trans HBK.out⟩⟩
          · have hne : b ≠ gg := fun e => by
              have h9 := HBK.out
              rw [e, hh] at h9
              simp at h9
            exact ⟨SG9.out.newer hb hBg (Nat.le_trans HBC0.out hBg), (hb.cell (a := ⟨b, 0, none⟩) HB9.out hne).trans HCZ.out, Nat.le_trans HW9.out hb.size, ⟨_, (hb.block b HB9.out hne).trans HBK.out⟩⟩
        obtain ⟨f1, f2, f3, f4⟩ := hfin
        go_roundw
        case rel => exact ⟨1, aa, cc, by omega, by go_num, rfl, HOA.out, f1, f2, f3, f4⟩
        case measure => simp [intOf]
      · obtain rfl : k = 1 := by omega
        have O8 := Lib.hid (show OwnOf signK 83 wr wc.heap.size (.slice a8 1 c8) [Y] from ho8)
        have c39 : wr.cell? ⟨p6, 39, none⟩ = some (.slice none 0 0) := (SG.out.var.cell 39).trans (sign_cell15 HROOT.out)
        have f39 := SG.out.var.free 39
        clear ho8 hcz
        go_upto_region 13 with (first | (go_at_call 33; (with_reducible refine (sortSign_one _ _ _ _).mono ?_); rintro e w9 ⟨rfl, rfl⟩) | fail)
        have hs := (But.refl wr.heap.size p6 wr).setCell ⟨p6, 39, none⟩ (.inl rfl) (.slice a8 1 c8)
        have VF := Lib.hid (show VarC (wr.setCell ⟨p6, 39, none⟩ (.slice a8 1 c8)) p6 35 (⟨ia, inn, ic, ins, oa, on, oc, outs, op, a8, 1, c8, [Y]⟩ : PTx).cells from VarC.put1 (pre := .slice ia inn ic :: .slice oa on oc :: op.cells) (post := []) (u := .slice none 0 0) SG.out.var (by simp [POp.len HROOT.out]))
        have hne : r ≠ p6 := HNG.out
        have RF := Lib.hid (SG.out.res.but hs SG.out.res.lt hne)
        have OF := Lib.hid (SG.out.tx.butAll (SG.out.apart.mono fun b hb => hb.1) rfl hs)
        have AF := Lib.hid SG.out.apart
        have NF := Lib.hid SG.out.nw
        have O8F := Lib.hid (O8.out.but hs (not_typed SG.out.var (by decide)))
        have BF := Lib.hid (SG.out.but.trans ((hs.mono SG.out.but.size).below HP6B.out))
        clear hs c39 f39 SG O8 hne
        revert VF RF OF O8F BF
        generalize World.setCell wr _ _ = wz
        intro VF RF OF O8F BF
        have RX := Lib.hid VF.out.range
        have SX := Lib.hid (tx_size (x := (⟨ia, inn, ic, ins, oa, on, oc, outs, op, a8, 1, c8, [Y]⟩ : PTx)) HROOT.out)
        have AX := Lib.hid (tx_sizeA (x := (⟨ia, inn, ic, ins, oa, on, oc, outs, op, a8, 1, c8, [Y]⟩ : PTx)) HROOT.out)
        go_wp2_with (first | (refine wpList_load_mid rfl 35 _ rfl p6 0 rfl (⟨ia, inn, ic, ins, oa, on, oc, outs, op, a8, 1, c8, [Y]⟩ : PTx).cells _ RX.out Tryz.underlying35 rfl SX.out ?_) | (refine wpList_store_row rfl 35 _ _ rfl r (⟨ia, inn, ic, ins, oa, on, oc, outs, op, a8, 1, c8, [Y]⟩ : PTx).cells.toArray rfl rfl 35 noTx.cells.toArray RF.out AX.out (by rw [List.size_toArray, List.size_toArray, PTx.len (x := (⟨ia, inn, ic, ins, oa, on, oc, outs, op, a8, 1, c8, [Y]⟩ : PTx)) HROOT.out]; rfl) (all_oneCell_toArray (PTx.one _)) ?_) | fail)
        refine bodyPost_ret (results_cell_row rfl _ _ r 35 (⟨ia, inn, ic, ins, oa, on, oc, outs, op, a8, 1, c8, [Y]⟩ : PTx).cells.toArray (0, 0) _ rfl (setRow_heap wz r _ _ 35 _ RF.out) Tryz.underlying35 rfl AX.out) rfl ?_
        have hfb := but_setRow wz r (⟨ia, inn, ic, ins, oa, on, oc, outs, op, a8, 1, c8, [Y]⟩ : PTx).cells.toArray
        have hfx := OF.out.butAll (AF.out.mono fun b hb => hb.2) rfl hfb
        have e := congrArg (fun p : PTx => (⟨p.ia, p.inn, p.ic, p.ins, p.oa, p.on, p.oc, p.outs, p.op, none, 1, 0, [⟨z, S⟩]⟩ : PTx)) HSY.out
        refine ⟨(⟨ia, inn, ic, ins, oa, on, oc, outs, op, a8, 1, c8, [Y]⟩ : PTx), rfl, ⟨hfx.ins, hfx.outs, hfx.op, (O8F.out.but hfb (not_typed RF.out (by decide))).slice (fun y hy => by simp at hy; subst hy; exact HYS.out)⟩, ?_, ⟨⟨NF.out.ia, NF.out.oa, NF.out.pre, NF.out.ws, NF.out.ks, NF.out.data⟩, fun _ x e2 => by obtain ⟨a2, c2, e3, h3⟩ := O8F.out.shape; cases e3; exact Nat.le_trans HBC0.out (h3 x e2)⟩, BF.out.trans ((hfb.mono BF.out.size).below (by omega))⟩
        rw [HY.out]
        exact e
end Go.Proofs.YtnjnomebcggccaaGreatDoor
