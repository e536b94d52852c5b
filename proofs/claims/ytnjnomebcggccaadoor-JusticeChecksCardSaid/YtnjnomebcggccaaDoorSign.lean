/- A variable that holds a way: what is stored into its parts; and numbers that are read into it. What getWay comes to: a way is read, whatever the error. A slice of ways of the call's own, that grows by append; and how all stands while an out is read. What lock.Get comes to: an out is read, whatever the error. How all stands while ins, ops, signs and transactions are read. Clone, Sort and BinarySearch at []int, over slices of numbers of the call's own. Steps that walks of signing want: rows of signs of one, what the library does with one. What tx.Signed comes to, of any transaction without signs, by one key. -/
import Derived.Test.YtnjnomebcggccaaDoorLock
import Derived.Test.YtnjnomebcggccaaDoorOwnZ
import Derived.Test.YtnjnomebcggccaaDoorMemory
import Derived.Test.YtnjnomebcggccaaDoorTx
import Derived.Test.YtnjnomebcggccaaDoorShelf
import Derived.Test.YtnjnomebcggccaaDoorCopy
import Derived.Sort.OwnSortedInts
import Derived.Lib.BufferMore
namespace Go.Proofs.YtnjnomebcggccaaDoor
open Go.RowKit

def setL : List Value → Nat → List Value → List Value
  | cs, _, [] => cs
  | cs, o, v :: vs => setL (cs.set o v) (o + 1) vs
theorem setL_mid : ∀ (vs mid pre post : List Value), vs.length = mid.length → setL (pre ++ (mid ++ post)) pre.length vs = pre ++ (vs ++ post)
  | [], [], _, _, _ => rfl
  | [], _ :: _, _, _, h => by simp at h
  | _ :: _, [], _, _, h => by simp at h
  | v :: vs, m :: mid, pre, post, h => by
    have e : (pre ++ (m :: mid ++ post)).set pre.length v = (pre ++ [v]) ++ (mid ++ post) := by simp
    show setL ((pre ++ (m :: mid ++ post)).set pre.length v) (pre.length + 1) vs = _
    rw [e, show pre.length + 1 = (pre ++ [v]).length by simp, setL_mid vs mid (pre ++ [v]) post (by simpa using h)]
    simp
theorem heap_setCells {b : Nat} {t : TypeId} : ∀ (vs : List Value) (o : Nat) (w : World) (cs : List Value), w.heap[b]? = some (.cells cs.toArray t (0, 0)) → (w.setCells b o vs).heap[b]? = some (.cells (setL cs o vs).toArray t (0, 0))
  | [], _, _, _, h => h
  | v :: vs, o, w, cs, h => by
    have h1 := heap_setCell_same w b o cs.toArray t v h
    rw [List.setIfInBounds_toArray] at h1
    exact heap_setCells vs (o + 1) (w.setCell ⟨b, o, none⟩ v) (cs.set o v) h1
theorem but_setCells {B b : Nat} : ∀ (vs : List Value) (o : Nat) (w : World), But B b w (w.setCells b o vs)
  | [], _, _ => But.refl _ _ _
  | v :: vs, o, _ => ((But.refl _ b _).setCell ⟨b, o, none⟩ (.inl rfl) v).trans (but_setCells vs (o + 1) _)
/-- A block that holds a way. -/
def VarW (w : World) (g : Nat) (x : PWay) : Prop := w.heap[g]? = some (.cells x.cells.toArray 50 (0, 0))
theorem VarW.lt {w : World} {g : Nat} {x : PWay} (h : VarW w g x) : g < w.heap.size := lt_of_block h
theorem VarW.free {w : World} {g : Nat} {x : PWay} (h : VarW w g x) (i : Nat) : w.frozen? ⟨g, i, none⟩ = false := by
  unfold VarW at h
  simp [World.frozen?, h]
theorem VarW.cell {w : World} {g : Nat} {x : PWay} (h : VarW w g x) (i : Nat) : w.cell? ⟨g, i, none⟩ = x.cells[i]? := by
  rw [cell_of_row _ _ _ _ _ _ h]
  simp
theorem VarW.there {w : World} {g o n : Nat} {x : PWay} (h : VarW w g x) (hs : x.h.length = 32) (ho : o + n ≤ 35) : w.there g o n := fun j hj => by
  refine ⟨?_, h.free _⟩
  rw [h.cell, List.getElem?_eq_getElem (by rw [PWay.cells_len hs]; omega)]
  rfl
theorem VarW.range {w : World} {g : Nat} {x : PWay} (h : VarW w g x) : w.rangeAt g 0 x.cells := range_of h
theorem VarW.but {w w' : World} {g B p : Nat} {x : PWay} (h : VarW w g x) (hb : But B p w w') (hB : g < B) (hne : g ≠ p) : VarW w' g x := hb.heap h hB hne
theorem VarW.below {w w' : World} {g : Nat} {x : PWay} (h : VarW w g x) (hb : Below w.heap.size w w') : VarW w' g x := (hb.block g h.lt).trans h
theorem VarW.keys {w : World} {g n c : Nat} {a : Option Addr} {x : PWay} (h : VarW w g x) : VarW (w.setCell ⟨g, 0, none⟩ (.slice a n c)) g { x with a := a, n := n, c := c } := by
  have h1 := heap_setCells [.slice a n c] 0 w _ h
  have e : setL x.cells 0 [.slice a n c] = ({ x with a := a, n := n, c := c } : PWay).cells := setL_mid [.slice a n c] [.slice x.a x.n x.c] [] (cellsOf x.h ++ [.int .i64 x.after, .int .i64 x.wait]) rfl
  rw [e] at h1
  exact h1
theorem VarW.sum {w : World} {g : Nat} {x : PWay} {s : List UInt8} (h : VarW w g x) (hs : x.h.length = 32) (hs' : s.length = 32) : VarW (w.setCells g 1 (cellsOf s)) g { x with h := s } := by
  have h1 := heap_setCells (cellsOf s) 1 w _ h
  have e : setL x.cells 1 (cellsOf s) = ({ x with h := s } : PWay).cells := setL_mid (cellsOf s) (cellsOf x.h) [.slice x.a x.n x.c] [.int .i64 x.after, .int .i64 x.wait] (by rw [cellsOf_len, cellsOf_len, hs, hs'])
  rw [e] at h1
  exact h1
theorem VarW.setAfter {w : World} {g : Nat} {x : PWay} {z : Int} (h : VarW w g x) (hs : x.h.length = 32) : VarW (w.setCell ⟨g, 33, none⟩ (.int .i64 z)) g { x with after := z } := by
  have h1 := heap_setCells [.int .i64 z] 33 w _ h
  have hl : (Value.slice x.a x.n x.c :: cellsOf x.h).length = 33 := by simp [cellsOf_len, hs]
  have e : setL x.cells 33 [.int .i64 z] = ({ x with after := z } : PWay).cells := by
    have e2 := setL_mid [.int .i64 z] [.int .i64 x.after] (.slice x.a x.n x.c :: cellsOf x.h) [.int .i64 x.wait] rfl
    rw [hl] at e2
    simpa [PWay.cells] using e2
  rw [e] at h1
  exact h1
theorem VarW.setWait {w : World} {g : Nat} {x : PWay} {z : Int} (h : VarW w g x) (hs : x.h.length = 32) : VarW (w.setCell ⟨g, 34, none⟩ (.int .i64 z)) g { x with wait := z } := by
  have h1 := heap_setCells [.int .i64 z] 34 w _ h
  have hl : (Value.slice x.a x.n x.c :: (cellsOf x.h ++ [.int .i64 x.after])).length = 34 := by simp [cellsOf_len, hs]
  have e : setL x.cells 34 [.int .i64 z] = ({ x with wait := z } : PWay).cells := by
    have e2 := setL_mid [.int .i64 z] [.int .i64 x.wait] (.slice x.a x.n x.c :: (cellsOf x.h ++ [.int .i64 x.after])) [] rfl
    rw [hl] at e2
    simpa [PWay.cells] using e2
  rw [e] at h1
  exact h1
theorem OwnZ.but {w w' : World} {e : TypeId} {B p : Nat} {v : Value} {l : List Int} (h : OwnZ w e B v l) (hb : But w.heap.size p w w') (hp : p < B) : OwnZ w' e B v l := by
  refine ⟨⟨h.1.1, ?_⟩, h.2⟩
  rcases h.1.2 with h0 | ⟨g, cap, cur, hv, hB, hh, r⟩
  · exact .inl h0
  · exact .inr ⟨g, cap, cur, hv, hB, hb.heap hh (lt_of_block hh) (by omega), r⟩
theorem OwnZ.other {w : World} {B b : Nat} {v : Value} {l : List Int} {cs : Array Value} {t : TypeId} {fr : Nat × Nat} (h : OwnZ w 3 B v l) (hb : w.heap[b]? = some (.cells cs t fr)) (ht : t ≠ 3) : v.ownBlock ≠ some b := by
  rcases h.1.2 with ⟨rfl, _⟩ | ⟨g, cap, cur, rfl, _, hh, _⟩
  · intro e; cases e
  · intro e
    simp [Value.ownBlock] at e
    subst e
    rw [hh] at hb
    simp at hb
    exact ht hb.2.1.symm
/-- A slice literal of one number, in a region. -/
theorem step_one_gen {ops : Array Oper} {o : Oper} {tmps : Array Value} {ds : List Deferred} {w : World} {K : Act → World → Prop} {Q : Exit → Act → World → Prop} {E : Prop} {d : Nat} {u : Operand} {y : Int} (hd : o.dst = some d) (hw : Region.wanted o (yielded ops tmps) = true) (ho : o.op = .buildSlice 48 1 #[(0, u)])
    (hu : Act.eval { tmps := tmps, defers := ds } u = .int .i64 y)
    (h : ∀ (p : Nat) (w' : World), w'.heap[p]? = some (.cells #[.int .i64 y] 3 (0, 0)) → Below w.heap.size w w' → K { tmps := tmps.setIfInBounds d (.slice (some ⟨p, 0, none⟩) 1 1), defers := ds } w') :
    if Region.wanted o (yielded ops tmps) = true then Oper.wp Tryd.prog o { tmps := tmps, defers := ds } w K Q else E := by
  rw [if_pos hw]
  obtain ⟨ie, h1, h2, h3, _⟩ := info_parts (show (Tryd.prog.info? 3).map (fun i => (i.zero, i.size, i.bytes)) = some (some (.int .i64 0), 1, 8) by kernel_rfl)
  have hrun : (Instr.buildSlice 48 1 #[(0, .int .i64 y)]).run Tryd.prog w = .ok (.slice (some ⟨w.heap.size, 0, none⟩) 1 1) (w.alloc (.cells #[.int .i64 y] 3)) :=
    run_buildSlice w 48 3 1 _ _ ie _ Tryd.underlying48 h1 h2 (by rw [h3]; omega) (by rw [h3]; omega) (by rw [h3]; simp [Instr.fill, Value.cells]; rw [show Array.range 1 = #[0] by rfl]; simp)
  unfold Oper.wp execOp
  simp only [ho, List.map_toArray, List.map_cons, List.map_nil, hu, Sem.run_bind, hrun, Sem.run_pure, Result.andThen_ok]
  show K (Act.put _ o.dst _) _
  rw [hd]
  exact h _ _ (heap_alloc_new _ _) ((Below.refl _ _).alloc (Nat.le_refl _) _)
/-- 'append' of numbers, in a region. -/
theorem step_append_z {ops : Array Oper} {o : Oper} {tmps : Array Value} {ds : List Deferred} {w : World} {K : Act → World → Prop} {Q : Exit → Act → World → Prop} {E : Prop} {d : Nat} (hd : o.dst = some d) (hw : Region.wanted o (yielded ops tmps) = true) (x y : Operand)
    (ho : o.op = .call { callee := .builtin .append, args := #[x, y], argTypes := #[48, 48] }) (hty : o.type = 48) (B : Nat) (v : Value) (l : List Int) (hx : (Act.eval { tmps := tmps, defers := ds } x) = v) (h : OwnZ w 3 B v l) (ad : Option Addr) (m c : Nat) (q : List Int) (hy : (Act.eval { tmps := tmps, defers := ds } y) = .slice ad m c) (hq : Numbers w ad m c q) (hb : l.length + m ≤ 1000000) (hbase : B ≤ w.heap.size)
    (hk : ∀ a' c' w', OwnZ w' 3 B (.slice a' (l.length + m) c') (l ++ q) → w.grownBy w' v.ownBlock → K { tmps := tmps.setIfInBounds d (.slice a' (l.length + m) c'), defers := ds } w') :
    if Region.wanted o (yielded ops tmps) = true then Oper.wp Tryd.prog o { tmps := tmps, defers := ds } w K Q else E := by
  rw [if_pos hw]
  obtain ⟨ie, i1, i2, i3, i4⟩ := info_parts (show (Tryd.prog.info? 3).map (fun i => (i.zero, i.size, i.bytes)) = some (some (.int .i64 0), 1, 8) by kernel_rfl)
  obtain ⟨a', c', w', h1, h2, h3⟩ := append_numbers (P := Tryd.prog) w B 48 48 3 ie Tryd.underlying48 i1 i2 i3 i4 v l h ad m c q hq hb hbase
  unfold Oper.wp execOp
  simp only [ho, hty, resolve, invoke, builtin, Sem.run_bind, Sem.run_pure, Result.andThen_ok, List.map_toArray, List.map_cons, List.map_nil, hx, hy, h1]
  show K (Act.put _ o.dst _) _
  rw [hd]
  exact hk a' c' w' h2 h3
end Go.Proofs.YtnjnomebcggccaaDoor
namespace Go.Proofs.YtnjnomebcggccaaDoor
open Go.RowKit

/-- New: no older block holds it. -/
def NewB (B : Nat) (a : Option Addr) : Prop := ∀ ad, a = some ad → B ≤ ad.block
/-- Where a way's keys lie: in a block of numbers. -/
def KeyTag (w : World) (x : PWay) : Prop := 0 < x.n → ∃ b off cs fr, x.a = some ⟨b, off, none⟩ ∧ w.heap[b]? = some (.cells cs 3 fr)
theorem OwnZ.tag {w : World} {B n c : Nat} {a : Option Addr} {l : List Int} (h : OwnZ w 3 B (.slice a n c) l) : (0 < n → ∃ b off cs fr, a = some ⟨b, off, none⟩ ∧ w.heap[b]? = some (.cells cs 3 fr)) ∧ ∀ ad, a = some ad → B ≤ ad.block := by
  rcases h.1.2 with ⟨hv, h1⟩ | ⟨g, cap, cur, hv, hB, hh, r⟩
  · cases hv
    exact ⟨fun h0 => absurd h0 (by omega), fun ad e => by cases e⟩
  · cases hv
    exact ⟨fun _ => ⟨g, 0, _, _, rfl, hh⟩, fun ad e => by cases e; exact hB⟩
end Go.Proofs.YtnjnomebcggccaaDoor
namespace Go.Proofs.YtnjnomebcggccaaDoor
open Go.RowKit

def cellsW (xs : List PWay) : List Value := xs.flatMap PWay.cells
theorem cellsW_append (l m : List PWay) : cellsW (l ++ m) = cellsW l ++ cellsW m := by simp [cellsW]
theorem cellsW_single (x : PWay) : cellsW [x] = x.cells := by simp [cellsW]
theorem cellsW_len : ∀ {xs : List PWay}, (∀ x ∈ xs, x.h.length = 32) → (cellsW xs).length = xs.length * 35
  | [], _ => rfl
  | x :: xs, h => by
    have ih := cellsW_len (xs := xs) (fun y hy => h y (by simp [hy]))
    have hs := PWay.cells_len (h x (by simp))
    show (x.cells ++ cellsW xs).length = _
    rw [List.length_append, ih, hs, List.length_cons, Nat.add_mul]
    omega
theorem cellsW_get : ∀ {xs : List PWay}, (∀ x ∈ xs, x.h.length = 32) → ∀ {j i : Nat}, j < xs.length → i < 35 → (cellsW xs)[j * 35 + i]? = (xs.getD j noWay).cells[i]?
  | [], _, _, _, hj, _ => by simp at hj
  | x :: xs, h, 0, i, _, hi => by
    have hs := PWay.cells_len (h x (by simp))
    show (x.cells ++ cellsW xs)[0 * 35 + i]? = x.cells[i]?
    rw [Nat.zero_mul, Nat.zero_add, List.getElem?_append_left (by rw [hs]; exact hi)]
  | x :: xs, h, j + 1, i, hj, hi => by
    have ih := cellsW_get (xs := xs) (fun y hy => h y (by simp [hy])) (j := j) (i := i) (by simpa using hj) hi
    have hs := PWay.cells_len (h x (by simp))
    show (x.cells ++ cellsW xs)[(j + 1) * 35 + i]? = (xs.getD j noWay).cells[i]?
    rw [List.getElem?_append_right (by rw [hs]; omega), hs, ← ih]
    congr 1
    omega
theorem cellsW_one {xs : List PWay} : ∀ v ∈ cellsW xs, v.oneCell' = true := by
  intro v hv
  obtain ⟨x, _, hx⟩ := List.mem_flatMap.1 hv
  exact x.cells_one v hx
/-- A slice of ways of the call's own. -/
def OwnW (w : World) (B : Nat) (v : Value) (xs : List PWay) : Prop := w.ownsRow B 50 35 v xs.length (cellsW xs) ∧ ∀ x ∈ xs, x.h.length = 32
theorem OwnW.shape {w : World} {B : Nat} {v : Value} {xs : List PWay} (h : OwnW w B v xs) : ∃ a c, v = .slice a xs.length c ∧ (∀ x, a = some x → B ≤ x.block) := by
  rcases h.1.2 with ⟨rfl, h0⟩ | ⟨g, cap, cur, rfl, hB, _⟩
  · exact ⟨none, 0, by rw [h0], fun x e => by cases e⟩
  · exact ⟨_, _, rfl, fun x e => by cases e; exact hB⟩
theorem OwnW.ways {w : World} {B : Nat} {a : Option Addr} {n c : Nat} {xs : List PWay} (h : OwnW w B (.slice a n c) xs) (hx : ∀ x ∈ xs, WayIn w x) : Ways w a n c xs := by
  rcases h.1.2 with ⟨hv, h0⟩ | ⟨g, cap, cur, hv, hB, hh, h1, h2, h3, h4⟩
  · cases hv
    obtain rfl : xs = [] := List.eq_nil_of_length_eq_zero h0
    exact Ways.nil w
  · cases hv
    refine ⟨rfl, h1, h2, (fun e => by cases e), hx, fun _ => ⟨g, 0, rfl, lt_of_block hh, fun j hj i v hv => ?_⟩⟩
    have hi : i < 35 := by
      have h5 := (List.getElem?_eq_some_iff.1 hv).1
      have h6 : (xs.getD j noWay).h.length = 32 := by
        rw [List.getD_eq_getElem?_getD, List.getElem?_eq_getElem hj]
        exact h.2 _ (List.getElem_mem hj)
      rw [PWay.cells_len h6] at h5
      exact h5
    rw [Nat.zero_add, cell_of_row w g _ _ _ _ hh, ← hv, ← cellsW_get h.2 hj hi, ← h4, List.getElem?_take, if_pos (by omega)]
    simp
theorem OwnW.lt {w : World} {B : Nat} {v : Value} {xs : List PWay} (h : OwnW w B v xs) : ∀ k, v.ownBlock = some k → B ≤ k ∧ k < w.heap.size := fun k e => World.ownsRow.lt h.1 k e
theorem OwnW.nil (w : World) (B : Nat) : OwnW w B (.slice none 0 0) [] := ⟨World.ownsRow_nil w B _ _, fun _ h => by cases h⟩
theorem OwnW.but {w w' : World} {B p : Nat} {v : Value} {xs : List PWay} (h : OwnW w B v xs) (hb : But w.heap.size p w w') (hp : ∀ cs fr, w.heap[p]? ≠ some (.cells cs 50 fr)) : OwnW w' B v xs := by
  refine ⟨⟨h.1.1, ?_⟩, h.2⟩
  rcases h.1.2 with h0 | ⟨g, cap, cur, hv, hB, hh, r⟩
  · exact .inl h0
  · have hg : g ≠ p := fun e => by subst e; exact hp _ _ hh
    exact .inr ⟨g, cap, cur, hv, hB, hb.heap hh (lt_of_block hh) hg, r⟩
theorem OwnW.below {w w' : World} {B : Nat} {v : Value} {xs : List PWay} (h : OwnW w B v xs) (hb : Below w.heap.size w w') : OwnW w' B v xs :=
  ⟨World.ownsRow.kept h.1 (row := none) ⟨hb.os, hb.tape, hb.output, hb.size, fun k hk _ => hb.block k hk⟩ (by cases h' : v.ownBlock <;> simp), h.2⟩
theorem OwnW.other {w : World} {B b : Nat} {v : Value} {xs : List PWay} {cs : Array Value} {t : TypeId} {fr : Nat × Nat} (h : OwnW w B v xs) (hb : w.heap[b]? = some (.cells cs t fr)) (ht : t ≠ 50) : v.ownBlock ≠ some b := by
  rcases h.1.2 with ⟨rfl, _⟩ | ⟨g, cap, cur, rfl, _, hh, _⟩
  · intro e; cases e
  · intro e
    simp [Value.ownBlock] at e
    subst e
    rw [hh] at hb
    simp at hb
    exact ht hb.2.1.symm
theorem OwnW.grows {w w' : World} {B : Nat} {v : Value} {xs : List PWay} (h : OwnW w B v xs) (hg : w.grownBy w' v.ownBlock) (hB : B ≤ w.heap.size) : Below B w w' :=
  ⟨hg.os, hg.tape, hg.output, hg.size, fun k hk => hg.block k (by omega) (fun e => by have := (h.lt k e.symm).1; omega)⟩
/-- A literal of one way. -/
theorem fill_way {x : PWay} (h : x.h.length = 32) (init : Array Value) (hi : init.size = 35) : Instr.fill (fun i => some (i * 35, 35)) init #[(0, Value.agg x.cells.toArray)].toList = some x.cells.toArray := by
  have hl := PWay.cells_len h
  obtain ⟨r, h1, h2, h3⟩ := Great.fill_dense (s := 35) (by omega) [Value.agg x.cells.toArray] 0 init (fun v hv => by
    simp at hv
    subst hv
    show x.cells.toArray.size = 35
    rw [List.size_toArray, hl]) (by simp; omega)
  have e : Instr.fill (fun i => some (i * 35, 35)) init #[(0, Value.agg x.cells.toArray)].toList = some r := h1
  rw [e]
  congr 1
  apply Array.ext_getElem?
  intro k
  rw [h3 k]
  by_cases hk : k < 35
  · have e1 : k / 35 = 0 := by omega
    have e2 : k % 35 = k := by omega
    rw [if_pos (by simp; omega)]
    simp [e1, e2, Value.cells]
  · rw [if_neg (by simp; omega), Array.getElem?_eq_none (by omega), Array.getElem?_eq_none (by rw [List.size_toArray, hl]; omega)]
theorem Tryd.zeroWay72 : (Tryd.prog.info? 50).map (fun i => (i.zero, i.size, i.bytes)) = some (some (.agg noWay.cells.toArray), 35, 72) := by kernel_rfl
theorem step_way_gen {ops : Array Oper} {o : Oper} {tmps : Array Value} {ds : List Deferred} {w : World} {K : Act → World → Prop} {Q : Exit → Act → World → Prop} {E : Prop} {d : Nat} {u : Operand} {x : PWay} (hd : o.dst = some d) (hw : Region.wanted o (yielded ops tmps) = true) (ho : o.op = .buildSlice 45 1 #[(0, u)])
    (hu : Act.eval { tmps := tmps, defers := ds } u = .agg x.cells.toArray) (hx : x.h.length = 32)
    (h : ∀ (p : Nat) (w' : World), w'.heap[p]? = some (.cells x.cells.toArray 50 (0, 0)) → Below w.heap.size w w' → K { tmps := tmps.setIfInBounds d (.slice (some ⟨p, 0, none⟩) 1 1), defers := ds } w') :
    if Region.wanted o (yielded ops tmps) = true then Oper.wp Tryd.prog o { tmps := tmps, defers := ds } w K Q else E := by
  rw [if_pos hw]
  obtain ⟨ie, h1, h2, h3, _⟩ := info_parts Tryd.zeroWay72
  have hf := fill_way hx ((Array.range (1 * 35)).map ((Value.cells (.agg noWay.cells.toArray))[· % (Value.cells (.agg noWay.cells.toArray)).size]!)) (by simp)
  have hrun : (Instr.buildSlice 45 1 #[(0, .agg x.cells.toArray)]).run Tryd.prog w = .ok (.slice (some ⟨w.heap.size, 0, none⟩) 1 1) (w.alloc (.cells x.cells.toArray 50)) :=
    run_buildSlice w 45 50 1 _ _ ie _ Tryd.underlying45 h1 h2 (by rw [h3]; omega) (by rw [h3]; omega) (by rw [h3]; exact hf)
  unfold Oper.wp execOp
  simp only [ho, List.map_toArray, List.map_cons, List.map_nil, hu, Sem.run_bind, hrun, Sem.run_pure, Result.andThen_ok]
  show K (Act.put _ o.dst _) _
  rw [hd]
  exact h _ _ (heap_alloc_new _ _) ((Below.refl _ _).alloc (Nat.le_refl _) _)
/-- A way that lies in a block is joined to a slice of the call's own. -/
theorem append_way (w : World) (B : Nat) (v : Value) (xs : List PWay) (h : OwnW w B v xs) (p : Nat) (x : PWay) (hp : w.heap[p]? = some (.cells x.cells.toArray 50 (0, 0))) (hx : x.h.length = 32) (hb : xs.length + 1 ≤ 1000000) (hbase : B ≤ w.heap.size) :
    ∃ a' c' w', (Builtin.append_ #[45, 45] 45 #[v, .slice (some ⟨p, 0, none⟩) 1 1]).run Tryd.prog w = .ok (.slice a' (xs.length + 1) c') w' ∧ OwnW w' B (.slice a' (xs.length + 1) c') (xs ++ [x]) ∧ w.grownBy w' v.ownBlock := by
  obtain ⟨ie, i1, i2, i3, i4⟩ := info_parts Tryd.zeroWay72
  have hl := PWay.cells_len hx
  have hall : ∀ y ∈ xs ++ [x], y.h.length = 32 := fun y hy => by
    rcases List.mem_append.1 hy with hy | hy
    · exact h.2 y hy
    · simp at hy
      subst hy
      exact hx
  obtain ⟨v', w', h1, h2, h3, _⟩ := run_append_own (P := Tryd.prog) w B 45 45 50 ie _ 35 72 Tryd.underlying45 i1 i2 i3 i4 rfl (by decide) v xs.length (cellsW xs) h.1 ⟨p, 0, none⟩ 1 1 x.cells (by omega)
    (fun j u hj => by
      have e1 : (⟨p, 0, none⟩ : Addr).add j = ⟨p, 0 + j, none⟩ := by unfold Addr.add; split <;> simp_all
      rw [e1, Nat.zero_add, cell_of_row w p _ _ _ _ hp, ← hj]
      simp)
    x.cells_one (by unfold maxLen; omega) (by omega) hbase
  have hO : OwnW w' B v' (xs ++ [x]) := ⟨by rw [List.length_append, cellsW_append, cellsW_single]; exact h2, hall⟩
  obtain ⟨a', c', rfl, _⟩ := hO.shape
  have e : (xs ++ [x]).length = xs.length + 1 := by simp
  rw [e] at h1 hO
  exact ⟨a', c', w', h1, hO, h3⟩
theorem step_append_w {ops : Array Oper} {o : Oper} {tmps : Array Value} {ds : List Deferred} {w : World} {K : Act → World → Prop} {Q : Exit → Act → World → Prop} {E : Prop} {d : Nat} (hd : o.dst = some d) (hw : Region.wanted o (yielded ops tmps) = true) (u y : Operand)
    (ho : o.op = .call { callee := .builtin .append, args := #[u, y], argTypes := #[45, 45] }) (hty : o.type = 45) (B : Nat) (v : Value) (xs : List PWay) (hu : (Act.eval { tmps := tmps, defers := ds } u) = v) (h : OwnW w B v xs) (p : Nat) (x : PWay) (hy : (Act.eval { tmps := tmps, defers := ds } y) = .slice (some ⟨p, 0, none⟩) 1 1) (hp : w.heap[p]? = some (.cells x.cells.toArray 50 (0, 0))) (hx : x.h.length = 32) (hb : xs.length + 1 ≤ 1000000) (hbase : B ≤ w.heap.size)
    (hk : ∀ a' c' w', OwnW w' B (.slice a' (xs.length + 1) c') (xs ++ [x]) → w.grownBy w' v.ownBlock → K { tmps := tmps.setIfInBounds d (.slice a' (xs.length + 1) c'), defers := ds } w') :
    if Region.wanted o (yielded ops tmps) = true then Oper.wp Tryd.prog o { tmps := tmps, defers := ds } w K Q else E := by
  rw [if_pos hw]
  obtain ⟨a', c', w', h1, h2, h3⟩ := append_way w B v xs h p x hp hx hb hbase
  unfold Oper.wp execOp
  simp only [ho, hty, resolve, invoke, builtin, Sem.run_bind, Sem.run_pure, Result.andThen_ok, List.map_toArray, List.map_cons, List.map_nil, hu, hy, h1]
  show K (Act.put _ o.dst _) _
  rw [hd]
  exact hk a' c' w' h2 h3
/-- Ways that stay where other blocks are written: their keys lie in blocks of numbers. -/
theorem way_but {w w' : World} {p : Nat} {x : PWay} (h : WayIn w x) (ht : KeyTag w x) (hb : But w.heap.size p w w') (hp : ∀ cs fr, w.heap[p]? ≠ some (.cells cs 3 fr)) : WayIn w' x ∧ KeyTag w' x := by
  have key : 0 < x.n → ∃ b off cs fr, x.a = some ⟨b, off, none⟩ ∧ w.heap[b]? = some (.cells cs 3 fr) ∧ b < w.heap.size ∧ b ≠ p := fun h0 => by
    obtain ⟨b, off, cs, fr, e, hh⟩ := ht h0
    exact ⟨b, off, cs, fr, e, hh, lt_of_block hh, fun e => by subst e; exact hp _ _ hh⟩
  refine ⟨⟨h.keys.butO (B := w.heap.size) (pb := p) (fun h0 ad e => ?_) hb, h.sum, h.after, h.wait⟩, fun h0 => ?_⟩
  · obtain ⟨b, off, cs, fr, e2, hh, hlt, hne⟩ := key h0
    rw [e] at e2
    cases e2
    exact ⟨hlt, hne⟩
  · obtain ⟨b, off, cs, fr, e2, hh, hlt, hne⟩ := key h0
    exact ⟨b, off, cs, fr, e2, hb.heap hh hlt hne⟩
theorem way_below {w w' : World} {x : PWay} (h : WayIn w x) (ht : KeyTag w x) (hb : Below w.heap.size w w') : WayIn w' x ∧ KeyTag w' x := ⟨h.below hb, fun h0 => by
  obtain ⟨b, off, cs, fr, e, hh⟩ := ht h0
  exact ⟨b, off, cs, fr, e, (hb.block _ (lt_of_block hh)).trans hh⟩⟩
theorem out_cell0 {w : World} {g : Nat} {u v : Value} {t : TypeId} (h : w.heap[g]? = some (.cells #[u, v] t (0, 0))) : w.cell? ⟨g, 0, none⟩ = some u := two_cell0 h
end Go.Proofs.YtnjnomebcggccaaDoor
namespace Go.Proofs.YtnjnomebcggccaaDoor
open Go.RowKit

theorem NewB.base {B B' : Nat} {a : Option Addr} (h : NewB B a) (hB : B' ≤ B) : NewB B' a := fun ad e => Nat.le_trans hB (h ad e)
/-- Where ways lie: in a block of ways. -/
def WayTag (w : World) (a : Option Addr) (n : Nat) : Prop := 0 < n → ∃ b off cs fr, a = some ⟨b, off, none⟩ ∧ w.heap[b]? = some (.cells cs 50 fr)
theorem OwnW.tag {w : World} {B n c : Nat} {a : Option Addr} {xs : List PWay} (h : OwnW w B (.slice a n c) xs) : WayTag w a n := by
  rcases h.1.2 with ⟨hv, h1⟩ | ⟨g, cap, cur, hv, hB, hh, r⟩
  · cases hv
    exact fun h0 => absurd h0 (by omega)
  · cases hv
    exact fun _ => ⟨g, 0, _, _, rfl, hh⟩
theorem two_one (u v : Value) (hu : u.oneCell' = true) (hv : v.oneCell' = true) : (#[u, v] : Array Value).all (·.oneCell') = true :=
  all_oneCell_toArray (cs := [u, v]) (fun x hx => by simp at hx; rcases hx with rfl | rfl <;> assumption)
theorem size_out : (Tryd.prog.info? 47).map (·.size) = some 2 := by kernel_rfl
end Go.Proofs.YtnjnomebcggccaaDoor
namespace Go.Proofs.YtnjnomebcggccaaDoor
open Go.RowKit

/-! ### What stays where a block of another type is written -/
theorem row_typed {w w' : World} {p n c : Nat} {a : Option Addr} {l : List UInt8} {cs : Array Value} {t : TypeId} {fr : Nat × Nat} (h : Row w a n c l) (ht : Tag w a n) (hb : But w.heap.size p w w') (hp : w.heap[p]? = some (.cells cs t fr)) (hne : t ≠ 5) : Row w' a n c l ∧ Tag w' a n := by
  have key : 0 < n → ∃ b off cs fr, a = some ⟨b, off, none⟩ ∧ w.heap[b]? = some (.cells cs 5 fr) ∧ b ≠ p := fun h0 => by
    obtain ⟨b, off, cs', fr', e, hh⟩ := ht h0
    exact ⟨b, off, cs', fr', e, hh, fun e => by subst e; rw [hh] at hp; simp at hp; exact hne hp.2.1.symm⟩
  refine ⟨h.but hb (fun h0 b off e => ?_), fun h0 => ?_⟩
  · obtain ⟨b', off', _, _, e2, _, hne2⟩ := key h0
    rw [e] at e2
    cases e2
    exact hne2
  · obtain ⟨b, off, cs', fr', e, hh, hne2⟩ := key h0
    exact ⟨b, off, cs', fr', e, hb.heap hh (lt_of_block hh) hne2⟩
theorem ways_typed {w w' : World} {p n c : Nat} {a : Option Addr} {xs : List PWay} {cs : Array Value} {t : TypeId} {fr : Nat × Nat} (h : Ways w a n c xs) (hk : ∀ x ∈ xs, KeyTag w x) (ht : WayTag w a n) (hb : But w.heap.size p w w') (hp : w.heap[p]? = some (.cells cs t fr)) (h1 : t ≠ 3) (h2 : t ≠ 50) : Ways w' a n c xs ∧ (∀ x ∈ xs, KeyTag w' x) ∧ WayTag w' a n := by
  have hi : ∀ cs fr, w.heap[p]? ≠ some (.cells cs 3 fr) := fun _ _ e => by rw [hp] at e; simp at e; exact h1 e.2.1
  have hw : ∀ x ∈ xs, WayIn w' x ∧ KeyTag w' x := fun x hx => way_but (h.2.2.2.2.1 x hx) (hk x hx) hb hi
  have key : 0 < n → ∃ b off cs fr, a = some ⟨b, off, none⟩ ∧ w.heap[b]? = some (.cells cs 50 fr) ∧ b ≠ p := fun h0 => by
    obtain ⟨b, off, cs', fr', e, hh⟩ := ht h0
    exact ⟨b, off, cs', fr', e, hh, fun e => by subst e; rw [hh] at hp; simp at hp; exact h2 hp.2.1.symm⟩
  obtain ⟨g1, g2, g3, g4, _, g5⟩ := h
  refine ⟨⟨g1, g2, g3, g4, fun x hx => (hw x hx).1, fun h0 => ?_⟩, fun x hx => (hw x hx).2, fun h0 => ?_⟩
  · obtain ⟨b, off, e, hlt, hc⟩ := g5 h0
    obtain ⟨b', off', _, _, e2, _, hne2⟩ := key h0
    rw [e] at e2
    cases e2
    exact ⟨b, off, e, Nat.lt_of_lt_of_le hlt hb.size, fun j hj => rangeAt_but (hc j hj) hlt hne2 hb⟩
  · obtain ⟨b, off, cs', fr', e, hh, hne2⟩ := key h0
    exact ⟨b, off, cs', fr', e, hb.heap hh (lt_of_block hh) hne2⟩
/-- An in, an out, an op, with where their slices lie. -/
def InT (w : World) (y : PIn) : Prop := InIn w y ∧ Tag w y.a y.n
def OutT (w : World) (y : POut) : Prop := OutIn w y ∧ (∀ x ∈ y.ws, KeyTag w x) ∧ WayTag w y.a y.n
def OpT (w : World) (x : POp) : Prop := OpIn w x ∧ Tag w x.a x.n
theorem InT.below {w w' : World} {y : PIn} (h : InT w y) (hb : Below w.heap.size w w') : InT w' y := ⟨⟨h.1.tx, h.1.place, h.1.way, h.1.pre.below hb⟩, h.2.below hb⟩
theorem OpT.below {w w' : World} {y : POp} (h : OpT w y) (hb : Below w.heap.size w w') : OpT w' y := ⟨h.1.below hb, h.2.below hb⟩
theorem OutT.below {w w' : World} {y : POut} (h : OutT w y) (hb : Below w.heap.size w w') : OutT w' y :=
  ⟨⟨h.1.m, h.1.ws.below hb⟩, fun x hx h0 => by
    obtain ⟨b, off, cs, fr, e, hh⟩ := h.2.1 x hx h0
    exact ⟨b, off, cs, fr, e, (hb.block _ (lt_of_block hh)).trans hh⟩, fun h0 => by
    obtain ⟨b, off, cs, fr, e, hh⟩ := h.2.2 h0
    exact ⟨b, off, cs, fr, e, (hb.block _ (lt_of_block hh)).trans hh⟩⟩
theorem InT.typed {w w' : World} {p : Nat} {y : PIn} {cs : Array Value} {t : TypeId} {fr : Nat × Nat} (h : InT w y) (hb : But w.heap.size p w w') (hp : w.heap[p]? = some (.cells cs t fr)) (hne : t ≠ 5) : InT w' y :=
  have h9 := row_typed h.1.pre h.2 hb hp hne
  ⟨⟨h.1.tx, h.1.place, h.1.way, h9.1⟩, h9.2⟩
theorem OpT.typed {w w' : World} {p : Nat} {y : POp} {cs : Array Value} {t : TypeId} {fr : Nat × Nat} (h : OpT w y) (hb : But w.heap.size p w w') (hp : w.heap[p]? = some (.cells cs t fr)) (hne : t ≠ 5) : OpT w' y :=
  have h9 := row_typed h.1.data h.2 hb hp hne
  ⟨⟨h.1.kind, h.1.tower, h.1.channel, h.1.amount, h.1.root, h9.1⟩, h9.2⟩
theorem OutT.typed {w w' : World} {p : Nat} {y : POut} {cs : Array Value} {t : TypeId} {fr : Nat × Nat} (h : OutT w y) (hb : But w.heap.size p w w') (hp : w.heap[p]? = some (.cells cs t fr)) (h1 : t ≠ 3) (h2 : t ≠ 50) : OutT w' y :=
  have h9 := ways_typed h.1.ws h.2.1 h.2.2 hb hp h1 h2
  ⟨⟨h.1.m, h9.1⟩, h9.2⟩

/-! ### A variable that holds a struct -/
def VarC (w : World) (g : Nat) (t : TypeId) (cs : List Value) : Prop := w.heap[g]? = some (.cells cs.toArray t (0, 0))
theorem VarC.lt {w : World} {g : Nat} {t : TypeId} {cs : List Value} (h : VarC w g t cs) : g < w.heap.size := lt_of_block h
theorem VarC.free {w : World} {g : Nat} {t : TypeId} {cs : List Value} (h : VarC w g t cs) (i : Nat) : w.frozen? ⟨g, i, none⟩ = false := by
  unfold VarC at h
  simp [World.frozen?, h]
theorem VarC.cell {w : World} {g : Nat} {t : TypeId} {cs : List Value} (h : VarC w g t cs) (i : Nat) : w.cell? ⟨g, i, none⟩ = cs[i]? := by
  rw [cell_of_row _ _ _ _ _ _ h]
  simp
theorem VarC.there {w : World} {g o n : Nat} {t : TypeId} {cs : List Value} (h : VarC w g t cs) (ho : o + n ≤ cs.length) : w.there g o n := fun j hj => by
  refine ⟨?_, h.free _⟩
  rw [h.cell, List.getElem?_eq_getElem (by omega)]
  rfl
theorem VarC.range {w : World} {g : Nat} {t : TypeId} {cs : List Value} (h : VarC w g t cs) : w.rangeAt g 0 cs := range_of h
theorem VarC.but {w w' : World} {g B p : Nat} {t : TypeId} {cs : List Value} (h : VarC w g t cs) (hb : But B p w w') (hB : g < B) (hne : g ≠ p) : VarC w' g t cs := hb.heap h hB hne
theorem VarC.below {w w' : World} {g : Nat} {t : TypeId} {cs : List Value} (h : VarC w g t cs) (hb : Below w.heap.size w w') : VarC w' g t cs := (hb.block g h.lt).trans h
theorem VarC.put {w : World} {g o : Nat} {t : TypeId} {pre mid post vs : List Value} (h : VarC w g t (pre ++ (mid ++ post))) (hl : vs.length = mid.length) (ho : pre.length = o) : VarC (w.setCells g o vs) g t (pre ++ (vs ++ post)) := by
  have h1 := heap_setCells vs o w _ h
  rw [← ho, setL_mid vs mid pre post hl] at h1
  rw [← ho]
  exact h1
theorem VarC.put1 {w : World} {g o : Nat} {t : TypeId} {pre post : List Value} {u v : Value} (h : VarC w g t (pre ++ (u :: post))) (ho : pre.length = o) : VarC (w.setCell ⟨g, o, none⟩ v) g t (pre ++ (v :: post)) := VarC.put (mid := [u]) (vs := [v]) h rfl ho
theorem not_typed {w : World} {p : Nat} {cs : Array Value} {t u : TypeId} {fr : Nat × Nat} (hp : w.heap[p]? = some (.cells cs t fr)) (h : t ≠ u) : ∀ cs' fr', w.heap[p]? ≠ some (.cells cs' u fr') := fun _ _ e => by
  rw [hp] at e
  simp at e
  exact h e.2.1
theorem OwnOf.setOther {α : Type} {K : Sort8 α} {t : TypeId} {w : World} {B g i : Nat} {v u : Value} {xs : List α} (h : OwnOf K t w B v xs) (hg : v.ownBlock ≠ some g) : OwnOf K t (w.setCell ⟨g, i, none⟩ u) B v xs := ⟨ownsRow_setCell_other h.1 (fun e => hg e) _, h.2⟩
end Go.Proofs.YtnjnomebcggccaaDoor
namespace Go.Proofs.YtnjnomebcggccaaDoor
open Go.RowKit

/-- In order. -/
def sortedZ (zs : List Int) : List Int := zs.mergeSort fun x y => decide (x ≤ y)
theorem sortedZ_len (zs : List Int) : (sortedZ zs).length = zs.length := List.length_mergeSort zs
theorem sortedZ_mem (zs : List Int) (x : Int) : x ∈ sortedZ zs ↔ x ∈ zs := List.mem_mergeSort
theorem sortedZ_up (zs : List Int) : (sortedZ zs).Pairwise (· ≤ ·) := by
  have h := List.pairwise_mergeSort (le := fun (x y : Int) => decide (x ≤ y)) (fun a b c h1 h2 => by simp at *; omega) (fun a b => by simp; omega) zs
  exact h.imp (fun h => by simpa using h)
theorem sort_any {w : World} {B : Nat} {v : Value} {zs : List Int} (h : OwnZ w 3 B v zs) (hB : B ≤ w.heap.size) (hn : zs.length ≤ 100000) :
    Calls Tryd.prog 53 #[v] w fun e w' => e = .returned (.tuple #[]) ∧ OwnZ w' 3 B v (sortedZ zs) ∧ w.grownBy w' v.ownBlock ∧ Below B w w' := by
  rcases h.1.2 with ⟨rfl, h0⟩ | ⟨g, cap, cur, rfl, hg, hb, h1, h2, h3, h4⟩
  · obtain rfl : zs = [] := List.eq_nil_of_length_eq_zero h0
    exact (Tryd.slices_Sort_int_none none 0 w).mono fun e w' ⟨he, hw⟩ => ⟨he, by rw [hw, show sortedZ [] = [] by simp [sortedZ]]; exact OwnZ.nil _ _ _, by rw [hw]; exact World.grownBy.refl _ _, by rw [hw]; exact Below.refl _ _⟩
  · refine (Tryd.slices_Sort_int g 0 cap zs w (holds_of_blockI hb (by rw [Nat.mul_one] at h4; exact h4)) (lt_of_block hb) (by omega)).mono ?_
    rintro e w' ⟨he, n, os, rfl⟩
    have hl := sortedZ_len zs
    have ho := ownsRow_sortedI (n := n) (os := os) (ts := sortedZ zs) hl hg hb h1 h2 h3
    have hgr := grownBy_sortedI (w := w) (g := g) (n := n) (os := os) (sortedZ zs).toArray
    refine ⟨he, ⟨?_, fun z hz => h.2 z ((sortedZ_mem zs z).1 hz)⟩, hgr, ?_⟩
    · rw [hl]
      exact ho
    · exact (Below.refl B w).grown hgr hB (fun j hj => by cases hj; exact hg)
theorem search_any {w : World} {a : Option Addr} {n c : Nat} {zs : List Int} (x : Int) (h : Numbers w a n c zs) (hs : zs.Pairwise (· ≤ ·)) (hn : n ≤ 100000) :
    Calls Tryd.prog 56 #[.slice a n c, .int .i64 x] w fun e w' => ∃ z : Int, e = .returned (.tuple #[.int .i64 z, .bool (decide (x ∈ zs))]) ∧ Below w.heap.size w w' := by
  by_cases h0 : n = 0
  · subst h0
    obtain rfl : zs = [] := List.eq_nil_of_length_eq_zero h.1
    exact (Tryd.slices_BinarySearch_int_empty a c x w).mono fun e w' ⟨he, hw⟩ => ⟨0, he, by rw [hw]; exact Below.refl _ _⟩
  · obtain ⟨b, off, rfl, _, hc⟩ := h.2.2.2.2.2 (by omega)
    have e1 : zs.take n = zs := List.take_of_length_le (by rw [h.1]; exact Nat.le_refl _)
    refine (Tryd.slices_BinarySearch_int b off n c zs x w (by rw [h.1]; exact Nat.le_refl _) (by omega) (fun j hj => hc j (by rw [← h.1]; exact hj)) (by rw [e1]; exact hs)).mono ?_
    rintro e w' ⟨he, q, hw⟩
    rw [e1] at he
    have e2 : zs.contains x = decide (x ∈ zs) := by rw [Bool.eq_iff_iff]; simp
    rw [e2] at he
    refine ⟨_, he, by rw [hw]; exact ⟨rfl, rfl, rfl, Nat.le_refl _, fun _ _ => rfl⟩⟩
end Go.Proofs.YtnjnomebcggccaaDoor
namespace Go.Proofs.YtnjnomebcggccaaDoor
open Go.RowKit

theorem wpList_append_of {α : Type} {P : Program} {K : Sort8 α} {ts t : TypeId} (S : SortAt P K ts t) {w : World} {ops : Array Oper} {rest : List Oper} {o : Oper} {A : Act} {Q : Exit → Act → World → Prop} (hgd : o.guard = none) (s x : Operand)
    (ho : o.op = .call { callee := .builtin .append, args := #[s, x], argTypes := #[ts, ts] }) (hty : o.type = ts) (B : Nat) (v : Value) (xs : List α) (hs : A.eval s = v) (hown : OwnOf K t w B v xs) (p : Nat) (y : α) (hx : A.eval x = .slice (some ⟨p, 0, none⟩) 1 1) {tp : TypeId} {fr : Nat × Nat} (hp : w.heap[p]? = some (.cells (K.cells y).toArray tp fr)) (hl : (K.cells y).length = K.size) (hb : xs.length + 1 ≤ 1000000) (hbase : B ≤ w.heap.size)
    (h : ∀ a' c' w', OwnOf K t w' B (.slice a' (xs.length + 1) c') (xs ++ [y]) → w.grownBy w' v.ownBlock → wpList P ops Q rest (A.put o.dst (.slice a' (xs.length + 1) c')) w') : wpList P ops Q (o :: rest) A w := by
  refine wpList_plain hgd fun K' hK => ?_
  obtain ⟨a', c', w', h1, h2, h3⟩ := append_of S w B v xs hown p y hp hl hb hbase
  unfold Oper.wp execOp
  simp only [ho, hty, resolve, invoke, builtin, Sem.run_bind, Sem.run_pure, Result.andThen_ok, List.map_toArray, List.map_cons, List.map_nil, hs, hx, h1]
  exact hK _ _ (h a' c' w' h2 h3)
/-- A store of what is there. -/
theorem store_same {w : World} {g i : Nat} {t : TypeId} {cs : Array Value} {v : Value} (h : w.heap[g]? = some (.cells cs t (0, 0))) (hi : cs[i]? = some v) : Below w.heap.size w (w.setCell ⟨g, i, none⟩ v) := by
  have hb : But w.heap.size g w (w.setCell ⟨g, i, none⟩ v) := (But.refl _ g _).setCell _ (.inl rfl) _
  refine ⟨hb.os, hb.tape, hb.output, hb.size, fun k hk => ?_⟩
  by_cases e : k = g
  · subst e
    rw [heap_setCell_same w k i cs t v h, h]
    congr 2
    apply Array.ext_getElem?
    intro j
    rw [Array.getElem?_setIfInBounds]
    by_cases e : i = j
    · subst e
      have hlt := (Array.getElem?_eq_some_iff.1 hi).1
      rw [if_pos rfl, if_pos hlt, hi]
    · rw [if_neg e]
  · exact hb.block k hk e
theorem OwnOf.base {α : Type} {K : Sort8 α} {t : TypeId} {w : World} {B B' : Nat} {v : Value} {xs : List α} (h : OwnOf K t w B v xs) (hB : B' ≤ B) : OwnOf K t w B' v xs := by
  refine ⟨⟨h.1.1, ?_⟩, h.2⟩
  rcases h.1.2 with h0 | ⟨g, cap, cur, hv, hg, r⟩
  · exact .inl h0
  · exact .inr ⟨g, cap, cur, hv, Nat.le_trans hB hg, r⟩
theorem step_store_row {P : Program} {ops : Array Oper} {o : Oper} {a : Act} {w : World} {K : Act → World → Prop} {Q : Exit → Act → World → Prop} {E : Prop} (hw : Region.wanted o (yielded ops a.tmps) = true) (ty : TypeId) (x y : Operand) (ho : o.op = .store ty x y)
    (g : Nat) (cells : Array Value) (hx : a.eval x = .pointer (some ⟨g, 0, none⟩)) (hy : a.eval y = .agg cells) (t : TypeId) (old : Array Value) (hg : w.heap[g]? = some (.cells old t (0, 0))) (hi : (P.info? ty).map (·.size) = some cells.size) (hold : old.size = cells.size) (h1 : cells.all (·.oneCell') = true)
    (h : K (a.put o.dst undef) (w.setRow g cells)) : if Region.wanted o (yielded ops a.tmps) = true then Oper.wp P o a w K Q else E := by
  rw [if_pos hw]
  exact wp_store_row ty x y ho g cells hx hy t old hg hi hold h1 h
theorem step_alloc_of {P : Program} {ops : Array Oper} {o : Oper} {tmps : Array Value} {ds : List Deferred} {w : World} {K : Act → World → Prop} {Q : Exit → Act → World → Prop} {E : Prop} {d : Nat} (hd : o.dst = some d) (hw : Region.wanted o (yielded ops tmps) = true) (ty : TypeId) (ho : o.op = .alloc ty) (cs : Array Value)
    {sz by' : Nat} (hi : (P.info? ty).map (fun i => (i.zero, i.size, i.bytes)) = some (some (.agg cs), sz, by'))
    (h : ∀ p y, w.heap.size ≤ p → y.heap[p]? = some (.cells cs ty (0, 0)) → Below w.heap.size w y → K { tmps := tmps.setIfInBounds d (.pointer (some ⟨p, 0, none⟩)), defers := ds } y) :
    if Region.wanted o (yielded ops tmps) = true then Oper.wp P o { tmps := tmps, defers := ds } w K Q else E := by
  rw [if_pos hw]
  obtain ⟨ie, h1, h2, h3, _⟩ := info_parts hi
  have hrun : (Instr.alloc ty true (.tuple #[])).run P w = .ok (.pointer (some ⟨w.heap.size, 0, none⟩)) (w.alloc (.cells cs ty)) := by
    simp [Instr.alloc, zeroValue, typeInfo, h1, h2, newVar, newRow, Value.cells]
  unfold Oper.wp execOp
  simp only [ho, Sem.run_bind, hrun, Sem.run_pure, Result.andThen_ok]
  show K (Act.put _ o.dst _) _
  rw [hd]
  exact h _ _ (Nat.le_refl _) (heap_alloc_new _ _) ((Below.refl _ _).alloc (Nat.le_refl _) _)
theorem Tryd.zeroSum32 : (Tryd.prog.info? 23).map (fun i => (i.zero, i.size, i.bytes)) = some (some (.agg (cellsOf zero32).toArray), 32, 32) := by kernel_rfl
theorem Tryd.zeroTx160 : (Tryd.prog.info? 35).map (fun i => (i.zero, i.size, i.bytes)) = some (some (.agg noTx.cells.toArray), 40, 160) := by kernel_rfl
theorem Tryd.zeroSign40 : (Tryd.prog.info? 83).map (fun i => (i.zero, i.size, i.bytes)) = some (some (.agg noSign.cells.toArray), 33, 40) := by kernel_rfl
theorem Tryd.signFields : ∃ fs, Tryd.prog.underlying 83 = some (.struct fs) ∧ ∀ w : World, ((fs.mapM fun (f : Field) => do pure (f.offset, ← sizeOf f.type)) : Sem (Array (Nat × Nat))).run Tryd.prog w = .ok #[(0, 1), (1, 32)] w := by
  exact ⟨_, Tryd.underlying83, fun w => by kernel_rfl⟩
theorem fill_sign (s : List UInt8) (hs : s.length = 32) (z : Int) : Instr.fill ((#[(0, 1), (1, 32)] : Array (Nat × Nat))[·]?) noSign.cells.toArray [(0, .int .i64 z), (1, .agg (cellsOf s).toArray)] = some (PSign.cells ⟨z, s⟩).toArray := by
  have hl : (cellsOf s).length = 32 := by rw [cellsOf_len, hs]
  have hz : noSign.cells.length = 33 := rfl
  obtain ⟨I, hI⟩ : ∃ I, I = noSign.cells.toArray.setIfInBounds 0 (.int .i64 z) := ⟨_, rfl⟩
  have hIs : I.size = 33 := by rw [hI, Array.size_setIfInBounds]; rfl
  obtain ⟨g1, g2⟩ := Great.foldl_set 1 (cellsOf s) 0 I
  have e1 : (cellsOf s).toArray.zipIdx.foldl (fun cs (x : Value × Nat) => cs.setIfInBounds (1 + x.2) x.1) I = (((cellsOf s).zipIdx 0).foldl (fun cs (x : Value × Nat) => cs.setIfInBounds (1 + x.2) x.1) I) := by
    rw [← Array.foldl_toList, Array.toList_zipIdx]
  obtain ⟨M, hM⟩ : ∃ M, M = (((cellsOf s).zipIdx 0).foldl (fun cs (x : Value × Nat) => cs.setIfInBounds (1 + x.2) x.1) I) := ⟨_, rfl⟩
  rw [← hM] at g1 g2 e1
  unfold Instr.fill
  simp only [show (#[(0, 1), (1, 32)] : Array (Nat × Nat))[0]? = some (0, 1) from rfl]
  rw [if_neg (by simp [Value.cells, hz])]
  unfold Instr.fill
  simp only [show (#[(0, 1), (1, 32)] : Array (Nat × Nat))[1]? = some (1, 32) from rfl]
  rw [show ((Value.int IntKind.i64 z).cells.zipIdx.foldl (fun cs (x : Value × Nat) => cs.setIfInBounds (0 + x.2) x.1) noSign.cells.toArray) = I by rw [hI]; rfl]
  rw [if_neg (by simp [Value.cells, hl, hIs])]
  rw [show (Value.agg (cellsOf s).toArray).cells = (cellsOf s).toArray from rfl, e1]
  unfold Instr.fill
  congr 1
  apply Array.ext_getElem?
  intro k
  have eR : (PSign.cells ⟨z, s⟩).toArray[k]? = (PSign.cells ⟨z, s⟩)[k]? := by simp
  rw [g2 k, eR]
  unfold PSign.cells
  cases k with
  | zero =>
    rw [if_neg (by omega), hI, Array.getElem?_setIfInBounds]
    rfl
  | succ k =>
    rw [List.getElem?_cons_succ]
    by_cases h1 : k < 32
    · rw [if_pos (by omega)]
      congr 1
    · rw [if_neg (by omega), Array.getElem?_eq_none (by omega), List.getElem?_eq_none (by show (cellsOf s).length ≤ k; omega)]
theorem run_build_sign (s : List UInt8) (hs : s.length = 32) (z : Int) (w : World) : (Instr.build 83 #[(0, .int .i64 z), (1, .agg (cellsOf s).toArray)]).run Tryd.prog w = .ok (.agg (PSign.cells ⟨z, s⟩).toArray) w := by
  obtain ⟨ie, h1, h2, h3, _⟩ := info_parts Tryd.zeroSign40
  obtain ⟨fs, hu, hm⟩ := Tryd.signFields
  have hf := fill_sign s hs z
  have hz : (zeroValue 83).run Tryd.prog w = .ok (.agg noSign.cells.toArray) w := by simp [zeroValue, typeInfo, h1, h2]
  unfold Instr.build
  simp only [Sem.run_bind, hz, Result.andThen_ok, run_underlying hu, hm w]
  rw [show (Value.agg noSign.cells.toArray).cells = noSign.cells.toArray from rfl]
  simp only [hf]
  rfl
theorem run_lit_of {α : Type} {P : Program} {K : Sort8 α} {ts t : TypeId} (S : SortAt P K ts t) {x : α} (hx : (K.cells x).length = K.size) (w : World) : (Instr.buildSlice ts 1 #[(0, .agg (K.cells x).toArray)]).run P w = .ok (.slice (some ⟨w.heap.size, 0, none⟩) 1 1) (w.alloc (.cells (K.cells x).toArray t)) := by
  obtain ⟨ie, h1, h2, h3, _⟩ := info_parts S.info
  have hk := S.ksmall
  have hp := K.pos
  have hf := fill_one K.pos hx ((Array.range (1 * K.size)).map (S.zero.cells[· % S.zero.cells.size]!)) (by simp)
  exact run_buildSlice w ts t 1 _ _ ie _ S.under h1 h2 (by rw [h3]; omega) (by rw [h3]; omega) (by rw [h3]; exact hf)
theorem wpList_build_sign {ops : Array Oper} {rest : List Oper} {o : Oper} {A : Act} {w : World} {Q : Exit → Act → World → Prop} (hgd : o.guard = none) (u v : Operand) (ho : o.op = .build 83 #[(0, u), (1, v)]) (z : Int) (s : List UInt8) (hu : A.eval u = .int .i64 z) (hv : A.eval v = .agg (cellsOf s).toArray) (hs : s.length = 32) {Y : PSign} (hY : Y = ⟨z, s⟩)
    (h : wpList Tryd.prog ops Q rest (A.put o.dst (.agg Y.cells.toArray)) w) : wpList Tryd.prog ops Q (o :: rest) A w := by
  refine wpList_plain hgd fun K hK => ?_
  subst hY
  unfold Oper.wp execOp
  simp only [ho, Sem.run_bind, Sem.run_pure, Result.andThen_ok, List.map_toArray, List.map_cons, List.map_nil, hu, hv, run_build_sign s hs z w]
  exact hK _ _ h
theorem wpList_lit_of {α : Type} {P : Program} {K : Sort8 α} {ts t : TypeId} (S : SortAt P K ts t) {ops : Array Oper} {rest : List Oper} {o : Oper} {A : Act} {w : World} {Q : Exit → Act → World → Prop} (hgd : o.guard = none) (u : Operand) (ho : o.op = .buildSlice ts 1 #[(0, u)]) (x : α) (hu : A.eval u = .agg (K.cells x).toArray) (hx : (K.cells x).length = K.size)
    (h : ∀ (p : Nat) (w' : World), w.heap.size ≤ p → w'.heap[p]? = some (.cells (K.cells x).toArray t (0, 0)) → Below w.heap.size w w' → wpList P ops Q rest (A.put o.dst (.slice (some ⟨p, 0, none⟩) 1 1)) w') : wpList P ops Q (o :: rest) A w := by
  refine wpList_plain hgd fun K' hK => ?_
  unfold Oper.wp execOp
  simp only [ho, Sem.run_bind, Sem.run_pure, Result.andThen_ok, List.map_toArray, List.map_cons, List.map_nil, hu, run_lit_of S hx w]
  exact hK _ _ (h _ _ (Nat.le_refl _) (heap_alloc_new _ _) ((Below.refl _ _).alloc (Nat.le_refl _) _))
theorem varC_other {w w' : World} {g p : Nat} {t u : TypeId} {cs : List Value} {ds : Array Value} {fr : Nat × Nat} (h : VarC w g t cs) (hb : But w.heap.size p w w') (hp : w.heap[p]? = some (.cells ds u fr)) (hne : u ≠ t) : VarC w' g t cs := h.but hb h.lt (fun e => by
  unfold VarC at h
  rw [e, hp] at h
  simp at h
  exact hne h.2.1)
theorem ownZ_where {w : World} {B : Nat} {v : Value} {z : Int} (h : OwnZ w 3 B v [z]) : ∃ b c, v = .slice (some ⟨b, 0, none⟩) 1 c ∧ B ≤ b ∧ (∃ cur, w.heap[b]? = some (.cells cur 3 (0, 0))) ∧ w.cell? ⟨b, 0, none⟩ = some (.int .i64 z) ∧ 1 ≤ c ∧ c ≤ maxLen := by
  rcases h.1.2 with ⟨hv, h0⟩ | ⟨g, cap, cur, hv, hB, hh, h1, h2, h3, h4⟩
  · cases h0
  · refine ⟨g, cap, hv, hB, ⟨cur, hh⟩, ?_, h1, h2⟩
    have e : (cellsZ [z])[0]? = some (.int .i64 z) := rfl
    rw [← h4, List.getElem?_take, if_pos (show 0 < [z].length * 1 by simp)] at e
    rw [cell_of_row _ _ _ _ _ _ hh]
    simpa using e
end Go.Proofs.YtnjnomebcggccaaDoor
namespace Go.Proofs.YtnjnomebcggccaaDoor
open Go.RowKit

theorem AllTx.mono {P Q : Nat → Prop} {y : PTx} (h : AllTx P y) (k : ∀ b, P b → Q b) : AllTx Q y :=
  ⟨h.ia.mono k, h.oa.mono k, fun x hx => (h.pre x hx).mono k, fun z hz => (h.ws z hz).mono k, fun z hz u hu => (h.ks z hz u hu).mono k, h.data.mono k⟩
theorem AllTx.and {P Q : Nat → Prop} {y : PTx} (h : AllTx P y) (k : AllTx Q y) : AllTx (fun b => P b ∧ Q b) y :=
  ⟨fun a x e => ⟨h.ia a x e, k.ia a x e⟩, fun a x e => ⟨h.oa a x e, k.oa a x e⟩, fun i hi a x e => ⟨h.pre i hi a x e, k.pre i hi a x e⟩, fun z hz a x e => ⟨h.ws z hz a x e, k.ws z hz a x e⟩, fun z hz u hu a x e => ⟨h.ks z hz u hu a x e, k.ks z hz u hu a x e⟩, fun a x e => ⟨h.data a x e, k.data a x e⟩⟩
/-- All of it lies below the heap's end. -/
theorem TxIn.lt {w : World} {y : PTx} (h : TxIn w y) : AllTx (· < w.heap.size) y := by
  have hr : ∀ {n c : Nat} {a : Option Addr} {l : List UInt8}, Row w a n c l → AllO (· < w.heap.size) n a := fun h h0 x e => by
    obtain ⟨b, off, e2, hlt, _⟩ := h.2.2.2.2 h0
    rw [e] at e2
    cases e2
    exact hlt
  refine ⟨h.ins.block, h.outs.block, fun x hx => hr (show InIn w x from h.ins.2.2.2.2.1 x hx).pre, fun z hz => SliceOf.block (K := wayK9) (show OutIn w z from h.outs.2.2.2.2.1 z hz).ws, fun z hz u hu h0 x e => ?_, hr h.op.data⟩
  obtain ⟨b, off, e2, hlt, _⟩ := (show WayIn w u from (show OutIn w z from h.outs.2.2.2.2.1 z hz).ws.2.2.2.2.1 u hu).keys.2.2.2.2.2 h0
  rw [e] at e2
  cases e2
  exact hlt
/-- A block is written that none of it lies in. -/
theorem TxIn.butAll {w w' : World} {y : PTx} {p : Nat} (h : TxIn w y) (ha : AllTx (· ≠ p) y) (hn : y.sn = 0) (hb : But w.heap.size p w w') : TxIn w' y := by
  refine ⟨h.ins.moved (B := w.heap.size) (p := p) (fun h0 x e => ⟨h.ins.block h0 x e, ha.ia h0 x e⟩) (fun x hx => ?_) hb, h.outs.moved (B := w.heap.size) (p := p) (fun h0 x e => ⟨h.outs.block h0 x e, ha.oa h0 x e⟩) (fun z hz => ?_) hb,
    ⟨h.op.kind, h.op.tower, h.op.channel, h.op.amount, h.op.root, h.op.data.but hb (fun h0 b off e => ha.data h0 _ e)⟩, ?_⟩
  · have hx1 : InIn w x := h.ins.2.2.2.2.1 x hx
    exact ⟨hx1.tx, hx1.place, hx1.way, hx1.pre.but hb (fun h0 b off e => ha.pre x hx h0 _ e)⟩
  · have hz1 : OutIn w z := h.outs.2.2.2.2.1 z hz
    refine ⟨hz1.m, SliceOf.moved (K := wayK9) (B := w.heap.size) (p := p) hz1.ws (fun h0 x e => ⟨SliceOf.block (K := wayK9) hz1.ws h0 x e, ha.ws z hz h0 x e⟩) (fun u hu => ?_) hb⟩
    have hu1 : WayIn w u := hz1.ws.2.2.2.2.1 u hu
    exact ⟨hu1.keys.butO (B := w.heap.size) (pb := p) (fun h0 x e => ⟨h.lt.ks z hz u hu h0 x e, ha.ks z hz u hu h0 x e⟩) hb, hu1.sum, hu1.after, hu1.wait⟩
  · have h9 := h.signs
    rw [hn] at h9 ⊢
    exact ⟨h9.1, h9.2.1, h9.2.2.1, h9.2.2.2.1, fun s hs => (show SignIn s from h9.2.2.2.2.1 s hs), fun h0 => absurd h0 (by omega)⟩
/-- All of it is new. -/
structure NewTx (B : Nat) (y : PTx) : Prop where
  all : AllTx (B ≤ ·) y
  signs : AllO (B ≤ ·) y.sn y.sa
/-- An older block is written: it stays. -/
theorem TxIn.older {w w' : World} {y : PTx} {B p : Nat} (h : TxIn w y) (hn : NewTx B y) (hp : p < B) (hb : But w.heap.size p w w') : TxIn w' y := by
  have ha : AllTx (· ≠ p) y := hn.all.mono fun b hb => by omega
  refine ⟨h.ins.moved (B := w.heap.size) (p := p) (fun h0 x e => ⟨h.ins.block h0 x e, ha.ia h0 x e⟩) (fun x hx => ?_) hb, h.outs.moved (B := w.heap.size) (p := p) (fun h0 x e => ⟨h.outs.block h0 x e, ha.oa h0 x e⟩) (fun z hz => ?_) hb,
    ⟨h.op.kind, h.op.tower, h.op.channel, h.op.amount, h.op.root, h.op.data.but hb (fun h0 b off e => ha.data h0 _ e)⟩, ?_⟩
  · have hx1 : InIn w x := h.ins.2.2.2.2.1 x hx
    exact ⟨hx1.tx, hx1.place, hx1.way, hx1.pre.but hb (fun h0 b off e => ha.pre x hx h0 _ e)⟩
  · have hz1 : OutIn w z := h.outs.2.2.2.2.1 z hz
    refine ⟨hz1.m, SliceOf.moved (K := wayK9) (B := w.heap.size) (p := p) hz1.ws (fun h0 x e => ⟨SliceOf.block (K := wayK9) hz1.ws h0 x e, ha.ws z hz h0 x e⟩) (fun u hu => ?_) hb⟩
    have hu1 : WayIn w u := hz1.ws.2.2.2.2.1 u hu
    exact ⟨hu1.keys.butO (B := w.heap.size) (pb := p) (fun h0 x e => ⟨h.lt.ks z hz u hu h0 x e, ha.ks z hz u hu h0 x e⟩) hb, hu1.sum, hu1.after, hu1.wait⟩
  · exact h.signs.moved (B := w.heap.size) (p := p) (fun h0 x e => ⟨h.signs.block h0 x e, by have h9 := hn.signs h0 x e; omega⟩) (fun s hs => (show SignIn s from h.signs.2.2.2.2.1 s hs)) hb
/-- How all stands while one is signed. -/
structure SgTx (w0 : World) (g4 p5 p6 Bc : Nat) (y : PTx) (S : List UInt8) (w : World) : Prop where
  res : VarC w g4 35 noTx.cells
  sum : VarC w p5 23 (cellsOf S)
  var : VarC w p6 35 y.cells
  tx : TxIn w y
  lt : AllTx (· < Bc) y
  apart : AllTx (fun k => k ≠ p6 ∧ k ≠ g4) y
  l4 : g4 < Bc
  l5 : p5 < Bc
  l6 : p6 < Bc
  sn : y.sn = 0
  size : Bc ≤ w.heap.size
  but : Below w0.heap.size w0 w
  nw : AllTx (w0.heap.size ≤ ·) y
section
variable {w0 w w' : World} {g4 p5 p6 Bc : Nat} {y : PTx} {S : List UInt8}
theorem SgTx.below (h : SgTx w0 g4 p5 p6 Bc y S w) (hb : Below w.heap.size w w') : SgTx w0 g4 p5 p6 Bc y S w' :=
  ⟨h.res.below hb, h.sum.below hb, h.var.below hb, h.tx.below hb, h.lt, h.apart, h.l4, h.l5, h.l6, h.sn, Nat.le_trans h.size hb.size, h.but.trans (hb.mono h.but.size), h.nw⟩
/-- A block that came later is written. -/
theorem SgTx.newer {p : Nat} (h : SgTx w0 g4 p5 p6 Bc y S w) (hb : But w.heap.size p w w') (hp : Bc ≤ p) (h0 : w0.heap.size ≤ p) : SgTx w0 g4 p5 p6 Bc y S w' := by
  have h4 := h.l4
  have h5 := h.l5
  have h6 := h.l6
  exact ⟨h.res.but hb h.res.lt (by omega), h.sum.but hb h.sum.lt (by omega), h.var.but hb h.var.lt (by omega), h.tx.butAll (h.lt.mono fun b hb => by omega) h.sn hb, h.lt, h.apart, h.l4, h.l5, h.l6, h.sn, Nat.le_trans h.size hb.size, h.but.trans ((hb.mono h.but.size).below h0), h.nw⟩
end
theorem sign_cell15 {y : PTx} (hl : y.op.root.length = 32) : y.cells[39]? = some (.slice y.sa y.sn y.sc) := by
  have h9 := POp.len hl
  show (y.op.cells ++ [Value.slice y.sa y.sn y.sc])[37]? = _
  rw [List.getElem?_append_right (by omega), h9]
  rfl
def signS15 : SortAt Tryd.prog signK 33 83 := ⟨40, by omega, by show 33 ≤ 100000; omega, .agg noSign.cells.toArray, Tryd.underlying33, Tryd.zeroSign40, rfl⟩
def signedP (t : PTx) (z : Int) (S : List UInt8) : PTx := ⟨t.ia, t.inn, t.ic, t.ins, t.oa, t.on, t.oc, t.outs, t.op, none, 1, 0, [⟨z, S⟩]⟩
end Go.Proofs.YtnjnomebcggccaaDoor
