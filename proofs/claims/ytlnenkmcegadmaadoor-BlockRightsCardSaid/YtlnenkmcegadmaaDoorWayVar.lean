/- A variable that holds a way: what is stored into its parts; and numbers that are read into it. -/
import Derived.Test.YtlnenkmcegadmaaDoorLock
import Derived.Test.YtlnenkmcegadmaaDoorOwnZ
namespace Go.Proofs.YtlnenkmcegadmaaDoor
open Go.RowKit

def setL : List Value → Nat → List Value → List Value
  | cs, _, [] => cs
  | cs, o, v :: vs => setL (cs.set o v) (o + 1) vs
theorem setL_mid : ∀ (vs mid pre post : List Value), vs.length = mid.length → setL (pre ++ (mid ++ post)) pre.length vs = pre ++ (vs ++ post)
  | [], [], _, _, _ => rfl
  | [], _ :: _, _, _, h => by simp at h
  | _ :: _, [], _, _, h => by simp at h
  | v :: vs, m :: mid, pre, post, h => by
    have e : (pre ++ (m :: mid ++ post)).set pre.length v = (pre ++ [v]) ++ (mid ++ post) := by simp
    show setL ((pre ++ (m :: mid ++ post)).set pre.length v) (pre.length + 1) vs = _
    rw [e, show pre.length + 1 = (pre ++ [v]).length by simp, setL_mid vs mid (pre ++ [v]) post (by simpa using h)]
    simp
theorem heap_setCells {b : Nat} {t : TypeId} : ∀ (vs : List Value) (o : Nat) (w : World) (cs : List Value), w.heap[b]? = some (.cells cs.toArray t (0, 0)) → (w.setCells b o vs).heap[b]? = some (.cells (setL cs o vs).toArray t (0, 0))
  | [], _, _, _, h => h
  | v :: vs, o, w, cs, h => by
    have h1 := heap_setCell_same w b o cs.toArray t v h
    rw [List.setIfInBounds_toArray] at h1
    exact heap_setCells vs (o + 1) (w.setCell ⟨b, o, none⟩ v) (cs.set o v) h1
theorem but_setCells {B b : Nat} : ∀ (vs : List Value) (o : Nat) (w : World), But B b w (w.setCells b o vs)
  | [], _, _ => But.refl _ _ _
  | v :: vs, o, _ => ((But.refl _ b _).setCell ⟨b, o, none⟩ (.inl rfl) v).trans (but_setCells vs (o + 1) _)
/-- A block that holds a way. -/
def VarW (w : World) (g : Nat) (x : PWay) : Prop := w.heap[g]? = some (.cells x.cells.toArray 82 (0, 0))
theorem VarW.lt {w : World} {g : Nat} {x : PWay} (h : VarW w g x) : g < w.heap.size := lt_of_block h
theorem VarW.free {w : World} {g : Nat} {x : PWay} (h : VarW w g x) (i : Nat) : w.frozen? ⟨g, i, none⟩ = false := by
  unfold VarW at h
  simp [World.frozen?, h]
theorem VarW.cell {w : World} {g : Nat} {x : PWay} (h : VarW w g x) (i : Nat) : w.cell? ⟨g, i, none⟩ = x.cells[i]? := by
  rw [cell_of_row _ _ _ _ _ _ h]
  simp
theorem VarW.there {w : World} {g o n : Nat} {x : PWay} (h : VarW w g x) (hs : x.h.length = 32) (ho : o + n ≤ 35) : w.there g o n := fun j hj => by
  refine ⟨?_, h.free _⟩
  rw [h.cell, List.getElem?_eq_getElem (by rw [PWay.cells_len hs]; omega)]
  rfl
theorem VarW.range {w : World} {g : Nat} {x : PWay} (h : VarW w g x) : w.rangeAt g 0 x.cells := range_of h
theorem VarW.but {w w' : World} {g B p : Nat} {x : PWay} (h : VarW w g x) (hb : But B p w w') (hB : g < B) (hne : g ≠ p) : VarW w' g x := hb.heap h hB hne
theorem VarW.below {w w' : World} {g : Nat} {x : PWay} (h : VarW w g x) (hb : Below w.heap.size w w') : VarW w' g x := (hb.block g h.lt).trans h
theorem VarW.keys {w : World} {g n c : Nat} {a : Option Addr} {x : PWay} (h : VarW w g x) : VarW (w.setCell ⟨g, 0, none⟩ (.slice a n c)) g { x with a := a, n := n, c := c } := by
  have h1 := heap_setCells [.slice a n c] 0 w _ h
  have e : setL x.cells 0 [.slice a n c] = ({ x with a := a, n := n, c := c } : PWay).cells := setL_mid [.slice a n c] [.slice x.a x.n x.c] [] (cellsOf x.h ++ [.int .i64 x.after, .int .i64 x.wait]) rfl
  rw [e] at h1
  exact h1
theorem VarW.sum {w : World} {g : Nat} {x : PWay} {s : List UInt8} (h : VarW w g x) (hs : x.h.length = 32) (hs' : s.length = 32) : VarW (w.setCells g 1 (cellsOf s)) g { x with h := s } := by
  have h1 := heap_setCells (cellsOf s) 1 w _ h
  have e : setL x.cells 1 (cellsOf s) = ({ x with h := s } : PWay).cells := setL_mid (cellsOf s) (cellsOf x.h) [.slice x.a x.n x.c] [.int .i64 x.after, .int .i64 x.wait] (by rw [cellsOf_len, cellsOf_len, hs, hs'])
  rw [e] at h1
  exact h1
theorem VarW.setAfter {w : World} {g : Nat} {x : PWay} {z : Int} (h : VarW w g x) (hs : x.h.length = 32) : VarW (w.setCell ⟨g, 33, none⟩ (.int .i64 z)) g { x with after := z } := by
  have h1 := heap_setCells [.int .i64 z] 33 w _ h
  have hl : (Value.slice x.a x.n x.c :: cellsOf x.h).length = 33 := by simp [cellsOf_len, hs]
  have e : setL x.cells 33 [.int .i64 z] = ({ x with after := z } : PWay).cells := by
    have e2 := setL_mid [.int .i64 z] [.int .i64 x.after] (.slice x.a x.n x.c :: cellsOf x.h) [.int .i64 x.wait] rfl
    rw [hl] at e2
    simpa [PWay.cells] using e2
  rw [e] at h1
  exact h1
theorem VarW.setWait {w : World} {g : Nat} {x : PWay} {z : Int} (h : VarW w g x) (hs : x.h.length = 32) : VarW (w.setCell ⟨g, 34, none⟩ (.int .i64 z)) g { x with wait := z } := by
  have h1 := heap_setCells [.int .i64 z] 34 w _ h
  have hl : (Value.slice x.a x.n x.c :: (cellsOf x.h ++ [.int .i64 x.after])).length = 34 := by simp [cellsOf_len, hs]
  have e : setL x.cells 34 [.int .i64 z] = ({ x with wait := z } : PWay).cells := by
    have e2 := setL_mid [.int .i64 z] [.int .i64 x.wait] (.slice x.a x.n x.c :: (cellsOf x.h ++ [.int .i64 x.after])) [] rfl
    rw [hl] at e2
    simpa [PWay.cells] using e2
  rw [e] at h1
  exact h1
theorem OwnZ.but {w w' : World} {e : TypeId} {B p : Nat} {v : Value} {l : List Int} (h : OwnZ w e B v l) (hb : But w.heap.size p w w') (hp : p < B) : OwnZ w' e B v l := by
  refine ⟨⟨h.1.1, ?_⟩, h.2⟩
  rcases h.1.2 with h0 | ⟨g, cap, cur, hv, hB, hh, r⟩
  · exact .inl h0
  · exact .inr ⟨g, cap, cur, hv, hB, hb.heap hh (lt_of_block hh) (by omega), r⟩
theorem OwnZ.other {w : World} {B b : Nat} {v : Value} {l : List Int} {cs : Array Value} {t : TypeId} {fr : Nat × Nat} (h : OwnZ w 3 B v l) (hb : w.heap[b]? = some (.cells cs t fr)) (ht : t ≠ 3) : v.ownBlock ≠ some b := by
  rcases h.1.2 with ⟨rfl, _⟩ | ⟨g, cap, cur, rfl, _, hh, _⟩
  · intro e; cases e
  · intro e
    simp [Value.ownBlock] at e
    subst e
    rw [hh] at hb
    simp at hb
    exact ht hb.2.1.symm
/-- A slice literal of one number, in a region. -/
theorem step_one_gen {ops : Array Oper} {o : Oper} {tmps : Array Value} {ds : List Deferred} {w : World} {K : Act → World → Prop} {Q : Exit → Act → World → Prop} {E : Prop} {d : Nat} {u : Operand} {y : Int} (hd : o.dst = some d) (hw : Region.wanted o (yielded ops tmps) = true) (ho : o.op = .buildSlice 80 1 #[(0, u)])
    (hu : Act.eval { tmps := tmps, defers := ds } u = .int .i64 y)
    (h : ∀ (p : Nat) (w' : World), w'.heap[p]? = some (.cells #[.int .i64 y] 3 (0, 0)) → Below w.heap.size w w' → K { tmps := tmps.setIfInBounds d (.slice (some ⟨p, 0, none⟩) 1 1), defers := ds } w') :
    if Region.wanted o (yielded ops tmps) = true then Oper.wp Tryd.prog o { tmps := tmps, defers := ds } w K Q else E := by
  rw [if_pos hw]
  obtain ⟨ie, h1, h2, h3, _⟩ := info_parts (show (Tryd.prog.info? 3).map (fun i => (i.zero, i.size, i.bytes)) = some (some (.int .i64 0), 1, 8) by kernel_rfl)
  have hrun : (Instr.buildSlice 80 1 #[(0, .int .i64 y)]).run Tryd.prog w = .ok (.slice (some ⟨w.heap.size, 0, none⟩) 1 1) (w.alloc (.cells #[.int .i64 y] 3)) :=
    run_buildSlice w 80 3 1 _ _ ie _ Tryd.underlying80 h1 h2 (by rw [h3]; omega) (by rw [h3]; omega) (by rw [h3]; simp [Instr.fill, Value.cells]; rw [show Array.range 1 = #[0] by rfl]; simp)
  unfold Oper.wp execOp
  simp only [ho, List.map_toArray, List.map_cons, List.map_nil, hu, Sem.run_bind, hrun, Sem.run_pure, Result.andThen_ok]
  show K (Act.put _ o.dst _) _
  rw [hd]
  exact h _ _ (heap_alloc_new _ _) ((Below.refl _ _).alloc (Nat.le_refl _) _)
/-- 'append' of numbers, in a region. -/
theorem step_append_z {ops : Array Oper} {o : Oper} {tmps : Array Value} {ds : List Deferred} {w : World} {K : Act → World → Prop} {Q : Exit → Act → World → Prop} {E : Prop} {d : Nat} (hd : o.dst = some d) (hw : Region.wanted o (yielded ops tmps) = true) (x y : Operand)
    (ho : o.op = .call { callee := .builtin .append, args := #[x, y], argTypes := #[80, 80] }) (hty : o.type = 80) (B : Nat) (v : Value) (l : List Int) (hx : (Act.eval { tmps := tmps, defers := ds } x) = v) (h : OwnZ w 3 B v l) (ad : Option Addr) (m c : Nat) (q : List Int) (hy : (Act.eval { tmps := tmps, defers := ds } y) = .slice ad m c) (hq : Numbers w ad m c q) (hb : l.length + m ≤ 1000000) (hbase : B ≤ w.heap.size)
    (hk : ∀ a' c' w', OwnZ w' 3 B (.slice a' (l.length + m) c') (l ++ q) → w.grownBy w' v.ownBlock → K { tmps := tmps.setIfInBounds d (.slice a' (l.length + m) c'), defers := ds } w') :
    if Region.wanted o (yielded ops tmps) = true then Oper.wp Tryd.prog o { tmps := tmps, defers := ds } w K Q else E := by
  rw [if_pos hw]
  obtain ⟨ie, i1, i2, i3, i4⟩ := info_parts (show (Tryd.prog.info? 3).map (fun i => (i.zero, i.size, i.bytes)) = some (some (.int .i64 0), 1, 8) by kernel_rfl)
  obtain ⟨a', c', w', h1, h2, h3⟩ := append_numbers (P := Tryd.prog) w B 80 80 3 ie Tryd.underlying80 i1 i2 i3 i4 v l h ad m c q hq hb hbase
  unfold Oper.wp execOp
  simp only [ho, hty, resolve, invoke, builtin, Sem.run_bind, Sem.run_pure, Result.andThen_ok, List.map_toArray, List.map_cons, List.map_nil, hx, hy, h1]
  show K (Act.put _ o.dst _) _
  rw [hd]
  exact hk a' c' w' h2 h3
end Go.Proofs.YtlnenkmcegadmaaDoor
