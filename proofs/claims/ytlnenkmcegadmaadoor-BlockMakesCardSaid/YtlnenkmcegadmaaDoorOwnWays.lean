/- A slice of ways of the call's own, that grows by append; and how all stands while an out is read. -/
import Derived.Test.YtlnenkmcegadmaaDoorGetWay
import Derived.Test.YtlnenkmcegadmaaDoorLock
namespace Go.Proofs.YtlnenkmcegadmaaDoor
open Go.RowKit

def cellsW (xs : List PWay) : List Value := xs.flatMap PWay.cells
theorem cellsW_append (l m : List PWay) : cellsW (l ++ m) = cellsW l ++ cellsW m := by simp [cellsW]
theorem cellsW_single (x : PWay) : cellsW [x] = x.cells := by simp [cellsW]
theorem cellsW_len : ∀ {xs : List PWay}, (∀ x ∈ xs, x.h.length = 32) → (cellsW xs).length = xs.length * 35
  | [], _ => rfl
  | x :: xs, h => by
    have ih := cellsW_len (xs := xs) (fun y hy => h y (by simp [hy]))
    have hs := PWay.cells_len (h x (by simp))
    show (x.cells ++ cellsW xs).length = _
    rw [List.length_append, ih, hs, List.length_cons, Nat.add_mul]
    omega
theorem cellsW_get : ∀ {xs : List PWay}, (∀ x ∈ xs, x.h.length = 32) → ∀ {j i : Nat}, j < xs.length → i < 35 → (cellsW xs)[j * 35 + i]? = (xs.getD j noWay).cells[i]?
  | [], _, _, _, hj, _ => by simp at hj
  | x :: xs, h, 0, i, _, hi => by
    have hs := PWay.cells_len (h x (by simp))
    show (x.cells ++ cellsW xs)[0 * 35 + i]? = x.cells[i]?
    rw [Nat.zero_mul, Nat.zero_add, List.getElem?_append_left (by rw [hs]; exact hi)]
  | x :: xs, h, j + 1, i, hj, hi => by
    have ih := cellsW_get (xs := xs) (fun y hy => h y (by simp [hy])) (j := j) (i := i) (by simpa using hj) hi
    have hs := PWay.cells_len (h x (by simp))
    show (x.cells ++ cellsW xs)[(j + 1) * 35 + i]? = (xs.getD j noWay).cells[i]?
    rw [List.getElem?_append_right (by rw [hs]; omega), hs, ← ih]
    congr 1
    omega
theorem cellsW_one {xs : List PWay} : ∀ v ∈ cellsW xs, v.oneCell' = true := by
  intro v hv
  obtain ⟨x, _, hx⟩ := List.mem_flatMap.1 hv
  exact x.cells_one v hx
/-- A slice of ways of the call's own. -/
def OwnW (w : World) (B : Nat) (v : Value) (xs : List PWay) : Prop := w.ownsRow B 82 35 v xs.length (cellsW xs) ∧ ∀ x ∈ xs, x.h.length = 32
theorem OwnW.shape {w : World} {B : Nat} {v : Value} {xs : List PWay} (h : OwnW w B v xs) : ∃ a c, v = .slice a xs.length c ∧ (∀ x, a = some x → B ≤ x.block) := by
  rcases h.1.2 with ⟨rfl, h0⟩ | ⟨g, cap, cur, rfl, hB, _⟩
  · exact ⟨none, 0, by rw [h0], fun x e => by cases e⟩
  · exact ⟨_, _, rfl, fun x e => by cases e; exact hB⟩
theorem OwnW.ways {w : World} {B : Nat} {a : Option Addr} {n c : Nat} {xs : List PWay} (h : OwnW w B (.slice a n c) xs) (hx : ∀ x ∈ xs, WayIn w x) : Ways w a n c xs := by
  rcases h.1.2 with ⟨hv, h0⟩ | ⟨g, cap, cur, hv, hB, hh, h1, h2, h3, h4⟩
  · cases hv
    obtain rfl : xs = [] := List.eq_nil_of_length_eq_zero h0
    exact Ways.nil w
  · cases hv
    refine ⟨rfl, h1, h2, (fun e => by cases e), hx, fun _ => ⟨g, 0, rfl, lt_of_block hh, fun j hj i v hv => ?_⟩⟩
    have hi : i < 35 := by
      have h5 := (List.getElem?_eq_some_iff.1 hv).1
      have h6 : (xs.getD j noWay).h.length = 32 := by
        rw [List.getD_eq_getElem?_getD, List.getElem?_eq_getElem hj]
        exact h.2 _ (List.getElem_mem hj)
      rw [PWay.cells_len h6] at h5
      exact h5
    rw [Nat.zero_add, cell_of_row w g _ _ _ _ hh, ← hv, ← cellsW_get h.2 hj hi, ← h4, List.getElem?_take, if_pos (by omega)]
    simp
theorem OwnW.lt {w : World} {B : Nat} {v : Value} {xs : List PWay} (h : OwnW w B v xs) : ∀ k, v.ownBlock = some k → B ≤ k ∧ k < w.heap.size := fun k e => World.ownsRow.lt h.1 k e
theorem OwnW.nil (w : World) (B : Nat) : OwnW w B (.slice none 0 0) [] := ⟨World.ownsRow_nil w B _ _, fun _ h => by cases h⟩
theorem OwnW.but {w w' : World} {B p : Nat} {v : Value} {xs : List PWay} (h : OwnW w B v xs) (hb : But w.heap.size p w w') (hp : ∀ cs fr, w.heap[p]? ≠ some (.cells cs 82 fr)) : OwnW w' B v xs := by
  refine ⟨⟨h.1.1, ?_⟩, h.2⟩
  rcases h.1.2 with h0 | ⟨g, cap, cur, hv, hB, hh, r⟩
  · exact .inl h0
  · have hg : g ≠ p := fun e => by subst e; exact hp _ _ hh
    exact .inr ⟨g, cap, cur, hv, hB, hb.heap hh (lt_of_block hh) hg, r⟩
theorem OwnW.below {w w' : World} {B : Nat} {v : Value} {xs : List PWay} (h : OwnW w B v xs) (hb : Below w.heap.size w w') : OwnW w' B v xs :=
  ⟨World.ownsRow.kept h.1 (row := none) ⟨hb.os, hb.tape, hb.output, hb.size, fun k hk _ => hb.block k hk⟩ (by cases h' : v.ownBlock <;> simp), h.2⟩
theorem OwnW.other {w : World} {B b : Nat} {v : Value} {xs : List PWay} {cs : Array Value} {t : TypeId} {fr : Nat × Nat} (h : OwnW w B v xs) (hb : w.heap[b]? = some (.cells cs t fr)) (ht : t ≠ 82) : v.ownBlock ≠ some b := by
  rcases h.1.2 with ⟨rfl, _⟩ | ⟨g, cap, cur, rfl, _, hh, _⟩
  · intro e; cases e
  · intro e
    simp [Value.ownBlock] at e
    subst e
    rw [hh] at hb
    simp at hb
    exact ht hb.2.1.symm
theorem OwnW.grows {w w' : World} {B : Nat} {v : Value} {xs : List PWay} (h : OwnW w B v xs) (hg : w.grownBy w' v.ownBlock) (hB : B ≤ w.heap.size) : Below B w w' :=
  ⟨hg.os, hg.tape, hg.output, hg.size, fun k hk => hg.block k (by omega) (fun e => by have := (h.lt k e.symm).1; omega)⟩
/-- A literal of one way. -/
theorem fill_way {x : PWay} (h : x.h.length = 32) (init : Array Value) (hi : init.size = 35) : Instr.fill (fun i => some (i * 35, 35)) init #[(0, Value.agg x.cells.toArray)].toList = some x.cells.toArray := by
  have hl := PWay.cells_len h
  obtain ⟨r, h1, h2, h3⟩ := Great.fill_dense (s := 35) (by omega) [Value.agg x.cells.toArray] 0 init (fun v hv => by
    simp at hv
    subst hv
    show x.cells.toArray.size = 35
    rw [List.size_toArray, hl]) (by simp; omega)
  have e : Instr.fill (fun i => some (i * 35, 35)) init #[(0, Value.agg x.cells.toArray)].toList = some r := h1
  rw [e]
  congr 1
  apply Array.ext_getElem?
  intro k
  rw [h3 k]
  by_cases hk : k < 35
  · have e1 : k / 35 = 0 := by omega
    have e2 : k % 35 = k := by omega
    rw [if_pos (by simp; omega)]
    simp [e1, e2, Value.cells]
  · rw [if_neg (by simp; omega), Array.getElem?_eq_none (by omega), Array.getElem?_eq_none (by rw [List.size_toArray, hl]; omega)]
theorem Tryd.zeroWay72 : (Tryd.prog.info? 82).map (fun i => (i.zero, i.size, i.bytes)) = some (some (.agg noWay.cells.toArray), 35, 72) := by kernel_rfl
theorem step_way_gen {ops : Array Oper} {o : Oper} {tmps : Array Value} {ds : List Deferred} {w : World} {K : Act → World → Prop} {Q : Exit → Act → World → Prop} {E : Prop} {d : Nat} {u : Operand} {x : PWay} (hd : o.dst = some d) (hw : Region.wanted o (yielded ops tmps) = true) (ho : o.op = .buildSlice 77 1 #[(0, u)])
    (hu : Act.eval { tmps := tmps, defers := ds } u = .agg x.cells.toArray) (hx : x.h.length = 32)
    (h : ∀ (p : Nat) (w' : World), w'.heap[p]? = some (.cells x.cells.toArray 82 (0, 0)) → Below w.heap.size w w' → K { tmps := tmps.setIfInBounds d (.slice (some ⟨p, 0, none⟩) 1 1), defers := ds } w') :
    if Region.wanted o (yielded ops tmps) = true then Oper.wp Tryd.prog o { tmps := tmps, defers := ds } w K Q else E := by
  rw [if_pos hw]
  obtain ⟨ie, h1, h2, h3, _⟩ := info_parts Tryd.zeroWay72
  have hf := fill_way hx ((Array.range (1 * 35)).map ((Value.cells (.agg noWay.cells.toArray))[· % (Value.cells (.agg noWay.cells.toArray)).size]!)) (by simp)
  have hrun : (Instr.buildSlice 77 1 #[(0, .agg x.cells.toArray)]).run Tryd.prog w = .ok (.slice (some ⟨w.heap.size, 0, none⟩) 1 1) (w.alloc (.cells x.cells.toArray 82)) :=
    run_buildSlice w 77 82 1 _ _ ie _ Tryd.underlying77 h1 h2 (by rw [h3]; omega) (by rw [h3]; omega) (by rw [h3]; exact hf)
  unfold Oper.wp execOp
  simp only [ho, List.map_toArray, List.map_cons, List.map_nil, hu, Sem.run_bind, hrun, Sem.run_pure, Result.andThen_ok]
  show K (Act.put _ o.dst _) _
  rw [hd]
  exact h _ _ (heap_alloc_new _ _) ((Below.refl _ _).alloc (Nat.le_refl _) _)
/-- A way that lies in a block is joined to a slice of the call's own. -/
theorem append_way (w : World) (B : Nat) (v : Value) (xs : List PWay) (h : OwnW w B v xs) (p : Nat) (x : PWay) (hp : w.heap[p]? = some (.cells x.cells.toArray 82 (0, 0))) (hx : x.h.length = 32) (hb : xs.length + 1 ≤ 1000000) (hbase : B ≤ w.heap.size) :
    ∃ a' c' w', (Builtin.append_ #[77, 77] 77 #[v, .slice (some ⟨p, 0, none⟩) 1 1]).run Tryd.prog w = .ok (.slice a' (xs.length + 1) c') w' ∧ OwnW w' B (.slice a' (xs.length + 1) c') (xs ++ [x]) ∧ w.grownBy w' v.ownBlock := by
  obtain ⟨ie, i1, i2, i3, i4⟩ := info_parts Tryd.zeroWay72
  have hl := PWay.cells_len hx
  have hall : ∀ y ∈ xs ++ [x], y.h.length = 32 := fun y hy => by
    rcases List.mem_append.1 hy with hy | hy
    · exact h.2 y hy
    · simp at hy
      subst hy
      exact hx
  obtain ⟨v', w', h1, h2, h3, _⟩ := run_append_own (P := Tryd.prog) w B 77 77 82 ie _ 35 72 Tryd.underlying77 i1 i2 i3 i4 rfl (by decide) v xs.length (cellsW xs) h.1 ⟨p, 0, none⟩ 1 1 x.cells (by omega)
    (fun j u hj => by
      have e1 : (⟨p, 0, none⟩ : Addr).add j = ⟨p, 0 + j, none⟩ := by unfold Addr.add; split <;> simp_all
      rw [e1, Nat.zero_add, cell_of_row w p _ _ _ _ hp, ← hj]
      simp)
    x.cells_one (by unfold maxLen; omega) (by omega) hbase
  have hO : OwnW w' B v' (xs ++ [x]) := ⟨by rw [List.length_append, cellsW_append, cellsW_single]; exact h2, hall⟩
  obtain ⟨a', c', rfl, _⟩ := hO.shape
  have e : (xs ++ [x]).length = xs.length + 1 := by simp
  rw [e] at h1 hO
  exact ⟨a', c', w', h1, hO, h3⟩
theorem step_append_w {ops : Array Oper} {o : Oper} {tmps : Array Value} {ds : List Deferred} {w : World} {K : Act → World → Prop} {Q : Exit → Act → World → Prop} {E : Prop} {d : Nat} (hd : o.dst = some d) (hw : Region.wanted o (yielded ops tmps) = true) (u y : Operand)
    (ho : o.op = .call { callee := .builtin .append, args := #[u, y], argTypes := #[77, 77] }) (hty : o.type = 77) (B : Nat) (v : Value) (xs : List PWay) (hu : (Act.eval { tmps := tmps, defers := ds } u) = v) (h : OwnW w B v xs) (p : Nat) (x : PWay) (hy : (Act.eval { tmps := tmps, defers := ds } y) = .slice (some ⟨p, 0, none⟩) 1 1) (hp : w.heap[p]? = some (.cells x.cells.toArray 82 (0, 0))) (hx : x.h.length = 32) (hb : xs.length + 1 ≤ 1000000) (hbase : B ≤ w.heap.size)
    (hk : ∀ a' c' w', OwnW w' B (.slice a' (xs.length + 1) c') (xs ++ [x]) → w.grownBy w' v.ownBlock → K { tmps := tmps.setIfInBounds d (.slice a' (xs.length + 1) c'), defers := ds } w') :
    if Region.wanted o (yielded ops tmps) = true then Oper.wp Tryd.prog o { tmps := tmps, defers := ds } w K Q else E := by
  rw [if_pos hw]
  obtain ⟨a', c', w', h1, h2, h3⟩ := append_way w B v xs h p x hp hx hb hbase
  unfold Oper.wp execOp
  simp only [ho, hty, resolve, invoke, builtin, Sem.run_bind, Sem.run_pure, Result.andThen_ok, List.map_toArray, List.map_cons, List.map_nil, hu, hy, h1]
  show K (Act.put _ o.dst _) _
  rw [hd]
  exact hk a' c' w' h2 h3
/-- Ways that stay where other blocks are written: their keys lie in blocks of numbers. -/
theorem way_but {w w' : World} {p : Nat} {x : PWay} (h : WayIn w x) (ht : KeyTag w x) (hb : But w.heap.size p w w') (hp : ∀ cs fr, w.heap[p]? ≠ some (.cells cs 3 fr)) : WayIn w' x ∧ KeyTag w' x := by
  have key : 0 < x.n → ∃ b off cs fr, x.a = some ⟨b, off, none⟩ ∧ w.heap[b]? = some (.cells cs 3 fr) ∧ b < w.heap.size ∧ b ≠ p := fun h0 => by
    obtain ⟨b, off, cs, fr, e, hh⟩ := ht h0
    exact ⟨b, off, cs, fr, e, hh, lt_of_block hh, fun e => by subst e; exact hp _ _ hh⟩
  refine ⟨⟨h.keys.butO (B := w.heap.size) (pb := p) (fun h0 ad e => ?_) hb, h.sum, h.after, h.wait⟩, fun h0 => ?_⟩
  · obtain ⟨b, off, cs, fr, e2, hh, hlt, hne⟩ := key h0
    rw [e] at e2
    cases e2
    exact ⟨hlt, hne⟩
  · obtain ⟨b, off, cs, fr, e2, hh, hlt, hne⟩ := key h0
    exact ⟨b, off, cs, fr, e2, hb.heap hh hlt hne⟩
theorem way_below {w w' : World} {x : PWay} (h : WayIn w x) (ht : KeyTag w x) (hb : Below w.heap.size w w') : WayIn w' x ∧ KeyTag w' x := ⟨h.below hb, fun h0 => by
  obtain ⟨b, off, cs, fr, e, hh⟩ := ht h0
  exact ⟨b, off, cs, fr, e, (hb.block _ (lt_of_block hh)).trans hh⟩⟩
theorem out_cell0 {w : World} {g : Nat} {u v : Value} {t : TypeId} (h : w.heap[g]? = some (.cells #[u, v] t (0, 0))) : w.cell? ⟨g, 0, none⟩ = some u := two_cell0 h
end Go.Proofs.YtlnenkmcegadmaaDoor
