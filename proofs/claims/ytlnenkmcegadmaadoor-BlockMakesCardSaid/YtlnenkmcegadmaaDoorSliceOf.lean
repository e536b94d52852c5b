/- Slices of things of any kind that take so many cells each: what one reads as; one of the call's own that grows by append; a literal of one. No function, type or variable of the program is named. -/
import Derived.Test.YtlnenkmcegadmaaDoorNumbers
import Derived.Test.YtlnenkmcegadmaaDoorMemory
namespace Go.Proofs.YtlnenkmcegadmaaDoor
open Go.RowKit

/-- A kind of thing: its cells, and when it may stand in a world. -/
structure Sort8 (α : Type) where
  size : Nat
  cells : α → List Value
  ok : World → α → Prop
  dflt : α
  pos : 0 < size
  len : ∀ w x, ok w x → (cells x).length = size
  one : ∀ x, ∀ v ∈ cells x, v.oneCell' = true
  below : ∀ {w w' : World} {x : α}, ok w x → Below w.heap.size w w' → ok w' x
variable {α : Type}
/-- A slice of such things. -/
def SliceOf (K : Sort8 α) (w : World) (a : Option Addr) (n c : Nat) (xs : List α) : Prop :=
  xs.length = n ∧ n ≤ c ∧ c ≤ maxLen ∧ (a = none → c = 0) ∧ (∀ x ∈ xs, K.ok w x) ∧
  (0 < n → ∃ b off, a = some ⟨b, off, none⟩ ∧ b < w.heap.size ∧ ∀ j, j < n → w.rangeAt b (off + j * K.size) (K.cells (xs.getD j K.dflt)))
theorem SliceOf.below {K : Sort8 α} {w w' : World} {n c : Nat} {a : Option Addr} {xs : List α} (h : SliceOf K w a n c xs) (hb : Below w.heap.size w w') : SliceOf K w' a n c xs := by
  obtain ⟨h1, h2, h3, h4, h6, h5⟩ := h
  refine ⟨h1, h2, h3, h4, fun x hx => K.below (h6 x hx) hb, fun h0 => ?_⟩
  obtain ⟨b, off, rfl, hlt, hc⟩ := h5 h0
  exact ⟨b, off, rfl, Nat.lt_of_lt_of_le hlt hb.size, fun j hj => rangeAt_below (hc j hj) hlt hb⟩
theorem SliceOf.nil (K : Sort8 α) (w : World) : SliceOf K w none 0 0 [] := ⟨rfl, Nat.le_refl _, Nat.zero_le _, fun _ => rfl, (fun _ h => by cases h), fun h => by omega⟩
theorem SliceOf.mem {K : Sort8 α} {w : World} {n c j : Nat} {a : Option Addr} {xs : List α} (h : SliceOf K w a n c xs) (hj : j < n) : xs.getD j K.dflt ∈ xs := by
  have hj' : j < xs.length := by rw [h.1]; exact hj
  rw [List.getD_eq_getElem?_getD, List.getElem?_eq_getElem hj']
  exact List.getElem_mem hj'
theorem SliceOf.get {K : Sort8 α} {w : World} {n c j : Nat} {a : Option Addr} {xs : List α} (h : SliceOf K w a n c xs) (hj : j < n) : K.ok w (xs.getD j K.dflt) := h.2.2.2.2.1 _ (h.mem hj)
theorem SliceOf.len63 {K : Sort8 α} {w : World} {n c : Nat} {a : Option Addr} {xs : List α} (h : SliceOf K w a n c xs) : (n : Int) ≤ 9223372036854775807 := by have h1 := h.2.1; have h2 := h.2.2.1; unfold maxLen at h2; omega
theorem drop_getD {d : α} {xs : List α} {j : Nat} (h : j < xs.length) : xs.drop j = xs.getD j d :: xs.drop (j + 1) := by
  rw [List.drop_eq_getElem_cons h]
  simp [List.getD, h]
theorem take_getD {d : α} {xs : List α} {j : Nat} (h : j < xs.length) : xs.take (j + 1) = xs.take j ++ [xs.getD j d] := by
  rw [List.take_succ_eq_append_getElem h]
  simp [List.getD, h]
/-- One that stays where no block of its own is written: what is asked of its things is asked apart. -/
theorem SliceOf.moved {K : Sort8 α} {w w' : World} {B p n c : Nat} {a : Option Addr} {xs : List α} (h : SliceOf K w a n c xs) (hold : 0 < n → ∀ x, a = some x → x.block < B ∧ x.block ≠ p) (hx : ∀ x ∈ xs, K.ok w' x) (hb : But B p w w') : SliceOf K w' a n c xs := by
  obtain ⟨h1, h2, h3, h4, _, h5⟩ := h
  refine ⟨h1, h2, h3, h4, hx, fun h0 => ?_⟩
  obtain ⟨b, off, rfl, hlt, hc⟩ := h5 h0
  obtain ⟨g1, g2⟩ := hold h0 _ rfl
  exact ⟨b, off, rfl, Nat.lt_of_lt_of_le hlt hb.size, fun j hj i v hv => (hb.cell (a := ⟨b, off + j * K.size + i, none⟩) g1 g2).trans (hc j hj i v hv)⟩
theorem SliceOf.block {K : Sort8 α} {w : World} {n c : Nat} {a : Option Addr} {xs : List α} (h : SliceOf K w a n c xs) : 0 < n → ∀ x, a = some x → x.block < w.heap.size := fun h0 x e => by
  obtain ⟨b, off, e2, hlt, _⟩ := h.2.2.2.2.2 h0
  rw [e] at e2
  cases e2
  exact hlt
/-- A block of one. -/
theorem slice_one {K : Sort8 α} {w : World} {g : Nat} {x : α} {t : TypeId} {fr : Nat × Nat} (h : w.heap[g]? = some (.cells (K.cells x).toArray t fr)) (hx : K.ok w x) : SliceOf K w (some ⟨g, 0, none⟩) 1 1 [x] := by
  refine ⟨rfl, Nat.le_refl _, by unfold maxLen; omega, (fun e => by cases e), fun y hy => by simp at hy; subst hy; exact hx, fun _ => ⟨g, 0, rfl, lt_of_block h, fun j hj => ?_⟩⟩
  obtain rfl : j = 0 := by omega
  rw [Nat.zero_mul]
  exact range_of h

/-! ### Of the call's own -/
theorem cells_flat_len {f : α → List Value} {k : Nat} : ∀ {xs : List α}, (∀ x ∈ xs, (f x).length = k) → (xs.flatMap f).length = xs.length * k
  | [], _ => by simp
  | x :: xs, h => by
    have ih := cells_flat_len (f := f) (k := k) (xs := xs) (fun y hy => h y (by simp [hy]))
    have hs := h x (by simp)
    rw [List.flatMap_cons, List.length_append, ih, hs, List.length_cons, Nat.add_mul]
    omega
theorem flat_get {f : α → List Value} {k : Nat} {d : α} : ∀ {xs : List α}, (∀ x ∈ xs, (f x).length = k) → ∀ {j i : Nat}, j < xs.length → i < k → (xs.flatMap f)[j * k + i]? = (f (xs.getD j d))[i]?
  | [], _, _, _, hj, _ => by simp at hj
  | x :: xs, h, 0, i, _, hi => by
    have hs := h x (by simp)
    show (f x ++ xs.flatMap f)[0 * k + i]? = (f x)[i]?
    rw [Nat.zero_mul, Nat.zero_add, List.getElem?_append_left (by rw [hs]; exact hi)]
  | x :: xs, h, j + 1, i, hj, hi => by
    have ih := flat_get (f := f) (k := k) (d := d) (xs := xs) (fun y hy => h y (by simp [hy])) (j := j) (i := i) (by simpa using hj) hi
    have hs := h x (by simp)
    show (f x ++ xs.flatMap f)[(j + 1) * k + i]? = (f (xs.getD j d))[i]?
    rw [List.getElem?_append_right (by rw [hs, Nat.add_mul]; omega), hs, ← ih]
    congr 1
    rw [Nat.add_mul]
    omega
def OwnOf (K : Sort8 α) (t : TypeId) (w : World) (B : Nat) (v : Value) (xs : List α) : Prop := w.ownsRow B t K.size v xs.length (xs.flatMap K.cells) ∧ ∀ x ∈ xs, (K.cells x).length = K.size
theorem OwnOf.shape {K : Sort8 α} {t : TypeId} {w : World} {B : Nat} {v : Value} {xs : List α} (h : OwnOf K t w B v xs) : ∃ a c, v = .slice a xs.length c ∧ (∀ x, a = some x → B ≤ x.block) := by
  rcases h.1.2 with ⟨rfl, h0⟩ | ⟨g, cap, cur, rfl, hB, _⟩
  · exact ⟨none, 0, by rw [h0], fun x e => by cases e⟩
  · exact ⟨_, _, rfl, fun x e => by cases e; exact hB⟩
theorem OwnOf.slice {K : Sort8 α} {t : TypeId} {w : World} {B : Nat} {a : Option Addr} {n c : Nat} {xs : List α} (h : OwnOf K t w B (.slice a n c) xs) (hx : ∀ x ∈ xs, K.ok w x) : SliceOf K w a n c xs := by
  rcases h.1.2 with ⟨hv, h0⟩ | ⟨g, cap, cur, hv, hB, hh, h1, h2, h3, h4⟩
  · cases hv
    obtain rfl : xs = [] := List.eq_nil_of_length_eq_zero h0
    exact SliceOf.nil K w
  · cases hv
    refine ⟨rfl, h1, h2, (fun e => by cases e), hx, fun _ => ⟨g, 0, rfl, lt_of_block hh, fun j hj i v hv => ?_⟩⟩
    have hi : i < K.size := by
      have h5 := (List.getElem?_eq_some_iff.1 hv).1
      have h6 : (K.cells (xs.getD j K.dflt)).length = K.size := by
        rw [List.getD_eq_getElem?_getD, List.getElem?_eq_getElem hj]
        exact h.2 _ (List.getElem_mem hj)
      omega
    have hji : j * K.size + i < xs.length * K.size := by
      have : (j + 1) * K.size ≤ xs.length * K.size := Nat.mul_le_mul_right _ hj
      rw [Nat.add_mul] at this
      omega
    rw [Nat.zero_add, cell_of_row w g _ _ _ _ hh, ← hv, ← flat_get (d := K.dflt) h.2 hj hi, ← h4, List.getElem?_take, if_pos hji]
    simp
theorem OwnOf.lt {K : Sort8 α} {t : TypeId} {w : World} {B : Nat} {v : Value} {xs : List α} (h : OwnOf K t w B v xs) : ∀ k, v.ownBlock = some k → B ≤ k ∧ k < w.heap.size := fun k e => World.ownsRow.lt h.1 k e
theorem OwnOf.nil (K : Sort8 α) (t : TypeId) (w : World) (B : Nat) : OwnOf K t w B (.slice none 0 0) [] := ⟨World.ownsRow_nil w B _ _, fun _ h => by cases h⟩
theorem OwnOf.but {K : Sort8 α} {t : TypeId} {w w' : World} {B p : Nat} {v : Value} {xs : List α} (h : OwnOf K t w B v xs) (hb : But w.heap.size p w w') (hp : ∀ cs fr, w.heap[p]? ≠ some (.cells cs t fr)) : OwnOf K t w' B v xs := by
  refine ⟨⟨h.1.1, ?_⟩, h.2⟩
  rcases h.1.2 with h0 | ⟨g, cap, cur, hv, hB, hh, r⟩
  · exact .inl h0
  · have hg : g ≠ p := fun e => by subst e; exact hp _ _ hh
    exact .inr ⟨g, cap, cur, hv, hB, hb.heap hh (lt_of_block hh) hg, r⟩
theorem OwnOf.below {K : Sort8 α} {t : TypeId} {w w' : World} {B : Nat} {v : Value} {xs : List α} (h : OwnOf K t w B v xs) (hb : Below w.heap.size w w') : OwnOf K t w' B v xs :=
  ⟨World.ownsRow.kept h.1 (row := none) ⟨hb.os, hb.tape, hb.output, hb.size, fun k hk _ => hb.block k hk⟩ (by cases h' : v.ownBlock <;> simp), h.2⟩
theorem OwnOf.other {K : Sort8 α} {t t' : TypeId} {w : World} {B b : Nat} {v : Value} {xs : List α} {cs : Array Value} {fr : Nat × Nat} (h : OwnOf K t w B v xs) (hb : w.heap[b]? = some (.cells cs t' fr)) (ht : t' ≠ t) : v.ownBlock ≠ some b := by
  rcases h.1.2 with ⟨rfl, _⟩ | ⟨g, cap, cur, rfl, _, hh, _⟩
  · intro e; cases e
  · intro e
    simp [Value.ownBlock] at e
    subst e
    rw [hh] at hb
    simp at hb
    exact ht hb.2.1.symm
theorem OwnOf.grows {K : Sort8 α} {t : TypeId} {w w' : World} {B : Nat} {v : Value} {xs : List α} (h : OwnOf K t w B v xs) (hg : w.grownBy w' v.ownBlock) (hB : B ≤ w.heap.size) : Below B w w' :=
  ⟨hg.os, hg.tape, hg.output, hg.size, fun k hk => hg.block k (by omega) (fun e => by have := (h.lt k e.symm).1; omega)⟩
/-- What a step that grew it leaves, block by block. -/
theorem OwnOf.step {K : Sort8 α} {t : TypeId} {w w' : World} {B : Nat} {v : Value} {xs : List α} (h : OwnOf K t w B v xs) (hg : w.grownBy w' v.ownBlock) : Below w.heap.size w w' ∨ ∃ g cs, v.ownBlock = some g ∧ B ≤ g ∧ w.heap[g]? = some (.cells cs t (0, 0)) ∧ But w.heap.size g w w' := by
  rcases h.1.2 with ⟨hv, _⟩ | ⟨g, cap, cur, hv, hB, hh, _⟩
  · exact .inl ⟨hg.os, hg.tape, hg.output, hg.size, fun k hk => hg.block k hk (fun e => by rw [hv] at e; cases e)⟩
  · exact .inr ⟨g, _, by rw [hv]; rfl, hB, hh, ⟨hg.os, hg.tape, hg.output, hg.size, fun k hk hne => hg.block k hk (fun e => hne (by rw [hv] at e; cases e; rfl))⟩⟩
theorem fill_one {cs : List Value} {k : Nat} (hk : 0 < k) (hl : cs.length = k) (init : Array Value) (hi : init.size = k) : Instr.fill (fun i => some (i * k, k)) init #[(0, Value.agg cs.toArray)].toList = some cs.toArray := by
  obtain ⟨r, h1, h2, h3⟩ := Great.fill_dense (s := k) hk [Value.agg cs.toArray] 0 init (fun v hv => by
    simp at hv
    subst hv
    show cs.toArray.size = k
    rw [List.size_toArray, hl]) (by simp; omega)
  have e : Instr.fill (fun i => some (i * k, k)) init #[(0, Value.agg cs.toArray)].toList = some r := h1
  rw [e]
  congr 1
  apply Array.ext_getElem?
  intro i
  rw [h3 i]
  by_cases hi2 : i < k
  · have e1 : i / k = 0 := Nat.div_eq_of_lt hi2
    have e2 : i % k = i := Nat.mod_eq_of_lt hi2
    rw [if_pos (by simp; omega)]
    simp [e1, e2, Value.cells]
  · rw [if_neg (by simp; omega), Array.getElem?_eq_none (by omega), Array.getElem?_eq_none (by rw [List.size_toArray, hl]; omega)]
/-- What the program says of a kind: its slice's type, its zero value, its size in bytes. -/
structure SortAt (P : Program) (K : Sort8 α) (ts t : TypeId) where
  bytes : Nat
  small : bytes ≤ 100000
  ksmall : K.size ≤ 100000
  zero : Value
  under : P.underlying ts = some (.slice t)
  info : (P.info? t).map (fun i => (i.zero, i.size, i.bytes)) = some (some zero, K.size, bytes)
  zsize : zero.cells.size = K.size
theorem step_lit_of {P : Program} {K : Sort8 α} {ts t : TypeId} (S : SortAt P K ts t) {ops : Array Oper} {o : Oper} {tmps : Array Value} {ds : List Deferred} {w : World} {C : Act → World → Prop} {Q : Exit → Act → World → Prop} {E : Prop} {d : Nat} {u : Operand} {x : α} (hd : o.dst = some d) (hw : Region.wanted o (yielded ops tmps) = true) (ho : o.op = .buildSlice ts 1 #[(0, u)])
    (hu : Act.eval { tmps := tmps, defers := ds } u = .agg (K.cells x).toArray) (hx : (K.cells x).length = K.size)
    (h : ∀ (p : Nat) (w' : World), w.heap.size ≤ p → w'.heap[p]? = some (.cells (K.cells x).toArray t (0, 0)) → Below w.heap.size w w' → C { tmps := tmps.setIfInBounds d (.slice (some ⟨p, 0, none⟩) 1 1), defers := ds } w') :
    if Region.wanted o (yielded ops tmps) = true then Oper.wp P o { tmps := tmps, defers := ds } w C Q else E := by
  rw [if_pos hw]
  obtain ⟨ie, h1, h2, h3, _⟩ := info_parts S.info
  have hk := S.ksmall
  have hp := K.pos
  have hf := fill_one K.pos hx ((Array.range (1 * K.size)).map (S.zero.cells[· % S.zero.cells.size]!)) (by simp)
  have hrun : (Instr.buildSlice ts 1 #[(0, .agg (K.cells x).toArray)]).run P w = .ok (.slice (some ⟨w.heap.size, 0, none⟩) 1 1) (w.alloc (.cells (K.cells x).toArray t)) :=
    run_buildSlice w ts t 1 _ _ ie _ S.under h1 h2 (by rw [h3]; omega) (by rw [h3]; omega) (by rw [h3]; exact hf)
  unfold Oper.wp execOp
  simp only [ho, List.map_toArray, List.map_cons, List.map_nil, hu, Sem.run_bind, hrun, Sem.run_pure, Result.andThen_ok]
  show C (Act.put _ o.dst _) _
  rw [hd]
  exact h _ _ (Nat.le_refl _) (heap_alloc_new _ _) ((Below.refl _ _).alloc (Nat.le_refl _) _)
/-- One that lies in a block is joined to a slice of the call's own. -/
theorem append_of {P : Program} {K : Sort8 α} {ts t : TypeId} (S : SortAt P K ts t) (w : World) (B : Nat) (v : Value) (xs : List α) (h : OwnOf K t w B v xs) (p : Nat) (x : α) {tp : TypeId} {fr : Nat × Nat} (hp : w.heap[p]? = some (.cells (K.cells x).toArray tp fr)) (hx : (K.cells x).length = K.size) (hb : xs.length + 1 ≤ 1000000) (hbase : B ≤ w.heap.size) :
    ∃ a' c' w', (Builtin.append_ #[ts, ts] ts #[v, .slice (some ⟨p, 0, none⟩) 1 1]).run P w = .ok (.slice a' (xs.length + 1) c') w' ∧ OwnOf K t w' B (.slice a' (xs.length + 1) c') (xs ++ [x]) ∧ w.grownBy w' v.ownBlock := by
  obtain ⟨ie, i1, i2, i3, i4⟩ := info_parts S.info
  have hall : ∀ y ∈ xs ++ [x], (K.cells y).length = K.size := fun y hy => by
    rcases List.mem_append.1 hy with hy | hy
    · exact h.2 y hy
    · simp at hy
      subst hy
      exact hx
  have hby : (xs.length + 1) * S.bytes ≤ 140737488355328 := Nat.le_trans (Nat.mul_le_mul hb S.small) (by omega)
  obtain ⟨v', w', h1, h2, h3, _⟩ := run_append_own (P := P) w B ts ts t ie _ K.size S.bytes S.under i1 i2 i3 i4 S.zsize K.pos v xs.length (xs.flatMap K.cells) h.1 ⟨p, 0, none⟩ 1 1 (K.cells x) (by omega)
    (fun j u hj => by
      have e1 : (⟨p, 0, none⟩ : Addr).add j = ⟨p, 0 + j, none⟩ := by unfold Addr.add; split <;> simp_all
      rw [e1, Nat.zero_add, cell_of_row w p _ _ _ _ hp, ← hj]
      simp)
    (K.one x) (by unfold maxLen; omega) hby hbase
  have hO : OwnOf K t w' B v' (xs ++ [x]) := ⟨by rw [List.length_append, List.flatMap_append, show [x].flatMap K.cells = K.cells x by simp]; exact h2, hall⟩
  obtain ⟨a', c', rfl, _⟩ := hO.shape
  have e : (xs ++ [x]).length = xs.length + 1 := by simp
  rw [e] at h1 hO
  exact ⟨a', c', w', h1, hO, h3⟩
theorem step_append_of {P : Program} {K : Sort8 α} {ts t : TypeId} (S : SortAt P K ts t) {ops : Array Oper} {o : Oper} {tmps : Array Value} {ds : List Deferred} {w : World} {C : Act → World → Prop} {Q : Exit → Act → World → Prop} {E : Prop} {d : Nat} (hd : o.dst = some d) (hw : Region.wanted o (yielded ops tmps) = true) (u y : Operand)
    (ho : o.op = .call { callee := .builtin .append, args := #[u, y], argTypes := #[ts, ts] }) (hty : o.type = ts) (B : Nat) (v : Value) (xs : List α) (hu : (Act.eval { tmps := tmps, defers := ds } u) = v) (h : OwnOf K t w B v xs) (p : Nat) (x : α) (hy : (Act.eval { tmps := tmps, defers := ds } y) = .slice (some ⟨p, 0, none⟩) 1 1) {tp : TypeId} {fr : Nat × Nat} (hp : w.heap[p]? = some (.cells (K.cells x).toArray tp fr)) (hx : (K.cells x).length = K.size) (hb : xs.length + 1 ≤ 1000000) (hbase : B ≤ w.heap.size)
    (hk : ∀ a' c' w', OwnOf K t w' B (.slice a' (xs.length + 1) c') (xs ++ [x]) → w.grownBy w' v.ownBlock → C { tmps := tmps.setIfInBounds d (.slice a' (xs.length + 1) c'), defers := ds } w') :
    if Region.wanted o (yielded ops tmps) = true then Oper.wp P o { tmps := tmps, defers := ds } w C Q else E := by
  rw [if_pos hw]
  obtain ⟨a', c', w', h1, h2, h3⟩ := append_of S w B v xs h p x hp hx hb hbase
  unfold Oper.wp execOp
  simp only [ho, hty, resolve, invoke, builtin, Sem.run_bind, Sem.run_pure, Result.andThen_ok, List.map_toArray, List.map_cons, List.map_nil, hu, hy, h1]
  show C (Act.put _ o.dst _) _
  rw [hd]
  exact hk a' c' w' h2 h3
end Go.Proofs.YtlnenkmcegadmaaDoor
