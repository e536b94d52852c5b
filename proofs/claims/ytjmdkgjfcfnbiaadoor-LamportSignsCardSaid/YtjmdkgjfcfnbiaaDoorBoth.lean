/- Two rows of bytes of the call's own that grow side by side; two variables made, and stored into, in a region that draws its order. No function of the program is named. -/
import Derived.Test.YtjmdkgjfcfnbiaaDoorTwo
import Derived.Maps.AppendAt
namespace Go.Proofs.YtjmdkgjfcfnbiaaDoor
open Go.RowKit

/-- Two rows under way, in blocks of their own. -/
structure Both (w0 : World) (u : Value) (l : List UInt8) (v : Value) (m : List UInt8) (wr : World) : Prop where
  left : Under w0 u l wr
  right : Under w0 v m wr
  apart : ∀ k, u.ownBlock = some k → v.ownBlock ≠ some k
theorem Both.more {w0 w w' : World} {u v : Value} {l m : List UInt8} (h : Both w0 u l v m w) (hb : Below w.heap.size w w') : Both w0 u l v m w' := ⟨h.left.more hb, h.right.more hb, h.apart⟩
theorem Both.swap {w0 w : World} {u v : Value} {l m : List UInt8} (h : Both w0 u l v m w) : Both w0 v m u l w := ⟨h.right, h.left, fun k e1 e2 => h.apart k e2 e1⟩
theorem Both.none (w0 : World) : Both w0 (.slice none 0 0) [] (.slice none 0 0) [] w0 := ⟨Under.none w0, Under.none w0, fun k e => by cases e⟩
theorem Both.grown {w0 w w' : World} {a a' : Option Addr} {n c n' c' : Nat} {v : Value} {l l' m : List UInt8} (h : Both w0 (.slice a n c) l v m w) (ho : Own w' w0.heap.size (.slice a' n' c') l') (hg : w.grownBy w' (Value.ownBlock (.slice a n c)))
    (hloc : Value.ownBlock (.slice a' n' c') = Value.ownBlock (.slice a n c) ∨ Value.ownBlock (.slice a' n' c') = some w.heap.size) : Both w0 (.slice a' n' c') l' v m w' := by
  have hl := h.left.grown ho hg
  refine ⟨hl, ⟨World.ownsRow.kept h.right.own hg ?_, hl.below⟩, fun k e1 e2 => ?_⟩
  · by_cases e : v.ownBlock = Option.none
    · exact .inl e
    · refine .inr fun e2 => ?_
      obtain ⟨k, hk⟩ := Option.ne_none_iff_exists'.1 e
      exact h.apart k (e2 ▸ hk) hk
  · rcases hloc with e | e
    · exact h.apart k (e ▸ e1) e2
    · rw [e] at e1
      cases e1
      have := h.right.old _ e2
      omega
theorem append_row_at {P : Program} (w : World) (B : Nat) (t ty : TypeId) (i : TypeInfo) (ht : P.underlying t = some (.slice 5)) (hi : P.info? 5 = some i) (hz : i.zero = some (.int .u8 0)) (hsize : i.size = 1) (hby : i.bytes = 1)
    (v : Value) (l : List UInt8) (hown : Own w B v l) (b off m c : Nat) (s : List UInt8) (hs : Row w (some ⟨b, off, none⟩) m c s) (hb : l.length + m ≤ 140737488355328) (hbase : B ≤ w.heap.size) :
    ∃ a' c' w', (Builtin.append_ #[t, t] ty #[v, .slice (some ⟨b, off, none⟩) m c]).run P w = .ok (.slice a' (l.length + m) c') w' ∧ Own w' B (.slice a' (l.length + m) c') (l ++ s) ∧ w.grownBy w' v.ownBlock ∧
      (Value.ownBlock (.slice a' (l.length + m) c') = v.ownBlock ∨ Value.ownBlock (.slice a' (l.length + m) c') = some w.heap.size) := by
  have hsl := hs.1
  obtain ⟨v', w', h1, h2, h3, _, h5⟩ := run_append_own_at (P := P) w B t ty 5 i (.int .u8 0) 1 1 ht hi hz hsize hby rfl (by decide) v l.length (cellsOf l) hown ⟨b, off, none⟩ m c (cellsOf s) (by simp [cellsOf, hsl])
    (fun j u hj => by
      have hjm : j < m := by
        have := (List.getElem?_eq_some_iff.1 hj).1
        simpa [cellsOf, hsl] using this
      obtain ⟨b, off, he, _, hc⟩ := hs.2.2.2.2 (by omega)
      cases he
      have e1 : (⟨b, off, none⟩ : Addr).add j = ⟨b, off + j, none⟩ := by simp [Addr.add]
      rw [e1, hc j hjm, ← hj, cellsOf_get (by omega)])
    (cellsOf_one s) (by unfold maxLen; omega) (by omega) hbase
  have hO : Own w' B v' (l ++ s) := by
    unfold Own
    rw [cellsOf_append, List.length_append, hsl]
    exact h2
  obtain ⟨a', c', rfl, _⟩ := hO.shape
  have e : (l ++ s).length = l.length + m := by simp [hsl]
  rw [e] at h1 hO h5
  exact ⟨a', c', w', h1, hO, h3, h5⟩
theorem wpList_append_row_at {P : Program} (w : World) {ops : Array Oper} {rest : List Oper} {o : Oper} {A : Act} {Q : Exit → Act → World → Prop} (hgd : o.guard = none) (s x : Operand) (t : TypeId)
    (ho : o.op = .call { callee := .builtin .append, args := #[s, x], argTypes := #[t, t] }) (B : Nat) (i : TypeInfo) (ht : P.underlying t = some (.slice 5)) (hi : P.info? 5 = some i) (hz : i.zero = some (.int .u8 0)) (hsize : i.size = 1) (hby : i.bytes = 1)
    (v : Value) (l : List UInt8) (n : Nat) (hn : l.length = n) (hs : A.eval s = v) (hown : Own w B v l) (b off m c : Nat) (q : List UInt8) (hx : A.eval x = .slice (some ⟨b, off, none⟩) m c) (hq : Row w (some ⟨b, off, none⟩) m c q) (hb : n + m ≤ 140737488355328) (hbase : B ≤ w.heap.size)
    (h : ∀ a' c' w', Own w' B (.slice a' (n + m) c') (l ++ q) → w.grownBy w' v.ownBlock → (Value.ownBlock (.slice a' (n + m) c') = v.ownBlock ∨ Value.ownBlock (.slice a' (n + m) c') = some w.heap.size) → wpList P ops Q rest (A.put o.dst (.slice a' (n + m) c')) w') : wpList P ops Q (o :: rest) A w := by
  subst hn
  refine wpList_plain hgd fun K hK => ?_
  obtain ⟨a', c', w', h1, h2, h3, h4⟩ := append_row_at (P := P) w B t o.type i ht hi hz hsize hby v l hown b off m c q hq hb hbase
  unfold Oper.wp execOp
  simp only [ho, resolve, invoke, builtin, Sem.run_bind, Sem.run_pure, Result.andThen_ok, List.map_toArray, List.map_cons, List.map_nil, hs, hx, h1]
  exact hK _ _ (h a' c' w' h2 h3 h4)
/-- A new variable, in a region: its block and the world behind it by name. -/
theorem step_alloc_gen {ops : Array Oper} {o : Oper} {tmps : Array Value} {ds : List Deferred} {w : World} {K : Act → World → Prop} {Q : Exit → Act → World → Prop} {E : Prop} {d : Nat} (hd : o.dst = some d) (hw : Region.wanted o (yielded ops tmps) = true) (ty : TypeId) (ho : o.op = .alloc ty) (l : List UInt8)
    {sz by' : Nat} (hi : (Tryd.prog.info? ty).map (fun i => (i.zero, i.size, i.bytes)) = some (some (.agg (cellsOf l).toArray), sz, by'))
    (h : ∀ (p : Nat) (w' : World), w.heap.size ≤ p → w'.heap[p]? = some (.cells (cellsOf l).toArray ty (0, 0)) → Below w.heap.size w w' → K { tmps := tmps.setIfInBounds d (.pointer (some ⟨p, 0, none⟩)), defers := ds } w') :
    if Region.wanted o (yielded ops tmps) = true then Oper.wp Tryd.prog o { tmps := tmps, defers := ds } w K Q else E :=
  step_alloc_at hd hw ty ho l hi (h _ _ (Nat.le_refl _) (heap_alloc_new _ _) ((Below.refl _ _).alloc (Nat.le_refl _) _))
theorem Tryd.zeroRow : (Tryd.prog.info? 24).map (fun i => (i.zero, i.size, i.bytes)) = some (some (.slice none 0 0), 1, 24) := by kernel_rfl
/-- A slice literal of one slice of bytes, in a region. -/
theorem step_buildRow_gen {ops : Array Oper} {o : Oper} {tmps : Array Value} {ds : List Deferred} {w : World} {K : Act → World → Prop} {Q : Exit → Act → World → Prop} {E : Prop} {d : Nat} {x : Operand} {a : Option Addr} {n c : Nat} (hd : o.dst = some d) (hw : Region.wanted o (yielded ops tmps) = true) (ho : o.op = .buildSlice 40 1 #[(0, x)])
    (hx : Act.eval { tmps := tmps, defers := ds } x = .slice a n c)
    (h : ∀ (p : Nat) (w' : World), w.heap.size ≤ p → w'.heap[p]? = some (.cells #[.slice a n c] 24 (0, 0)) → Below w.heap.size w w' → K { tmps := tmps.setIfInBounds d (.slice (some ⟨p, 0, none⟩) 1 1), defers := ds } w') :
    if Region.wanted o (yielded ops tmps) = true then Oper.wp Tryd.prog o { tmps := tmps, defers := ds } w K Q else E := by
  rw [if_pos hw]
  obtain ⟨ie, h1, h2, h3, _⟩ := info_parts Tryd.zeroRow
  have hrun : (Instr.buildSlice 40 1 #[(0, .slice a n c)]).run Tryd.prog w = .ok (.slice (some ⟨w.heap.size, 0, none⟩) 1 1) (w.alloc (.cells #[.slice a n c] 24)) :=
    run_buildSlice w 40 24 1 _ _ ie _ Tryd.underlying40 h1 h2 (by rw [h3]; omega) (by rw [h3]; omega) (by rw [h3]; simp [Instr.fill, Value.cells]; rw [show Array.range 1 = #[0] by rfl]; simp)
  unfold Oper.wp execOp
  simp only [ho, List.map_toArray, List.map_cons, List.map_nil, hx, Sem.run_bind, hrun, Sem.run_pure, Result.andThen_ok]
  show K (Act.put _ o.dst _) _
  rw [hd]
  exact h _ _ (Nat.le_refl _) (heap_alloc_new _ _) ((Below.refl _ _).alloc (Nat.le_refl _) _)
/-- 'string(b)', taken first. -/
theorem yields_conv {ops : Array Oper} {S : World → Prop} {op : Oper} {A : Act} {x : Operand} {a : Option Addr} {n c : Nat} {l : List UInt8} {bs : ByteArray} (hw : Region.wanted op (yielded ops A.tmps) = true) (ho : op.op = .convert 24 9 x) (hx : A.eval x = .slice a n c) (hb : (⟨l.toArray⟩ : ByteArray) = bs) (h : ∀ w, S w → Row w a n c l) :
    YieldsIf Tryd.prog ops S op (.string bs) A :=
  .inl ⟨hw, fun w hS => by
    have hc := conv_row (h w hS)
    rw [hb] at hc
    unfold execOp
    simp only [ho, hx, Sem.run_bind, hc, Result.andThen_ok, Sem.run_pure]⟩
/-- Two variables that were made in a region, and stored into. -/
structure Pair2 (w0 : World) (p q : Nat) (d e : List UInt8) (w : World) : Prop where
  first : w.heap[p]? = some (.cells (cellsOf d).toArray 23 (0, 0))
  next : w.heap[q]? = some (.cells (cellsOf e).toArray 23 (0, 0))
  geFirst : w0.heap.size ≤ p
  geNext : w0.heap.size ≤ q
  below : Below w0.heap.size w0 w
theorem pair_stores {w0 F : World} {p q : Nat} {d e : List UInt8} (hF : Below w0.heap.size w0 F) (hp : F.heap[p]? = some (.cells (cellsOf zero32).toArray 23 (0, 0))) (hq : F.heap[q]? = some (.cells (cellsOf zero32).toArray 23 (0, 0))) (hne : p ≠ q) (h1 : w0.heap.size ≤ p) (h2 : w0.heap.size ≤ q) :
    Pair2 w0 p q d e ((F.setRow p (cellsOf d).toArray).setRow q (cellsOf e).toArray) := by
  have hq' : (F.setRow p (cellsOf d).toArray).heap[q]? = some (.cells (cellsOf zero32).toArray 23 (0, 0)) := (setRow_other _ _ _ _ hne.symm).trans hq
  have b1 : Below w0.heap.size w0 (F.setRow p (cellsOf d).toArray) := hF.trans (((but_setRow _ p _).mono hF.size).below h1)
  exact ⟨(setRow_other _ _ _ _ hne).trans (setRow_heap _ _ _ _ _ _ hp), setRow_heap _ _ _ _ _ _ hq', h1, h2, b1.trans (((but_setRow _ q _).mono b1.size).below h2)⟩
end Go.Proofs.YtjmdkgjfcfnbiaaDoor
