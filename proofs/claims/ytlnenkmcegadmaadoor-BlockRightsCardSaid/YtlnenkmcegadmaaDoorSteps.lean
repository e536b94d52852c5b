/- Steps of plain and of drawn regions, by name: variables made and stored, fields stored, look-ups, values put into a map, struck, built; what stays where some blocks are written. No function, type or variable of the program is named. -/
import Derived.Test.YtlnenkmcegadmaaDoorMemory
import Derived.Great.FillDense
import Derived.Maps.RangeWalk
import Derived.Deep.Cut
import Derived.BigQuiet
namespace Go.Proofs.YtlnenkmcegadmaaDoor
open Go.RowKit

/-! ### Frames -/
/-- All blocks stay but those that S names. -/
structure Bar (S : Nat → Option Obj → Prop) (w w' : World) : Prop where
  os : w'.os = w.os
  tape : w'.tape = w.tape
  output : w'.output = w.output
  size : w.heap.size ≤ w'.heap.size
  block : ∀ k, k < w.heap.size → ¬ S k w.heap[k]? → w'.heap[k]? = w.heap[k]?
theorem Bar.trans {S : Nat → Option Obj → Prop} {a b c : World} (h : Bar S a b) (k : Bar S b c) : Bar S a c :=
  ⟨k.os.trans h.os, k.tape.trans h.tape, k.output.trans h.output, Nat.le_trans h.size k.size, fun i hi hn => by
    have h1 := h.block i hi hn
    rw [k.block i (Nat.lt_of_lt_of_le hi h.size) (by rw [h1]; exact hn), h1]⟩
theorem Bar.of {S : Nat → Option Obj → Prop} {w w' : World} (h : Below w.heap.size w w') : Bar S w w' := ⟨h.os, h.tape, h.output, h.size, fun k hk _ => h.block k hk⟩
theorem Bar.grown {S : Nat → Option Obj → Prop} {w w' : World} {r : Option Nat} (h : w.grownBy w' r) (hS : ∀ k, r = some k → S k w.heap[k]?) : Bar S w w' :=
  ⟨h.os, h.tape, h.output, h.size, fun k hk hn => h.block k hk (fun e => hn (hS k e.symm))⟩
theorem Bar.but {S : Nat → Option Obj → Prop} {w w' : World} {p : Nat} (h : But w.heap.size p w w') (hS : p < w.heap.size → S p w.heap[p]?) : Bar S w w' :=
  ⟨h.os, h.tape, h.output, h.size, fun k hk hn => h.block k hk (fun e => hn (by subst e; exact hS hk))⟩
theorem Bar.keep {S : Nat → Option Obj → Prop} {w w' : World} {g : Nat} {o : Obj} (h : Bar S w w') (hg : w.heap[g]? = some o) (hn : ¬ S g (some o)) : w'.heap[g]? = some o :=
  (h.block g (Array.getElem?_eq_some_iff.1 hg).1 (by rw [hg]; exact hn)).trans hg
theorem keep {w w' : World} {g : Nat} {o : Obj} (h : Below w.heap.size w w') (hg : w.heap[g]? = some o) : w'.heap[g]? = some o := (h.block g (Array.getElem?_eq_some_iff.1 hg).1).trans hg
theorem keepB {B : Nat} {w w' : World} {g : Nat} {o : Obj} (h : Below B w w') (hB : g < B) (hg : w.heap[g]? = some o) : w'.heap[g]? = some o := (h.block g hB).trans hg
theorem bthen {w0 w w' : World} (h : Below w0.heap.size w0 w) (k : Below w.heap.size w w') : Below w0.heap.size w0 w' := h.trans (k.mono h.size)
theorem bthenB {B : Nat} {w0 w w' : World} (h : Below B w0 w) (hB : B ≤ w.heap.size) (k : Below w.heap.size w w') : Below B w0 w' := h.trans (k.mono hB)
theorem But.in {w0 w w' : World} {g : Nat} (h : Below w0.heap.size w0 w) (k : But w.heap.size g w w') (hg : w0.heap.size ≤ g) : Below w0.heap.size w0 w' := h.trans ((k.mono h.size).below hg)

/-! ### Cells of one block -/
theorem set_heap {w : World} {g : Nat} {cs : List Value} {t : TypeId} (h : w.heap[g]? = some (.cells cs.toArray t (0, 0))) (o : Nat) (v : Value) : (w.setCell ⟨g, o, none⟩ v).heap[g]? = some (.cells (cs.set o v).toArray t (0, 0)) := by
  rw [← List.setIfInBounds_toArray]
  obtain ⟨hlt, hk⟩ := Array.getElem?_eq_some_iff.1 h
  show (w.heap.modify g _)[g]? = _
  rw [Array.getElem?_eq_getElem (by rw [Array.size_modify]; exact hlt), Array.getElem_modify_self, hk]
  rfl
theorem set_but (w : World) (g o : Nat) (v : Value) : But w.heap.size g w (w.setCell ⟨g, o, none⟩ v) := (But.refl _ _ _).setCell ⟨g, o, none⟩ (.inl rfl) v
/-- Cells with others from a place on. -/
def spl : List Value → Nat → List Value → List Value
  | cs, _, [] => cs
  | cs, o, v :: vs => spl (cs.set o v) (o + 1) vs
theorem spl_heap {g : Nat} {t : TypeId} : ∀ (vs : List Value) (o : Nat) (cs : List Value) (w : World), w.heap[g]? = some (.cells cs.toArray t (0, 0)) → (w.setCells g o vs).heap[g]? = some (.cells (spl cs o vs).toArray t (0, 0))
  | [], _, _, _, h => h
  | v :: vs, o, cs, w, h => spl_heap vs (o + 1) (cs.set o v) (w.setCell ⟨g, o, none⟩ v) (set_heap h o v)
theorem spl_but {B g : Nat} {w0 : World} : ∀ (vs : List Value) (o : Nat) (w : World), But B g w0 w → But B g w0 (w.setCells g o vs)
  | [], _, _, h => h
  | v :: vs, o, w, h => spl_but vs (o + 1) (w.setCell ⟨g, o, none⟩ v) (h.setCell ⟨g, o, none⟩ (.inl rfl) v)
theorem spl_mid : ∀ (ds bs cs es : List Value), bs.length = ds.length → spl (cs ++ (bs ++ es)) cs.length ds = cs ++ (ds ++ es)
  | [], bs, cs, es, h => by
    obtain rfl : bs = [] := List.eq_nil_of_length_eq_zero (by simpa using h)
    rfl
  | d :: ds, bs, cs, es, h => by
    cases bs with
    | nil => simp at h
    | cons b bs =>
      have ih := spl_mid ds bs (cs ++ [d]) es (by simpa using h)
      unfold spl
      have e : (cs ++ (b :: bs ++ es)).set cs.length d = (cs ++ [d]) ++ (bs ++ es) := by
        rw [List.set_append_right _ _ (Nat.le_refl _), Nat.sub_self]
        simp
      rw [e, show cs.length + 1 = (cs ++ [d]).length by simp, ih]
      simp

/-! ### Steps of plain regions -/
section
variable {P : Program} {ops : Array Oper} {rest : List Oper} {o o2 : Oper} {A : Act} {w : World} {Q : Exit → Act → World → Prop}
/-- A variable is made. -/
theorem wpList_alloc10 (hgd : o.guard = none) (ty : TypeId) (ho : o.op = .alloc ty) (zs : Array Value) {sz by' : Nat} (hi : (P.info? ty).map (fun i => (i.zero, i.size, i.bytes)) = some (some (.agg zs), sz, by'))
    (h : wpList P ops Q rest (A.put o.dst (.pointer (some ⟨w.heap.size, 0, none⟩))) (w.alloc (.cells zs ty))) : wpList P ops Q (o :: rest) A w := by
  refine wpList_plain hgd fun K' hK => ?_
  obtain ⟨ie, h1, h2, h3, _⟩ := info_parts hi
  have hrun : (Instr.alloc ty true (.tuple #[])).run P w = .ok (.pointer (some ⟨w.heap.size, 0, none⟩)) (w.alloc (.cells zs ty)) := by
    simp [Instr.alloc, zeroValue, typeInfo, h1, h2, newVar, newRow, Value.cells]
  unfold Oper.wp execOp
  simp only [ho, Sem.run_bind, hrun, Sem.run_pure, Result.andThen_ok]
  exact hK _ _ h
/-- .. by name. -/
theorem wpList_new (hgd : o.guard = none) (ty : TypeId) (ho : o.op = .alloc ty) (zs : Array Value) {sz by' : Nat} (hi : (P.info? ty).map (fun i => (i.zero, i.size, i.bytes)) = some (some (.agg zs), sz, by'))
    (h : ∀ (g : Nat) (w' : World), w.heap.size ≤ g → w'.heap[g]? = some (.cells zs ty (0, 0)) → Below w.heap.size w w' → wpList P ops Q rest (A.put o.dst (.pointer (some ⟨g, 0, none⟩))) w') : wpList P ops Q (o :: rest) A w :=
  wpList_alloc10 hgd ty ho zs hi (h _ _ (Nat.le_refl _) (heap_alloc_new _ _) ((Below.refl _ _).alloc (Nat.le_refl _) _))
/-- A variable is made and stored. -/
theorem wpList_var (hgd : o.guard = none) (hgd2 : o2.guard = none) (ty : TypeId) (ho : o.op = .alloc ty) (x y : Operand) (ho2 : o2.op = .store ty x y) (zs : Array Value) {sz by' : Nat} (hi : (P.info? ty).map (fun i => (i.zero, i.size, i.bytes)) = some (some (.agg zs), sz, by')) (hz : zs.size = sz)
    (cs : List Value) (hx : ∀ g : Nat, (A.put o.dst (.pointer (some ⟨g, 0, none⟩))).eval x = .pointer (some ⟨g, 0, none⟩)) (hy : ∀ g : Nat, (A.put o.dst (.pointer (some ⟨g, 0, none⟩))).eval y = .agg cs.toArray) (hl : cs.length = sz) (h1 : ∀ v ∈ cs, v.oneCell' = true)
    (h : ∀ (g : Nat) (w' : World), w.heap.size ≤ g → w'.heap[g]? = some (.cells cs.toArray ty (0, 0)) → Below w.heap.size w w' → wpList P ops Q rest ((A.put o.dst (.pointer (some ⟨g, 0, none⟩))).put o2.dst undef) w') : wpList P ops Q (o :: o2 :: rest) A w := by
  refine wpList_alloc10 hgd ty ho zs hi ?_
  refine wpList_store_row hgd2 ty x y ho2 w.heap.size cs.toArray (hx _) (hy _) ty zs (heap_alloc_new _ _) ?_ (by simp [hl, hz]) (all_oneCell_toArray h1) ?_
  · obtain ⟨ie, h4, _, h5, _⟩ := info_parts hi
    rw [h4, Option.map_some, h5, List.size_toArray, hl]
  · exact h _ _ (Nat.le_refl _) (setRow_heap _ _ _ _ _ _ (heap_alloc_new _ _)) (((Below.refl _ _).alloc (Nat.le_refl _) _).trans ((but_setRow _ w.heap.size _).mono (by simp) |>.below (Nat.le_refl _)))
/-- A value is put into a new block. -/
theorem wpList_box10 (hgd : o.guard = none) (ty : TypeId) (x : Operand) (ho : o.op = .box ty x) (cs : Array Value) (hx : A.eval x = .agg cs)
    (h : ∀ (g : Nat) (w' : World), w.heap.size ≤ g → w'.heap[g]? = some (.cells cs ty (0, 0)) → Below w.heap.size w w' → wpList P ops Q rest (A.put o.dst (.pointer (some ⟨g, 0, none⟩))) w') : wpList P ops Q (o :: rest) A w := by
  refine wpList_plain hgd fun K' hK => ?_
  have hrun : (Instr.box ty (.agg cs)).run P w = .ok (.pointer (some ⟨w.heap.size, 0, none⟩)) (w.alloc (.cells cs ty)) := by
    simp [Instr.box, newVar, newRow, Value.cells]
  unfold Oper.wp execOp
  simp only [ho, hx, Sem.run_bind, hrun, Sem.run_pure, Result.andThen_ok]
  exact hK _ _ (h _ _ (Nat.le_refl _) (heap_alloc_new _ _) ((Below.refl _ _).alloc (Nat.le_refl _) _))
/-- A whole row is stored. -/
theorem wpList_row10 (hgd : o.guard = none) (ty : TypeId) (x y : Operand) (ho : o.op = .store ty x y) (g : Nat) (cs : List Value) (hx : A.eval x = .pointer (some ⟨g, 0, none⟩)) (hy : A.eval y = .agg cs.toArray) (t : TypeId) (old : List Value) (hg : w.heap[g]? = some (.cells old.toArray t (0, 0))) (hi : (P.info? ty).map (·.size) = some cs.length) (hl : old.length = cs.length) (h1 : ∀ v ∈ cs, v.oneCell' = true)
    (h : ∀ w' : World, w'.heap[g]? = some (.cells cs.toArray t (0, 0)) → But w.heap.size g w w' → wpList P ops Q rest (A.put o.dst undef) w') : wpList P ops Q (o :: rest) A w :=
  wpList_store_row hgd ty x y ho g cs.toArray hx hy t old.toArray hg (by rw [List.size_toArray]; exact hi) (by rw [List.size_toArray, List.size_toArray, hl]) (all_oneCell_toArray h1) (h _ (setRow_heap _ _ _ _ _ _ hg) (but_setRow _ _ _))
/-- A field of one cell is stored. -/
theorem wpList_field10 (hgd : o.guard = none) (ty : TypeId) (x y : Operand) (ho : o.op = .store ty x y) (g off : Nat) (hx : A.eval x = .pointer (some ⟨g, off, none⟩)) (v : Value) (hy : A.eval y = v) (t : TypeId) (cs : List Value) (hg : w.heap[g]? = some (.cells cs.toArray t (0, 0))) (hoff : off < cs.length) (hi : (P.info? ty).map (·.size) = some 1) (h1 : v.oneCell' = true)
    (h : ∀ w' : World, w'.heap[g]? = some (.cells (cs.set off v).toArray t (0, 0)) → But w.heap.size g w w' → wpList P ops Q rest (A.put o.dst undef) w') : wpList P ops Q (o :: rest) A w := by
  refine wpList_plain hgd fun K' hK => ?_
  have hc : w.cell? ⟨g, off, none⟩ = some (cs[off]) := by
    rw [cell_of_row w g off _ t _ hg]
    simp [hoff]
  unfold Oper.wp execOp
  simp only [ho, hx, hy, Instr.storeAt, Instr.sureAddr, Sem.run_bind, Sem.run_pure, Result.andThen_ok, run_store_cell w g off ty _ v hc (frozen_of_row w g off _ t hg) hi h1]
  exact hK _ _ (h _ (set_heap hg off v) (set_but w g off v))
/-- A field of many cells is stored. -/
theorem wpList_part10 (hgd : o.guard = none) (ty : TypeId) (x y : Operand) (ho : o.op = .store ty x y) (g off : Nat) (hx : A.eval x = .pointer (some ⟨g, off, none⟩)) (ds : List Value) (hy : A.eval y = .agg ds.toArray) (t : TypeId) (cs bs es : List Value) (hg : w.heap[g]? = some (.cells (cs ++ (bs ++ es)).toArray t (0, 0))) (hoff : off = cs.length) (hb : bs.length = ds.length) (hi : (P.info? ty).map (·.size) = some ds.length) (h1 : ∀ v ∈ ds, v.oneCell' = true)
    (h : ∀ w' : World, w'.heap[g]? = some (.cells (cs ++ (ds ++ es)).toArray t (0, 0)) → But w.heap.size g w w' → wpList P ops Q rest (A.put o.dst undef) w') : wpList P ops Q (o :: rest) A w := by
  subst hoff
  have hth : w.there g cs.length ds.toArray.size := fun j hj => by
    rw [List.size_toArray] at hj
    refine ⟨?_, frozen_of_row w g _ _ t hg⟩
    rw [cell_of_row w g _ _ t _ hg]
    have : cs.length + j < (cs ++ (bs ++ es)).length := by rw [List.length_append, List.length_append]; omega
    simp only [List.getElem?_toArray, List.getElem?_eq_getElem this, Option.isSome_some]
  refine wpList_store_mid hgd ty x y ho g cs.length ds.toArray hx hy hth (by rw [List.size_toArray]; exact hi) (all_oneCell_toArray h1) ?_
  have e := spl_heap ds cs.length _ w hg
  rw [spl_mid ds bs cs es hb] at e
  exact h _ e (spl_but ds cs.length w (But.refl _ _ _))
/-- 'm[k]'. -/
theorem wpList_look10 {t : TypeId} {x y : Operand} {cm : Bool} {m k v : Value} (hgd : o.guard = none) (ho : o.op = .lookup t x y cm) (hx : A.eval x = m) (hy : A.eval y = k) (hrun : (Instr.lookup t m k cm).run P w = .ok v w)
    (h : wpList P ops Q rest (A.put o.dst v) w) : wpList P ops Q (o :: rest) A w := by
  refine wpList_plain hgd fun K' hK => ?_
  unfold Oper.wp execOp
  simp only [ho, hx, hy, Sem.run_bind, hrun, Result.andThen_ok, Sem.run_pure]
  exact hK _ _ h
/-- 'delete(m, k)'. -/
theorem wpList_delete10 {t kt : TypeId} {x y : Operand} {m k : Value} {R : World → Prop} (hgd : o.guard = none) (ho : o.op = .call { callee := .builtin .delete, args := #[x, y], argTypes := #[t, kt] }) (hx : A.eval x = m) (hy : A.eval y = k) (hrun : ∀ ty, ∃ w', (Builtin.delete_ #[t, kt] ty #[m, k]).run P w = .ok (.tuple #[]) w' ∧ R w')
    (h : ∀ w', R w' → wpList P ops Q rest (A.put o.dst (.tuple #[])) w') : wpList P ops Q (o :: rest) A w := by
  refine wpList_plain hgd fun K' hK => ?_
  obtain ⟨w', h1, h2⟩ := hrun o.type
  unfold Oper.wp execOp
  simp only [ho, resolve, invoke, builtin, Sem.run_bind, Sem.run_pure, Result.andThen_ok, List.map_toArray, List.map_cons, List.map_nil, hx, hy, h1]
  exact hK _ _ (h w' h2)
/-- A struct is built. -/
theorem wpList_build10 {t : TypeId} {fs : Array (Nat × Operand)} {vs : List (Nat × Value)} {r : Value} (hgd : o.guard = none) (ho : o.op = .build t fs) (hx : (fs.toList.map fun f => (f.1, A.eval f.2)) = vs) (hrun : ∀ w, (Instr.build t vs.toArray).run P w = .ok r w)
    (h : wpList P ops Q rest (A.put o.dst r) w) : wpList P ops Q (o :: rest) A w := by
  refine wpList_plain hgd fun K' hK => ?_
  have e : (fs.map fun f => (f.1, A.eval f.2)) = vs.toArray := by rw [← hx]; apply Array.toList_inj.1; exact Array.toList_map
  unfold Oper.wp execOp
  simp only [ho, e, Sem.run_bind, hrun w, Result.andThen_ok, Sem.run_pure]
  exact hK _ _ h
end

/-! ### Steps of drawn regions -/
section
variable {P : Program} {ops : Array Oper} {o : Oper} {w : World} {K : Act → World → Prop} {Q : Exit → Act → World → Prop} {E : Prop}
theorem step_mapUpdate10 {a : Act} {w' : World} {t : TypeId} {x y z : Operand} {m k v : Value} (hw : Region.wanted o (yielded ops a.tmps) = true) (ho : o.op = .mapUpdate t x y z) (hx : a.eval x = m) (hy : a.eval y = k) (hz : a.eval z = v) (hrun : (Instr.mapUpdate t m k v).run P w = .ok () w')
    (h : K (a.put o.dst undef) w') : if Region.wanted o (yielded ops a.tmps) = true then Oper.wp P o a w K Q else E := by
  rw [if_pos hw]
  unfold Oper.wp execOp
  simp only [ho, hx, hy, hz, Sem.run_bind, hrun, Sem.run_pure, Result.andThen_ok]
  exact h
theorem step_alloc10 {tmps : Array Value} {ds : List Deferred} {d : Nat} (hd : o.dst = some d) (hw : Region.wanted o (yielded ops tmps) = true) (ty : TypeId) (ho : o.op = .alloc ty) (cs : Array Value)
    {sz by' : Nat} (hi : (P.info? ty).map (fun i => (i.zero, i.size, i.bytes)) = some (some (.agg cs), sz, by'))
    (h : ∀ (p : Nat) (w' : World), w.heap.size ≤ p → w'.heap[p]? = some (.cells cs ty (0, 0)) → Below w.heap.size w w' → K { tmps := tmps.setIfInBounds d (.pointer (some ⟨p, 0, none⟩)), defers := ds } w') :
    if Region.wanted o (yielded ops tmps) = true then Oper.wp P o { tmps := tmps, defers := ds } w K Q else E := by
  rw [if_pos hw]
  obtain ⟨ie, h1, h2, h3, _⟩ := info_parts hi
  have hrun : (Instr.alloc ty true (.tuple #[])).run P w = .ok (.pointer (some ⟨w.heap.size, 0, none⟩)) (w.alloc (.cells cs ty)) := by
    simp [Instr.alloc, zeroValue, typeInfo, h1, h2, newVar, newRow, Value.cells]
  unfold Oper.wp execOp
  simp only [ho, Sem.run_bind, hrun, Sem.run_pure, Result.andThen_ok]
  show K (Act.put _ o.dst _) _
  rw [hd]
  exact h _ _ (Nat.le_refl _) (heap_alloc_new _ _) ((Below.refl _ _).alloc (Nat.le_refl _) _)
theorem step_box10 {tmps : Array Value} {ds : List Deferred} {d : Nat} (hd : o.dst = some d) (hw : Region.wanted o (yielded ops tmps) = true) (ty : TypeId) (x : Operand) (ho : o.op = .box ty x) (cs : Array Value)
    (hx : (Act.eval { tmps := tmps, defers := ds } x) = .agg cs)
    (h : ∀ (p : Nat) (w' : World), w.heap.size ≤ p → w'.heap[p]? = some (.cells cs ty (0, 0)) → Below w.heap.size w w' → K { tmps := tmps.setIfInBounds d (.pointer (some ⟨p, 0, none⟩)), defers := ds } w') :
    if Region.wanted o (yielded ops tmps) = true then Oper.wp P o { tmps := tmps, defers := ds } w K Q else E := by
  rw [if_pos hw]
  have hrun : (Instr.box ty (.agg cs)).run P w = .ok (.pointer (some ⟨w.heap.size, 0, none⟩)) (w.alloc (.cells cs ty)) := by
    simp [Instr.box, newVar, newRow, Value.cells]
  unfold Oper.wp execOp
  simp only [ho, hx, Sem.run_bind, hrun, Sem.run_pure, Result.andThen_ok]
  show K (Act.put _ o.dst _) _
  rw [hd]
  exact h _ _ (Nat.le_refl _) (heap_alloc_new _ _) ((Below.refl _ _).alloc (Nat.le_refl _) _)
theorem step_row10 {a : Act} (hw : Region.wanted o (yielded ops a.tmps) = true) (ty : TypeId) (x y : Operand) (ho : o.op = .store ty x y) (g : Nat) (cs : List Value) (hx : a.eval x = .pointer (some ⟨g, 0, none⟩)) (hy : a.eval y = .agg cs.toArray) (t : TypeId) (old : List Value) (hg : w.heap[g]? = some (.cells old.toArray t (0, 0))) (hi : (P.info? ty).map (·.size) = some cs.length) (hl : old.length = cs.length) (h1 : ∀ v ∈ cs, v.oneCell' = true)
    (h : ∀ w' : World, w'.heap[g]? = some (.cells cs.toArray t (0, 0)) → But w.heap.size g w w' → K (a.put o.dst undef) w') : if Region.wanted o (yielded ops a.tmps) = true then Oper.wp P o a w K Q else E := by
  rw [if_pos hw]
  exact wp_store_row ty x y ho g cs.toArray hx hy t old.toArray hg (by rw [List.size_toArray]; exact hi) (by rw [List.size_toArray, List.size_toArray, hl]) (all_oneCell_toArray h1) (h _ (setRow_heap _ _ _ _ _ _ hg) (but_setRow _ _ _))
theorem step_field10 {a : Act} (hw : Region.wanted o (yielded ops a.tmps) = true) (ty : TypeId) (x y : Operand) (ho : o.op = .store ty x y) (g off : Nat) (hx : a.eval x = .pointer (some ⟨g, off, none⟩)) (v : Value) (hy : a.eval y = v) (t : TypeId) (cs : List Value) (hg : w.heap[g]? = some (.cells cs.toArray t (0, 0))) (hoff : off < cs.length) (hi : (P.info? ty).map (·.size) = some 1) (h1 : v.oneCell' = true)
    (h : ∀ w' : World, w'.heap[g]? = some (.cells (cs.set off v).toArray t (0, 0)) → But w.heap.size g w w' → K (a.put o.dst undef) w') : if Region.wanted o (yielded ops a.tmps) = true then Oper.wp P o a w K Q else E := by
  rw [if_pos hw]
  have hc : w.cell? ⟨g, off, none⟩ = some (cs[off]) := by
    rw [cell_of_row w g off _ t _ hg]
    simp [hoff]
  unfold Oper.wp execOp
  simp only [ho, hx, hy, Instr.storeAt, Instr.sureAddr, Sem.run_bind, Sem.run_pure, Result.andThen_ok, run_store_cell w g off ty _ v hc (frozen_of_row w g off _ t hg) hi h1]
  exact h _ (set_heap hg off v) (set_but w g off v)
theorem step_part10 {a : Act} (hw : Region.wanted o (yielded ops a.tmps) = true) (ty : TypeId) (x y : Operand) (ho : o.op = .store ty x y) (g off : Nat) (hx : a.eval x = .pointer (some ⟨g, off, none⟩)) (ds : List Value) (hy : a.eval y = .agg ds.toArray) (t : TypeId) (cs bs es : List Value) (hg : w.heap[g]? = some (.cells (cs ++ (bs ++ es)).toArray t (0, 0))) (hoff : off = cs.length) (hb : bs.length = ds.length) (hi : (P.info? ty).map (·.size) = some ds.length) (h1 : ∀ v ∈ ds, v.oneCell' = true)
    (h : ∀ w' : World, w'.heap[g]? = some (.cells (cs ++ (ds ++ es)).toArray t (0, 0)) → But w.heap.size g w w' → K (a.put o.dst undef) w') : if Region.wanted o (yielded ops a.tmps) = true then Oper.wp P o a w K Q else E := by
  rw [if_pos hw]
  subst hoff
  have hth : w.there g cs.length ds.toArray.size := fun j hj => by
    rw [List.size_toArray] at hj
    refine ⟨?_, frozen_of_row w g _ _ t hg⟩
    rw [cell_of_row w g _ _ t _ hg]
    have : cs.length + j < (cs ++ (bs ++ es)).length := by rw [List.length_append, List.length_append]; omega
    simp only [List.getElem?_toArray, List.getElem?_eq_getElem this, Option.isSome_some]
  refine wp_store_mid ty x y ho g cs.length ds.toArray hx hy hth (by rw [List.size_toArray]; exact hi) (all_oneCell_toArray h1) ?_
  have e := spl_heap ds cs.length _ w hg
  rw [spl_mid ds bs cs es hb] at e
  exact h _ e (spl_but ds cs.length w (But.refl _ _ _))
theorem yields_look10 {S : World → Prop} {a : Act} {t : TypeId} {x y : Operand} {cm : Bool} {m k v : Value} (hw : Region.wanted o (yielded ops a.tmps) = true) (ho : o.op = .lookup t x y cm) (hx : a.eval x = m) (hy : a.eval y = k) (h : ∀ w, S w → (Instr.lookup t m k cm).run P w = .ok v w) : YieldsIf P ops S o v a :=
  .inl ⟨hw, fun w hS => by
    unfold execOp
    simp only [ho, hx, hy, Sem.run_bind, h w hS, Result.andThen_ok, Sem.run_pure]⟩
theorem yields_build10 {S : World → Prop} {a : Act} {t : TypeId} {fs : Array (Nat × Operand)} {vs : List (Nat × Value)} {r : Value} (hw : Region.wanted o (yielded ops a.tmps) = true) (ho : o.op = .build t fs) (hx : (fs.toList.map fun f => (f.1, a.eval f.2)) = vs) (h : ∀ w, (Instr.build t vs.toArray).run P w = .ok r w) : YieldsIf P ops S o r a :=
  .inl ⟨hw, fun w _ => by
    have e : (fs.map fun f => (f.1, a.eval f.2)) = vs.toArray := by rw [← hx]; apply Array.toList_inj.1; exact Array.toList_map
    unfold execOp
    simp only [ho, e, Sem.run_bind, h w, Result.andThen_ok, Sem.run_pure]⟩
end
end Go.Proofs.YtlnenkmcegadmaaDoor
