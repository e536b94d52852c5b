/- Literals of things of any kind, any number of them, in plain and in drawn regions; a block of such things as a slice. No function, type or variable of the program is named. -/
import Derived.Test.YtnepcjnnlfhplaaDoorSliceOf
import Derived.Great.FillDense
namespace Go.Proofs.YtnepcjnnlfhplaaDoor
open Go.RowKit
variable {α : Type}

theorem fill_of (K : Sort8 α) (xs : List α) (hx : ∀ x ∈ xs, (K.cells x).length = K.size) (init : Array Value) (hi : init.size = xs.length * K.size) :
    Instr.fill (fun i => some (i * K.size, K.size)) init (((xs.map fun x => Value.agg (K.cells x).toArray).zipIdx 0).map fun x => (x.2, x.1)) = some (xs.flatMap K.cells).toArray := by
  have hp := K.pos
  obtain ⟨r, h1, h2, h3⟩ := Great.fill_dense (s := K.size) hp (xs.map fun x => Value.agg (K.cells x).toArray) 0 init (fun v hv => by
    obtain ⟨x, hxx, rfl⟩ := List.mem_map.1 hv
    show (K.cells x).toArray.size = K.size
    rw [List.size_toArray]
    exact hx x hxx) (by rw [List.length_map, hi, Nat.zero_add]; exact Nat.le_refl _)
  rw [h1]
  congr 1
  apply Array.ext_getElem?
  intro k
  rw [h3 k, List.length_map, Nat.zero_mul, Nat.zero_add, show (xs.flatMap K.cells).toArray[k]? = (xs.flatMap K.cells)[k]? by simp]
  have hlen := cells_flat_len (f := K.cells) (k := K.size) hx
  by_cases hk : k < xs.length * K.size
  · rw [if_pos ⟨Nat.zero_le _, hk⟩]
    have hd : k / K.size < xs.length := Nat.div_lt_of_lt_mul (by rw [Nat.mul_comm]; exact hk)
    have hm : k % K.size < K.size := Nat.mod_lt _ hp
    have h4 := flat_get (d := K.dflt) hx (j := k / K.size) (i := k % K.size) hd hm
    rw [Nat.div_add_mod' k K.size] at h4
    rw [h4]
    simp [List.getD, hd, Value.cells]
  · rw [if_neg (by omega), Array.getElem?_eq_none (by omega), List.getElem?_eq_none (by omega)]
theorem run_lits {P : Program} {K : Sort8 α} {ts t : TypeId} (S : SortAt P K ts t) (xs : List α) (hx : ∀ x ∈ xs, (K.cells x).length = K.size) {n : Nat} (hn : xs.length = n) (h0 : 0 < n) (hm : n ≤ 100) {vs : Array (Nat × Value)} (hv : vs.toList = ((xs.map fun x => Value.agg (K.cells x).toArray).zipIdx 0).map fun x => (x.2, x.1)) (w : World) :
    (Instr.buildSlice ts n vs).run P w = .ok (.slice (some ⟨w.heap.size, 0, none⟩) n n) (w.alloc (.cells (xs.flatMap K.cells).toArray t)) := by
  subst hn
  obtain ⟨ie, h1, h2, h3, _⟩ := info_parts S.info
  have hk := S.ksmall
  have hp := K.pos
  have hb : xs.length * K.size ≤ 100 * 100000 := Nat.mul_le_mul hm hk
  have hq : 0 < xs.length * K.size := Nat.mul_pos h0 hp
  have hf := fill_of K xs hx ((Array.range (xs.length * K.size)).map (S.zero.cells[· % S.zero.cells.size]!)) (by simp)
  rw [← hv] at hf
  exact run_buildSlice w ts t xs.length vs _ ie _ S.under h1 h2 (by rw [h3]; omega) (by rw [h3]; omega) (by rw [h3]; exact hf)
section
variable {P : Program} {K : Sort8 α} {ts t : TypeId} {ops : Array Oper} {rest : List Oper} {o : Oper} {w : World} {Q : Exit → Act → World → Prop}
theorem wpList_lits (S : SortAt P K ts t) {A : Act} (hgd : o.guard = none) {n : Nat} {us : Array (Nat × Operand)} (ho : o.op = .buildSlice ts n us) (xs : List α) (hn : xs.length = n) (h0 : 0 < n) (hm : n ≤ 100) (hx : ∀ x ∈ xs, (K.cells x).length = K.size)
    (hv : (us.toList.map fun f => (f.1, A.eval f.2)) = ((xs.map fun x => Value.agg (K.cells x).toArray).zipIdx 0).map fun x => (x.2, x.1))
    (h : ∀ (p : Nat) (w' : World), w.heap.size ≤ p → w'.heap[p]? = some (.cells (xs.flatMap K.cells).toArray t (0, 0)) → Below w.heap.size w w' → wpList P ops Q rest (A.put o.dst (.slice (some ⟨p, 0, none⟩) n n)) w') : wpList P ops Q (o :: rest) A w := by
  refine wpList_plain hgd fun K' hK => ?_
  have e : (us.map fun f => (f.1, A.eval f.2)).toList = ((xs.map fun x => Value.agg (K.cells x).toArray).zipIdx 0).map fun x => (x.2, x.1) := by rw [Array.toList_map]; exact hv
  unfold Oper.wp execOp
  simp only [ho, Sem.run_bind, Sem.run_pure, Result.andThen_ok, run_lits S xs hx hn h0 hm e w]
  exact hK _ _ (h _ _ (Nat.le_refl _) (heap_alloc_new _ _) ((Below.refl _ _).alloc (Nat.le_refl _) _))
theorem step_lits (S : SortAt P K ts t) {C : Act → World → Prop} {E : Prop} {tmps : Array Value} {ds : List Deferred} {d : Nat} (hd : o.dst = some d) (hw : Region.wanted o (yielded ops tmps) = true) {n : Nat} {us : Array (Nat × Operand)} (ho : o.op = .buildSlice ts n us) (xs : List α) (hn : xs.length = n) (h0 : 0 < n) (hm : n ≤ 100) (hx : ∀ x ∈ xs, (K.cells x).length = K.size)
    (hv : (us.toList.map fun f => (f.1, Act.eval { tmps := tmps, defers := ds } f.2)) = ((xs.map fun x => Value.agg (K.cells x).toArray).zipIdx 0).map fun x => (x.2, x.1))
    (h : ∀ (p : Nat) (w' : World), w.heap.size ≤ p → w'.heap[p]? = some (.cells (xs.flatMap K.cells).toArray t (0, 0)) → Below w.heap.size w w' → C { tmps := tmps.setIfInBounds d (.slice (some ⟨p, 0, none⟩) n n), defers := ds } w') :
    if Region.wanted o (yielded ops tmps) = true then Oper.wp P o { tmps := tmps, defers := ds } w C Q else E := by
  rw [if_pos hw]
  have e : (us.map fun f => (f.1, Act.eval { tmps := tmps, defers := ds } f.2)).toList = ((xs.map fun x => Value.agg (K.cells x).toArray).zipIdx 0).map fun x => (x.2, x.1) := by rw [Array.toList_map]; exact hv
  unfold Oper.wp execOp
  simp only [ho, Sem.run_bind, Sem.run_pure, Result.andThen_ok, run_lits S xs hx hn h0 hm e w]
  show C (Act.put _ o.dst _) _
  rw [hd]
  exact h _ _ (Nat.le_refl _) (heap_alloc_new _ _) ((Below.refl _ _).alloc (Nat.le_refl _) _)
end
/-- A block of so many things. -/
theorem slice_lits {K : Sort8 α} {w : World} {g n : Nat} {xs : List α} {t : TypeId} {fr : Nat × Nat} (h : w.heap[g]? = some (.cells (xs.flatMap K.cells).toArray t fr)) (hn : xs.length = n) (hm : n ≤ 1000) (hx : ∀ x ∈ xs, K.ok w x) : SliceOf K w (some ⟨g, 0, none⟩) n n xs := by
  have hl : ∀ x ∈ xs, (K.cells x).length = K.size := fun x hxx => K.len w x (hx x hxx)
  refine ⟨hn, Nat.le_refl _, by unfold maxLen; omega, (fun e => by cases e), hx, fun _ => ⟨g, 0, rfl, lt_of_block h, fun j hj i v hv => ?_⟩⟩
  have hj' : j < xs.length := by omega
  have hi : i < K.size := by
    have h5 := (List.getElem?_eq_some_iff.1 hv).1
    rw [List.getD_eq_getElem?_getD, List.getElem?_eq_getElem hj', Option.getD_some, hl _ (List.getElem_mem hj')] at h5
    exact h5
  rw [Nat.zero_add, cell_of_row w g _ _ _ _ h, List.getElem?_toArray, flat_get (d := K.dflt) hl hj' hi]
  exact hv
end Go.Proofs.YtnepcjnnlfhplaaDoor
