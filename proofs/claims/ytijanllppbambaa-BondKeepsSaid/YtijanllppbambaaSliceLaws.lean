/- A literal of one thing, and an append of it, in a plain region. No function, type or variable of the program is named. -/
import Derived.Test.YtijanllppbambaaSliceOf
namespace Go.Proofs.Ytijanllppbambaa
open Go.RowKit

theorem run_lit10 {α : Type} {P : Program} {K : Sort8 α} {ts t : TypeId} (S : SortAt P K ts t) {x : α} (hx : (K.cells x).length = K.size) (w : World) : (Instr.buildSlice ts 1 #[(0, .agg (K.cells x).toArray)]).run P w = .ok (.slice (some ⟨w.heap.size, 0, none⟩) 1 1) (w.alloc (.cells (K.cells x).toArray t)) := by
  obtain ⟨ie, h1, h2, h3, _⟩ := info_parts S.info
  have hk := S.ksmall
  have hp := K.pos
  have hf := fill_one K.pos hx ((Array.range (1 * K.size)).map (S.zero.cells[· % S.zero.cells.size]!)) (by simp)
  exact run_buildSlice w ts t 1 _ _ ie _ S.under h1 h2 (by rw [h3]; omega) (by rw [h3]; omega) (by rw [h3]; exact hf)
theorem wpList_lit10 {α : Type} {P : Program} {K : Sort8 α} {ts t : TypeId} (S : SortAt P K ts t) {ops : Array Oper} {rest : List Oper} {o : Oper} {A : Act} {w : World} {Q : Exit → Act → World → Prop} (hgd : o.guard = none) (u : Operand) (ho : o.op = .buildSlice ts 1 #[(0, u)]) (x : α) (hu : A.eval u = .agg (K.cells x).toArray) (hx : (K.cells x).length = K.size)
    (h : ∀ (p : Nat) (w' : World), w.heap.size ≤ p → w'.heap[p]? = some (.cells (K.cells x).toArray t (0, 0)) → Below w.heap.size w w' → wpList P ops Q rest (A.put o.dst (.slice (some ⟨p, 0, none⟩) 1 1)) w') : wpList P ops Q (o :: rest) A w := by
  refine wpList_plain hgd fun K' hK => ?_
  unfold Oper.wp execOp
  simp only [ho, Sem.run_bind, Sem.run_pure, Result.andThen_ok, List.map_toArray, List.map_cons, List.map_nil, hu, run_lit10 S hx w]
  exact hK _ _ (h _ _ (Nat.le_refl _) (heap_alloc_new _ _) ((Below.refl _ _).alloc (Nat.le_refl _) _))
theorem wpList_append10 {α : Type} {P : Program} {K : Sort8 α} {ts t : TypeId} (S : SortAt P K ts t) {ops : Array Oper} {rest : List Oper} {o : Oper} {A : Act} {w : World} {Q : Exit → Act → World → Prop} (hgd : o.guard = none) (u y : Operand)
    (ho : o.op = .call { callee := .builtin .append, args := #[u, y], argTypes := #[ts, ts] }) (hty : o.type = ts) (B : Nat) (v : Value) (xs : List α) (hu : A.eval u = v) (h : OwnOf K t w B v xs) (p : Nat) (x : α) (hy : A.eval y = .slice (some ⟨p, 0, none⟩) 1 1) {tp : TypeId} {fr : Nat × Nat} (hp : w.heap[p]? = some (.cells (K.cells x).toArray tp fr)) (hx : (K.cells x).length = K.size) (hb : xs.length + 1 ≤ 1000000) (hbase : B ≤ w.heap.size)
    (hk : ∀ a' c' w', OwnOf K t w' B (.slice a' (xs.length + 1) c') (xs ++ [x]) → w.grownBy w' v.ownBlock → wpList P ops Q rest (A.put o.dst (.slice a' (xs.length + 1) c')) w') : wpList P ops Q (o :: rest) A w := by
  refine wpList_plain hgd fun K' hK => ?_
  obtain ⟨a', c', w', h1, h2, h3⟩ := append_of S w B v xs h p x hp hx hb hbase
  unfold Oper.wp execOp
  simp only [ho, hty, resolve, invoke, builtin, Sem.run_bind, Sem.run_pure, Result.andThen_ok, List.map_toArray, List.map_cons, List.map_nil, hu, hy, h1]
  exact hK _ _ (hk a' c' w' h2 h3)
end Go.Proofs.Ytijanllppbambaa
