/- Laws for operations on sums in a region that draws its order: cuts, comparisons, picks; literals. No function of the program is named. -/
import Derived.Test.YtmbfpopfabjodaaDoorLowest
import Derived.Stop.BytesEq
namespace Go.Proofs.YtmbfpopfabjodaaDoor
open Go.RowKit

section
variable {ops : Array Oper} {S : World → Prop} {op : Oper} {a : Act}
theorem yields_from {x : Operand} {lo : Operand} {ad : Option Addr} {n c A : Nat} (hw : Region.wanted op (yielded ops a.tmps) = true) (ho : op.op = .slice 22 x (some lo) none none) (hx : a.eval x = .slice ad n c) (hlo : a.eval lo = .int .i64 (A : Int)) (hA : A ≤ n) :
    YieldsIf Tryd.prog ops S op (.slice (if c = A then ad else ad.map (·.add (A * 32))) (n - A) (c - A)) a :=
  .inl ⟨hw, fun w _ => by
    have h := run_cut_from (a := ad) (n := n) (c := c) hA w
    unfold execOp
    simp only [ho, hx, hlo, Option.map_some, Option.map_none, Sem.run_bind, h, Result.andThen_ok, Sem.run_pure]⟩
theorem yields_to {x : Operand} {hi : Operand} {ad : Option Addr} {n c A : Nat} (hw : Region.wanted op (yielded ops a.tmps) = true) (ho : op.op = .slice 22 x none (some hi) none) (hx : a.eval x = .slice ad n c) (hhi : a.eval hi = .int .i64 (A : Int)) (hA : A ≤ c) :
    YieldsIf Tryd.prog ops S op (.slice ad A c) a :=
  .inl ⟨hw, fun w _ => by
    have h := run_cut_to (a := ad) (n := n) hA w
    unfold execOp
    simp only [ho, hx, hhi, Option.map_some, Option.map_none, Sem.run_bind, h, Result.andThen_ok, Sem.run_pure]⟩
theorem run_eql_sums (s t : List UInt8) (hs : s.length = 32) (ht : t.length = 32) (W : World) : (binOp .eql 24 (.agg (cellsOf s).toArray) (.agg (cellsOf t).toArray)).run Tryd.prog W = .ok (.bool (decide (s = t))) W := by
  rw [run_eql_struct, run_eqSums s t hs ht]
  rfl
theorem run_neq_sums (s t : List UInt8) (hs : s.length = 32) (ht : t.length = 32) (W : World) : (binOp .neq 24 (.agg (cellsOf s).toArray) (.agg (cellsOf t).toArray)).run Tryd.prog W = .ok (.bool (!decide (s = t))) W := by
  rw [run_neq_struct, run_eqSums s t hs ht]
  rfl
theorem no_guard : Tryd.prog.eqGuardType Tryd.prog.depth 24 = false := by kernel_rfl
theorem run_guard_sums (b : BinOp) (x y : Operand) (s t : Array Value) (W : World) : (eqGuard b 24 x y (.agg s) (.agg t)).run Tryd.prog W = .ok () W := run_eqGuard_agg W b 24 x y s t no_guard
theorem yields_eql {x y : Operand} {rt : TypeId} {s t : List UInt8} (hw : Region.wanted op (yielded ops a.tmps) = true) (ho : op.op = .binOp .eql 24 x y rt) (hx : a.eval x = .agg (cellsOf s).toArray) (hy : a.eval y = .agg (cellsOf t).toArray) (hs : s.length = 32) (ht : t.length = 32) (b : Bool) (hb : decide (s = t) = b) :
    YieldsIf Tryd.prog ops S op (.bool b) a :=
  .inl ⟨hw, fun w _ => by
    have h := run_eql_sums s t hs ht w
    rw [hb] at h
    unfold execOp
    simp only [ho, hx, hy, run_guard_sums, Sem.run_bind, Sem.run_pure, Result.andThen_ok, h]⟩
theorem yields_neq {x y : Operand} {rt : TypeId} {s t : List UInt8} (hw : Region.wanted op (yielded ops a.tmps) = true) (ho : op.op = .binOp .neq 24 x y rt) (hx : a.eval x = .agg (cellsOf s).toArray) (hy : a.eval y = .agg (cellsOf t).toArray) (hs : s.length = 32) (ht : t.length = 32) (b : Bool) (hb : (!decide (s = t)) = b) :
    YieldsIf Tryd.prog ops S op (.bool b) a :=
  .inl ⟨hw, fun w _ => by
    have h := run_neq_sums s t hs ht w
    rw [hb] at h
    unfold execOp
    simp only [ho, hx, hy, run_guard_sums, Sem.run_bind, Sem.run_pure, Result.andThen_ok, h]⟩
end
/-- A load of a whole row, guarded, in a plain region. -/
theorem wpList_load_wanted {P : Program} {ops : Array Oper} {rest : List Oper} {o : Oper} {a : Act} {w : World} {Q : Exit → Act → World → Prop} (hw : Region.wanted o (yielded ops a.tmps) = true) (ty : TypeId) (x : Operand) (ho : o.op = .load ty x)
    (g : Nat) (hx : a.eval x = .pointer (some ⟨g, 0, none⟩)) (t : TypeId) (cs : Array Value) (fr : Nat × Nat) (d : TypeDesc) (hg : w.heap[g]? = some (.cells cs t fr))
    (hu : P.underlying ty = some d) (hd : (match d with | .struct _ | .array _ _ => true | _ => false) = true) (hi : (P.info? ty).map (·.size) = some cs.size)
    (h : wpList P ops Q rest (a.put o.dst (.agg cs)) w) : wpList P ops Q (o :: rest) a w :=
  wpList_step fun K hK => by
    simp only [hw, if_true]
    exact wp_load_row ty x ho g hx t cs fr d hg hu hd hi (hK _ _ h)
/-- Take number 'i' first, its slot named: so the frame stays written out. -/
theorem take_at {P : Program} {ops : Array Oper} {Q : Exit → Act → World → Prop} {md : Region.Mode} {S : World → Prop} {i d : Nat} {oi : Oper} {v : Value} {fuel : Nat} {listed : Array Bool} {tmps : Array Value} {ds : List Deferred} {w : World} (hi : ops[i]? = some oi) (hd : oi.dst = some d)
    (hs : Region.noSelect ops = true) (hf : Region.free md ops listed i = true) (hr : (Region.ready md ops listed).contains i = true)
    (hQ : ∀ c (a : Act) w, Q (.panic c) { a with tmps := a.tmps.setIfInBounds d v } w → Q (.panic c) a w) (hy : YieldsIf P ops S oi v { tmps := tmps, defers := ds }) (hS : S w)
    (h : wpAnyH P md ops Q S fuel (listed.setIfInBounds i true) { tmps := tmps.setIfInBounds d v, defers := ds } w) : wpAnyH P md ops Q S (fuel + 1) listed { tmps := tmps, defers := ds } w := by
  refine wpAnyH_take hi hs hf hr (fun c a w hh => hQ c a w ?_) hy hS ?_
  · rw [hd] at hh; exact hh
  · rw [hd]; exact h
/-- A literal of one sum, of two, in a region. -/
theorem step_build1 {ops : Array Oper} {o : Oper} {a : Act} {w : World} {K : Act → World → Prop} {Q : Exit → Act → World → Prop} {E : Prop} {s : List UInt8} (x : Operand) (hw : Region.wanted o (yielded ops a.tmps) = true)
    (ho : o.op = .buildSlice 22 1 #[(0, x)]) (hx : a.eval x = .agg (cellsOf s).toArray) (hs : s.length = 32)
    (h : K (a.put o.dst (.slice (some ⟨w.heap.size, 0, none⟩) 1 1)) (w.alloc (.cells (cellsOf s).toArray 24))) :
    if Region.wanted o (yielded ops a.tmps) = true then Oper.wp Tryd.prog o a w K Q else E := by
  rw [if_pos hw]
  have hb := run_build1 w s hs
  unfold Oper.wp execOp
  simp only [ho, List.map_toArray, List.map_cons, List.map_nil, hx, Sem.run_bind, Sem.run_pure, Result.andThen_ok, hb]
  exact h
theorem step_build2 {ops : Array Oper} {o : Oper} {a : Act} {w : World} {K : Act → World → Prop} {Q : Exit → Act → World → Prop} {E : Prop} {s t : List UInt8} (x y : Operand) (hw : Region.wanted o (yielded ops a.tmps) = true)
    (ho : o.op = .buildSlice 22 2 #[(0, x), (1, y)]) (hx : a.eval x = .agg (cellsOf s).toArray) (hy : a.eval y = .agg (cellsOf t).toArray) (hs : s.length = 32) (ht : t.length = 32)
    (h : K (a.put o.dst (.slice (some ⟨w.heap.size, 0, none⟩) 2 2)) (w.alloc (.cells (seqCells [s, t]).toArray 24))) :
    if Region.wanted o (yielded ops a.tmps) = true then Oper.wp Tryd.prog o a w K Q else E := by
  rw [if_pos hw]
  have hb := run_build2 w s t hs ht
  unfold Oper.wp execOp
  simp only [ho, List.map_toArray, List.map_cons, List.map_nil, hx, hy, Sem.run_bind, Sem.run_pure, Result.andThen_ok, hb]
  exact h
theorem wpList_build1 {ops : Array Oper} {rest : List Oper} {o : Oper} {a : Act} {w : World} {Q : Exit → Act → World → Prop} {s : List UInt8} (hg : o.guard = none) (x : Operand)
    (ho : o.op = .buildSlice 22 1 #[(0, x)]) (hx : a.eval x = .agg (cellsOf s).toArray) (hs : s.length = 32)
    (h : wpList Tryd.prog ops Q rest (a.put o.dst (.slice (some ⟨w.heap.size, 0, none⟩) 1 1)) (w.alloc (.cells (cellsOf s).toArray 24))) : wpList Tryd.prog ops Q (o :: rest) a w := by
  refine wpList_plain hg fun K hK => ?_
  have hb := run_build1 w s hs
  unfold Oper.wp execOp
  simp only [ho, List.map_toArray, List.map_cons, List.map_nil, hx, Sem.run_bind, Sem.run_pure, Result.andThen_ok, hb]
  exact hK _ _ h
/-- 'append' of sums. -/
theorem wpList_append_sums {ops : Array Oper} {rest : List Oper} {o : Oper} {a : Act} {w : World} {Q : Exit → Act → World → Prop} (hg : o.guard = none) (x y : Operand)
    (ho : o.op = .call { callee := .builtin .append, args := #[x, y], argTypes := #[22, 22] }) (hty : o.type = 22) (B : Nat) (v : Value) (ls : List (List UInt8)) (n : Nat) (hn : ls.length = n) (hx : a.eval x = v) (h : OwnS w B v ls) (ad : Option Addr) (m c : Nat) (q : List (List UInt8)) (hy : a.eval y = .slice ad m c) (hq : Sums w ad m c q) (hb : n + m ≤ 1000000) (hbase : B ≤ w.heap.size)
    (hk : ∀ a' c' w', OwnS w' B (.slice a' (n + m) c') (ls ++ q) → w.grownBy w' v.ownBlock → wpList Tryd.prog ops Q rest (a.put o.dst (.slice a' (n + m) c')) w') : wpList Tryd.prog ops Q (o :: rest) a w := by
  subst hn
  refine wpList_plain hg fun K hK => ?_
  obtain ⟨a', c', w', h1, h2, h3⟩ := append_sums w B v ls h ad m c q hq hb hbase
  unfold Oper.wp execOp
  simp only [ho, hty, resolve, invoke, builtin, Sem.run_bind, Sem.run_pure, Result.andThen_ok, List.map_toArray, List.map_cons, List.map_nil, hx, hy, h1]
  exact hK _ _ (hk a' c' w' h2 h3)
theorem step_append_sums {ops : Array Oper} {o : Oper} {a : Act} {w : World} {K : Act → World → Prop} {Q : Exit → Act → World → Prop} {E : Prop} (hw : Region.wanted o (yielded ops a.tmps) = true) (x y : Operand)
    (ho : o.op = .call { callee := .builtin .append, args := #[x, y], argTypes := #[22, 22] }) (hty : o.type = 22) (B : Nat) (v : Value) (ls : List (List UInt8)) (n : Nat) (hn : ls.length = n) (hx : a.eval x = v) (h : OwnS w B v ls) (ad : Option Addr) (m c : Nat) (q : List (List UInt8)) (hy : a.eval y = .slice ad m c) (hq : Sums w ad m c q) (hb : n + m ≤ 1000000) (hbase : B ≤ w.heap.size)
    (hk : ∀ a' c' w', OwnS w' B (.slice a' (n + m) c') (ls ++ q) → w.grownBy w' v.ownBlock → K (a.put o.dst (.slice a' (n + m) c')) w') :
    if Region.wanted o (yielded ops a.tmps) = true then Oper.wp Tryd.prog o a w K Q else E := by
  subst hn
  rw [if_pos hw]
  obtain ⟨a', c', w', h1, h2, h3⟩ := append_sums w B v ls h ad m c q hq hb hbase
  unfold Oper.wp execOp
  simp only [ho, hty, resolve, invoke, builtin, Sem.run_bind, Sem.run_pure, Result.andThen_ok, List.map_toArray, List.map_cons, List.map_nil, hx, hy, h1]
  exact hk a' c' w' h2 h3
end Go.Proofs.YtmbfpopfabjodaaDoor
