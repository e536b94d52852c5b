/- Laws for a region that draws its order: the next operation taken by its slot's number; sums compared; guarded loads. No function of the program is named. -/
import Derived.Test.YtjmdkgjfcfnbiaaDoorAt
import Derived.Stop.BytesEq
namespace Go.Proofs.YtjmdkgjfcfnbiaaDoor
open Go.RowKit

theorem run_eql_sums (s t : List UInt8) (hs : s.length = 32) (ht : t.length = 32) (W : World) : (binOp .eql 23 (.agg (cellsOf s).toArray) (.agg (cellsOf t).toArray)).run Tryd.prog W = .ok (.bool (decide (s = t))) W := by
  rw [run_eql_struct, run_eqSums s t hs ht]
  rfl
theorem run_neq_sums (s t : List UInt8) (hs : s.length = 32) (ht : t.length = 32) (W : World) : (binOp .neq 23 (.agg (cellsOf s).toArray) (.agg (cellsOf t).toArray)).run Tryd.prog W = .ok (.bool (!decide (s = t))) W := by
  rw [run_neq_struct, run_eqSums s t hs ht]
  rfl
theorem no_guard : Tryd.prog.eqGuardType Tryd.prog.depth 23 = false := by kernel_rfl
theorem run_guard_sums (b : BinOp) (x y : Operand) (s t : Array Value) (W : World) : (eqGuard b 23 x y (.agg s) (.agg t)).run Tryd.prog W = .ok () W := run_eqGuard_agg W b 23 x y s t no_guard
section
variable {ops : Array Oper} {S : World → Prop} {op : Oper} {a : Act}
theorem yields_eql {x y : Operand} {rt : TypeId} {s t : List UInt8} (hw : Region.wanted op (yielded ops a.tmps) = true) (ho : op.op = .binOp .eql 23 x y rt) (hx : a.eval x = .agg (cellsOf s).toArray) (hy : a.eval y = .agg (cellsOf t).toArray) (hs : s.length = 32) (ht : t.length = 32) (b : Bool) (hb : decide (s = t) = b) :
    YieldsIf Tryd.prog ops S op (.bool b) a :=
  .inl ⟨hw, fun w _ => by
    have h := run_eql_sums s t hs ht w
    rw [hb] at h
    unfold execOp
    simp only [ho, hx, hy, run_guard_sums, Sem.run_bind, Sem.run_pure, Result.andThen_ok, h]⟩
theorem yields_neq {x y : Operand} {rt : TypeId} {s t : List UInt8} (hw : Region.wanted op (yielded ops a.tmps) = true) (ho : op.op = .binOp .neq 23 x y rt) (hx : a.eval x = .agg (cellsOf s).toArray) (hy : a.eval y = .agg (cellsOf t).toArray) (hs : s.length = 32) (ht : t.length = 32) (b : Bool) (hb : (!decide (s = t)) = b) :
    YieldsIf Tryd.prog ops S op (.bool b) a :=
  .inl ⟨hw, fun w _ => by
    have h := run_neq_sums s t hs ht w
    rw [hb] at h
    unfold execOp
    simp only [ho, hx, hy, run_guard_sums, Sem.run_bind, Sem.run_pure, Result.andThen_ok, h]⟩
end
/-- A load of a whole row, guarded, in a plain region. -/
theorem wpList_load_wanted {P : Program} {ops : Array Oper} {rest : List Oper} {o : Oper} {a : Act} {w : World} {Q : Exit → Act → World → Prop} (hw : Region.wanted o (yielded ops a.tmps) = true) (ty : TypeId) (x : Operand) (ho : o.op = .load ty x)
    (g : Nat) (hx : a.eval x = .pointer (some ⟨g, 0, none⟩)) (t : TypeId) (cs : Array Value) (fr : Nat × Nat) (d : TypeDesc) (hg : w.heap[g]? = some (.cells cs t fr))
    (hu : P.underlying ty = some d) (hd : (match d with | .struct _ | .array _ _ => true | _ => false) = true) (hi : (P.info? ty).map (·.size) = some cs.size)
    (h : wpList P ops Q rest (a.put o.dst (.agg cs)) w) : wpList P ops Q (o :: rest) a w :=
  wpList_step fun K hK => by
    simp only [hw, if_true]
    exact wp_load_row ty x ho g hx t cs fr d hg hu hd hi (hK _ _ h)
/-- Take number 'i' first, its slot named: so the frame stays written out. -/
theorem take_at {P : Program} {ops : Array Oper} {Q : Exit → Act → World → Prop} {md : Region.Mode} {S : World → Prop} {i d : Nat} {oi : Oper} {v : Value} {fuel : Nat} {listed : Array Bool} {tmps : Array Value} {ds : List Deferred} {w : World} (hi : ops[i]? = some oi) (hd : oi.dst = some d)
    (hs : Region.noSelect ops = true) (hf : Region.free md ops listed i = true) (hr : (Region.ready md ops listed).contains i = true)
    (hQ : ∀ c (a : Act) w, Q (.panic c) { a with tmps := a.tmps.setIfInBounds d v } w → Q (.panic c) a w) (hy : YieldsIf P ops S oi v { tmps := tmps, defers := ds }) (hS : S w)
    (h : wpAnyH P md ops Q S fuel (listed.setIfInBounds i true) { tmps := tmps.setIfInBounds d v, defers := ds } w) : wpAnyH P md ops Q S (fuel + 1) listed { tmps := tmps, defers := ds } w := by
  refine wpAnyH_take hi hs hf hr (fun c a w hh => hQ c a w ?_) hy hS ?_
  · rw [hd] at hh; exact hh
  · rw [hd]; exact h
end Go.Proofs.YtjmdkgjfcfnbiaaDoor
