/- Guarded operations of plain regions: a load of a row, a build. No function, type or variable of the program is named. -/
import Derived.Test.YtlnenkmcegadmaaDoorMemory
namespace Go.Proofs.YtlnenkmcegadmaaDoor
open Go.RowKit

/-- A load of a whole row in the midst of a block, guarded, in a plain region. -/
theorem wpList_mid_wanted {P : Program} {ops : Array Oper} {rest : List Oper} {o : Oper} {a : Act} {w : World} {Q : Exit → Act → World → Prop} (hw : Region.wanted o (yielded ops a.tmps) = true) (ty : TypeId) (x : Operand) (ho : o.op = .load ty x)
    (b off : Nat) (hx : a.eval x = .pointer (some ⟨b, off, none⟩)) (cs : List Value) (d : TypeDesc) (hc : w.rangeAt b off cs)
    (hu : P.underlying ty = some d) (hd : d.isRow = true) (hi : (P.info? ty).map (·.size) = some cs.length)
    (h : wpList P ops Q rest (a.put o.dst (.agg cs.toArray)) w) : wpList P ops Q (o :: rest) a w :=
  wpList_step fun K hK => by
    simp only [hw, if_true]
    exact wp_load_mid ty x ho b off hx cs d hc hu hd hi (hK _ _ h)
/-- A struct is built. -/
theorem wpList_build_wanted {P : Program} {ops : Array Oper} {rest : List Oper} {o : Oper} {a : Act} {w : World} {Q : Exit → Act → World → Prop} {t : TypeId} {fs : Array (Nat × Operand)} {vs : List (Nat × Value)} {r : Value} (hw : Region.wanted o (yielded ops a.tmps) = true) (ho : o.op = .build t fs) (hx : (fs.toList.map fun f => (f.1, a.eval f.2)) = vs) (hrun : ∀ w, (Instr.build t vs.toArray).run P w = .ok r w)
    (h : wpList P ops Q rest (a.put o.dst r) w) : wpList P ops Q (o :: rest) a w :=
  wpList_step fun K hK => by
    have e : (fs.map fun f => (f.1, a.eval f.2)) = vs.toArray := by rw [← hx]; apply Array.toList_inj.1; exact Array.toList_map
    simp only [hw, if_true]
    unfold Oper.wp execOp
    simp only [ho, e, Sem.run_bind, hrun w, Result.andThen_ok, Sem.run_pure]
    exact hK _ _ h
end Go.Proofs.YtlnenkmcegadmaaDoor
