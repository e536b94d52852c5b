/- 'string(b)' of a slice of bytes, in a region; a row's beginning. No function of the program is named. -/
import Derived.Test.YtdaafeaeinomoaaDoorMemory
import Derived.Test.YtdaafeaeinomoaaDoorTakeAt
namespace Go.Proofs.YtdaafeaeinomoaaDoor
open Go.RowKit

/-- 'string(b)', taken first. -/
theorem yields_conv {ops : Array Oper} {S : World → Prop} {op : Oper} {A : Act} {x : Operand} {a : Option Addr} {n c : Nat} {l : List UInt8} {bs : ByteArray} (hw : Region.wanted op (yielded ops A.tmps) = true) (ho : op.op = .convert 27 9 x) (hx : A.eval x = .slice a n c) (hb : (⟨l.toArray⟩ : ByteArray) = bs) (h : ∀ w, S w → Row w a n c l) :
    YieldsIf Tryd.prog ops S op (.string bs) A :=
  .inl ⟨hw, fun w hS => by
    have hc := conv_row (h w hS)
    rw [hb] at hc
    unfold execOp
    simp only [ho, hx, Sem.run_bind, hc, Result.andThen_ok, Sem.run_pure]⟩
theorem step_conv {ops : Array Oper} {o : Oper} {tmps : Array Value} {ds : List Deferred} {w : World} {K : Act → World → Prop} {Q : Exit → Act → World → Prop} {E : Prop} {d : Nat} {x : Operand} {a : Option Addr} {n c : Nat} {l : List UInt8} {bs : ByteArray} (hd : o.dst = some d) (hw : Region.wanted o (yielded ops tmps) = true) (ho : o.op = .convert 27 9 x)
    (hx : Act.eval { tmps := tmps, defers := ds } x = .slice a n c) (hb : (⟨l.toArray⟩ : ByteArray) = bs) (hr : Row w a n c l)
    (h : K { tmps := tmps.setIfInBounds d (.string bs), defers := ds } w) :
    if Region.wanted o (yielded ops tmps) = true then Oper.wp Tryd.prog o { tmps := tmps, defers := ds } w K Q else E := by
  rw [if_pos hw]
  have hc := conv_row hr
  rw [hb] at hc
  unfold Oper.wp execOp
  simp only [ho, hx, Sem.run_bind, hc, Result.andThen_ok, Sem.run_pure]
  show K (Act.put _ o.dst _) _
  rw [hd]
  exact h
end Go.Proofs.YtdaafeaeinomoaaDoor
