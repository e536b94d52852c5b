/- Laws for a region that draws its order: an operation taken first by its slot's number; a load of one cell. No function of the program is named. -/
import Derived.Deep.RegionHeld
import Derived.Test.YtdaafeaeinomoaaDoorMemory
namespace Go.Proofs.YtdaafeaeinomoaaDoor
open Go.RowKit

/-- Take number 'i' first, its slot named: so the frame stays written out. -/
theorem take_at {P : Program} {ops : Array Oper} {Q : Exit → Act → World → Prop} {md : Region.Mode} {S : World → Prop} {i d : Nat} {oi : Oper} {v : Value} {fuel : Nat} {listed : Array Bool} {tmps : Array Value} {ds : List Deferred} {w : World} (hi : ops[i]? = some oi) (hd : oi.dst = some d)
    (hs : Region.noSelect ops = true) (hf : Region.free md ops listed i = true) (hr : (Region.ready md ops listed).contains i = true)
    (hQ : ∀ c (a : Act) w, Q (.panic c) { a with tmps := a.tmps.setIfInBounds d v } w → Q (.panic c) a w) (hy : YieldsIf P ops S oi v { tmps := tmps, defers := ds }) (hS : S w)
    (h : wpAnyH P md ops Q S fuel (listed.setIfInBounds i true) { tmps := tmps.setIfInBounds d v, defers := ds } w) : wpAnyH P md ops Q S (fuel + 1) listed { tmps := tmps, defers := ds } w := by
  refine wpAnyH_take hi hs hf hr (fun c a w hh => hQ c a w ?_) hy hS ?_
  · rw [hd] at hh; exact hh
  · rw [hd]; exact h
section
variable {ops : Array Oper} {S : World → Prop} {op : Oper} {a : Act}
/-- A load of one cell, taken first. -/
theorem yields_cell {P : Program} {ty : TypeId} {x : Operand} {b o : Nat} {v : Value} (hw : Region.wanted op (yielded ops a.tmps) = true) (ho : op.op = .load ty x) (hx : a.eval x = .pointer (some ⟨b, o, none⟩)) (hS : ∀ w, S w → w.cell? ⟨b, o, none⟩ = some v) (hag : ∀ w : World, (isAgg ty).run P w = .ok false w) :
    YieldsIf P ops S op v a :=
  .inl ⟨hw, fun w hw' => by
    have h := hS w hw'
    unfold execOp
    simp [ho, hx, Instr.loadAt, Instr.sureAddr, loadVar, hag w, h]⟩
end
end Go.Proofs.YtdaafeaeinomoaaDoor
