/- How a shelf, the law's own list of the same secrets, and a clone stand beside each other. -/
import Derived.Test.YthpkafjonelanaaDoorAwake13
import Derived.Test.YthpkafjonelanaaDoorOpMem13
namespace Go.Proofs.YthpkafjonelanaaDoor
open Go.RowKit

structure LoopIn (w0 w : World) (ps kc : Nat) (T : Nat → Prop) (q : Value) (ls ms : List (List UInt8)) (v : Value) (sz : Int) : Prop where
  shelf : Shelf13 w w0.heap.size ps T ls
  own : OwnS w w0.heap.size v ms
  apart : ∀ k, v.ownBlock = some k → ¬ T k
  clone : w.heap[kc]? = some (.cells #[q, .int .i64 sz] 34 (0, 0))
  capart : ¬ T kc
  cnew : w0.heap.size ≤ kc
  below : Below w0.heap.size w0 w
section
variable {w0 w w' : World} {ps kc : Nat} {T : Nat → Prop} {q v : Value} {ls ms : List (List UInt8)} {sz : Int}
theorem LoopIn.more (h : LoopIn w0 w ps kc T q ls ms v sz) (hb : Below w.heap.size w w') : LoopIn w0 w' ps kc T q ls ms v sz :=
  ⟨h.shelf.below hb, h.own.below hb, h.apart, keep hb h.clone, h.capart, h.cnew, bthen h.below hb⟩
theorem LoopIn.cloned {q' : Value} {sz' : Int} (h : LoopIn w0 w ps kc T q ls ms v sz) (hc : w'.heap[kc]? = some (.cells #[q', .int .i64 sz'] 34 (0, 0))) (hb : But w.heap.size kc w w') : LoopIn w0 w' ps kc T q' ls ms v sz' :=
  ⟨h.shelf.stay (fun k hk => hb.block k (h.shelf.lt k hk).2 (fun e => h.capart (e ▸ hk))), h.own.stay (fun k e => hb.block k (h.own.lt k e).2 (own_ne h.own e h.clone (by decide))), h.apart, hc, h.capart, h.cnew, But.in h.below hb h.cnew⟩
theorem LoopIn.put {T' : Nat → Prop} {ls' : List (List UInt8)} (h : LoopIn w0 w ps kc T q ls ms v sz) (hS : Shelf13 w' w0.heap.size ps T' ls') (hT : ∀ k, T' k → T k ∨ w.heap.size ≤ k) (hb : Bar (fun k _ => T k) w w') : LoopIn w0 w' ps kc T' q ls' ms v sz :=
  ⟨hS, h.own.stay (fun k e => hb.block k (h.own.lt k e).2 (h.apart k e)),
   fun k e hk => by
    rcases hT k hk with h1 | h1
    · exact h.apart k e h1
    · exact absurd (h.own.lt k e).2 (Nat.not_lt_of_le h1),
   hb.keep h.clone h.capart,
   fun hk => by
    rcases hT kc hk with h1 | h1
    · exact h.capart h1
    · exact absurd (lt_of_block h.clone) (Nat.not_lt_of_le h1),
   h.cnew, h.below.trans ⟨hb.os, hb.tape, hb.output, hb.size, fun k hk => hb.block k (Nat.lt_of_lt_of_le hk h.below.size) (fun hT => absurd hk (Nat.not_lt_of_le (h.shelf.lt k hT).1))⟩⟩
theorem LoopIn.app {v' : Value} {ms' : List (List UInt8)} (h : LoopIn w0 w ps kc T q ls ms v sz) (ho : OwnS w' w0.heap.size v' ms') (hg : w.grownBy w' v.ownBlock) (hv : v'.ownBlock = v.ownBlock ∨ v'.ownBlock = some w.heap.size) : LoopIn w0 w' ps kc T q ls ms' v' sz :=
  ⟨h.shelf.stay (fun k hk => hg.block k (h.shelf.lt k hk).2 (fun e => h.apart k e.symm hk)), ho,
   fun k e hk => by
    rcases hv with h1 | h1
    · exact h.apart k (h1 ▸ e) hk
    · rw [h1] at e
      cases e
      exact absurd (h.shelf.lt _ hk).2 (Nat.lt_irrefl _),
   (hg.block kc (lt_of_block h.clone) (fun e => own_ne h.own e.symm h.clone (by decide) rfl)).trans h.clone, h.capart, h.cnew,
   h.below.trans ⟨hg.os, hg.tape, hg.output, hg.size, fun k hk => hg.block k (Nat.lt_of_lt_of_le hk h.below.size) (fun e => absurd hk (Nat.not_lt_of_le (h.own.lt k e.symm).1))⟩⟩
end
/-- The same secrets in both. -/
def LoopAt (w0 w : World) (ps kc : Nat) (ls : List (List UInt8)) (v : Value) (sz : Int) : Prop := ∃ T q, LoopIn w0 w ps kc T q ls ls v sz
theorem LoopAt.begun {w : World} : LoopAt w ((w.alloc (.cells #[.pointer none, .int .i64 0] 34)).alloc (.cells #[.pointer none, .int .i64 0] 34)) w.heap.size (w.heap.size + 1) [] (.slice none 0 0) 0 := by
  have b : Below w.heap.size w ((w.alloc (.cells #[.pointer none, .int .i64 0] 34)).alloc (.cells #[.pointer none, .int .i64 0] 34)) := ((Below.refl _ _).alloc (Nat.le_refl _) _).alloc (by simp) _
  refine ⟨fun k => k = w.heap.size, .pointer none, Shelf13.new ?_ (Nat.le_refl _), OwnS.nil _ _, (fun k e => by cases e), heap_alloc_at _ _ _ (by simp), by omega, by omega, b⟩
  show _ = _
  rw [heap_alloc_old _ _ (by simp), heap_alloc_new]
end Go.Proofs.YthpkafjonelanaaDoor
