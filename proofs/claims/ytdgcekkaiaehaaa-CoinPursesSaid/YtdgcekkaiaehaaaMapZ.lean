/- A map of numbers by numbers, of the call's own or not: what a key has; a store. No function of the program is named. -/
import Derived.Test.YtdgcekkaiaehaaaNumbers
import Derived.Maps.Own
import Derived.Maps.OwnOps
import Derived.Maps.OwnSet
import Derived.Maps.Views
namespace Go.Proofs.Ytdgcekkaiaehaaa
open Go.RowKit Go.Maps

theorem Try.keyZ : Keyed Try.prog 3 := int_keyed Try.underlying3
theorem Try.zeroZ (w : World) : (zeroValue 2).run Try.prog w = .ok (.int .i64 0) w := by kernel_rfl
theorem wf_of {z : Int} (h : -9223372036854775808 ≤ z ∧ z ≤ 9223372036854775807) : (Lit.int .i64 z).wf = true := by
  have h1 : IntKind.i64.min = -9223372036854775808 := by decide
  have h2 : IntKind.i64.max = 9223372036854775807 := by decide
  simp [Lit.wf, h1, h2]
  omega
/-- Block b is a map of at most N entries; F: what each key has (0, if it isn't there). -/
def MapZ (w : World) (b N : Nat) (F : Int → Int) : Prop :=
  ∃ D : DataW Unit, w.ownsMap Try.prog 3 (plainElem Try.prog 2) b N D ∧ IsMap D ∧ ∀ k, Fits k → D.atKey (.int .i64 k) (.lit (.int .i64 0)) = .lit (.int .i64 (F k))
theorem MapZ.made (w : World) : MapZ (w.alloc (.map #[] 0)) w.heap.size 0 (fun _ => 0) :=
  ⟨.map [], World.ownsMap_made _ _ _ _, isMap_empty, fun _ _ => rfl⟩
theorem MapZ.lt {w : World} {b N : Nat} {F : Int → Int} (h : MapZ w b N F) : b < w.heap.size := by
  obtain ⟨D, h1, _⟩ := h
  exact h1.lt
theorem MapZ.kept {w w' : World} {b N : Nat} {F : Int → Int} {row : Option Nat} (h : MapZ w b N F) (hg : w.grownBy w' row) (hne : some b ≠ row) : MapZ w' b N F := by
  obtain ⟨D, h1, h2, h3⟩ := h
  exact ⟨D, h1.kept hg hne, h2, h3⟩
theorem MapZ.below {w w' : World} {b N : Nat} {F : Int → Int} (h : MapZ w b N F) (hb : Below w.heap.size w w') : MapZ w' b N F :=
  h.kept (row := none) ⟨hb.os, hb.tape, hb.output, hb.size, fun k hk _ => hb.block k hk⟩ (by simp)
theorem wpList_lookup_mapZ {w : World} {ops : Array Oper} {rest : List Oper} {o : Oper} {a : Act} {Q : Exit → Act → World → Prop} (hg : o.guard = none) (m x : Operand) (t : TypeId) (hop : o.op = Op.lookup t m x false) (ht : Try.prog.underlying t = some (.map 3 2))
    (b N : Nat) (F : Int → Int) (hm : a.eval m = .map (some b)) (h : MapZ w b N F) (k : Int) (hk : Fits k) (hx : a.eval x = .int .i64 k) (v : Int) (hv : F k = v)
    (hK : wpList Try.prog ops Q rest (a.put o.dst (.int .i64 v)) w) : wpList Try.prog ops Q (o :: rest) a w := by
  obtain ⟨D, h1, _, h3⟩ := h
  refine wpList_lookup_own_int _ hg m x t hop 3 2 .i64 Try.keyZ ht Try.underlying2 (Try.zeroZ _) b N D hm h1 _ _ hx (keyOf_int_mk Try.underlying3 (wf_of hk)) ?_
  intro c hat _
  rw [h3 k hk] at hat
  simp at hat
  rw [← hat, hv]
  exact hK
theorem wpList_update_mapZ {w : World} {ops : Array Oper} {rest : List Oper} {o : Oper} {a : Act} {Q : Exit → Act → World → Prop} (hg : o.guard = none) (m x v : Operand) (t : TypeId) (hop : o.op = Op.mapUpdate t m x v) (ht : Try.prog.underlying t = some (.map 3 2))
    (b N : Nat) (F : Int → Int) (hm : a.eval m = .map (some b)) (h : MapZ w b N F) (hN : N ≤ 1000000) (k z : Int) (hk : Fits k) (hz : Fits z) (hx : a.eval x = .int .i64 k) (hv : a.eval v = .int .i64 z)
    (hK : ∀ w', MapZ w' b (N + 1) (fun j => if j = k then z else F j) → w.grownBy w' (some b) → wpList Try.prog ops Q rest (a.put o.dst undef) w') : wpList Try.prog ops Q (o :: rest) a w := by
  obtain ⟨D, h1, h2, h3⟩ := h
  refine wpList_mapUpdate_own _ hg m x v t hop 3 2 Try.keyZ ht _ b N D hm h1 (by unfold maxLen; omega) _ _ (.int .i64 k) hx hv (keyOf_int_mk Try.underlying3 (wf_of hk)) (.lit (.int .i64 z)) [] (plainElem_int Try.underlying2 (wf_of hz)) ?_
  intro w' hown hgrow
  refine hK w' ⟨_, hown, h2.put _ _, fun j hj => ?_⟩ hgrow
  show _ = DataW.lit (.int .i64 (if j = k then z else F j))
  by_cases e : j = k
  · subst e
    rw [if_pos rfl, atKey_put_same h2 (by trivial)]
  · rw [if_neg e, atKey_put_other (by simpa using e)]
    exact h3 j hj
theorem wpList_delete_mapZ {w : World} {ops : Array Oper} {rest : List Oper} {o : Oper} {a : Act} {Q : Exit → Act → World → Prop} (hg : o.guard = none) (m x : Operand) (t : TypeId) (hop : o.op = Op.call { callee := Callee.builtin Builtin.delete, args := #[m, x], argTypes := #[t, 3] }) (ht : Try.prog.underlying t = some (.map 3 2))
    (b N : Nat) (F : Int → Int) (hm : a.eval m = .map (some b)) (h : MapZ w b N F) (k : Int) (hk : Fits k) (hx : a.eval x = .int .i64 k)
    (hK : ∀ w', MapZ w' b N (fun j => if j = k then 0 else F j) → w.grownBy w' (some b) → wpList Try.prog ops Q rest (a.put o.dst (.tuple #[])) w') : wpList Try.prog ops Q (o :: rest) a w := by
  obtain ⟨D, h1, h2, h3⟩ := h
  refine wpList_delete_own _ hg m x t 3 hop 2 Try.keyZ ht _ b N D hm h1 _ (.int .i64 k) hx (keyOf_int_mk Try.underlying3 (wf_of hk)) ?_
  intro w' hown hturn
  refine hK w' ⟨_, hown, h2.del _, fun j hj => ?_⟩ hturn.grown
  show _ = DataW.lit (.int .i64 (if j = k then 0 else F j))
  by_cases e : j = k
  · subst e
    rw [if_pos rfl, atKey_del_same]
  · rw [if_neg e, atKey_del_other (by simpa using e)]
    exact h3 j hj
end Go.Proofs.Ytdgcekkaiaehaaa
