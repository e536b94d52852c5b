/- A slice of bytes that the call itself makes and appends to, whatever is appended. No function of the program is named. -/
import Derived.Test.YtdcieknblahoeaaEye
import Derived.Deep.RegionHeld3
import Derived.Laws.OwnMore
namespace Go.Proofs.Ytdcieknblahoeaa
open Go.RowKit

/-- A slice of bytes of the call's own. -/
def Own (w : World) (B : Nat) (v : Value) (l : List UInt8) : Prop := w.ownsRow B 5 1 v l.length (cellsOf l)

theorem cellsOf_append (l m : List UInt8) : cellsOf (l ++ m) = cellsOf l ++ cellsOf m := by simp [cellsOf]
theorem Own.shape {w : World} {B : Nat} {v : Value} {l : List UInt8} (h : Own w B v l) : ∃ a c, v = .slice a l.length c ∧ (∀ x, a = some x → B ≤ x.block) := by
  rcases h.2 with ⟨rfl, h0⟩ | ⟨g, cap, cur, rfl, hB, _⟩
  · exact ⟨none, 0, by rw [h0], fun x e => by cases e⟩
  · exact ⟨_, _, rfl, fun x e => by cases e; exact hB⟩
theorem Own.row {w : World} {B : Nat} {a : Option Addr} {n c : Nat} {l : List UInt8} (h : Own w B (.slice a n c) l) : Row w a n c l := by
  rcases h.2 with ⟨hv, h0⟩ | ⟨g, cap, cur, hv, hB, hh, h1, h2, h3, h4⟩
  · cases hv
    obtain rfl : l = [] := List.eq_nil_of_length_eq_zero h0
    exact Row.nil w
  · cases hv
    refine row_new rfl h1 h2 cur.toList 5 (by simpa using hh) (fun j hj => ?_)
    rw [← cellsOf_get hj, ← h4, List.getElem?_take, if_pos (by omega)]

theorem Own.fresh {w : World} {B : Nat} {a : Option Addr} {n c : Nat} {l : List UInt8} (h : Own w B (.slice a n c) l) : ∀ x, a = some x → B ≤ x.block := by
  rcases h.2 with ⟨hv, _⟩ | ⟨g, cap, cur, hv, hB, _⟩
  · cases hv; intro x e; cases e
  · cases hv; intro x e; cases e; exact hB

theorem append_row {P : Program} (w : World) (B : Nat) (t ty : TypeId) (i : TypeInfo) (ht : P.underlying t = some (.slice 5)) (hi : P.info? 5 = some i) (hz : i.zero = some (.int .u8 0)) (hsize : i.size = 1) (hby : i.bytes = 1)
    (v : Value) (l : List UInt8) (hown : Own w B v l) (a : Option Addr) (m c : Nat) (s : List UInt8) (hs : Row w a m c s) (hb : l.length + m ≤ 140737488355328) (hbase : B ≤ w.heap.size) :
    ∃ a' c' w', (Builtin.append_ #[t, t] ty #[v, .slice a m c]).run P w = .ok (.slice a' (l.length + m) c') w' ∧ Own w' B (.slice a' (l.length + m) c') (l ++ s) ∧ w.grownBy w' v.ownBlock := by
  have hsl := hs.1
  have key : ∃ v' w', (Builtin.append_ #[t, t] ty #[v, .slice a m c]).run P w = .ok v' w' ∧ w'.ownsRow B 5 1 v' (l.length + m) (cellsOf l ++ cellsOf s) ∧ w.grownBy w' v.ownBlock := by
    cases a with
    | some ad =>
      obtain ⟨v', w', h1, h2, h3, _⟩ := run_append_own (P := P) w B t ty 5 i (.int .u8 0) 1 1 ht hi hz hsize hby rfl (by decide) v l.length (cellsOf l) hown ad m c (cellsOf s) (by simp [cellsOf, hsl])
        (fun j u hj => by
          have hjm : j < m := by
            have := (List.getElem?_eq_some_iff.1 hj).1
            simpa [cellsOf, hsl] using this
          obtain ⟨b, off, he, _, hc⟩ := hs.2.2.2.2 (by omega)
          cases he
          have e1 : (⟨b, off, none⟩ : Addr).add j = ⟨b, off + j, none⟩ := by simp [Addr.add]
          rw [e1, hc j hjm, ← hj, cellsOf_get (by omega)])
        (cellsOf_one s) (by unfold maxLen; omega) (by omega) hbase
      exact ⟨v', w', h1, h2, h3⟩
    | none =>
      have hc0 := hs.2.2.2.1 rfl
      have hm0 : m = 0 := by have := hs.2.1; omega
      subst hm0
      subst hc0
      obtain rfl : s = [] := List.eq_nil_of_length_eq_zero hsl
      exact ⟨v, w, run_append_owned_none (P := P) w B t ty 5 i 1 ht hi v l.length (cellsOf l) hown, by have h := hown; unfold Own at h; simpa [cellsOf] using h, World.grownBy.refl _ _⟩
  obtain ⟨v', w', h1, h2, h3⟩ := key
  have hO : Own w' B v' (l ++ s) := by
    unfold Own
    rw [cellsOf_append, List.length_append, hsl]
    exact h2
  obtain ⟨a', c', rfl, _⟩ := hO.shape
  have e : (l ++ s).length = l.length + m := by simp [hsl]
  rw [e] at h1 hO
  exact ⟨a', c', w', h1, hO, h3⟩

theorem wpList_append_row {P : Program} (w : World) {ops : Array Oper} {rest : List Oper} {o : Oper} {A : Act} {Q : Exit → Act → World → Prop} (hgd : o.guard = none) (s x : Operand) (t : TypeId)
    (ho : o.op = .call { callee := .builtin .append, args := #[s, x], argTypes := #[t, t] }) (B : Nat) (i : TypeInfo) (ht : P.underlying t = some (.slice 5)) (hi : P.info? 5 = some i) (hz : i.zero = some (.int .u8 0)) (hsize : i.size = 1) (hby : i.bytes = 1)
    (v : Value) (l : List UInt8) (n : Nat) (hn : l.length = n) (hs : A.eval s = v) (hown : Own w B v l) (a : Option Addr) (m c : Nat) (q : List UInt8) (hx : A.eval x = .slice a m c) (hq : Row w a m c q) (hb : n + m ≤ 140737488355328) (hbase : B ≤ w.heap.size)
    (h : ∀ a' c' w', Own w' B (.slice a' (n + m) c') (l ++ q) → w.grownBy w' v.ownBlock → wpList P ops Q rest (A.put o.dst (.slice a' (n + m) c')) w') : wpList P ops Q (o :: rest) A w := by
  subst hn
  refine wpList_plain hgd fun K hK => ?_
  obtain ⟨a', c', w', h1, h2, h3⟩ := append_row (P := P) w B t o.type i ht hi hz hsize hby v l hown a m c q hq hb hbase
  unfold Oper.wp execOp
  simp only [ho, resolve, invoke, builtin, Sem.run_bind, Sem.run_pure, Result.andThen_ok, List.map_toArray, List.map_cons, List.map_nil, hs, hx, h1]
  exact hK _ _ (h a' c' w' h2 h3)

theorem step_append_row {P : Program} {ops : Array Oper} {o : Oper} {A : Act} {w : World} {K : Act → World → Prop} {Q : Exit → Act → World → Prop} {E : Prop} (hgd : o.guard = none) (s x : Operand) (t : TypeId)
    (ho : o.op = .call { callee := .builtin .append, args := #[s, x], argTypes := #[t, t] }) (B : Nat) (i : TypeInfo) (ht : P.underlying t = some (.slice 5)) (hi : P.info? 5 = some i) (hz : i.zero = some (.int .u8 0)) (hsize : i.size = 1) (hby : i.bytes = 1)
    (v : Value) (l : List UInt8) (n : Nat) (hn : l.length = n) (hs : A.eval s = v) (hown : Own w B v l) (a : Option Addr) (m c : Nat) (q : List UInt8) (hx : A.eval x = .slice a m c) (hq : Row w a m c q) (hb : n + m ≤ 140737488355328) (hbase : B ≤ w.heap.size)
    (h : ∀ a' c' w', Own w' B (.slice a' (n + m) c') (l ++ q) → w.grownBy w' v.ownBlock → K (A.put o.dst (.slice a' (n + m) c')) w') :
    if Region.wanted o (yielded ops A.tmps) = true then Oper.wp P o A w K Q else E := by
  subst hn
  have hw : Region.wanted o (yielded ops A.tmps) = true := by simp [Region.wanted, hgd]
  rw [if_pos hw]
  obtain ⟨a', c', w', h1, h2, h3⟩ := append_row (P := P) w B t o.type i ht hi hz hsize hby v l hown a m c q hq hb hbase
  unfold Oper.wp execOp
  simp only [ho, resolve, invoke, builtin, Sem.run_bind, Sem.run_pure, Result.andThen_ok, List.map_toArray, List.map_cons, List.map_nil, hs, hx, h1]
  exact h a' c' w' h2 h3
end Go.Proofs.Ytdcieknblahoeaa
