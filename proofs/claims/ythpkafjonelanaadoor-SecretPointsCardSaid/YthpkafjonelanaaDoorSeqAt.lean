/- A slice of sums that grows, and where it then lies; a literal of one sum, of none; a cut of a row's own; the library's Clone at sums. -/
import Derived.Test.YthpkafjonelanaaDoorSums
import Derived.Test.YthpkafjonelanaaDoorSteps
import Derived.Maps.AppendAt
import Derived.Lib.SliceRun
namespace Go.Proofs.YthpkafjonelanaaDoor
open Go.RowKit

theorem own_zero13 {w : World} {B : Nat} (hB : B ≤ w.heap.size) : OwnS (w.alloc (.cells #[] 23)) B (.slice (some ⟨w.heap.size, 0, none⟩) 0 0) [] := by
  have h := own_lit (w := w) (B := B) [] (fun _ h => by cases h) hB 0 rfl (by omega)
  exact h
/-- A join of two slices of sums, the first of the call's own: it lies where it lay, or in a new block. -/
theorem append_sums_at (w : World) (B : Nat) (v : Value) (ls : List (List UInt8)) (h : OwnS w B v ls) (ad : Addr) (m c : Nat) (q : List (List UInt8)) (hq : Sums w (some ad) m c q) (hb : ls.length + m ≤ 4000000) (hbase : B ≤ w.heap.size) :
    ∃ a' c' w', (Builtin.append_ #[35, 35] 35 #[v, .slice (some ad) m c]).run Tryd.prog w = .ok (.slice a' (ls.length + m) c') w' ∧ OwnS w' B (.slice a' (ls.length + m) c') (ls ++ q) ∧ w.grownBy w' v.ownBlock ∧ ((Value.slice a' (ls.length + m) c').ownBlock = v.ownBlock ∨ (Value.slice a' (ls.length + m) c').ownBlock = some w.heap.size) := by
  obtain ⟨ie, i1, i2, i3, i4⟩ := info_parts sum_zero
  have hql := hq.1
  have hall : ∀ s ∈ ls ++ q, s.length = 32 := fun s hs => by
    rcases List.mem_append.1 hs with hs | hs
    · exact h.2 s hs
    · exact hq.2.2.2.2.1 s hs
  obtain ⟨v', w', h1, h2, h3, _, h5⟩ := run_append_own_at (P := Tryd.prog) w B 35 35 23 ie _ 32 32 Tryd.underlying35 i1 i2 i3 i4 rfl (by decide) v ls.length (seqCells ls) h.1 ad m c (seqCells q) (by rw [seqCells_len hq.2.2.2.2.1, hql])
        (fun j u hj => by
          have hjm : j < m * 32 := by
            have := (List.getElem?_eq_some_iff.1 hj).1
            rw [seqCells_len hq.2.2.2.2.1, hql] at this
            exact this
          obtain ⟨b, off, he, _, hc⟩ := hq.2.2.2.2.2 (by omega)
          cases he
          have e1 : (⟨b, off, none⟩ : Addr).add j = ⟨b, off + j, none⟩ := by simp [Addr.add]
          have ej : j = j / 32 * 32 + j % 32 := by omega
          have e2 := seqCells_get hq.2.2.2.2.1 (j := j / 32) (i := j % 32) (by omega)
          rw [← ej] at e2
          rw [e2] at hj
          have := hc (j / 32) (by omega) (j % 32) u hj
          rw [e1, show off + j = off + j / 32 * 32 + j % 32 by omega]
          exact this)
        seqCells_one (by unfold maxLen; omega) (by omega) hbase
  have h6 : OwnS w' B v' (ls ++ q) := ⟨by rw [List.length_append, hql, seqCells_append]; exact h2, hall⟩
  obtain ⟨a', c', rfl, _⟩ := h6.shape
  have e : (ls ++ q).length = ls.length + m := by rw [List.length_append, hql]
  rw [e] at h1 h6 h5
  exact ⟨a', c', w', h1, h6, h3, h5⟩
section
variable {ops : Array Oper} {rest : List Oper} {o : Oper} {a : Act} {w : World} {Q : Exit → Act → World → Prop}
theorem wpList_append_at13 (hg : o.guard = none) (x y : Operand)
    (ho : o.op = .call { callee := .builtin .append, args := #[x, y], argTypes := #[35, 35] }) (hty : o.type = 35) (B : Nat) (v : Value) (ls : List (List UInt8)) (n : Nat) (hn : ls.length = n) (hx : a.eval x = v) (h : OwnS w B v ls) (ad : Addr) (m c : Nat) (q : List (List UInt8)) (hy : a.eval y = .slice (some ad) m c) (hq : Sums w (some ad) m c q) (hb : n + m ≤ 4000000) (hbase : B ≤ w.heap.size)
    (hk : ∀ a' c' w', OwnS w' B (.slice a' (n + m) c') (ls ++ q) → w.grownBy w' v.ownBlock → ((Value.slice a' (n + m) c').ownBlock = v.ownBlock ∨ (Value.slice a' (n + m) c').ownBlock = some w.heap.size) → wpList Tryd.prog ops Q rest (a.put o.dst (.slice a' (n + m) c')) w') : wpList Tryd.prog ops Q (o :: rest) a w := by
  subst hn
  refine wpList_plain hg fun K hK => ?_
  obtain ⟨a', c', w', h1, h2, h3, h4⟩ := append_sums_at w B v ls h ad m c q hq hb hbase
  unfold Oper.wp execOp
  simp only [ho, hty, resolve, invoke, builtin, Sem.run_bind, Sem.run_pure, Result.andThen_ok, List.map_toArray, List.map_cons, List.map_nil, hx, hy, h1]
  exact hK _ _ (hk a' c' w' h2 h3 h4)
theorem step_append_at13 {K : Act → World → Prop} {E : Prop} {tmps : Array Value} {ds : List Deferred} {d : Nat} (hd : o.dst = some d) (hw : Region.wanted o (yielded ops tmps) = true) (x y : Operand)
    (ho : o.op = .call { callee := .builtin .append, args := #[x, y], argTypes := #[35, 35] }) (hty : o.type = 35) (B : Nat) (v : Value) (ls : List (List UInt8)) (n : Nat) (hn : ls.length = n) (hx : Act.eval { tmps := tmps, defers := ds } x = v) (h : OwnS w B v ls) (ad : Addr) (m c : Nat) (q : List (List UInt8)) (hy : Act.eval { tmps := tmps, defers := ds } y = .slice (some ad) m c) (hq : Sums w (some ad) m c q) (hb : n + m ≤ 4000000) (hbase : B ≤ w.heap.size)
    (hk : ∀ a' c' w', OwnS w' B (.slice a' (n + m) c') (ls ++ q) → w.grownBy w' v.ownBlock → ((Value.slice a' (n + m) c').ownBlock = v.ownBlock ∨ (Value.slice a' (n + m) c').ownBlock = some w.heap.size) → K { tmps := tmps.setIfInBounds d (.slice a' (n + m) c'), defers := ds } w') :
    if Region.wanted o (yielded ops tmps) = true then Oper.wp Tryd.prog o { tmps := tmps, defers := ds } w K Q else E := by
  subst hn
  rw [if_pos hw]
  obtain ⟨a', c', w', h1, h2, h3, h4⟩ := append_sums_at w B v ls h ad m c q hq hb hbase
  unfold Oper.wp execOp
  simp only [ho, hty, resolve, invoke, builtin, Sem.run_bind, Sem.run_pure, Result.andThen_ok, List.map_toArray, List.map_cons, List.map_nil, hx, hy, h1]
  show K (Act.put _ o.dst _) _
  rw [hd]
  exact hk a' c' w' h2 h3 h4
theorem one_own {s : List UInt8} (hs : s.length = 32) : OwnS (w.alloc (.cells (cellsOf s).toArray 23)) w.heap.size (.slice (some ⟨w.heap.size, 0, none⟩) 1 1) [s] := by
  have h := own_lit (w := w) (B := w.heap.size) [s] (by simp [hs]) (Nat.le_refl _) 1 rfl (by omega)
  rw [seqCells_single] at h
  exact h
/-- A literal of one sum. -/
theorem step_one13 {K : Act → World → Prop} {E : Prop} {tmps : Array Value} {ds : List Deferred} {d : Nat} {s : List UInt8} {x : Operand} (hd : o.dst = some d) (hw : Region.wanted o (yielded ops tmps) = true)
    (ho : o.op = .buildSlice 35 1 #[(0, x)]) (hx : Act.eval { tmps := tmps, defers := ds } x = .agg (cellsOf s).toArray) (hs : s.length = 32)
    (h : ∀ (p : Nat) (w' : World), w.heap.size ≤ p → Sums w' (some ⟨p, 0, none⟩) 1 1 [s] → Below w.heap.size w w' → K { tmps := tmps.setIfInBounds d (.slice (some ⟨p, 0, none⟩) 1 1), defers := ds } w') :
    if Region.wanted o (yielded ops tmps) = true then Oper.wp Tryd.prog o { tmps := tmps, defers := ds } w K Q else E := by
  rw [if_pos hw]
  have hb := run_build1 w s hs
  unfold Oper.wp execOp
  simp only [ho, List.map_toArray, List.map_cons, List.map_nil, hx, Sem.run_bind, Sem.run_pure, Result.andThen_ok, hb]
  show K (Act.put _ o.dst _) _
  rw [hd]
  exact h _ _ (Nat.le_refl _) (one_own hs).sums ((Below.refl _ _).alloc (Nat.le_refl _) _)
theorem wpList_one13 {s : List UInt8} (hg : o.guard = none) (x : Operand)
    (ho : o.op = .buildSlice 35 1 #[(0, x)]) (hx : a.eval x = .agg (cellsOf s).toArray) (hs : s.length = 32)
    (h : ∀ (p : Nat) (w' : World), w.heap.size ≤ p → Sums w' (some ⟨p, 0, none⟩) 1 1 [s] → Below w.heap.size w w' → wpList Tryd.prog ops Q rest (a.put o.dst (.slice (some ⟨p, 0, none⟩) 1 1)) w') : wpList Tryd.prog ops Q (o :: rest) a w := by
  refine wpList_plain hg fun K hK => ?_
  have hb := run_build1 w s hs
  unfold Oper.wp execOp
  simp only [ho, List.map_toArray, List.map_cons, List.map_nil, hx, Sem.run_bind, Sem.run_pure, Result.andThen_ok, hb]
  exact hK _ _ (h _ _ (Nat.le_refl _) (one_own hs).sums ((Below.refl _ _).alloc (Nat.le_refl _) _))
/-- The cut '[:A]', taken first. -/
theorem yields_upto13 {S : World → Prop} {x : Operand} {hi : Operand} {ad : Option Addr} {n c A : Nat} (hw : Region.wanted o (yielded ops a.tmps) = true) (ho : o.op = .slice 35 x none (some hi) none) (hx : a.eval x = .slice ad n c) (hhi : a.eval hi = .int .i64 (A : Int)) (hA : A ≤ c) :
    YieldsIf Tryd.prog ops S o (.slice ad A c) a :=
  .inl ⟨hw, fun w _ => by
    have h := run_cut_to (a := ad) (n := n) hA w
    unfold execOp
    simp only [ho, hx, hhi, Option.map_some, Option.map_none, Sem.run_bind, h, Result.andThen_ok, Sem.run_pure]⟩
end
theorem agRow13 (w : World) : (isAgg 35).run Tryd.prog w = .ok false w := by kernel_rfl
theorem OwnS.stay {w w' : World} {B : Nat} {v : Value} {ls : List (List UInt8)} (h : OwnS w B v ls) (hk : ∀ k, v.ownBlock = some k → w'.heap[k]? = w.heap[k]?) : OwnS w' B v ls := by
  refine ⟨⟨h.1.1, ?_⟩, h.2⟩
  rcases h.1.2 with h0 | ⟨g, cap, cur, hv, hB, hh, r⟩
  · exact .inl h0
  · exact .inr ⟨g, cap, cur, hv, hB, by rw [hk g (by rw [hv]; rfl)]; exact hh, r⟩
theorem OwnS.full {w : World} {B n c : Nat} {a : Option Addr} {ls : List (List UInt8)} (h : OwnS w B (.slice a n c) ls) (h0 : ls ≠ []) : ∃ g, a = some ⟨g, 0, none⟩ ∧ B ≤ g ∧ g < w.heap.size := by
  rcases h.1.2 with ⟨_, e⟩ | ⟨g, cap, cur, e, hB, hh, _⟩
  · exact absurd (List.eq_nil_of_length_eq_zero e) h0
  · cases e
    exact ⟨g, rfl, hB, lt_of_block hh⟩
set_option linter.unusedSimpArgs false in
set_option maxRecDepth 100000 in
set_option maxHeartbeats 6400000 in
theorem cloneS_any {w : World} {ad : Addr} {n c : Nat} {ls : List (List UInt8)} (h : Sums w (some ad) n c ls) (hn : n ≤ 2000000) :
    Calls Tryd.prog 23 #[.slice (some ad) n c] w fun e w' => ∃ a' c', e = .returned (.slice a' n c') ∧ OwnS w' w.heap.size (.slice a' n c') ls ∧ Below w.heap.size w w' := by
  have hq : ∀ W : World, (binOp .eql 35 (.slice (some ad) n c) (.slice none 0 0)).run Tryd.prog W = .ok (.bool false) W := fun W => Lib.run_eql_slice_nil W 35 23 (some ad) n c 0 0 Tryd.underlying35
  have H := Lib.hid h
  clear h
  go_enter Tryd.func23, Tryd.ntmps23
  have b1 : Below w.heap.size w (w.alloc (.cells #[] 23)) := (Below.refl _ _).alloc (Nat.le_refl _) _
  have HO := Lib.hid (own_zero13 (w := w) (Nat.le_refl _))
  have HS := Lib.hid (H.out.below b1)
  have HB := Lib.hid b1
  clear b1
  go_upto_region 3 with (fail)
  go_wp2_with (first | (at_builtin; refine wpList_append_at13 rfl _ _ rfl rfl w.heap.size _ [] 0 rfl rfl HO.out ad n c ls rfl HS.out (by omega) HB.out.size ?_; intro a' c' w' ho hg _; rw [Nat.zero_add] at ho; rw [Nat.zero_add]; have HO2 := Lib.hid ho; have HB2 := Lib.hid (HB.out.trans (grown_but HO.out hg HB.out.size)); clear ho hg) | fail)
  go_ret
  exact ⟨a', c', rfl, HO2.out, HB2.out⟩
end Go.Proofs.YthpkafjonelanaaDoor
