/- A variable that holds a way: what is stored into its parts; and numbers that are read into it. -/
import Derived.Test.YtdaafeaeinomoaaDoorLockBytes
import Derived.Test.YtdaafeaeinomoaaDoorOwnZ
namespace Go.Proofs.YtdaafeaeinomoaaDoor
open Go.RowKit

def setL : List Value → Nat → List Value → List Value
  | cs, _, [] => cs
  | cs, o, v :: vs => setL (cs.set o v) (o + 1) vs
theorem setL_mid : ∀ (vs mid pre post : List Value), vs.length = mid.length → setL (pre ++ (mid ++ post)) pre.length vs = pre ++ (vs ++ post)
  | [], [], _, _, _ => rfl
  | [], _ :: _, _, _, h => by simp at h
  | _ :: _, [], _, _, h => by simp at h
  | v :: vs, m :: mid, pre, post, h => by
    have e : (pre ++ (m :: mid ++ post)).set pre.length v = (pre ++ [v]) ++ (mid ++ post) := by simp
    show setL ((pre ++ (m :: mid ++ post)).set pre.length v) (pre.length + 1) vs = _
    rw [e, show pre.length + 1 = (pre ++ [v]).length by simp, setL_mid vs mid (pre ++ [v]) post (by simpa using h)]
    simp
theorem heap_setCells {b : Nat} {t : TypeId} : ∀ (vs : List Value) (o : Nat) (w : World) (cs : List Value), w.heap[b]? = some (.cells cs.toArray t (0, 0)) → (w.setCells b o vs).heap[b]? = some (.cells (setL cs o vs).toArray t (0, 0))
  | [], _, _, _, h => h
  | v :: vs, o, w, cs, h => by
    have h1 := heap_setCell_same w b o cs.toArray t v h
    rw [List.setIfInBounds_toArray] at h1
    exact heap_setCells vs (o + 1) (w.setCell ⟨b, o, none⟩ v) (cs.set o v) h1
theorem but_setCells {B b : Nat} : ∀ (vs : List Value) (o : Nat) (w : World), But B b w (w.setCells b o vs)
  | [], _, _ => But.refl _ _ _
  | v :: vs, o, _ => ((But.refl _ b _).setCell ⟨b, o, none⟩ (.inl rfl) v).trans (but_setCells vs (o + 1) _)
/-- A block that holds a way. -/
def VarW (w : World) (g : Nat) (x : PWay) : Prop := w.heap[g]? = some (.cells x.cells.toArray 26 (0, 0))
theorem VarW.lt {w : World} {g : Nat} {x : PWay} (h : VarW w g x) : g < w.heap.size := lt_of_block h
theorem VarW.free {w : World} {g : Nat} {x : PWay} (h : VarW w g x) (i : Nat) : w.frozen? ⟨g, i, none⟩ = false := by
  unfold VarW at h
  simp [World.frozen?, h]
theorem VarW.cell {w : World} {g : Nat} {x : PWay} (h : VarW w g x) (i : Nat) : w.cell? ⟨g, i, none⟩ = x.cells[i]? := by
  rw [cell_of_row _ _ _ _ _ _ h]
  simp
theorem VarW.there {w : World} {g o n : Nat} {x : PWay} (h : VarW w g x) (hs : x.h.length = 32) (ho : o + n ≤ 35) : w.there g o n := fun j hj => by
  refine ⟨?_, h.free _⟩
  rw [h.cell, List.getElem?_eq_getElem (by rw [PWay.cells_len hs]; omega)]
  rfl
theorem VarW.range {w : World} {g : Nat} {x : PWay} (h : VarW w g x) : w.rangeAt g 0 x.cells := range_of h
theorem VarW.but {w w' : World} {g B p : Nat} {x : PWay} (h : VarW w g x) (hb : But B p w w') (hB : g < B) (hne : g ≠ p) : VarW w' g x := hb.heap h hB hne
theorem VarW.below {w w' : World} {g : Nat} {x : PWay} (h : VarW w g x) (hb : Below w.heap.size w w') : VarW w' g x := (hb.block g h.lt).trans h
theorem VarW.keys {w : World} {g n c : Nat} {a : Option Addr} {x : PWay} (h : VarW w g x) : VarW (w.setCell ⟨g, 0, none⟩ (.slice a n c)) g { x with a := a, n := n, c := c } := by
  have h1 := heap_setCells [.slice a n c] 0 w _ h
  have e : setL x.cells 0 [.slice a n c] = ({ x with a := a, n := n, c := c } : PWay).cells := setL_mid [.slice a n c] [.slice x.a x.n x.c] [] (cellsOf x.h ++ [.int .i64 x.after, .int .i64 x.wait]) rfl
  rw [e] at h1
  exact h1
theorem VarW.sum {w : World} {g : Nat} {x : PWay} {s : List UInt8} (h : VarW w g x) (hs : x.h.length = 32) (hs' : s.length = 32) : VarW (w.setCells g 1 (cellsOf s)) g { x with h := s } := by
  have h1 := heap_setCells (cellsOf s) 1 w _ h
  have e : setL x.cells 1 (cellsOf s) = ({ x with h := s } : PWay).cells := setL_mid (cellsOf s) (cellsOf x.h) [.slice x.a x.n x.c] [.int .i64 x.after, .int .i64 x.wait] (by rw [cellsOf_len, cellsOf_len, hs, hs'])
  rw [e] at h1
  exact h1
theorem VarW.setAfter {w : World} {g : Nat} {x : PWay} {z : Int} (h : VarW w g x) (hs : x.h.length = 32) : VarW (w.setCell ⟨g, 33, none⟩ (.int .i64 z)) g { x with after := z } := by
  have h1 := heap_setCells [.int .i64 z] 33 w _ h
  have hl : (Value.slice x.a x.n x.c :: cellsOf x.h).length = 33 := by simp [cellsOf_len, hs]
  have e : setL x.cells 33 [.int .i64 z] = ({ x with after := z } : PWay).cells := by
    have e2 := setL_mid [.int .i64 z] [.int .i64 x.after] (.slice x.a x.n x.c :: cellsOf x.h) [.int .i64 x.wait] rfl
    rw [hl] at e2
    simpa [PWay.cells] using e2
  rw [e] at h1
  exact h1
theorem VarW.setWait {w : World} {g : Nat} {x : PWay} {z : Int} (h : VarW w g x) (hs : x.h.length = 32) : VarW (w.setCell ⟨g, 34, none⟩ (.int .i64 z)) g { x with wait := z } := by
  have h1 := heap_setCells [.int .i64 z] 34 w _ h
  have hl : (Value.slice x.a x.n x.c :: (cellsOf x.h ++ [.int .i64 x.after])).length = 34 := by simp [cellsOf_len, hs]
  have e : setL x.cells 34 [.int .i64 z] = ({ x with wait := z } : PWay).cells := by
    have e2 := setL_mid [.int .i64 z] [.int .i64 x.wait] (.slice x.a x.n x.c :: (cellsOf x.h ++ [.int .i64 x.after])) [] rfl
    rw [hl] at e2
    simpa [PWay.cells] using e2
  rw [e] at h1
  exact h1
/-- An eye stays where another block, of no bytes, is written. -/
theorem EyeAt.grown {w w' : World} {yb : Nat} {l : List UInt8} {e : Int} {v : Value} {ks : List Int} {B : Nat} (h : EyeAt w yb l e) (ho : OwnZ w 3 B v ks) (hB : yb < B) (hg : w.grownBy w' v.ownBlock) : EyeAt w' yb l e := by
  rcases ho.1.2 with ⟨rfl, _⟩ | ⟨g, cap, cur, rfl, hb, hh, _⟩
  · exact h.below ⟨hg.os, hg.tape, hg.output, hg.size, fun k hk => hg.block k hk (fun e => by cases e)⟩
  · refine h.typed (p := g) ⟨hg.os, hg.tape, hg.output, hg.size, fun k hk hne => hg.block k hk (fun e => hne (by cases e; rfl))⟩ hh (by decide) (by omega)
theorem OwnZ.but {w w' : World} {e : TypeId} {B p : Nat} {v : Value} {l : List Int} (h : OwnZ w e B v l) (hb : But w.heap.size p w w') (hp : p < B) : OwnZ w' e B v l := by
  refine ⟨⟨h.1.1, ?_⟩, h.2⟩
  rcases h.1.2 with h0 | ⟨g, cap, cur, hv, hB, hh, r⟩
  · exact .inl h0
  · exact .inr ⟨g, cap, cur, hv, hB, hb.heap hh (lt_of_block hh) (by omega), r⟩
theorem OwnZ.other {w : World} {B b : Nat} {v : Value} {l : List Int} {cs : Array Value} {t : TypeId} {fr : Nat × Nat} (h : OwnZ w 3 B v l) (hb : w.heap[b]? = some (.cells cs t fr)) (ht : t ≠ 3) : v.ownBlock ≠ some b := by
  rcases h.1.2 with ⟨rfl, _⟩ | ⟨g, cap, cur, rfl, _, hh, _⟩
  · intro e; cases e
  · intro e
    simp [Value.ownBlock] at e
    subst e
    rw [hh] at hb
    simp at hb
    exact ht hb.2.1.symm
/-- How all stands while a way is read: g3 is the variable, g2 the result. -/
structure KeysSt (w0 : World) (yb g2 g3 : Nat) (x : PWay) (s : List UInt8 × Int) (w : World) : Prop where
  own : OwnZ w 3 w0.heap.size (.slice x.a x.n x.c) x.ks
  res : VarW w g2 noWay
  var : VarW w g3 x
  eye : EyeAt w yb s.1 s.2
  but : But w0.heap.size yb w0 w
theorem KeysSt.read {w0 w w' : World} {yb g2 g3 : Nat} {x : PWay} {s s' : List UInt8 × Int} (h : KeysSt w0 yb g2 g3 x s w) (hy : yb < w0.heap.size) (h2 : w0.heap.size ≤ g2) (h3 : w0.heap.size ≤ g3) (he : EyeAt w' yb s'.1 s'.2) (hb : But w.heap.size yb w w') : KeysSt w0 yb g2 g3 x s' w' :=
  ⟨h.own.but hb hy, h.res.but hb h.res.lt (by omega), h.var.but hb h.var.lt (by omega), he, h.but.trans (hb.mono h.but.size)⟩
theorem KeysSt.more {w0 w w' : World} {yb g2 g3 : Nat} {x : PWay} {s : List UInt8 × Int} (h : KeysSt w0 yb g2 g3 x s w) (hb : Below w.heap.size w w') : KeysSt w0 yb g2 g3 x s w' :=
  ⟨h.own.below hb, h.res.below hb, h.var.below hb, h.eye.below hb, h.but.trans (But.of (hb.mono h.but.size))⟩
/-- The variable is stored into. -/
theorem KeysSt.set {w0 w w' : World} {yb g2 g3 : Nat} {x x' : PWay} {s : List UInt8 × Int} (h : KeysSt w0 yb g2 g3 x s w) (hy : yb < w0.heap.size) (h3 : w0.heap.size ≤ g3) (hne : g2 ≠ g3) (hs : But w.heap.size g3 w w') (hv : VarW w' g3 x') (e1 : x'.a = x.a) (e2 : x'.n = x.n) (e3 : x'.c = x.c) (e4 : x'.ks = x.ks) : KeysSt w0 yb g2 g3 x' s w' := by
  refine ⟨?_, h.res.but hs h.res.lt hne, hv, h.eye.typed hs h.var (by decide) (by omega), h.but.trans ⟨hs.os, hs.tape, hs.output, hs.size, fun k hk hkp => hs.block k (Nat.lt_of_lt_of_le hk h.but.size) (by omega)⟩⟩
  rw [e1, e2, e3, e4]
  refine ⟨⟨h.own.1.1, ?_⟩, h.own.2⟩
  rcases h.own.1.2 with h0 | ⟨g, cap, cur, hv', hB, hh, r⟩
  · exact .inl h0
  · have hg : g ≠ g3 := fun e => by
      have h9 := h.var
      unfold VarW at h9
      rw [← e, hh] at h9
      simp at h9
    exact .inr ⟨g, cap, cur, hv', hB, hs.heap hh (lt_of_block hh) hg, r⟩
/-- A number more, and the variable's slice stored. -/
theorem KeysSt.grow {w0 w w' : World} {yb g2 g3 n' c' : Nat} {a' : Option Addr} {x : PWay} {ks' : List Int} {s : List UInt8 × Int} (h : KeysSt w0 yb g2 g3 x s w) (hy : yb < w0.heap.size) (h3 : w0.heap.size ≤ g3) (hne : g2 ≠ g3)
    (ho : OwnZ w' 3 w0.heap.size (.slice a' n' c') ks') (hg : w.grownBy w' (Value.slice x.a x.n x.c).ownBlock) : VarW w' g3 x ∧ KeysSt w0 yb g2 g3 { x with a := a', n := n', c := c', ks := ks' } s (w'.setCell ⟨g3, 0, none⟩ (.slice a' n' c')) := by
  have r1 : VarW w' g2 noWay := (hg.block g2 h.res.lt (h.own.other h.res (by decide)).symm).trans h.res
  have r2 : VarW w' g3 x := (hg.block g3 h.var.lt (h.own.other h.var (by decide)).symm).trans h.var
  have r3 : EyeAt w' yb s.1 s.2 := h.eye.grown h.own hy hg
  have r4 : But w0.heap.size yb w0 w' := h.but.trans (But.of (h.own.grows hg h.but.size))
  have hs : But w'.heap.size g3 w' (w'.setCell ⟨g3, 0, none⟩ (.slice a' n' c')) := (But.refl _ g3 _).setCell _ (.inl rfl) _
  refine ⟨r2, ?_, r1.but hs r1.lt hne, r2.keys, r3.typed hs r2 (by decide) (by omega), ?_⟩
  · exact ⟨ownsRow_setCell_other ho.1 (fun e => by have := ho.other r2 (by decide); exact this e) _, ho.2⟩
  · exact r4.trans ⟨hs.os, hs.tape, hs.output, hs.size, fun k hk hkp => hs.block k (Nat.lt_of_lt_of_le hk r4.size) (by omega)⟩
/-- A slice literal of one number, in a region. -/
theorem step_one_gen {ops : Array Oper} {o : Oper} {tmps : Array Value} {ds : List Deferred} {w : World} {K : Act → World → Prop} {Q : Exit → Act → World → Prop} {E : Prop} {d : Nat} {u : Operand} {y : Int} (hd : o.dst = some d) (hw : Region.wanted o (yielded ops tmps) = true) (ho : o.op = .buildSlice 22 1 #[(0, u)])
    (hu : Act.eval { tmps := tmps, defers := ds } u = .int .i64 y)
    (h : ∀ (p : Nat) (w' : World), w'.heap[p]? = some (.cells #[.int .i64 y] 3 (0, 0)) → Below w.heap.size w w' → K { tmps := tmps.setIfInBounds d (.slice (some ⟨p, 0, none⟩) 1 1), defers := ds } w') :
    if Region.wanted o (yielded ops tmps) = true then Oper.wp Tryd.prog o { tmps := tmps, defers := ds } w K Q else E := by
  rw [if_pos hw]
  obtain ⟨ie, h1, h2, h3, _⟩ := info_parts (show (Tryd.prog.info? 3).map (fun i => (i.zero, i.size, i.bytes)) = some (some (.int .i64 0), 1, 8) by kernel_rfl)
  have hrun : (Instr.buildSlice 22 1 #[(0, .int .i64 y)]).run Tryd.prog w = .ok (.slice (some ⟨w.heap.size, 0, none⟩) 1 1) (w.alloc (.cells #[.int .i64 y] 3)) :=
    run_buildSlice w 22 3 1 _ _ ie _ Tryd.underlying22 h1 h2 (by rw [h3]; omega) (by rw [h3]; omega) (by rw [h3]; simp [Instr.fill, Value.cells]; rw [show Array.range 1 = #[0] by rfl]; simp)
  unfold Oper.wp execOp
  simp only [ho, List.map_toArray, List.map_cons, List.map_nil, hu, Sem.run_bind, hrun, Sem.run_pure, Result.andThen_ok]
  show K (Act.put _ o.dst _) _
  rw [hd]
  exact h _ _ (heap_alloc_new _ _) ((Below.refl _ _).alloc (Nat.le_refl _) _)
/-- 'append' of numbers, in a region. -/
theorem step_append_z {ops : Array Oper} {o : Oper} {tmps : Array Value} {ds : List Deferred} {w : World} {K : Act → World → Prop} {Q : Exit → Act → World → Prop} {E : Prop} {d : Nat} (hd : o.dst = some d) (hw : Region.wanted o (yielded ops tmps) = true) (x y : Operand)
    (ho : o.op = .call { callee := .builtin .append, args := #[x, y], argTypes := #[22, 22] }) (hty : o.type = 22) (B : Nat) (v : Value) (l : List Int) (hx : (Act.eval { tmps := tmps, defers := ds } x) = v) (h : OwnZ w 3 B v l) (ad : Option Addr) (m c : Nat) (q : List Int) (hy : (Act.eval { tmps := tmps, defers := ds } y) = .slice ad m c) (hq : Numbers w ad m c q) (hb : l.length + m ≤ 1000000) (hbase : B ≤ w.heap.size)
    (hk : ∀ a' c' w', OwnZ w' 3 B (.slice a' (l.length + m) c') (l ++ q) → w.grownBy w' v.ownBlock → K { tmps := tmps.setIfInBounds d (.slice a' (l.length + m) c'), defers := ds } w') :
    if Region.wanted o (yielded ops tmps) = true then Oper.wp Tryd.prog o { tmps := tmps, defers := ds } w K Q else E := by
  rw [if_pos hw]
  obtain ⟨ie, i1, i2, i3, i4⟩ := info_parts (show (Tryd.prog.info? 3).map (fun i => (i.zero, i.size, i.bytes)) = some (some (.int .i64 0), 1, 8) by kernel_rfl)
  obtain ⟨a', c', w', h1, h2, h3⟩ := append_numbers (P := Tryd.prog) w B 22 22 3 ie Tryd.underlying22 i1 i2 i3 i4 v l h ad m c q hq hb hbase
  unfold Oper.wp execOp
  simp only [ho, hty, resolve, invoke, builtin, Sem.run_bind, Sem.run_pure, Result.andThen_ok, List.map_toArray, List.map_cons, List.map_nil, hx, hy, h1]
  show K (Act.put _ o.dst _) _
  rw [hd]
  exact hk a' c' w' h2 h3
end Go.Proofs.YtdaafeaeinomoaaDoor
