/- Done as a plain function of what is left and the error. A variable that holds a way: what is stored into its parts; and numbers that are read into it. What getWay comes to: a way is read, whatever the error. A slice of ways of the call's own, that grows by append; and how all stands while an out is read. What lock.Get comes to: an out is read, whatever the error. How all stands while ins, ops, signs and transactions are read. What getIn, getOp and getSign of package tx come to: a part is read, whatever the error. What tx.Read comes to: bytes are read as the transaction whose bytes they are, or as none. -/
import Derived.Test.YtcmdpmialehjgaaGreatDoorWire
import Derived.Test.YtcmdpmialehjgaaGreatDoorLock
import Derived.Test.YtcmdpmialehjgaaGreatDoorOwnZ
import Derived.Test.YtcmdpmialehjgaaGreatDoorMemory
import Derived.Test.YtcmdpmialehjgaaGreatDoorTx
namespace Go.Proofs.YtcmdpmialehjgaaGreatDoor
open Go.RowKit

/-- The error at the end. -/
def doneE (s : List UInt8 × Int) : Int := if s.2 = 0 then (if s.1 = [] then 0 else 3) else s.2
theorem done_st {yb : Nat} {s : List UInt8 × Int} (w : World) (h : EyeAt w yb s.1 s.2) : Calls Tryz.prog 25 #[.pointer (some ⟨yb, 0, none⟩)] w fun r w' => r = .returned (.int .i64 (doneE s)) ∧ (∃ s' : List UInt8 × Int, EyeAt w' yb s'.1 s'.2) ∧ But w.heap.size yb w w' := by
  unfold doneE
  by_cases h0 : s.2 = 0
  · rw [if_pos h0]
    rw [h0] at h
    by_cases h1 : s.1 = []
    · rw [if_pos h1]
      rw [h1] at h
      exact (done_all h).mono fun r w' ⟨e1, e2⟩ => ⟨e1, ⟨([], 0), by rw [← e2]; exact h⟩, by rw [← e2]; exact But.refl _ _ _⟩
    · rw [if_neg h1]
      exact (done_left h1 h).mono fun _ _ ⟨e1, e2, e3⟩ => ⟨e1, ⟨(s.1, 3), e2⟩, e3⟩
  · rw [if_neg h0]
    exact (done_later s.2 h0 h).mono fun r w' ⟨e1, e2⟩ => ⟨e1, ⟨s, by rw [← e2]; exact h⟩, by rw [← e2]; exact But.refl _ _ _⟩
theorem doneE_zero {s : List UInt8 × Int} (h : doneE s = 0) : s = ([], 0) := by
  obtain ⟨l, e⟩ := s
  unfold doneE at h
  dsimp only at h
  split at h
  · rename_i h1
    split at h
    · rename_i h2
      rw [h1, h2]
    · cases h
  · rename_i h1
    exact absurd h h1
end Go.Proofs.YtcmdpmialehjgaaGreatDoor
namespace Go.Proofs.YtcmdpmialehjgaaGreatDoor
open Go.RowKit

def setL : List Value → Nat → List Value → List Value
  | cs, _, [] => cs
  | cs, o, v :: vs => setL (cs.set o v) (o + 1) vs
theorem setL_mid : ∀ (vs mid pre post : List Value), vs.length = mid.length → setL (pre ++ (mid ++ post)) pre.length vs = pre ++ (vs ++ post)
  | [], [], _, _, _ => rfl
  | [], _ :: _, _, _, h => by simp at h
  | _ :: _, [], _, _, h => by simp at h
  | v :: vs, m :: mid, pre, post, h => by
    have e : (pre ++ (m :: mid ++ post)).set pre.length v = (pre ++ [v]) ++ (mid ++ post) := by simp
    show setL ((pre ++ (m :: mid ++ post)).set pre.length v) (pre.length + 1) vs = _
    rw [e, show pre.length + 1 = (pre ++ [v]).length by simp, setL_mid vs mid (pre ++ [v]) post (by simpa using h)]
    simp
theorem heap_setCells {b : Nat} {t : TypeId} : ∀ (vs : List Value) (o : Nat) (w : World) (cs : List Value), w.heap[b]? = some (.cells cs.toArray t (0, 0)) → (w.setCells b o vs).heap[b]? = some (.cells (setL cs o vs).toArray t (0, 0))
  | [], _, _, _, h => h
  | v :: vs, o, w, cs, h => by
    have h1 := heap_setCell_same w b o cs.toArray t v h
    rw [List.setIfInBounds_toArray] at h1
    exact heap_setCells vs (o + 1) (w.setCell ⟨b, o, none⟩ v) (cs.set o v) h1
theorem but_setCells {B b : Nat} : ∀ (vs : List Value) (o : Nat) (w : World), But B b w (w.setCells b o vs)
  | [], _, _ => But.refl _ _ _
  | v :: vs, o, _ => ((But.refl _ b _).setCell ⟨b, o, none⟩ (.inl rfl) v).trans (but_setCells vs (o + 1) _)
/-- A block that holds a way. -/
def VarW (w : World) (g : Nat) (x : PWay) : Prop := w.heap[g]? = some (.cells x.cells.toArray 82 (0, 0))
theorem VarW.lt {w : World} {g : Nat} {x : PWay} (h : VarW w g x) : g < w.heap.size := lt_of_block h
theorem VarW.free {w : World} {g : Nat} {x : PWay} (h : VarW w g x) (i : Nat) : w.frozen? ⟨g, i, none⟩ = false := by
  unfold VarW at h
  simp [World.frozen?, h]
theorem VarW.cell {w : World} {g : Nat} {x : PWay} (h : VarW w g x) (i : Nat) : w.cell? ⟨g, i, none⟩ = x.cells[i]? := by
  rw [cell_of_row _ _ _ _ _ _ h]
  simp
theorem VarW.there {w : World} {g o n : Nat} {x : PWay} (h : VarW w g x) (hs : x.h.length = 32) (ho : o + n ≤ 35) : w.there g o n := fun j hj => by
  refine ⟨?_, h.free _⟩
  rw [h.cell, List.getElem?_eq_getElem (by rw [PWay.cells_len hs]; omega)]
  rfl
theorem VarW.range {w : World} {g : Nat} {x : PWay} (h : VarW w g x) : w.rangeAt g 0 x.cells := range_of h
theorem VarW.but {w w' : World} {g B p : Nat} {x : PWay} (h : VarW w g x) (hb : But B p w w') (hB : g < B) (hne : g ≠ p) : VarW w' g x := hb.heap h hB hne
theorem VarW.below {w w' : World} {g : Nat} {x : PWay} (h : VarW w g x) (hb : Below w.heap.size w w') : VarW w' g x := (hb.block g h.lt).trans h
theorem VarW.keys {w : World} {g n c : Nat} {a : Option Addr} {x : PWay} (h : VarW w g x) : VarW (w.setCell ⟨g, 0, none⟩ (.slice a n c)) g { x with a := a, n := n, c := c } := by
  have h1 := heap_setCells [.slice a n c] 0 w _ h
  have e : setL x.cells 0 [.slice a n c] = ({ x with a := a, n := n, c := c } : PWay).cells := setL_mid [.slice a n c] [.slice x.a x.n x.c] [] (cellsOf x.h ++ [.int .i64 x.after, .int .i64 x.wait]) rfl
  rw [e] at h1
  exact h1
theorem VarW.sum {w : World} {g : Nat} {x : PWay} {s : List UInt8} (h : VarW w g x) (hs : x.h.length = 32) (hs' : s.length = 32) : VarW (w.setCells g 1 (cellsOf s)) g { x with h := s } := by
  have h1 := heap_setCells (cellsOf s) 1 w _ h
  have e : setL x.cells 1 (cellsOf s) = ({ x with h := s } : PWay).cells := setL_mid (cellsOf s) (cellsOf x.h) [.slice x.a x.n x.c] [.int .i64 x.after, .int .i64 x.wait] (by rw [cellsOf_len, cellsOf_len, hs, hs'])
  rw [e] at h1
  exact h1
theorem VarW.setAfter {w : World} {g : Nat} {x : PWay} {z : Int} (h : VarW w g x) (hs : x.h.length = 32) : VarW (w.setCell ⟨g, 33, none⟩ (.int .i64 z)) g { x with after := z } := by
  have h1 := heap_setCells [.int .i64 z] 33 w _ h
  have hl : (Value.slice x.a x.n x.c :: cellsOf x.h).length = 33 := by simp [cellsOf_len, hs]
  have e : setL x.cells 33 [.int .i64 z] = ({ x with after := z } : PWay).cells := by
    have e2 := setL_mid [.int .i64 z] [.int .i64 x.after] (.slice x.a x.n x.c :: cellsOf x.h) [.int .i64 x.wait] rfl
    rw [hl] at e2
    simpa [PWay.cells] using e2
  rw [e] at h1
  exact h1
theorem VarW.setWait {w : World} {g : Nat} {x : PWay} {z : Int} (h : VarW w g x) (hs : x.h.length = 32) : VarW (w.setCell ⟨g, 34, none⟩ (.int .i64 z)) g { x with wait := z } := by
  have h1 := heap_setCells [.int .i64 z] 34 w _ h
  have hl : (Value.slice x.a x.n x.c :: (cellsOf x.h ++ [.int .i64 x.after])).length = 34 := by simp [cellsOf_len, hs]
  have e : setL x.cells 34 [.int .i64 z] = ({ x with wait := z } : PWay).cells := by
    have e2 := setL_mid [.int .i64 z] [.int .i64 x.wait] (.slice x.a x.n x.c :: (cellsOf x.h ++ [.int .i64 x.after])) [] rfl
    rw [hl] at e2
    simpa [PWay.cells] using e2
  rw [e] at h1
  exact h1
/-- An eye stays where another block, of no bytes, is written. -/
theorem EyeAt.grown {w w' : World} {yb : Nat} {l : List UInt8} {e : Int} {v : Value} {ks : List Int} {B : Nat} (h : EyeAt w yb l e) (ho : OwnZ w 3 B v ks) (hB : yb < B) (hg : w.grownBy w' v.ownBlock) : EyeAt w' yb l e := by
  rcases ho.1.2 with ⟨rfl, _⟩ | ⟨g, cap, cur, rfl, hb, hh, _⟩
  · exact h.below ⟨hg.os, hg.tape, hg.output, hg.size, fun k hk => hg.block k hk (fun e => by cases e)⟩
  · refine h.typed (p := g) ⟨hg.os, hg.tape, hg.output, hg.size, fun k hk hne => hg.block k hk (fun e => hne (by cases e; rfl))⟩ hh (by decide) (by omega)
theorem OwnZ.but {w w' : World} {e : TypeId} {B p : Nat} {v : Value} {l : List Int} (h : OwnZ w e B v l) (hb : But w.heap.size p w w') (hp : p < B) : OwnZ w' e B v l := by
  refine ⟨⟨h.1.1, ?_⟩, h.2⟩
  rcases h.1.2 with h0 | ⟨g, cap, cur, hv, hB, hh, r⟩
  · exact .inl h0
  · exact .inr ⟨g, cap, cur, hv, hB, hb.heap hh (lt_of_block hh) (by omega), r⟩
theorem OwnZ.other {w : World} {B b : Nat} {v : Value} {l : List Int} {cs : Array Value} {t : TypeId} {fr : Nat × Nat} (h : OwnZ w 3 B v l) (hb : w.heap[b]? = some (.cells cs t fr)) (ht : t ≠ 3) : v.ownBlock ≠ some b := by
  rcases h.1.2 with ⟨rfl, _⟩ | ⟨g, cap, cur, rfl, _, hh, _⟩
  · intro e; cases e
  · intro e
    simp [Value.ownBlock] at e
    subst e
    rw [hh] at hb
    simp at hb
    exact ht hb.2.1.symm
/-- How all stands while a way is read: g3 is the variable, g2 the result. -/
structure KeysSt (w0 : World) (yb g2 g3 : Nat) (x : PWay) (s : List UInt8 × Int) (w : World) : Prop where
  own : OwnZ w 3 w0.heap.size (.slice x.a x.n x.c) x.ks
  res : VarW w g2 noWay
  var : VarW w g3 x
  eye : EyeAt w yb s.1 s.2
  but : But w0.heap.size yb w0 w
theorem KeysSt.read {w0 w w' : World} {yb g2 g3 : Nat} {x : PWay} {s s' : List UInt8 × Int} (h : KeysSt w0 yb g2 g3 x s w) (hy : yb < w0.heap.size) (h2 : w0.heap.size ≤ g2) (h3 : w0.heap.size ≤ g3) (he : EyeAt w' yb s'.1 s'.2) (hb : But w.heap.size yb w w') : KeysSt w0 yb g2 g3 x s' w' :=
  ⟨h.own.but hb hy, h.res.but hb h.res.lt (by omega), h.var.but hb h.var.lt (by omega), he, h.but.trans (hb.mono h.but.size)⟩
theorem KeysSt.more {w0 w w' : World} {yb g2 g3 : Nat} {x : PWay} {s : List UInt8 × Int} (h : KeysSt w0 yb g2 g3 x s w) (hb : Below w.heap.size w w') : KeysSt w0 yb g2 g3 x s w' :=
  ⟨h.own.below hb, h.res.below hb, h.var.below hb, h.eye.below hb, h.but.trans (But.of (hb.mono h.but.size))⟩
/-- The variable is stored into. -/
theorem KeysSt.set {w0 w w' : World} {yb g2 g3 : Nat} {x x' : PWay} {s : List UInt8 × Int} (h : KeysSt w0 yb g2 g3 x s w) (hy : yb < w0.heap.size) (h3 : w0.heap.size ≤ g3) (hne : g2 ≠ g3) (hs : But w.heap.size g3 w w') (hv : VarW w' g3 x') (e1 : x'.a = x.a) (e2 : x'.n = x.n) (e3 : x'.c = x.c) (e4 : x'.ks = x.ks) : KeysSt w0 yb g2 g3 x' s w' := by
  refine ⟨?_, h.res.but hs h.res.lt hne, hv, h.eye.typed hs h.var (by decide) (by omega), h.but.trans ⟨hs.os, hs.tape, hs.output, hs.size, fun k hk hkp => hs.block k (Nat.lt_of_lt_of_le hk h.but.size) (by omega)⟩⟩
  rw [e1, e2, e3, e4]
  refine ⟨⟨h.own.1.1, ?_⟩, h.own.2⟩
  rcases h.own.1.2 with h0 | ⟨g, cap, cur, hv', hB, hh, r⟩
  · exact .inl h0
  · have hg : g ≠ g3 := fun e => by
      have h9 := h.var
      unfold VarW at h9
      rw [← e, hh] at h9
      simp at h9
    exact .inr ⟨g, cap, cur, hv', hB, hs.heap hh (lt_of_block hh) hg, r⟩
/-- A number more, and the variable's slice stored. -/
theorem KeysSt.grow {w0 w w' : World} {yb g2 g3 n' c' : Nat} {a' : Option Addr} {x : PWay} {ks' : List Int} {s : List UInt8 × Int} (h : KeysSt w0 yb g2 g3 x s w) (hy : yb < w0.heap.size) (h3 : w0.heap.size ≤ g3) (hne : g2 ≠ g3)
    (ho : OwnZ w' 3 w0.heap.size (.slice a' n' c') ks') (hg : w.grownBy w' (Value.slice x.a x.n x.c).ownBlock) : VarW w' g3 x ∧ KeysSt w0 yb g2 g3 { x with a := a', n := n', c := c', ks := ks' } s (w'.setCell ⟨g3, 0, none⟩ (.slice a' n' c')) := by
  have r1 : VarW w' g2 noWay := (hg.block g2 h.res.lt (h.own.other h.res (by decide)).symm).trans h.res
  have r2 : VarW w' g3 x := (hg.block g3 h.var.lt (h.own.other h.var (by decide)).symm).trans h.var
  have r3 : EyeAt w' yb s.1 s.2 := h.eye.grown h.own hy hg
  have r4 : But w0.heap.size yb w0 w' := h.but.trans (But.of (h.own.grows hg h.but.size))
  have hs : But w'.heap.size g3 w' (w'.setCell ⟨g3, 0, none⟩ (.slice a' n' c')) := (But.refl _ g3 _).setCell _ (.inl rfl) _
  refine ⟨r2, ?_, r1.but hs r1.lt hne, r2.keys, r3.typed hs r2 (by decide) (by omega), ?_⟩
  · exact ⟨ownsRow_setCell_other ho.1 (fun e => by have := ho.other r2 (by decide); exact this e) _, ho.2⟩
  · exact r4.trans ⟨hs.os, hs.tape, hs.output, hs.size, fun k hk hkp => hs.block k (Nat.lt_of_lt_of_le hk r4.size) (by omega)⟩
/-- A slice literal of one number, in a region. -/
theorem step_one_gen {ops : Array Oper} {o : Oper} {tmps : Array Value} {ds : List Deferred} {w : World} {K : Act → World → Prop} {Q : Exit → Act → World → Prop} {E : Prop} {d : Nat} {u : Operand} {y : Int} (hd : o.dst = some d) (hw : Region.wanted o (yielded ops tmps) = true) (ho : o.op = .buildSlice 80 1 #[(0, u)])
    (hu : Act.eval { tmps := tmps, defers := ds } u = .int .i64 y)
    (h : ∀ (p : Nat) (w' : World), w'.heap[p]? = some (.cells #[.int .i64 y] 3 (0, 0)) → Below w.heap.size w w' → K { tmps := tmps.setIfInBounds d (.slice (some ⟨p, 0, none⟩) 1 1), defers := ds } w') :
    if Region.wanted o (yielded ops tmps) = true then Oper.wp Tryz.prog o { tmps := tmps, defers := ds } w K Q else E := by
  rw [if_pos hw]
  obtain ⟨ie, h1, h2, h3, _⟩ := info_parts (show (Tryz.prog.info? 3).map (fun i => (i.zero, i.size, i.bytes)) = some (some (.int .i64 0), 1, 8) by kernel_rfl)
  have hrun : (Instr.buildSlice 80 1 #[(0, .int .i64 y)]).run Tryz.prog w = .ok (.slice (some ⟨w.heap.size, 0, none⟩) 1 1) (w.alloc (.cells #[.int .i64 y] 3)) :=
    run_buildSlice w 80 3 1 _ _ ie _ Tryz.underlying80 h1 h2 (by rw [h3]; omega) (by rw [h3]; omega) (by rw [h3]; simp [Instr.fill, Value.cells]; rw [show Array.range 1 = #[0] by rfl]; simp)
  unfold Oper.wp execOp
  simp only [ho, List.map_toArray, List.map_cons, List.map_nil, hu, Sem.run_bind, hrun, Sem.run_pure, Result.andThen_ok]
  show K (Act.put _ o.dst _) _
  rw [hd]
  exact h _ _ (heap_alloc_new _ _) ((Below.refl _ _).alloc (Nat.le_refl _) _)
/-- 'append' of numbers, in a region. -/
theorem step_append_z {ops : Array Oper} {o : Oper} {tmps : Array Value} {ds : List Deferred} {w : World} {K : Act → World → Prop} {Q : Exit → Act → World → Prop} {E : Prop} {d : Nat} (hd : o.dst = some d) (hw : Region.wanted o (yielded ops tmps) = true) (x y : Operand)
    (ho : o.op = .call { callee := .builtin .append, args := #[x, y], argTypes := #[80, 80] }) (hty : o.type = 80) (B : Nat) (v : Value) (l : List Int) (hx : (Act.eval { tmps := tmps, defers := ds } x) = v) (h : OwnZ w 3 B v l) (ad : Option Addr) (m c : Nat) (q : List Int) (hy : (Act.eval { tmps := tmps, defers := ds } y) = .slice ad m c) (hq : Numbers w ad m c q) (hb : l.length + m ≤ 1000000) (hbase : B ≤ w.heap.size)
    (hk : ∀ a' c' w', OwnZ w' 3 B (.slice a' (l.length + m) c') (l ++ q) → w.grownBy w' v.ownBlock → K { tmps := tmps.setIfInBounds d (.slice a' (l.length + m) c'), defers := ds } w') :
    if Region.wanted o (yielded ops tmps) = true then Oper.wp Tryz.prog o { tmps := tmps, defers := ds } w K Q else E := by
  rw [if_pos hw]
  obtain ⟨ie, i1, i2, i3, i4⟩ := info_parts (show (Tryz.prog.info? 3).map (fun i => (i.zero, i.size, i.bytes)) = some (some (.int .i64 0), 1, 8) by kernel_rfl)
  obtain ⟨a', c', w', h1, h2, h3⟩ := append_numbers (P := Tryz.prog) w B 80 80 3 ie Tryz.underlying80 i1 i2 i3 i4 v l h ad m c q hq hb hbase
  unfold Oper.wp execOp
  simp only [ho, hty, resolve, invoke, builtin, Sem.run_bind, Sem.run_pure, Result.andThen_ok, List.map_toArray, List.map_cons, List.map_nil, hx, hy, h1]
  show K (Act.put _ o.dst _) _
  rw [hd]
  exact hk a' c' w' h2 h3
end Go.Proofs.YtcmdpmialehjgaaGreatDoor
namespace Go.Proofs.YtcmdpmialehjgaaGreatDoor
open Go.RowKit

/-- New: no older block holds it. -/
def NewB (B : Nat) (a : Option Addr) : Prop := ∀ ad, a = some ad → B ≤ ad.block
/-- Where a way's keys lie: in a block of numbers. -/
def KeyTag (w : World) (x : PWay) : Prop := 0 < x.n → ∃ b off cs fr, x.a = some ⟨b, off, none⟩ ∧ w.heap[b]? = some (.cells cs 3 fr)
/-- A way that was read. -/
def GotWay (w0 : World) (yb : Nat) (s : List UInt8 × Int) (r : Ending) (w : World) : Prop :=
  ∃ x : PWay, r = .returned (.agg x.cells.toArray) ∧ WayIn w x ∧ KeyTag w x ∧ NewB w0.heap.size x.a ∧ x.strip = (wayR s).1 ∧ EyeAt w yb (wayR s).2.1 (wayR s).2.2 ∧ But w0.heap.size yb w0 w
theorem OwnZ.tag {w : World} {B n c : Nat} {a : Option Addr} {l : List Int} (h : OwnZ w 3 B (.slice a n c) l) : (0 < n → ∃ b off cs fr, a = some ⟨b, off, none⟩ ∧ w.heap[b]? = some (.cells cs 3 fr)) ∧ ∀ ad, a = some ad → B ≤ ad.block := by
  rcases h.1.2 with ⟨hv, h1⟩ | ⟨g, cap, cur, hv, hB, hh, r⟩
  · cases hv
    exact ⟨fun h0 => absurd h0 (by omega), fun ad e => by cases e⟩
  · cases hv
    exact ⟨fun _ => ⟨g, 0, _, _, rfl, hh⟩, fun ad e => by cases e; exact hB⟩
theorem KeysSt.way {w0 w w' : World} {yb g2 g3 : Nat} {x : PWay} {s : List UInt8 × Int} (h : KeysSt w0 yb g2 g3 x s w) (hy : yb < w0.heap.size) (h2 : w0.heap.size ≤ g2) (hs : But w.heap.size g2 w w') (hl : x.h.length = 32) (ha : Fits x.after) (hw : Fits x.wait) :
    WayIn w' x ∧ KeyTag w' x ∧ NewB w0.heap.size x.a ∧ EyeAt w' yb s.1 s.2 ∧ But w0.heap.size yb w0 w' := by
  have ho : OwnZ w' 3 w0.heap.size (.slice x.a x.n x.c) x.ks := by
    refine ⟨⟨h.own.1.1, ?_⟩, h.own.2⟩
    rcases h.own.1.2 with h0 | ⟨g, cap, cur, hv', hB, hh, r⟩
    · exact .inl h0
    · have hg : g ≠ g2 := fun e => by
        have h9 := h.res
        unfold VarW at h9
        rw [← e, hh] at h9
        simp at h9
      exact .inr ⟨g, cap, cur, hv', hB, hs.heap hh (lt_of_block hh) hg, r⟩
  refine ⟨⟨ho.numbers, hl, ha, hw⟩, fun h0 => ?_, fun ad e => ?_, h.eye.typed hs h.res (by decide) (by omega), h.but.trans ⟨hs.os, hs.tape, hs.output, hs.size, fun k hk hkp => hs.block k (Nat.lt_of_lt_of_le hk h.but.size) (by omega)⟩⟩
  · exact ho.tag.1 h0
  · exact ho.tag.2 ad e
set_option linter.unusedSimpArgs false in
set_option maxRecDepth 100000 in
set_option maxHeartbeats 12800000 in
theorem getWay_st {w : World} {yb : Nat} {s : List UInt8 × Int} (h : EyeAt w yb s.1 s.2) (hm : s.1.length ≤ 140737488355328) :
    Calls Tryz.prog 96 #[.pointer (some ⟨yb, 0, none⟩)] w (GotWay w yb s) := by
  have hyb := h.lt
  obtain ⟨s1, s2, s3, s4, s5, n, z4, z5, ks0, hs, e1, e2, e3, e4, e5, eR⟩ := wayR_parts s
  have r1 := upR_range s (m := 16) (by omega)
  have r4 := upR_range s3 (m := 1073741824) (by omega)
  have r5 := upR_range s4 (m := 1073741824) (by omega)
  rw [e1] at r1
  rw [e4] at r4
  rw [e5] at r5
  dsimp only at r1 r4 r5
  obtain ⟨N, rfl⟩ : ∃ N : Nat, n = N := ⟨n.toNat, by omega⟩
  rw [Int.toNat_natCast] at e2
  have hlen := sumR_len s2
  have l2 : s2.1.length ≤ 140737488355328 := by
    have h1 := upR_le s 16
    have h2 := numsR_le 255 s1 N
    rw [e1] at h1
    rw [e2] at h2
    exact Nat.le_trans h2 (Nat.le_trans h1 hm)
  rw [e3] at hlen
  have HU1 := Lib.hid (fun (W : World) (hW : EyeAt W yb s.1 s.2) => by have h9 := upto_st 16 hW; rw [e1] at h9; exact h9)
  have HU4 := Lib.hid (fun (W : World) (hW : EyeAt W yb s3.1 s3.2) => by have h9 := upto_st 1073741824 hW; rw [e4] at h9; exact h9)
  have HU5 := Lib.hid (fun (W : World) (hW : EyeAt W yb s4.1 s4.2) => by have h9 := upto_st 1073741824 hW; rw [e5] at h9; exact h9)
  have HS2 := Lib.hid (fun (W : World) (hW : EyeAt W yb s2.1 s2.2) => by have h9 := sum_st W hW l2; rw [e3] at h9; exact h9)
  have HE2 := Lib.hid e2
  have HER := Lib.hid eR
  have H := Lib.hid h
  have HLEN := Lib.hid hlen
  have hN : N ≤ 16 := by omega
  have hN63 : (N : Int) ≤ 16 := by omega
  have F4 : Hid (Fits z4) := Lib.hid ⟨by omega, by omega⟩
  have F5 : Hid (Fits z5) := Lib.hid ⟨by omega, by omega⟩
  clear e1 e2 e3 e4 e5 eR h hm l2 hlen r1 r4 r5
  go_enter Tryz.func96, Tryz.ntmps96
  go_upto_region 2 with (fail)
  rw [← noWay_is]
  have b1 : Below w.heap.size w ((w.alloc (.cells noWay.cells.toArray 82)).alloc (.cells noWay.cells.toArray 82)) := ((Below.refl _ _).alloc (Nat.le_refl _) _).alloc (by simp) _
  have h2 : VarW ((w.alloc (.cells noWay.cells.toArray 82)).alloc (.cells noWay.cells.toArray 82)) w.heap.size noWay := by
    unfold VarW
    rw [heap_alloc_old _ _ (by simp)]
    exact heap_alloc_new _ _
  have h3 : VarW ((w.alloc (.cells noWay.cells.toArray 82)).alloc (.cells noWay.cells.toArray 82)) (w.heap.size + 1) noWay := heap_alloc_at _ _ _ (by simp)
  revert b1 h2 h3
  generalize ((w.alloc (.cells noWay.cells.toArray 82)).alloc (.cells noWay.cells.toArray 82)) = w1
  intro b1 h2 h3
  have KS := Lib.hid (show KeysSt w yb w.heap.size (w.heap.size + 1) noWay s w1 from ⟨OwnZ.nil _ _ _, h2, h3, H.out.below b1, But.of b1⟩)
  revert KS
  obtain ⟨g, hg⟩ : ∃ g, g = w.heap.size := ⟨_, rfl⟩
  rw [← hg]
  intro KS
  have hg2 : w.heap.size ≤ g := by omega
  have hg3 : w.heap.size ≤ g + 1 := by omega
  have hne : g ≠ g + 1 := by omega
  clear b1 h2 h3 H hg
  go_wp2_with fail
  refine (HU1.out _ KS.out.eye).mono ?_
  rintro e w2 ⟨rfl, he, hb⟩
  have KS := Lib.hid (KS.out.read (s' := s1) hyb hg2 hg3 he hb)
  clear he hb HU1
  go_wp2_with fail
  go_loopw [6] (fun i wr => ∃ (k : Nat) (a : Option Addr) (cc : Nat) (ks : List Int) (st : List UInt8 × Int), k ≤ N ∧ i = .int .i64 k ∧ numsR 255 k s1 = (ks, st) ∧ KeysSt w yb g (g + 1) ⟨a, k, cc, ks, zero32, 0, 0⟩ st wr) (fun i _ => N - (intOf i).toNat)
  case atStart => exact ⟨0, none, 0, [], s1, Nat.zero_le _, rfl, rfl, KS.out⟩
  case round =>
    obtain ⟨k, a, cc, ks, st, hk, rfl, hks, hKS⟩ := hrel
    have KS := Lib.hid hKS
    have HKS := Lib.hid hks
    clear hks hKS
    by_cases hkn : k < N
    · have f1 : (k : Int) < (N : Int) := by omega
      have f0 : (0 : Int) ≤ (k : Int) := by omega
      have hkl : ks.length = k := by
        have h9 := numsR_len 255 s1 k
        rw [HKS.out] at h9
        exact h9
      have HKL := Lib.hid hkl
      obtain ⟨z, st', hu⟩ : ∃ z st', upR st 255 = (z, st') := ⟨_, _, rfl⟩
      have hrz := upR_range st (m := 255) (by omega)
      rw [hu] at hrz
      dsimp only at hrz
      have HFZ : Hid (Fits z) := Lib.hid ⟨by omega, by omega⟩
      have NX : Hid (numsR 255 (k + 1) s1 = (ks ++ [z], st')) := Lib.hid (by rw [numsR, HKS.out, hu])
      have HU := Lib.hid (fun (W : World) (hW : EyeAt W yb st.1 st.2) => by have h9 := upto_st 255 hW; rw [hu] at h9; exact h9)
      clear hkl hrz hu HKS
      go_upto_region 4 with (fail)
      refine wp_region_held_drew (S := fun _ => True) (by kernel_rfl) (True.intro) (fun hHeld => ?_)
      refine tkP 0 rfl rfl ?_
      refine tkP 2 rfl rfl ?_
      have KS := Lib.hid (KS.out.more (w' := wr.drew) (below_drew (Below.refl _ _)))
      refine wpAnyH_ready (rs := [1, 3]) (by kernel_rfl) (by simp) ?_
      refine AllReadyH.cons rfl (fun K hK => ?_) ?_
      · refine step_cell (d := 9) rfl (by rfl) 80 _ rfl (g + 1) 0 rfl (.slice a k cc) (by rw [KS.out.var.cell 0]; rfl) (Tryz.isAgg80 _) ?_
        refine hK.out _ _ (by (try dsimp only); all_goals exact True.intro) (fun hHeld => ?_)
        clear hK K
        refine tkR 3 rfl (fun K hK => ?_)
        go_simp
        go_wp2_with ((go_at_call 38; (with_reducible refine (HU.out _ KS.out.eye).mono ?_); rintro e y3a ⟨rfl, he, hb⟩; have KS := Lib.hid (KS.out.read (s' := st') hyb hg2 hg3 he hb); clear he hb))
        refine hK.out _ _ (by (try dsimp only); all_goals exact True.intro) (fun hHeld => ?_)
        clear hK K
        refine tkR 4 rfl (fun K hK => ?_)
        refine step_one_gen (d := 12) (y := z) rfl (by rfl) rfl (by rfl) ?_
        intro p y4a hlit hbl
        have KS := Lib.hid (KS.out.more hbl)
        have LIT := Lib.hid (numbers_one hlit HFZ.out)
        clear hlit hbl
        refine hK.out _ _ (by (try dsimp only); all_goals exact True.intro) (fun hHeld => ?_)
        clear hK K
        refine tkR 5 rfl (fun K hK => ?_)
        refine step_append_z (d := 13) rfl (by rfl) _ _ rfl rfl w.heap.size (.slice a k cc) ks (by rfl) KS.out.own _ 1 1 [z] (by rfl) LIT.out (by rw [HKL.out]; omega) KS.out.but.size ?_
        intro a' c' y5 ho hgr
        rw [HKL.out] at ho ⊢
        obtain ⟨hv, hks⟩ := KS.out.grow hyb hg3 hne ho hgr
        have HV := Lib.hid hv
        have KS := Lib.hid hks
        clear hv hks ho hgr
        refine hK.out _ _ (by (try dsimp only); all_goals exact True.intro) (fun hHeld => ?_)
        clear hK K
        refine tkP 6 rfl rfl ?_
        refine tkR 7 rfl (fun K hK => ?_)
        refine step_store_cell (by rfl) 80 _ _ rfl (g + 1) 0 (by rfl) (.slice a' (k + 1) c') (by rfl) (.slice a k cc) (by rw [HV.out.cell 0]; rfl) (HV.out.free 0) (by kernel_rfl) rfl ?_
        refine hK.out _ _ (by (try dsimp only); all_goals exact True.intro) (fun hHeld => ?_)
        clear hK K
        refine wpAnyH_done (by kernel_rfl) ?_ _
        clear hHeld HV
        revert KS
        generalize World.setCell y5 _ _ = y7
        intro KS
        go_wp2_with fail
        go_roundw
        case rel => exact ⟨k + 1, a', c', ks ++ [z], st', by omega, by go_num, NX.out, KS.out⟩
        case measure => simp [intOf]; omega
      refine AllReadyH.cons rfl (fun K hK => ?_) ?_
      · go_simp
        go_wp2_with ((go_at_call 38; (with_reducible refine (HU.out _ KS.out.eye).mono ?_); rintro e y3b ⟨rfl, he, hb⟩; have KS := Lib.hid (KS.out.read (s' := st') hyb hg2 hg3 he hb); clear he hb))
        refine hK.out _ _ (by (try dsimp only); all_goals exact True.intro) (fun hHeld => ?_)
        clear hK K
        refine wpAnyH_ready (rs := [1, 4]) (by kernel_rfl) (by simp) ?_
        refine AllReadyH.cons rfl (fun K hK => ?_) ?_
        · refine step_cell (d := 9) rfl (by rfl) 80 _ rfl (g + 1) 0 rfl (.slice a k cc) (by rw [KS.out.var.cell 0]; rfl) (Tryz.isAgg80 _) ?_
          refine hK.out _ _ (by (try dsimp only); all_goals exact True.intro) (fun hHeld => ?_)
          clear hK K
          refine tkR 4 rfl (fun K hK => ?_)
          refine step_one_gen (d := 12) (y := z) rfl (by rfl) rfl (by rfl) ?_
          intro p y4a hlit hbl
          have KS := Lib.hid (KS.out.more hbl)
          have LIT := Lib.hid (numbers_one hlit HFZ.out)
          clear hlit hbl
          refine hK.out _ _ (by (try dsimp only); all_goals exact True.intro) (fun hHeld => ?_)
          clear hK K
          refine tkR 5 rfl (fun K hK => ?_)
          refine step_append_z (d := 13) rfl (by rfl) _ _ rfl rfl w.heap.size (.slice a k cc) ks (by rfl) KS.out.own _ 1 1 [z] (by rfl) LIT.out (by rw [HKL.out]; omega) KS.out.but.size ?_
          intro a' c' y5 ho hgr
          rw [HKL.out] at ho ⊢
          obtain ⟨hv, hks⟩ := KS.out.grow hyb hg3 hne ho hgr
          have HV := Lib.hid hv
          have KS := Lib.hid hks
          clear hv hks ho hgr
          refine hK.out _ _ (by (try dsimp only); all_goals exact True.intro) (fun hHeld => ?_)
          clear hK K
          refine tkP 6 rfl rfl ?_
          refine tkR 7 rfl (fun K hK => ?_)
          refine step_store_cell (by rfl) 80 _ _ rfl (g + 1) 0 (by rfl) (.slice a' (k + 1) c') (by rfl) (.slice a k cc) (by rw [HV.out.cell 0]; rfl) (HV.out.free 0) (by kernel_rfl) rfl ?_
          refine hK.out _ _ (by (try dsimp only); all_goals exact True.intro) (fun hHeld => ?_)
          clear hK K
          refine wpAnyH_done (by kernel_rfl) ?_ _
          clear hHeld HV
          revert KS
          generalize World.setCell y5 _ _ = y7
          intro KS
          go_wp2_with fail
          go_roundw
          case rel => exact ⟨k + 1, a', c', ks ++ [z], st', by omega, by go_num, NX.out, KS.out⟩
          case measure => simp [intOf]; omega
        refine AllReadyH.cons rfl (fun K hK => ?_) ?_
        · refine step_one_gen (d := 12) (y := z) rfl (by rfl) rfl (by rfl) ?_
          intro p y4b hlit hbl
          have KS := Lib.hid (KS.out.more hbl)
          have LIT := Lib.hid (numbers_one hlit HFZ.out)
          clear hlit hbl
          refine hK.out _ _ (by (try dsimp only); all_goals exact True.intro) (fun hHeld => ?_)
          clear hK K
          refine tkR 1 rfl (fun K hK => ?_)
          refine step_cell (d := 9) rfl (by rfl) 80 _ rfl (g + 1) 0 rfl (.slice a k cc) (by rw [KS.out.var.cell 0]; rfl) (Tryz.isAgg80 _) ?_
          refine hK.out _ _ (by (try dsimp only); all_goals exact True.intro) (fun hHeld => ?_)
          clear hK K
          refine tkR 5 rfl (fun K hK => ?_)
          refine step_append_z (d := 13) rfl (by rfl) _ _ rfl rfl w.heap.size (.slice a k cc) ks (by rfl) KS.out.own _ 1 1 [z] (by rfl) LIT.out (by rw [HKL.out]; omega) KS.out.but.size ?_
          intro a' c' y5 ho hgr
          rw [HKL.out] at ho ⊢
          obtain ⟨hv, hks⟩ := KS.out.grow hyb hg3 hne ho hgr
          have HV := Lib.hid hv
          have KS := Lib.hid hks
          clear hv hks ho hgr
          refine hK.out _ _ (by (try dsimp only); all_goals exact True.intro) (fun hHeld => ?_)
          clear hK K
          refine tkP 6 rfl rfl ?_
          refine tkR 7 rfl (fun K hK => ?_)
          refine step_store_cell (by rfl) 80 _ _ rfl (g + 1) 0 (by rfl) (.slice a' (k + 1) c') (by rfl) (.slice a k cc) (by rw [HV.out.cell 0]; rfl) (HV.out.free 0) (by kernel_rfl) rfl ?_
          refine hK.out _ _ (by (try dsimp only); all_goals exact True.intro) (fun hHeld => ?_)
          clear hK K
          refine wpAnyH_done (by kernel_rfl) ?_ _
          clear hHeld HV
          revert KS
          generalize World.setCell y5 _ _ = y7
          intro KS
          go_wp2_with fail
          go_roundw
          case rel => exact ⟨k + 1, a', c', ks ++ [z], st', by omega, by go_num, NX.out, KS.out⟩
          case measure => simp [intOf]; omega
        exact AllReadyH.nil
      exact AllReadyH.nil
    · obtain rfl : k = N := by omega
      have f1 : ¬ ((k : Int) < (k : Int)) := by omega
      obtain ⟨rfl, rfl⟩ : ks = ks0 ∧ st = s2 := by
        have h9 := HKS.out.symm.trans HE2.out
        cases h9
        exact ⟨rfl, rfl⟩
      have SZ := Lib.hid (size_of HLEN.out)
      go_wp2_with fail
      refine (HS2.out _ KS.out.eye).mono ?_
      rintro e y6 ⟨rfl, he, hb⟩
      have KS := Lib.hid (KS.out.read (s' := s3) hyb hg2 hg3 he hb)
      have TH : Hid (y6.there (g + 1) 1 (cellsOf hs).toArray.size) := Lib.hid (KS.out.var.there zero32_len (by rw [List.size_toArray, cellsOf_len, HLEN.out]; omega))
      clear he hb HS2
      go_upto_region 7 with (refine wpList_store_mid rfl 23 _ _ rfl (g + 1) 1 (cellsOf hs).toArray rfl rfl TH.out SZ.out (all_oneCell_toArray (cellsOf_one hs)) ?_)
      have KS := Lib.hid (KS.out.set hyb hg3 hne (but_setCells (cellsOf hs) 1 y6) (KS.out.var.sum zero32_len HLEN.out) rfl rfl rfl rfl)
      try simp only [List.toList_toArray]
      revert KS
      generalize World.setCells y6 _ _ _ = y7
      intro KS
      clear TH
      try simp only [Act.put]
      go_wp2_with fail
      refine (HU4.out _ KS.out.eye).mono ?_
      rintro e y8 ⟨rfl, he, hb⟩
      have KS := Lib.hid (KS.out.read (s' := s4) hyb hg2 hg3 he hb)
      have c33 : y8.cell? ⟨g + 1, 33, none⟩ = some (.int .i64 0) := by have h9 := way_after HLEN.out KS.out.var.range; rw [Nat.zero_add] at h9; exact h9
      have v33 := KS.out.var.free 33
      clear he hb HU4
      go_upto_region 8 with (fail)
      have KS := Lib.hid (KS.out.set hyb hg3 hne ((But.refl _ (g + 1) _).setCell ⟨g + 1, 33, none⟩ (.inl rfl) (.int .i64 z4)) (KS.out.var.setAfter HLEN.out) rfl rfl rfl rfl)
      clear c33 v33
      revert KS
      generalize World.setCell y8 _ _ = y9
      intro KS
      go_wp2_with fail
      refine (HU5.out _ KS.out.eye).mono ?_
      rintro e y10 ⟨rfl, he, hb⟩
      have KS := Lib.hid (KS.out.read (s' := s5) hyb hg2 hg3 he hb)
      have c34 : y10.cell? ⟨g + 1, 34, none⟩ = some (.int .i64 0) := by have h9 := way_wait HLEN.out KS.out.var.range; rw [Nat.zero_add] at h9; exact h9
      have v34 := KS.out.var.free 34
      clear he hb HU5
      go_upto_region 9 with (fail)
      have KS := Lib.hid (KS.out.set hyb hg3 hne ((But.refl _ (g + 1) _).setCell ⟨g + 1, 34, none⟩ (.inl rfl) (.int .i64 z5)) (KS.out.var.setWait HLEN.out) rfl rfl rfl rfl)
      clear c34 v34
      revert KS
      generalize World.setCell y10 _ _ = y11
      obtain ⟨x, hx⟩ : ∃ x : PWay, x = ⟨a, k, cc, ks, hs, z4, z5⟩ := ⟨_, rfl⟩
      dsimp only
      rw [← hx]
      intro KS
      have hxl : x.h.length = 32 := by rw [hx]; exact HLEN.out
      have hxa : Fits x.after := by rw [hx]; exact F4.out
      have hxw : Fits x.wait := by rw [hx]; exact F5.out
      have hst : x.strip = (wayR s).1 := by rw [HER.out, hx]; rfl
      have HEY : Hid ((wayR s).2 = s5) := Lib.hid (by rw [HER.out])
      have RX := Lib.hid KS.out.var.range
      have SX := Lib.hid (way_size hxl)
      have AX := Lib.hid (way_sizeA hxl)
      have ZX := Lib.hid (way_zero hxl)
      have HXL := Lib.hid hxl
      have HXA := Lib.hid hxa
      have HXW := Lib.hid hxw
      have HST := Lib.hid hst
      clear hx hxl hxa hxw hst HER HE2 HKS
      go_wp2_with (first | (refine wpList_load_mid rfl 82 _ rfl (g + 1) 0 rfl x.cells _ RX.out Tryz.underlying82 rfl SX.out ?_) | (refine wpList_store_row rfl 82 _ _ rfl g x.cells.toArray rfl rfl 82 noWay.cells.toArray KS.out.res AX.out ZX.out (all_oneCell_toArray x.cells_one) ?_) | fail)
      have hfin := KS.out.way hyb hg2 (but_setRow y11 g x.cells.toArray) HXL.out HXA.out HXW.out
      refine bodyPost_ret (results_cell_row rfl _ _ g 82 x.cells.toArray (0, 0) _ rfl (setRow_heap y11 g _ _ 82 _ KS.out.res) Tryz.underlying82 rfl AX.out) rfl ?_
      obtain ⟨q1, q2, q3, q4, q5⟩ := hfin
      exact ⟨x, rfl, q1, q2, q3, HST.out, by rw [HEY.out]; exact q4, q5⟩
end Go.Proofs.YtcmdpmialehjgaaGreatDoor
namespace Go.Proofs.YtcmdpmialehjgaaGreatDoor
open Go.RowKit

def cellsW (xs : List PWay) : List Value := xs.flatMap PWay.cells
theorem cellsW_append (l m : List PWay) : cellsW (l ++ m) = cellsW l ++ cellsW m := by simp [cellsW]
theorem cellsW_single (x : PWay) : cellsW [x] = x.cells := by simp [cellsW]
theorem cellsW_get : ∀ {xs : List PWay}, (∀ x ∈ xs, x.h.length = 32) → ∀ {j i : Nat}, j < xs.length → i < 35 → (cellsW xs)[j * 35 + i]? = (xs.getD j noWay).cells[i]?
  | [], _, _, _, hj, _ => by simp at hj
  | x :: xs, h, 0, i, _, hi => by
    have hs := PWay.cells_len (h x (by simp))
    show (x.cells ++ cellsW xs)[0 * 35 + i]? = x.cells[i]?
    rw [Nat.zero_mul, Nat.zero_add, List.getElem?_append_left (by rw [hs]; exact hi)]
  | x :: xs, h, j + 1, i, hj, hi => by
    have ih := cellsW_get (xs := xs) (fun y hy => h y (by simp [hy])) (j := j) (i := i) (by simpa using hj) hi
    have hs := PWay.cells_len (h x (by simp))
    show (x.cells ++ cellsW xs)[(j + 1) * 35 + i]? = (xs.getD j noWay).cells[i]?
    rw [List.getElem?_append_right (by rw [hs]; omega), hs, ← ih]
    congr 1
    omega
/-- A slice of ways of the call's own. -/
def OwnW (w : World) (B : Nat) (v : Value) (xs : List PWay) : Prop := w.ownsRow B 82 35 v xs.length (cellsW xs) ∧ ∀ x ∈ xs, x.h.length = 32
theorem OwnW.shape {w : World} {B : Nat} {v : Value} {xs : List PWay} (h : OwnW w B v xs) : ∃ a c, v = .slice a xs.length c ∧ (∀ x, a = some x → B ≤ x.block) := by
  rcases h.1.2 with ⟨rfl, h0⟩ | ⟨g, cap, cur, rfl, hB, _⟩
  · exact ⟨none, 0, by rw [h0], fun x e => by cases e⟩
  · exact ⟨_, _, rfl, fun x e => by cases e; exact hB⟩
theorem OwnW.ways {w : World} {B : Nat} {a : Option Addr} {n c : Nat} {xs : List PWay} (h : OwnW w B (.slice a n c) xs) (hx : ∀ x ∈ xs, WayIn w x) : Ways w a n c xs := by
  rcases h.1.2 with ⟨hv, h0⟩ | ⟨g, cap, cur, hv, hB, hh, h1, h2, h3, h4⟩
  · cases hv
    obtain rfl : xs = [] := List.eq_nil_of_length_eq_zero h0
    exact Ways.nil w
  · cases hv
    refine ⟨rfl, h1, h2, (fun e => by cases e), hx, fun _ => ⟨g, 0, rfl, lt_of_block hh, fun j hj i v hv => ?_⟩⟩
    have hi : i < 35 := by
      have h5 := (List.getElem?_eq_some_iff.1 hv).1
      have h6 : (xs.getD j noWay).h.length = 32 := by
        rw [List.getD_eq_getElem?_getD, List.getElem?_eq_getElem hj]
        exact h.2 _ (List.getElem_mem hj)
      rw [PWay.cells_len h6] at h5
      exact h5
    rw [Nat.zero_add, cell_of_row w g _ _ _ _ hh, ← hv, ← cellsW_get h.2 hj hi, ← h4, List.getElem?_take, if_pos (by omega)]
    simp
theorem OwnW.lt {w : World} {B : Nat} {v : Value} {xs : List PWay} (h : OwnW w B v xs) : ∀ k, v.ownBlock = some k → B ≤ k ∧ k < w.heap.size := fun k e => World.ownsRow.lt h.1 k e
theorem OwnW.nil (w : World) (B : Nat) : OwnW w B (.slice none 0 0) [] := ⟨World.ownsRow_nil w B _ _, fun _ h => by cases h⟩
theorem OwnW.but {w w' : World} {B p : Nat} {v : Value} {xs : List PWay} (h : OwnW w B v xs) (hb : But w.heap.size p w w') (hp : ∀ cs fr, w.heap[p]? ≠ some (.cells cs 82 fr)) : OwnW w' B v xs := by
  refine ⟨⟨h.1.1, ?_⟩, h.2⟩
  rcases h.1.2 with h0 | ⟨g, cap, cur, hv, hB, hh, r⟩
  · exact .inl h0
  · have hg : g ≠ p := fun e => by subst e; exact hp _ _ hh
    exact .inr ⟨g, cap, cur, hv, hB, hb.heap hh (lt_of_block hh) hg, r⟩
theorem OwnW.below {w w' : World} {B : Nat} {v : Value} {xs : List PWay} (h : OwnW w B v xs) (hb : Below w.heap.size w w') : OwnW w' B v xs :=
  ⟨World.ownsRow.kept h.1 (row := none) ⟨hb.os, hb.tape, hb.output, hb.size, fun k hk _ => hb.block k hk⟩ (by cases h' : v.ownBlock <;> simp), h.2⟩
theorem OwnW.other {w : World} {B b : Nat} {v : Value} {xs : List PWay} {cs : Array Value} {t : TypeId} {fr : Nat × Nat} (h : OwnW w B v xs) (hb : w.heap[b]? = some (.cells cs t fr)) (ht : t ≠ 82) : v.ownBlock ≠ some b := by
  rcases h.1.2 with ⟨rfl, _⟩ | ⟨g, cap, cur, rfl, _, hh, _⟩
  · intro e; cases e
  · intro e
    simp [Value.ownBlock] at e
    subst e
    rw [hh] at hb
    simp at hb
    exact ht hb.2.1.symm
theorem OwnW.grows {w w' : World} {B : Nat} {v : Value} {xs : List PWay} (h : OwnW w B v xs) (hg : w.grownBy w' v.ownBlock) (hB : B ≤ w.heap.size) : Below B w w' :=
  ⟨hg.os, hg.tape, hg.output, hg.size, fun k hk => hg.block k (by omega) (fun e => by have := (h.lt k e.symm).1; omega)⟩
/-- A literal of one way. -/
theorem fill_way {x : PWay} (h : x.h.length = 32) (init : Array Value) (hi : init.size = 35) : Instr.fill (fun i => some (i * 35, 35)) init #[(0, Value.agg x.cells.toArray)].toList = some x.cells.toArray := by
  have hl := PWay.cells_len h
  obtain ⟨r, h1, h2, h3⟩ := Great.fill_dense (s := 35) (by omega) [Value.agg x.cells.toArray] 0 init (fun v hv => by
    simp at hv
    subst hv
    show x.cells.toArray.size = 35
    rw [List.size_toArray, hl]) (by simp; omega)
  have e : Instr.fill (fun i => some (i * 35, 35)) init #[(0, Value.agg x.cells.toArray)].toList = some r := h1
  rw [e]
  congr 1
  apply Array.ext_getElem?
  intro k
  rw [h3 k]
  by_cases hk : k < 35
  · have e1 : k / 35 = 0 := by omega
    have e2 : k % 35 = k := by omega
    rw [if_pos (by simp; omega)]
    simp [e1, e2, Value.cells]
  · rw [if_neg (by simp; omega), Array.getElem?_eq_none (by omega), Array.getElem?_eq_none (by rw [List.size_toArray, hl]; omega)]
theorem Tryz.zeroWay72 : (Tryz.prog.info? 82).map (fun i => (i.zero, i.size, i.bytes)) = some (some (.agg noWay.cells.toArray), 35, 72) := by kernel_rfl
theorem step_way_gen {ops : Array Oper} {o : Oper} {tmps : Array Value} {ds : List Deferred} {w : World} {K : Act → World → Prop} {Q : Exit → Act → World → Prop} {E : Prop} {d : Nat} {u : Operand} {x : PWay} (hd : o.dst = some d) (hw : Region.wanted o (yielded ops tmps) = true) (ho : o.op = .buildSlice 77 1 #[(0, u)])
    (hu : Act.eval { tmps := tmps, defers := ds } u = .agg x.cells.toArray) (hx : x.h.length = 32)
    (h : ∀ (p : Nat) (w' : World), w'.heap[p]? = some (.cells x.cells.toArray 82 (0, 0)) → Below w.heap.size w w' → K { tmps := tmps.setIfInBounds d (.slice (some ⟨p, 0, none⟩) 1 1), defers := ds } w') :
    if Region.wanted o (yielded ops tmps) = true then Oper.wp Tryz.prog o { tmps := tmps, defers := ds } w K Q else E := by
  rw [if_pos hw]
  obtain ⟨ie, h1, h2, h3, _⟩ := info_parts Tryz.zeroWay72
  have hf := fill_way hx ((Array.range (1 * 35)).map ((Value.cells (.agg noWay.cells.toArray))[· % (Value.cells (.agg noWay.cells.toArray)).size]!)) (by simp)
  have hrun : (Instr.buildSlice 77 1 #[(0, .agg x.cells.toArray)]).run Tryz.prog w = .ok (.slice (some ⟨w.heap.size, 0, none⟩) 1 1) (w.alloc (.cells x.cells.toArray 82)) :=
    run_buildSlice w 77 82 1 _ _ ie _ Tryz.underlying77 h1 h2 (by rw [h3]; omega) (by rw [h3]; omega) (by rw [h3]; exact hf)
  unfold Oper.wp execOp
  simp only [ho, List.map_toArray, List.map_cons, List.map_nil, hu, Sem.run_bind, hrun, Sem.run_pure, Result.andThen_ok]
  show K (Act.put _ o.dst _) _
  rw [hd]
  exact h _ _ (heap_alloc_new _ _) ((Below.refl _ _).alloc (Nat.le_refl _) _)
/-- A way that lies in a block is joined to a slice of the call's own. -/
theorem append_way (w : World) (B : Nat) (v : Value) (xs : List PWay) (h : OwnW w B v xs) (p : Nat) (x : PWay) (hp : w.heap[p]? = some (.cells x.cells.toArray 82 (0, 0))) (hx : x.h.length = 32) (hb : xs.length + 1 ≤ 1000000) (hbase : B ≤ w.heap.size) :
    ∃ a' c' w', (Builtin.append_ #[77, 77] 77 #[v, .slice (some ⟨p, 0, none⟩) 1 1]).run Tryz.prog w = .ok (.slice a' (xs.length + 1) c') w' ∧ OwnW w' B (.slice a' (xs.length + 1) c') (xs ++ [x]) ∧ w.grownBy w' v.ownBlock := by
  obtain ⟨ie, i1, i2, i3, i4⟩ := info_parts Tryz.zeroWay72
  have hl := PWay.cells_len hx
  have hall : ∀ y ∈ xs ++ [x], y.h.length = 32 := fun y hy => by
    rcases List.mem_append.1 hy with hy | hy
    · exact h.2 y hy
    · simp at hy
      subst hy
      exact hx
  obtain ⟨v', w', h1, h2, h3, _⟩ := run_append_own (P := Tryz.prog) w B 77 77 82 ie _ 35 72 Tryz.underlying77 i1 i2 i3 i4 rfl (by decide) v xs.length (cellsW xs) h.1 ⟨p, 0, none⟩ 1 1 x.cells (by omega)
    (fun j u hj => by
      have e1 : (⟨p, 0, none⟩ : Addr).add j = ⟨p, 0 + j, none⟩ := by unfold Addr.add; split <;> simp_all
      rw [e1, Nat.zero_add, cell_of_row w p _ _ _ _ hp, ← hj]
      simp)
    x.cells_one (by unfold maxLen; omega) (by omega) hbase
  have hO : OwnW w' B v' (xs ++ [x]) := ⟨by rw [List.length_append, cellsW_append, cellsW_single]; exact h2, hall⟩
  obtain ⟨a', c', rfl, _⟩ := hO.shape
  have e : (xs ++ [x]).length = xs.length + 1 := by simp
  rw [e] at h1 hO
  exact ⟨a', c', w', h1, hO, h3⟩
theorem step_append_w {ops : Array Oper} {o : Oper} {tmps : Array Value} {ds : List Deferred} {w : World} {K : Act → World → Prop} {Q : Exit → Act → World → Prop} {E : Prop} {d : Nat} (hd : o.dst = some d) (hw : Region.wanted o (yielded ops tmps) = true) (u y : Operand)
    (ho : o.op = .call { callee := .builtin .append, args := #[u, y], argTypes := #[77, 77] }) (hty : o.type = 77) (B : Nat) (v : Value) (xs : List PWay) (hu : (Act.eval { tmps := tmps, defers := ds } u) = v) (h : OwnW w B v xs) (p : Nat) (x : PWay) (hy : (Act.eval { tmps := tmps, defers := ds } y) = .slice (some ⟨p, 0, none⟩) 1 1) (hp : w.heap[p]? = some (.cells x.cells.toArray 82 (0, 0))) (hx : x.h.length = 32) (hb : xs.length + 1 ≤ 1000000) (hbase : B ≤ w.heap.size)
    (hk : ∀ a' c' w', OwnW w' B (.slice a' (xs.length + 1) c') (xs ++ [x]) → w.grownBy w' v.ownBlock → K { tmps := tmps.setIfInBounds d (.slice a' (xs.length + 1) c'), defers := ds } w') :
    if Region.wanted o (yielded ops tmps) = true then Oper.wp Tryz.prog o { tmps := tmps, defers := ds } w K Q else E := by
  rw [if_pos hw]
  obtain ⟨a', c', w', h1, h2, h3⟩ := append_way w B v xs h p x hp hx hb hbase
  unfold Oper.wp execOp
  simp only [ho, hty, resolve, invoke, builtin, Sem.run_bind, Sem.run_pure, Result.andThen_ok, List.map_toArray, List.map_cons, List.map_nil, hu, hy, h1]
  show K (Act.put _ o.dst _) _
  rw [hd]
  exact hk a' c' w' h2 h3
/-- Ways that stay where other blocks are written: their keys lie in blocks of numbers. -/
theorem way_but {w w' : World} {p : Nat} {x : PWay} (h : WayIn w x) (ht : KeyTag w x) (hb : But w.heap.size p w w') (hp : ∀ cs fr, w.heap[p]? ≠ some (.cells cs 3 fr)) : WayIn w' x ∧ KeyTag w' x := by
  have key : 0 < x.n → ∃ b off cs fr, x.a = some ⟨b, off, none⟩ ∧ w.heap[b]? = some (.cells cs 3 fr) ∧ b < w.heap.size ∧ b ≠ p := fun h0 => by
    obtain ⟨b, off, cs, fr, e, hh⟩ := ht h0
    exact ⟨b, off, cs, fr, e, hh, lt_of_block hh, fun e => by subst e; exact hp _ _ hh⟩
  refine ⟨⟨h.keys.butO (B := w.heap.size) (pb := p) (fun h0 ad e => ?_) hb, h.sum, h.after, h.wait⟩, fun h0 => ?_⟩
  · obtain ⟨b, off, cs, fr, e2, hh, hlt, hne⟩ := key h0
    rw [e] at e2
    cases e2
    exact ⟨hlt, hne⟩
  · obtain ⟨b, off, cs, fr, e2, hh, hlt, hne⟩ := key h0
    exact ⟨b, off, cs, fr, e2, hb.heap hh hlt hne⟩
theorem way_below {w w' : World} {x : PWay} (h : WayIn w x) (ht : KeyTag w x) (hb : Below w.heap.size w w') : WayIn w' x ∧ KeyTag w' x := ⟨h.below hb, fun h0 => by
  obtain ⟨b, off, cs, fr, e, hh⟩ := ht h0
  exact ⟨b, off, cs, fr, e, (hb.block _ (lt_of_block hh)).trans hh⟩⟩
/-- How all stands while an out is read: g3 is the variable, g2 the result. -/
structure OutSt (w0 : World) (yb g2 g3 : Nat) (m : Int) (a : Option Addr) (n c : Nat) (xs : List PWay) (s : List UInt8 × Int) (w : World) : Prop where
  own : OwnW w w0.heap.size (.slice a n c) xs
  keys : ∀ x ∈ xs, (WayIn w x ∧ KeyTag w x) ∧ NewB w0.heap.size x.a
  res : w.heap[g2]? = some (.cells #[.int .i64 0, .slice none 0 0] 79 (0, 0))
  var : w.heap[g3]? = some (.cells #[.int .i64 m, .slice a n c] 79 (0, 0))
  eye : EyeAt w yb s.1 s.2
  but : But w0.heap.size yb w0 w
theorem EyeAt.block {w : World} {yb : Nat} {l : List UInt8} {e : Int} (h : EyeAt w yb l e) : ∃ cs, w.heap[yb]? = some (.cells cs 95 (0, 0)) := by
  obtain ⟨a, n, c, h1, _⟩ := h
  exact ⟨_, h1⟩
theorem OutSt.read {w0 w w' : World} {yb g2 g3 n c : Nat} {m : Int} {a : Option Addr} {xs : List PWay} {s s' : List UInt8 × Int} (h : OutSt w0 yb g2 g3 m a n c xs s w) (hy : yb < w0.heap.size) (h2 : w0.heap.size ≤ g2) (h3 : w0.heap.size ≤ g3) (he : EyeAt w' yb s'.1 s'.2) (hb : But w.heap.size yb w w') : OutSt w0 yb g2 g3 m a n c xs s' w' := by
  obtain ⟨cs, hcs⟩ := h.eye.block
  refine ⟨h.own.but hb (fun _ _ e => by rw [hcs] at e; simp at e), fun x hx => ⟨way_but (h.keys x hx).1.1 (h.keys x hx).1.2 hb (fun _ _ e => by rw [hcs] at e; simp at e), (h.keys x hx).2⟩, hb.heap h.res (lt_of_block h.res) (by omega), hb.heap h.var (lt_of_block h.var) (by omega), he, h.but.trans (hb.mono h.but.size)⟩
theorem OutSt.more {w0 w w' : World} {yb g2 g3 n c : Nat} {m : Int} {a : Option Addr} {xs : List PWay} {s : List UInt8 × Int} (h : OutSt w0 yb g2 g3 m a n c xs s w) (hb : Below w.heap.size w w') : OutSt w0 yb g2 g3 m a n c xs s w' :=
  ⟨h.own.below hb, fun x hx => ⟨way_below (h.keys x hx).1.1 (h.keys x hx).1.2 hb, (h.keys x hx).2⟩, (hb.block _ (lt_of_block h.res)).trans h.res, (hb.block _ (lt_of_block h.var)).trans h.var, h.eye.below hb, h.but.trans (But.of (hb.mono h.but.size))⟩
/-- A way more, and the variable's slice stored. -/
theorem OutSt.grow {w0 w w' : World} {yb g2 g3 n c n' c' : Nat} {m : Int} {a a' : Option Addr} {xs : List PWay} {x : PWay} {s : List UInt8 × Int} (h : OutSt w0 yb g2 g3 m a n c xs s w) (hy : yb < w0.heap.size) (h3 : w0.heap.size ≤ g3) (hne : g2 ≠ g3) (hx : WayIn w x) (hxt : KeyTag w x) (hxn : NewB w0.heap.size x.a)
    (ho : OwnW w' w0.heap.size (.slice a' n' c') (xs ++ [x])) (hg : w.grownBy w' (Value.slice a n c).ownBlock) : w'.heap[g3]? = some (.cells #[.int .i64 m, .slice a n c] 79 (0, 0)) ∧ OutSt w0 yb g2 g3 m a' n' c' (xs ++ [x]) s (w'.setCell ⟨g3, 1, none⟩ (.slice a' n' c')) := by
  have r1 : w'.heap[g2]? = some (.cells #[.int .i64 0, .slice none 0 0] 79 (0, 0)) := (hg.block g2 (lt_of_block h.res) (h.own.other h.res (by decide)).symm).trans h.res
  have r2 : w'.heap[g3]? = some (.cells #[.int .i64 m, .slice a n c] 79 (0, 0)) := (hg.block g3 (lt_of_block h.var) (h.own.other h.var (by decide)).symm).trans h.var
  -- the grown block
  have step : EyeAt w' yb s.1 s.2 ∧ ∀ y, WayIn w y → KeyTag w y → WayIn w' y ∧ KeyTag w' y := by
    rcases h.own.1.2 with ⟨hv, _⟩ | ⟨g, cap, cur, hv, hB, hh, _⟩
    · have hb : Below w.heap.size w w' := ⟨hg.os, hg.tape, hg.output, hg.size, fun k hk => hg.block k hk (fun e => by rw [hv] at e; cases e)⟩
      exact ⟨h.eye.below hb, fun y h1 h2 => way_below h1 h2 hb⟩
    · have hb : But w.heap.size g w w' := ⟨hg.os, hg.tape, hg.output, hg.size, fun k hk hne => hg.block k hk (fun e => hne (by rw [hv] at e; cases e; rfl))⟩
      exact ⟨h.eye.typed hb hh (by decide) (by omega), fun y h1 h2 => way_but h1 h2 hb (fun _ _ e => by rw [hh] at e; simp at e)⟩
  have r4 : But w0.heap.size yb w0 w' := h.but.trans (But.of (h.own.grows hg h.but.size))
  have hs : But w'.heap.size g3 w' (w'.setCell ⟨g3, 1, none⟩ (.slice a' n' c')) := (But.refl _ g3 _).setCell _ (.inl rfl) _
  refine ⟨r2, ho.but hs (fun _ _ e => by rw [r2] at e; simp at e), fun y hy' => ?_, hs.heap r1 (lt_of_block r1) hne, two_set1 r2, step.1.typed hs r2 (by decide) (by omega), r4.trans ⟨hs.os, hs.tape, hs.output, hs.size, fun k hk hkp => hs.block k (Nat.lt_of_lt_of_le hk r4.size) (by omega)⟩⟩
  have hh : (WayIn w y ∧ KeyTag w y) ∧ NewB w0.heap.size y.a := by
    rcases List.mem_append.1 hy' with h9 | h9
    · exact h.keys y h9
    · simp at h9
      subst h9
      exact ⟨⟨hx, hxt⟩, hxn⟩
  obtain ⟨q1, q2⟩ := step.2 y hh.1.1 hh.1.2
  exact ⟨way_but q1 q2 hs (fun _ _ e => by rw [r2] at e; simp at e), hh.2⟩
end Go.Proofs.YtcmdpmialehjgaaGreatDoor
namespace Go.Proofs.YtcmdpmialehjgaaGreatDoor
open Go.RowKit

theorem NewB.base {B B' : Nat} {a : Option Addr} (h : NewB B a) (hB : B' ≤ B) : NewB B' a := fun ad e => Nat.le_trans hB (h ad e)
/-- Where ways lie: in a block of ways. -/
def WayTag (w : World) (a : Option Addr) (n : Nat) : Prop := 0 < n → ∃ b off cs fr, a = some ⟨b, off, none⟩ ∧ w.heap[b]? = some (.cells cs 82 fr)
theorem OwnW.tag {w : World} {B n c : Nat} {a : Option Addr} {xs : List PWay} (h : OwnW w B (.slice a n c) xs) : WayTag w a n := by
  rcases h.1.2 with ⟨hv, h1⟩ | ⟨g, cap, cur, hv, hB, hh, r⟩
  · cases hv
    exact fun h0 => absurd h0 (by omega)
  · cases hv
    exact fun _ => ⟨g, 0, _, _, rfl, hh⟩
/-- The same, with where the ways lie. -/
def GotOutT (w0 : World) (yb : Nat) (s : List UInt8 × Int) (r : Ending) (w : World) : Prop :=
  ∃ (a : Option Addr) (n c : Nat) (xs : List PWay), r = .returned (.agg #[.int .i64 (outR s).1.1, .slice a n c]) ∧ Ways w a n c xs ∧ (∀ x ∈ xs, KeyTag w x ∧ NewB w0.heap.size x.a) ∧ NewB w0.heap.size a ∧ xs.map PWay.strip = (outR s).1.2 ∧ EyeAt w yb (outR s).2.1 (outR s).2.2 ∧ But w0.heap.size yb w0 w ∧ WayTag w a n
theorem OutSt.out {w0 w w' : World} {yb g2 g3 n c : Nat} {m : Int} {a : Option Addr} {xs : List PWay} {s : List UInt8 × Int} (h : OutSt w0 yb g2 g3 m a n c xs s w) (hy : yb < w0.heap.size) (h2 : w0.heap.size ≤ g2) (hs : But w.heap.size g2 w w') :
    Ways w' a n c xs ∧ (∀ x ∈ xs, KeyTag w' x ∧ NewB w0.heap.size x.a) ∧ NewB w0.heap.size a ∧ EyeAt w' yb s.1 s.2 ∧ But w0.heap.size yb w0 w' ∧ WayTag w' a n := by
  have hw : ∀ x ∈ xs, WayIn w' x ∧ KeyTag w' x := fun x hx => way_but (h.keys x hx).1.1 (h.keys x hx).1.2 hs (fun _ _ e => by rw [h.res] at e; simp at e)
  have ho : OwnW w' w0.heap.size (.slice a n c) xs := h.own.but hs (fun _ _ e => by rw [h.res] at e; simp at e)
  refine ⟨ho.ways (fun x hx => (hw x hx).1), fun x hx => ⟨(hw x hx).2, (h.keys x hx).2⟩, fun ad e => ?_, h.eye.typed hs h.res (by decide) (by omega), h.but.trans ⟨hs.os, hs.tape, hs.output, hs.size, fun k hk hkp => hs.block k (Nat.lt_of_lt_of_le hk h.but.size) (by omega)⟩, ho.tag⟩
  obtain ⟨_, _, e2, h9⟩ := ho.shape
  cases e2
  exact h9 _ e
theorem two_one (u v : Value) (hu : u.oneCell' = true) (hv : v.oneCell' = true) : (#[u, v] : Array Value).all (·.oneCell') = true :=
  all_oneCell_toArray (cs := [u, v]) (fun x hx => by simp at hx; rcases hx with rfl | rfl <;> assumption)
theorem size_out : (Tryz.prog.info? 79).map (·.size) = some 2 := by kernel_rfl
set_option linter.unusedSimpArgs false in
set_option maxRecDepth 100000 in
set_option maxHeartbeats 12800000 in
theorem lockGet_tag {w : World} {yb : Nat} {s : List UInt8 × Int} (h : EyeAt w yb s.1 s.2) (hm : s.1.length ≤ 140737488355328) :
    Calls Tryz.prog 70 #[.pointer (some ⟨yb, 0, none⟩)] w (GotOutT w yb s) := by
  have hyb := h.lt
  obtain ⟨s1, s2, s3, s4, m, n, qs, e1, e2, e3, e4, eR⟩ := outR_parts s
  have r1 := upR_range s (m := 1125899906842624) (by omega)
  have r2 := upR_range s1 (m := 16) (by omega)
  rw [e1] at r1
  rw [e2] at r2
  dsimp only at r1 r2
  obtain ⟨N, rfl⟩ : ∃ N : Nat, n = N := ⟨n.toNat, by omega⟩
  rw [Int.toNat_natCast] at e3
  have l2 : s2.1.length ≤ 140737488355328 := by
    have h1 := upR_le s 1125899906842624
    have h2 := upR_le s1 16
    rw [e1] at h1
    rw [e2] at h2
    exact Nat.le_trans h2 (Nat.le_trans h1 hm)
  have HU1 := Lib.hid (fun (W : World) (hW : EyeAt W yb s.1 s.2) => by have h9 := upto_st 1125899906842624 hW; rw [e1] at h9; exact h9)
  have HU2 := Lib.hid (fun (W : World) (hW : EyeAt W yb s1.1 s1.2) => by have h9 := upto_st 16 hW; rw [e2] at h9; exact h9)
  have HE3 := Lib.hid e3
  have HE4 := Lib.hid e4
  have HER := Lib.hid eR
  have H := Lib.hid h
  have HL2 := Lib.hid l2
  have hN : N ≤ 16 := by omega
  have hN63 : (N : Int) ≤ 16 := by omega
  have FM : Hid (Fits m) := Lib.hid ⟨by omega, by omega⟩
  clear e1 e2 e3 e4 eR h hm l2 r1 r2
  go_enter Tryz.func70, Tryz.ntmps70
  go_upto_region 1 with (fail)
  have b1 : Below w.heap.size w (w.alloc (.cells #[.int .i64 0, .slice none 0 0] 79)) := (Below.refl _ _).alloc (Nat.le_refl _) _
  have h1 := heap_alloc_new w (.cells #[.int .i64 0, .slice none 0 0] 79)
  have hsz : (w.alloc (.cells #[.int .i64 0, .slice none 0 0] 79)).heap.size = w.heap.size + 1 := by simp
  revert b1 h1 hsz
  generalize (w.alloc (.cells #[.int .i64 0, .slice none 0 0] 79)) = w1
  intro b1 h1 hsz
  have HB1 := Lib.hid b1
  have H1 := Lib.hid h1
  have HY1 := Lib.hid (H.out.below b1)
  have HSZ := Lib.hid hsz
  clear b1 h1 H hsz
  obtain ⟨g, hg⟩ : ∃ g, g = w.heap.size := ⟨_, rfl⟩
  rw [← hg] at H1 HSZ ⊢
  have HG := Lib.hid hg
  clear hg
  go_wp2_with fail
  refine (HU1.out _ HY1.out).mono ?_
  rintro e w2 ⟨rfl, he2, hb2⟩
  have HB2 := Lib.hid hb2
  have HE2 := Lib.hid he2
  clear he2 hb2 HU1
  go_upto_region 2 with (fail)
  have b3 : Below w2.heap.size w2 (w2.alloc (.cells #[.int .i64 m, .slice none 0 0] 79)) := (Below.refl _ _).alloc (Nat.le_refl _) _
  have h3 := heap_alloc_new w2 (.cells #[.int .i64 m, .slice none 0 0] 79)
  revert b3 h3
  generalize (w2.alloc (.cells #[.int .i64 m, .slice none 0 0] 79)) = w3
  obtain ⟨q, hq⟩ : ∃ q, q = w2.heap.size := ⟨_, rfl⟩
  rw [← hq]
  intro b3 h3
  rw [hq] at b3
  have hg2 : w.heap.size ≤ g := by have := HG.out; omega
  have hsz2 : w1.heap.size ≤ w2.heap.size := HB2.out.size
  have hne : g ≠ q := by have := HG.out; have := HSZ.out; omega
  have hg3 : w.heap.size ≤ q := by have := HG.out; have := HSZ.out; omega
  have OS := Lib.hid (show OutSt w yb g q m none 0 0 [] s1 w3 from by
    have r2 := HB2.out.heap H1.out (lt_of_block H1.out) (by omega)
    refine ⟨OwnW.nil _ _, (fun x hx => by cases hx), (b3.block _ (lt_of_block r2)).trans r2, h3, HE2.out.below b3, ?_⟩
    exact (But.of HB1.out).trans ((HB2.out.mono (by have := HG.out; have := HSZ.out; omega)).trans (But.of (b3.mono (by have := HG.out; have := HSZ.out; omega)))))
  clear b3 h3 hq HB1 HB2 HE2 HY1 H1 HSZ HG hsz2
  go_wp2_with fail
  refine (HU2.out _ OS.out.eye).mono ?_
  rintro e w4 ⟨rfl, he, hb⟩
  have OS := Lib.hid (OS.out.read (s' := s2) hyb hg2 hg3 he hb)
  clear he hb HU2
  go_wp2_with fail
  go_loopw [9] (fun i wr => ∃ (k : Nat) (a : Option Addr) (cc : Nat) (xs : List PWay), k ≤ N ∧ i = .int .i64 k ∧ xs.map PWay.strip = (waysR k s2).1 ∧ OutSt w yb g q m a k cc xs (waysR k s2).2 wr) (fun i _ => N - (intOf i).toNat)
  case atStart => exact ⟨0, none, 0, [], Nat.zero_le _, rfl, rfl, OS.out⟩
  case round =>
    obtain ⟨k, a, cc, xs, hk, rfl, hmap, hOS⟩ := hrel
    have OS := Lib.hid hOS
    have HMAP := Lib.hid hmap
    clear hmap hOS
    by_cases hkn : k < N
    · have f1 : (k : Int) < (N : Int) := by omega
      have f0 : (0 : Int) ≤ (k : Int) := by omega
      have hkl : xs.length = k := by
        have h9 := congrArg List.length HMAP.out
        rw [List.length_map, waysR_len] at h9
        exact h9
      have HKL := Lib.hid hkl
      obtain ⟨st, hst⟩ : ∃ st, (waysR k s2).2 = st := ⟨_, rfl⟩
      rw [hst] at OS
      obtain ⟨y, st', hy⟩ : ∃ y st', wayR st = (y, st') := ⟨_, _, rfl⟩
      have HLE : Hid (st.1.length ≤ 140737488355328) := Lib.hid (by rw [← hst]; exact Nat.le_trans (waysR_le s2 k) HL2.out)
      have NX0 : Hid ((waysR (k + 1) s2).1 = (waysR k s2).1 ++ [y]) := Lib.hid (by rw [waysR, hst, hy])
      have NX1 : Hid ((waysR (k + 1) s2).2 = st') := Lib.hid (by rw [waysR, hst, hy])
      have HW := Lib.hid hy
      clear hkl hst hy
      go_upto_region 4 with (fail)
      refine wp_region_held_drew (S := fun _ => True) (by kernel_rfl) (True.intro) (fun hHeld => ?_)
      refine tkP 0 rfl rfl ?_
      refine tkP 2 rfl rfl ?_
      have OS := Lib.hid (OS.out.more (w' := wr.drew) (below_drew (Below.refl _ _)))
      refine wpAnyH_ready (rs := [1, 3]) (by kernel_rfl) (by simp) ?_
      refine AllReadyH.cons rfl (fun K hK => ?_) ?_
      · refine step_cell (d := 12) rfl (by rfl) 77 _ rfl q 1 rfl (.slice a k cc) (two_cell1 OS.out.var) (Tryz.isAgg77 _) ?_
        refine hK.out _ _ (by (try dsimp only); all_goals exact True.intro) (fun hHeld => ?_)
        clear hK K
        refine tkR 3 rfl (fun K hK => ?_)
        go_simp
        go_wp2_with ((go_at_call 96; (with_reducible refine (getWay_st OS.out.eye HLE.out).mono ?_); rintro e y3a ⟨x, rfl, hxw, hxt, hxn, hxs, he, hb⟩; rw [HW.out] at he hxs; have HXB := Lib.hid (hxn.base OS.out.but.size); have OS := Lib.hid (OS.out.read (s' := st') hyb hg2 hg3 he hb); have HXW := Lib.hid hxw; have HXT := Lib.hid hxt; have HXS := Lib.hid hxs; clear he hb hxw hxt hxn hxs))
        refine hK.out _ _ (by (try dsimp only); all_goals exact True.intro) (fun hHeld => ?_)
        clear hK K
        refine tkR 4 rfl (fun K hK => ?_)
        refine step_way_gen (d := 15) rfl (by rfl) rfl (by rfl) HXW.out.sum ?_
        intro p y4a hlit hbl
        have OS := Lib.hid (OS.out.more hbl)
        have LIT := Lib.hid hlit
        have HXP := Lib.hid (way_below HXW.out HXT.out hbl)
        clear hlit hbl
        refine hK.out _ _ (by (try dsimp only); all_goals exact True.intro) (fun hHeld => ?_)
        clear hK K
        refine tkR 5 rfl (fun K hK => ?_)
        refine step_append_w (d := 16) rfl (by rfl) _ _ rfl rfl w.heap.size (.slice a k cc) xs (by rfl) OS.out.own p x (by rfl) LIT.out HXP.out.1.sum (by rw [HKL.out]; omega) OS.out.but.size ?_
        intro a' c' y5 ho hgr
        rw [HKL.out] at ho ⊢
        obtain ⟨hv, hos⟩ := OS.out.grow hyb hg3 hne HXP.out.1 HXP.out.2 HXB.out ho hgr
        have HV := Lib.hid hv
        have OS := Lib.hid hos
        clear hv hos ho hgr
        refine hK.out _ _ (by (try dsimp only); all_goals exact True.intro) (fun hHeld => ?_)
        clear hK K
        refine tkP 6 rfl rfl ?_
        refine tkR 7 rfl (fun K hK => ?_)
        refine step_store_cell (by rfl) 77 _ _ rfl q 1 (by rfl) (.slice a' (k + 1) c') (by rfl) (.slice a k cc) (two_cell1 HV.out) (two_free1 HV.out) (by kernel_rfl) rfl ?_
        refine hK.out _ _ (by (try dsimp only); all_goals exact True.intro) (fun hHeld => ?_)
        clear hK K
        refine wpAnyH_done (by kernel_rfl) ?_ _
        clear hHeld HV
        revert OS
        generalize World.setCell y5 _ _ = y7
        intro OS
        have NX : Hid ((xs ++ [x]).map PWay.strip = (waysR (k + 1) s2).1) := Lib.hid (by rw [NX0.out, List.map_append, HMAP.out, List.map_singleton, HXS.out])
        go_wp2_with fail
        go_roundw
        case rel => exact ⟨k + 1, a', c', xs ++ [x], by omega, by go_num, NX.out, by rw [NX1.out]; exact OS.out⟩
        case measure => simp [intOf]; omega
      refine AllReadyH.cons rfl (fun K hK => ?_) ?_
      · go_simp
        go_wp2_with ((go_at_call 96; (with_reducible refine (getWay_st OS.out.eye HLE.out).mono ?_); rintro e y3b ⟨x, rfl, hxw, hxt, hxn, hxs, he, hb⟩; rw [HW.out] at he hxs; have HXB := Lib.hid (hxn.base OS.out.but.size); have OS := Lib.hid (OS.out.read (s' := st') hyb hg2 hg3 he hb); have HXW := Lib.hid hxw; have HXT := Lib.hid hxt; have HXS := Lib.hid hxs; clear he hb hxw hxt hxn hxs))
        refine hK.out _ _ (by (try dsimp only); all_goals exact True.intro) (fun hHeld => ?_)
        clear hK K
        refine wpAnyH_ready (rs := [1, 4]) (by kernel_rfl) (by simp) ?_
        refine AllReadyH.cons rfl (fun K hK => ?_) ?_
        · refine step_cell (d := 12) rfl (by rfl) 77 _ rfl q 1 rfl (.slice a k cc) (two_cell1 OS.out.var) (Tryz.isAgg77 _) ?_
          refine hK.out _ _ (by (try dsimp only); all_goals exact True.intro) (fun hHeld => ?_)
          clear hK K
          refine tkR 4 rfl (fun K hK => ?_)
          refine step_way_gen (d := 15) rfl (by rfl) rfl (by rfl) HXW.out.sum ?_
          intro p y4a hlit hbl
          have OS := Lib.hid (OS.out.more hbl)
          have LIT := Lib.hid hlit
          have HXP := Lib.hid (way_below HXW.out HXT.out hbl)
          clear hlit hbl
          refine hK.out _ _ (by (try dsimp only); all_goals exact True.intro) (fun hHeld => ?_)
          clear hK K
          refine tkR 5 rfl (fun K hK => ?_)
          refine step_append_w (d := 16) rfl (by rfl) _ _ rfl rfl w.heap.size (.slice a k cc) xs (by rfl) OS.out.own p x (by rfl) LIT.out HXP.out.1.sum (by rw [HKL.out]; omega) OS.out.but.size ?_
          intro a' c' y5 ho hgr
          rw [HKL.out] at ho ⊢
          obtain ⟨hv, hos⟩ := OS.out.grow hyb hg3 hne HXP.out.1 HXP.out.2 HXB.out ho hgr
          have HV := Lib.hid hv
          have OS := Lib.hid hos
          clear hv hos ho hgr
          refine hK.out _ _ (by (try dsimp only); all_goals exact True.intro) (fun hHeld => ?_)
          clear hK K
          refine tkP 6 rfl rfl ?_
          refine tkR 7 rfl (fun K hK => ?_)
          refine step_store_cell (by rfl) 77 _ _ rfl q 1 (by rfl) (.slice a' (k + 1) c') (by rfl) (.slice a k cc) (two_cell1 HV.out) (two_free1 HV.out) (by kernel_rfl) rfl ?_
          refine hK.out _ _ (by (try dsimp only); all_goals exact True.intro) (fun hHeld => ?_)
          clear hK K
          refine wpAnyH_done (by kernel_rfl) ?_ _
          clear hHeld HV
          revert OS
          generalize World.setCell y5 _ _ = y7
          intro OS
          have NX : Hid ((xs ++ [x]).map PWay.strip = (waysR (k + 1) s2).1) := Lib.hid (by rw [NX0.out, List.map_append, HMAP.out, List.map_singleton, HXS.out])
          go_wp2_with fail
          go_roundw
          case rel => exact ⟨k + 1, a', c', xs ++ [x], by omega, by go_num, NX.out, by rw [NX1.out]; exact OS.out⟩
          case measure => simp [intOf]; omega
        refine AllReadyH.cons rfl (fun K hK => ?_) ?_
        · refine step_way_gen (d := 15) rfl (by rfl) rfl (by rfl) HXW.out.sum ?_
          intro p y4b hlit hbl
          have OS := Lib.hid (OS.out.more hbl)
          have LIT := Lib.hid hlit
          have HXP := Lib.hid (way_below HXW.out HXT.out hbl)
          clear hlit hbl
          refine hK.out _ _ (by (try dsimp only); all_goals exact True.intro) (fun hHeld => ?_)
          clear hK K
          refine tkR 1 rfl (fun K hK => ?_)
          refine step_cell (d := 12) rfl (by rfl) 77 _ rfl q 1 rfl (.slice a k cc) (two_cell1 OS.out.var) (Tryz.isAgg77 _) ?_
          refine hK.out _ _ (by (try dsimp only); all_goals exact True.intro) (fun hHeld => ?_)
          clear hK K
          refine tkR 5 rfl (fun K hK => ?_)
          refine step_append_w (d := 16) rfl (by rfl) _ _ rfl rfl w.heap.size (.slice a k cc) xs (by rfl) OS.out.own p x (by rfl) LIT.out HXP.out.1.sum (by rw [HKL.out]; omega) OS.out.but.size ?_
          intro a' c' y5 ho hgr
          rw [HKL.out] at ho ⊢
          obtain ⟨hv, hos⟩ := OS.out.grow hyb hg3 hne HXP.out.1 HXP.out.2 HXB.out ho hgr
          have HV := Lib.hid hv
          have OS := Lib.hid hos
          clear hv hos ho hgr
          refine hK.out _ _ (by (try dsimp only); all_goals exact True.intro) (fun hHeld => ?_)
          clear hK K
          refine tkP 6 rfl rfl ?_
          refine tkR 7 rfl (fun K hK => ?_)
          refine step_store_cell (by rfl) 77 _ _ rfl q 1 (by rfl) (.slice a' (k + 1) c') (by rfl) (.slice a k cc) (two_cell1 HV.out) (two_free1 HV.out) (by kernel_rfl) rfl ?_
          refine hK.out _ _ (by (try dsimp only); all_goals exact True.intro) (fun hHeld => ?_)
          clear hK K
          refine wpAnyH_done (by kernel_rfl) ?_ _
          clear hHeld HV
          revert OS
          generalize World.setCell y5 _ _ = y7
          intro OS
          have NX : Hid ((xs ++ [x]).map PWay.strip = (waysR (k + 1) s2).1) := Lib.hid (by rw [NX0.out, List.map_append, HMAP.out, List.map_singleton, HXS.out])
          go_wp2_with fail
          go_roundw
          case rel => exact ⟨k + 1, a', c', xs ++ [x], by omega, by go_num, NX.out, by rw [NX1.out]; exact OS.out⟩
          case measure => simp [intOf]; omega
        exact AllReadyH.nil
      exact AllReadyH.nil
    · obtain rfl : k = N := by omega
      have f1 : ¬ ((k : Int) < (k : Int)) := by omega
      rw [HE3.out] at OS HMAP
      have hn63 : (k : Int) ≤ 16 := by omega
      have HWS := Lib.hid (OS.out.own.ways (fun x hx => (OS.out.keys x hx).1.1))
      have hok : outOk m xs = outOk m qs := by
        have h9 : xs.map PWay.strip = qs := HMAP.out
        rw [← h9, outOk_strip]
      have RV := Lib.hid (range_of (cs := [.int .i64 m, .slice a k cc]) OS.out.var)
      have HR := Lib.hid (lockRightOut_any (m := m) HWS.out)
      rw [hok] at HR
      clear hok
      go_wp2_with (first | (refine wpList_load_mid rfl 79 _ rfl q 0 rfl [.int .i64 m, .slice a k cc] _ RV.out Tryz.underlying79 rfl size_out ?_) | fail)
      refine HR.out.mono ?_
      rintro e w5 ⟨rfl, hb5⟩
      have OS := Lib.hid (OS.out.more hb5)
      clear hb5 HR HWS RV
      have HMP : Hid (xs.map PWay.strip = qs) := Lib.hid HMAP.out
      obtain ⟨ok, hok⟩ : ∃ ok, outOk m qs = ok := ⟨_, rfl⟩
      rw [hok] at HE4 ⊢
      clear hok HMAP HE3 HL2
      have HS4 := Lib.hid size_out
      cases ok
      · have h4 : failR s3 4 = s4 := HE4.out.symm
        have HF := Lib.hid (fun (W : World) (hW : EyeAt W yb s3.1 s3.2) => by have h9 := fail_st 4 hW; rw [h4] at h9; exact h9)
        clear h4 HE4
        go_wp2_with fail
        refine (HF.out _ OS.out.eye).mono ?_
        rintro e w6 ⟨rfl, he, hb⟩
        have OS := Lib.hid (OS.out.read (s' := s4) hyb hg2 hg3 he hb)
        clear he hb HF
        go_wp2_with fail
        refine (err_at OS.out.eye).mono ?_
        rintro e y6 ⟨rfl, rfl⟩
        obtain ⟨ec, hec⟩ : ∃ ec, ec = s4.2 := ⟨_, rfl⟩
        rw [← hec]
        by_cases h0 : ec = 0
        · have hb : (ec != 0) = false := by simp [h0]
          have HR : Hid (outR s = ((m, qs), s4)) := Lib.hid (by rw [HER.out, if_pos (by rw [← hec]; exact h0)])
          have RV := Lib.hid (range_of (cs := [.int .i64 m, .slice a k cc]) OS.out.var)
          clear h0 hec HER
          go_wp2_with (first | (refine wpList_load_mid rfl 79 _ rfl q 0 rfl [.int .i64 m, .slice a k cc] _ RV.out Tryz.underlying79 rfl HS4.out ?_) | (refine wpList_store_row rfl 79 _ _ rfl g #[.int .i64 m, .slice a k cc] rfl rfl 79 #[.int .i64 0, .slice none 0 0] OS.out.res HS4.out rfl (two_one _ _ rfl rfl) ?_) | fail)
          refine bodyPost_ret (results_cell_row rfl _ _ g 79 #[.int .i64 m, .slice a k cc] (0, 0) _ rfl (setRow_heap _ g _ _ 79 _ OS.out.res) Tryz.underlying79 rfl HS4.out) rfl ?_
          obtain ⟨q1, q2, q3, q4, q5, q6⟩ := OS.out.out hyb hg2 (but_setRow _ g #[.int .i64 m, .slice a k cc])
          refine ⟨a, k, cc, xs, ?_, q1, q2, q3, ?_, ?_, q5, q6⟩
          · rw [HR.out]
          · rw [HR.out]
            exact HMP.out
          · rw [HR.out]
            exact q4
        · have hb : (ec != 0) = true := by simp [h0]
          have HR : Hid (outR s = ((0, []), s4)) := Lib.hid (by rw [HER.out, if_neg (by rw [← hec]; exact h0)])
          clear h0 hec HER
          go_wp2_with (first | (refine wpList_store_row rfl 79 _ _ rfl g #[.int .i64 0, .slice none 0 0] rfl rfl 79 #[.int .i64 0, .slice none 0 0] OS.out.res HS4.out rfl (two_one _ _ rfl rfl) ?_) | fail)
          refine bodyPost_ret (results_cell_row rfl _ _ g 79 #[.int .i64 0, .slice none 0 0] (0, 0) _ rfl (setRow_heap _ g _ _ 79 _ OS.out.res) Tryz.underlying79 rfl HS4.out) rfl ?_
          obtain ⟨q1, q2, q3, q4, q5, _⟩ := OS.out.out hyb hg2 (but_setRow _ g #[.int .i64 0, .slice none 0 0])
          refine ⟨none, 0, 0, [], ?_, Ways.nil _, (fun x hx => by cases hx), (fun ad e => by cases e), ?_, ?_, q5, (fun h0 => absurd h0 (by omega))⟩
          · rw [HR.out]
          · rw [HR.out]
            rfl
          · rw [HR.out]
            exact q4
      · have h4 : s3 = s4 := HE4.out.symm
        subst h4
        clear HE4
        go_wp2_with fail
        refine (err_at OS.out.eye).mono ?_
        rintro e y6 ⟨rfl, rfl⟩
        obtain ⟨ec, hec⟩ : ∃ ec, ec = s3.2 := ⟨_, rfl⟩
        rw [← hec]
        by_cases h0 : ec = 0
        · have hb : (ec != 0) = false := by simp [h0]
          have HR : Hid (outR s = ((m, qs), s3)) := Lib.hid (by rw [HER.out, if_pos (by rw [← hec]; exact h0)])
          have RV := Lib.hid (range_of (cs := [.int .i64 m, .slice a k cc]) OS.out.var)
          clear h0 hec HER
          go_wp2_with (first | (refine wpList_load_mid rfl 79 _ rfl q 0 rfl [.int .i64 m, .slice a k cc] _ RV.out Tryz.underlying79 rfl HS4.out ?_) | (refine wpList_store_row rfl 79 _ _ rfl g #[.int .i64 m, .slice a k cc] rfl rfl 79 #[.int .i64 0, .slice none 0 0] OS.out.res HS4.out rfl (two_one _ _ rfl rfl) ?_) | fail)
          refine bodyPost_ret (results_cell_row rfl _ _ g 79 #[.int .i64 m, .slice a k cc] (0, 0) _ rfl (setRow_heap _ g _ _ 79 _ OS.out.res) Tryz.underlying79 rfl HS4.out) rfl ?_
          obtain ⟨q1, q2, q3, q4, q5, q6⟩ := OS.out.out hyb hg2 (but_setRow _ g #[.int .i64 m, .slice a k cc])
          refine ⟨a, k, cc, xs, ?_, q1, q2, q3, ?_, ?_, q5, q6⟩
          · rw [HR.out]
          · rw [HR.out]
            exact HMP.out
          · rw [HR.out]
            exact q4
        · have hb : (ec != 0) = true := by simp [h0]
          have HR : Hid (outR s = ((0, []), s3)) := Lib.hid (by rw [HER.out, if_neg (by rw [← hec]; exact h0)])
          clear h0 hec HER
          go_wp2_with (first | (refine wpList_store_row rfl 79 _ _ rfl g #[.int .i64 0, .slice none 0 0] rfl rfl 79 #[.int .i64 0, .slice none 0 0] OS.out.res HS4.out rfl (two_one _ _ rfl rfl) ?_) | fail)
          refine bodyPost_ret (results_cell_row rfl _ _ g 79 #[.int .i64 0, .slice none 0 0] (0, 0) _ rfl (setRow_heap _ g _ _ 79 _ OS.out.res) Tryz.underlying79 rfl HS4.out) rfl ?_
          obtain ⟨q1, q2, q3, q4, q5, _⟩ := OS.out.out hyb hg2 (but_setRow _ g #[.int .i64 0, .slice none 0 0])
          refine ⟨none, 0, 0, [], ?_, Ways.nil _, (fun x hx => by cases hx), (fun ad e => by cases e), ?_, ?_, q5, (fun h0 => absurd h0 (by omega))⟩
          · rw [HR.out]
          · rw [HR.out]
            rfl
          · rw [HR.out]
            exact q4
end Go.Proofs.YtcmdpmialehjgaaGreatDoor
namespace Go.Proofs.YtcmdpmialehjgaaGreatDoor
open Go.RowKit

/-! ### What stays where a block of another type is written -/
theorem row_typed {w w' : World} {p n c : Nat} {a : Option Addr} {l : List UInt8} {cs : Array Value} {t : TypeId} {fr : Nat × Nat} (h : Row w a n c l) (ht : Tag w a n) (hb : But w.heap.size p w w') (hp : w.heap[p]? = some (.cells cs t fr)) (hne : t ≠ 5) : Row w' a n c l ∧ Tag w' a n := by
  have key : 0 < n → ∃ b off cs fr, a = some ⟨b, off, none⟩ ∧ w.heap[b]? = some (.cells cs 5 fr) ∧ b ≠ p := fun h0 => by
    obtain ⟨b, off, cs', fr', e, hh⟩ := ht h0
    exact ⟨b, off, cs', fr', e, hh, fun e => by subst e; rw [hh] at hp; simp at hp; exact hne hp.2.1.symm⟩
  refine ⟨h.but hb (fun h0 b off e => ?_), fun h0 => ?_⟩
  · obtain ⟨b', off', _, _, e2, _, hne2⟩ := key h0
    rw [e] at e2
    cases e2
    exact hne2
  · obtain ⟨b, off, cs', fr', e, hh, hne2⟩ := key h0
    exact ⟨b, off, cs', fr', e, hb.heap hh (lt_of_block hh) hne2⟩
theorem ways_typed {w w' : World} {p n c : Nat} {a : Option Addr} {xs : List PWay} {cs : Array Value} {t : TypeId} {fr : Nat × Nat} (h : Ways w a n c xs) (hk : ∀ x ∈ xs, KeyTag w x) (ht : WayTag w a n) (hb : But w.heap.size p w w') (hp : w.heap[p]? = some (.cells cs t fr)) (h1 : t ≠ 3) (h2 : t ≠ 82) : Ways w' a n c xs ∧ (∀ x ∈ xs, KeyTag w' x) ∧ WayTag w' a n := by
  have hi : ∀ cs fr, w.heap[p]? ≠ some (.cells cs 3 fr) := fun _ _ e => by rw [hp] at e; simp at e; exact h1 e.2.1
  have hw : ∀ x ∈ xs, WayIn w' x ∧ KeyTag w' x := fun x hx => way_but (h.2.2.2.2.1 x hx) (hk x hx) hb hi
  have key : 0 < n → ∃ b off cs fr, a = some ⟨b, off, none⟩ ∧ w.heap[b]? = some (.cells cs 82 fr) ∧ b ≠ p := fun h0 => by
    obtain ⟨b, off, cs', fr', e, hh⟩ := ht h0
    exact ⟨b, off, cs', fr', e, hh, fun e => by subst e; rw [hh] at hp; simp at hp; exact h2 hp.2.1.symm⟩
  obtain ⟨g1, g2, g3, g4, _, g5⟩ := h
  refine ⟨⟨g1, g2, g3, g4, fun x hx => (hw x hx).1, fun h0 => ?_⟩, fun x hx => (hw x hx).2, fun h0 => ?_⟩
  · obtain ⟨b, off, e, hlt, hc⟩ := g5 h0
    obtain ⟨b', off', _, _, e2, _, hne2⟩ := key h0
    rw [e] at e2
    cases e2
    exact ⟨b, off, e, Nat.lt_of_lt_of_le hlt hb.size, fun j hj => rangeAt_but (hc j hj) hlt hne2 hb⟩
  · obtain ⟨b, off, cs', fr', e, hh, hne2⟩ := key h0
    exact ⟨b, off, cs', fr', e, hb.heap hh (lt_of_block hh) hne2⟩
/-- An in, an out, an op, with where their slices lie. -/
def InT (w : World) (y : PIn) : Prop := InIn w y ∧ Tag w y.a y.n
def OutT (w : World) (y : POut) : Prop := OutIn w y ∧ (∀ x ∈ y.ws, KeyTag w x) ∧ WayTag w y.a y.n
def OpT (w : World) (x : POp) : Prop := OpIn w x ∧ Tag w x.a x.n
theorem InT.below {w w' : World} {y : PIn} (h : InT w y) (hb : Below w.heap.size w w') : InT w' y := ⟨⟨h.1.tx, h.1.place, h.1.way, h.1.pre.below hb⟩, h.2.below hb⟩
theorem OpT.below {w w' : World} {y : POp} (h : OpT w y) (hb : Below w.heap.size w w') : OpT w' y := ⟨h.1.below hb, h.2.below hb⟩
theorem OutT.below {w w' : World} {y : POut} (h : OutT w y) (hb : Below w.heap.size w w') : OutT w' y :=
  ⟨⟨h.1.m, h.1.ws.below hb⟩, fun x hx h0 => by
    obtain ⟨b, off, cs, fr, e, hh⟩ := h.2.1 x hx h0
    exact ⟨b, off, cs, fr, e, (hb.block _ (lt_of_block hh)).trans hh⟩, fun h0 => by
    obtain ⟨b, off, cs, fr, e, hh⟩ := h.2.2 h0
    exact ⟨b, off, cs, fr, e, (hb.block _ (lt_of_block hh)).trans hh⟩⟩
theorem InT.typed {w w' : World} {p : Nat} {y : PIn} {cs : Array Value} {t : TypeId} {fr : Nat × Nat} (h : InT w y) (hb : But w.heap.size p w w') (hp : w.heap[p]? = some (.cells cs t fr)) (hne : t ≠ 5) : InT w' y :=
  have h9 := row_typed h.1.pre h.2 hb hp hne
  ⟨⟨h.1.tx, h.1.place, h.1.way, h9.1⟩, h9.2⟩
theorem OpT.typed {w w' : World} {p : Nat} {y : POp} {cs : Array Value} {t : TypeId} {fr : Nat × Nat} (h : OpT w y) (hb : But w.heap.size p w w') (hp : w.heap[p]? = some (.cells cs t fr)) (hne : t ≠ 5) : OpT w' y :=
  have h9 := row_typed h.1.data h.2 hb hp hne
  ⟨⟨h.1.kind, h.1.tower, h.1.channel, h.1.amount, h.1.root, h9.1⟩, h9.2⟩
theorem OutT.typed {w w' : World} {p : Nat} {y : POut} {cs : Array Value} {t : TypeId} {fr : Nat × Nat} (h : OutT w y) (hb : But w.heap.size p w w') (hp : w.heap[p]? = some (.cells cs t fr)) (h1 : t ≠ 3) (h2 : t ≠ 82) : OutT w' y :=
  have h9 := ways_typed h.1.ws h.2.1 h.2.2 hb hp h1 h2
  ⟨⟨h.1.m, h9.1⟩, h9.2⟩

/-! ### A variable that holds a struct -/
def VarC (w : World) (g : Nat) (t : TypeId) (cs : List Value) : Prop := w.heap[g]? = some (.cells cs.toArray t (0, 0))
theorem VarC.lt {w : World} {g : Nat} {t : TypeId} {cs : List Value} (h : VarC w g t cs) : g < w.heap.size := lt_of_block h
theorem VarC.free {w : World} {g : Nat} {t : TypeId} {cs : List Value} (h : VarC w g t cs) (i : Nat) : w.frozen? ⟨g, i, none⟩ = false := by
  unfold VarC at h
  simp [World.frozen?, h]
theorem VarC.cell {w : World} {g : Nat} {t : TypeId} {cs : List Value} (h : VarC w g t cs) (i : Nat) : w.cell? ⟨g, i, none⟩ = cs[i]? := by
  rw [cell_of_row _ _ _ _ _ _ h]
  simp
theorem VarC.there {w : World} {g o n : Nat} {t : TypeId} {cs : List Value} (h : VarC w g t cs) (ho : o + n ≤ cs.length) : w.there g o n := fun j hj => by
  refine ⟨?_, h.free _⟩
  rw [h.cell, List.getElem?_eq_getElem (by omega)]
  rfl
theorem VarC.range {w : World} {g : Nat} {t : TypeId} {cs : List Value} (h : VarC w g t cs) : w.rangeAt g 0 cs := range_of h
theorem VarC.but {w w' : World} {g B p : Nat} {t : TypeId} {cs : List Value} (h : VarC w g t cs) (hb : But B p w w') (hB : g < B) (hne : g ≠ p) : VarC w' g t cs := hb.heap h hB hne
theorem VarC.below {w w' : World} {g : Nat} {t : TypeId} {cs : List Value} (h : VarC w g t cs) (hb : Below w.heap.size w w') : VarC w' g t cs := (hb.block g h.lt).trans h
theorem VarC.put {w : World} {g o : Nat} {t : TypeId} {pre mid post vs : List Value} (h : VarC w g t (pre ++ (mid ++ post))) (hl : vs.length = mid.length) (ho : pre.length = o) : VarC (w.setCells g o vs) g t (pre ++ (vs ++ post)) := by
  have h1 := heap_setCells vs o w _ h
  rw [← ho, setL_mid vs mid pre post hl] at h1
  rw [← ho]
  exact h1
theorem VarC.put1 {w : World} {g o : Nat} {t : TypeId} {pre post : List Value} {u v : Value} (h : VarC w g t (pre ++ (u :: post))) (ho : pre.length = o) : VarC (w.setCell ⟨g, o, none⟩ v) g t (pre ++ (v :: post)) := VarC.put (mid := [u]) (vs := [v]) h rfl ho
/-- How all stands while a part is read: g3 is the variable, g2 the result. -/
structure PartSt (w0 : World) (yb g2 g3 : Nat) (t : TypeId) (z cs : List Value) (s : List UInt8 × Int) (w : World) : Prop where
  res : VarC w g2 t z
  var : VarC w g3 t cs
  eye : EyeAt w yb s.1 s.2
  but : But w0.heap.size yb w0 w
theorem PartSt.read {w0 w w' : World} {yb g2 g3 : Nat} {t : TypeId} {z cs : List Value} {s s' : List UInt8 × Int} (h : PartSt w0 yb g2 g3 t z cs s w) (hy : yb < w0.heap.size) (h2 : w0.heap.size ≤ g2) (h3 : w0.heap.size ≤ g3) (he : EyeAt w' yb s'.1 s'.2) (hb : But w.heap.size yb w w') : PartSt w0 yb g2 g3 t z cs s' w' :=
  ⟨h.res.but hb h.res.lt (by omega), h.var.but hb h.var.lt (by omega), he, h.but.trans (hb.mono h.but.size)⟩
theorem PartSt.set {w0 w w' : World} {yb g2 g3 : Nat} {t : TypeId} {z cs cs' : List Value} {s : List UInt8 × Int} (h : PartSt w0 yb g2 g3 t z cs s w) (ht : t ≠ 5) (hy : yb < w0.heap.size) (h3 : w0.heap.size ≤ g3) (hne : g2 ≠ g3) (hs : But w.heap.size g3 w w') (hv : VarC w' g3 t cs') : PartSt w0 yb g2 g3 t z cs' s w' :=
  ⟨h.res.but hs h.res.lt hne, hv, h.eye.typed hs h.var ht (by omega), h.but.trans ⟨hs.os, hs.tape, hs.output, hs.size, fun k hk hkp => hs.block k (Nat.lt_of_lt_of_le hk h.but.size) (by omega)⟩⟩
/-- The result is stored. -/
theorem PartSt.done {w0 w w' : World} {yb g2 g3 : Nat} {t : TypeId} {z cs : List Value} {s : List UInt8 × Int} (h : PartSt w0 yb g2 g3 t z cs s w) (ht : t ≠ 5) (hy : yb < w0.heap.size) (h2 : w0.heap.size ≤ g2) (hs : But w.heap.size g2 w w') : EyeAt w' yb s.1 s.2 ∧ But w0.heap.size yb w0 w' :=
  ⟨h.eye.typed hs h.res ht (by omega), h.but.trans ⟨hs.os, hs.tape, hs.output, hs.size, fun k hk hkp => hs.block k (Nat.lt_of_lt_of_le hk h.but.size) (by omega)⟩⟩

/-! ### While a transaction is read -/
/-- All but the slices of ins, outs, signs and the variable. -/
structure Core (w0 : World) (yb g2 : Nat) (is : List PIn) (os : List POut) (op : POp) (ss : List PSign) (s : List UInt8 × Int) (w : World) : Prop where
  inT : ∀ y ∈ is, InT w y
  outT : ∀ y ∈ os, OutT w y
  opT : OpT w op
  signT : ∀ y ∈ ss, SignIn y
  res : VarC w g2 56 noTx.cells
  eye : EyeAt w yb s.1 s.2
  but : Below w0.heap.size w0 w
theorem Core.below {w0 w w' : World} {yb g2 : Nat} {is : List PIn} {os : List POut} {op : POp} {ss : List PSign} {s : List UInt8 × Int} (h : Core w0 yb g2 is os op ss s w) (hb : Below w.heap.size w w') : Core w0 yb g2 is os op ss s w' :=
  ⟨fun y hy => (h.inT y hy).below hb, fun y hy => (h.outT y hy).below hb, h.opT.below hb, h.signT, h.res.below hb, h.eye.below hb, h.but.trans (hb.mono h.but.size)⟩
theorem Core.typed {w0 w w' : World} {yb g2 p : Nat} {is : List PIn} {os : List POut} {op : POp} {ss : List PSign} {s : List UInt8 × Int} {cs : Array Value} {t : TypeId} {fr : Nat × Nat} (h : Core w0 yb g2 is os op ss s w) (hb : But w.heap.size p w w') (hp : w.heap[p]? = some (.cells cs t fr)) (h1 : t ≠ 5) (h2 : t ≠ 3) (h3 : t ≠ 82) (h4 : t ≠ 95) (hg : p ≠ g2) (hB : w0.heap.size ≤ p) : Core w0 yb g2 is os op ss s w' := by
  obtain ⟨ce, hce⟩ := h.eye.block
  have hyp : yb ≠ p := fun e => by rw [e, hp] at hce; simp at hce; exact h4 hce.2.1
  exact ⟨fun y hy => (h.inT y hy).typed hb hp h1, fun y hy => (h.outT y hy).typed hb hp h2 h3, h.opT.typed hb hp h1, h.signT, h.res.but hb h.res.lt (Ne.symm hg), h.eye.typed hb hp h1 hyp, h.but.trans ((hb.mono h.but.size).below hB)⟩
theorem Core.read {w0 w w' : World} {yb g2 : Nat} {is : List PIn} {os : List POut} {op : POp} {ss : List PSign} {s s' : List UInt8 × Int} (h : Core w0 yb g2 is os op ss s w) (hy : w0.heap.size ≤ yb) (he : EyeAt w' yb s'.1 s'.2) (hb : But w.heap.size yb w w') : Core w0 yb g2 is os op ss s' w' := by
  obtain ⟨ce, hce⟩ := h.eye.block
  have hg : g2 ≠ yb := fun e => by
    have h9 := h.res
    unfold VarC at h9
    rw [e, hce] at h9
    simp at h9
  exact ⟨fun y hy => (h.inT y hy).typed hb hce (by decide), fun y hy => (h.outT y hy).typed hb hce (by decide) (by decide), h.opT.typed hb hce (by decide), h.signT, h.res.but hb h.res.lt hg, he, h.but.trans ((hb.mono h.but.size).below hy)⟩
/-- How all stands while a transaction is read: g5 is the variable, g2 the result. -/
structure ReadSt (w0 : World) (yb g2 g5 : Nat) (x : PTx) (s : List UInt8 × Int) (w : World) : Prop where
  ins : OwnOf inK 76 w w0.heap.size (.slice x.ia x.inn x.ic) x.ins
  outs : OwnOf outK 79 w w0.heap.size (.slice x.oa x.on x.oc) x.outs
  signs : OwnOf signK 143 w w0.heap.size (.slice x.sa x.sn x.sc) x.signs
  var : VarC w g5 56 x.cells
  core : Core w0 yb g2 x.ins x.outs x.op x.signs s w
theorem not_typed {w : World} {p : Nat} {cs : Array Value} {t u : TypeId} {fr : Nat × Nat} (hp : w.heap[p]? = some (.cells cs t fr)) (h : t ≠ u) : ∀ cs' fr', w.heap[p]? ≠ some (.cells cs' u fr') := fun _ _ e => by
  rw [hp] at e
  simp at e
  exact h e.2.1
theorem ReadSt.read {w0 w w' : World} {yb g2 g5 : Nat} {x : PTx} {s s' : List UInt8 × Int} (h : ReadSt w0 yb g2 g5 x s w) (hy : w0.heap.size ≤ yb) (he : EyeAt w' yb s'.1 s'.2) (hb : But w.heap.size yb w w') : ReadSt w0 yb g2 g5 x s' w' := by
  obtain ⟨ce, hce⟩ := h.core.eye.block
  have hg : g5 ≠ yb := fun e => by
    have h9 := h.var
    unfold VarC at h9
    rw [e, hce] at h9
    simp at h9
  exact ⟨h.ins.but hb (not_typed hce (by decide)), h.outs.but hb (not_typed hce (by decide)), h.signs.but hb (not_typed hce (by decide)), h.var.but hb h.var.lt hg, h.core.read hy he hb⟩
theorem ReadSt.more {w0 w w' : World} {yb g2 g5 : Nat} {x : PTx} {s : List UInt8 × Int} (h : ReadSt w0 yb g2 g5 x s w) (hb : Below w.heap.size w w') : ReadSt w0 yb g2 g5 x s w' :=
  ⟨h.ins.below hb, h.outs.below hb, h.signs.below hb, h.var.below hb, h.core.below hb⟩
theorem Core.ins' {w0 w : World} {yb g2 : Nat} {is : List PIn} {os : List POut} {op : POp} {ss : List PSign} {s : List UInt8 × Int} {y : PIn} (h : Core w0 yb g2 is os op ss s w) (hy : InT w y) : Core w0 yb g2 (is ++ [y]) os op ss s w :=
  ⟨fun z hz => by
    rcases List.mem_append.1 hz with hz | hz
    · exact h.inT z hz
    · simp at hz
      subst hz
      exact hy, h.outT, h.opT, h.signT, h.res, h.eye, h.but⟩
theorem Core.outs' {w0 w : World} {yb g2 : Nat} {is : List PIn} {os : List POut} {op : POp} {ss : List PSign} {s : List UInt8 × Int} {y : POut} (h : Core w0 yb g2 is os op ss s w) (hy : OutT w y) : Core w0 yb g2 is (os ++ [y]) op ss s w :=
  ⟨h.inT, fun z hz => by
    rcases List.mem_append.1 hz with hz | hz
    · exact h.outT z hz
    · simp at hz
      subst hz
      exact hy, h.opT, h.signT, h.res, h.eye, h.but⟩
theorem Core.signs' {w0 w : World} {yb g2 : Nat} {is : List PIn} {os : List POut} {op : POp} {ss : List PSign} {s : List UInt8 × Int} {y : PSign} (h : Core w0 yb g2 is os op ss s w) (hy : SignIn y) : Core w0 yb g2 is os op (ss ++ [y]) s w :=
  ⟨h.inT, h.outT, h.opT, fun z hz => by
    rcases List.mem_append.1 hz with hz | hz
    · exact h.signT z hz
    · simp at hz
      subst hz
      exact hy, h.res, h.eye, h.but⟩
theorem OwnOf.setOther {α : Type} {K : Sort8 α} {t : TypeId} {w : World} {B g i : Nat} {v u : Value} {xs : List α} (h : OwnOf K t w B v xs) (hg : v.ownBlock ≠ some g) : OwnOf K t (w.setCell ⟨g, i, none⟩ u) B v xs := ⟨ownsRow_setCell_other h.1 (fun e => hg e) _, h.2⟩
theorem ReadSt.addIn {w0 w w' : World} {yb g2 g5 n' c' : Nat} {a' : Option Addr} {x : PTx} {y : PIn} {s : List UInt8 × Int} (h : ReadSt w0 yb g2 g5 x s w) (hgg : g5 ≠ g2) (hB : w0.heap.size ≤ g5) (hy : InT w y)
    (ho : OwnOf inK 76 w' w0.heap.size (.slice a' n' c') (x.ins ++ [y])) (hg : w.grownBy w' (Value.slice x.ia x.inn x.ic).ownBlock) : VarC w' g5 56 x.cells ∧ ReadSt w0 yb g2 g5 { x with ia := a', inn := n', ic := c', ins := x.ins ++ [y] } s (w'.setCell ⟨g5, 0, none⟩ (.slice a' n' c')) := by
  have st : VarC w' g5 56 x.cells ∧ OwnOf outK 79 w' w0.heap.size (.slice x.oa x.on x.oc) x.outs ∧ OwnOf signK 143 w' w0.heap.size (.slice x.sa x.sn x.sc) x.signs ∧ Core w0 yb g2 x.ins x.outs x.op x.signs s w' ∧ InT w' y := by
    rcases h.ins.step hg with hb | ⟨g, cs, _, hBg, hh, hb⟩
    · exact ⟨h.var.below hb, h.outs.below hb, h.signs.below hb, h.core.below hb, hy.below hb⟩
    · have e5 : g5 ≠ g := fun e => by
        have h9 := h.var
        unfold VarC at h9
        rw [e, hh] at h9
        simp at h9
      have e2 : g ≠ g2 := fun e => by
        have h9 := h.core.res
        unfold VarC at h9
        rw [← e, hh] at h9
        simp at h9
      exact ⟨h.var.but hb h.var.lt e5, h.outs.but hb (not_typed hh (by decide)), h.signs.but hb (not_typed hh (by decide)), h.core.typed hb hh (by decide) (by decide) (by decide) (by decide) e2 hBg, hy.typed hb hh (by decide)⟩
  obtain ⟨r5, r1, r2, rc, ry⟩ := st
  have hs : But w'.heap.size g5 w' (w'.setCell ⟨g5, 0, none⟩ (.slice a' n' c')) := (But.refl _ g5 _).setCell _ (.inl rfl) _
  have hv : VarC (w'.setCell ⟨g5, 0, none⟩ (.slice a' n' c')) g5 56 ({ x with ia := a', inn := n', ic := c', ins := x.ins ++ [y] } : PTx).cells := VarC.put1 (pre := []) r5 rfl
  have rc2 := (rc.ins' ry).typed hs r5 (by decide) (by decide) (by decide) (by decide) hgg hB
  exact ⟨r5, ⟨ho.setOther (ho.other r5 (by decide)), r1.setOther (r1.other r5 (by decide)), r2.setOther (r2.other r5 (by decide)), hv, rc2⟩⟩
theorem ReadSt.addOut {w0 w w' : World} {yb g2 g5 n' c' : Nat} {a' : Option Addr} {x : PTx} {y : POut} {s : List UInt8 × Int} (h : ReadSt w0 yb g2 g5 x s w) (hgg : g5 ≠ g2) (hB : w0.heap.size ≤ g5) (hy : OutT w y)
    (ho : OwnOf outK 79 w' w0.heap.size (.slice a' n' c') (x.outs ++ [y])) (hg : w.grownBy w' (Value.slice x.oa x.on x.oc).ownBlock) : VarC w' g5 56 x.cells ∧ ReadSt w0 yb g2 g5 { x with oa := a', on := n', oc := c', outs := x.outs ++ [y] } s (w'.setCell ⟨g5, 1, none⟩ (.slice a' n' c')) := by
  have st : VarC w' g5 56 x.cells ∧ OwnOf inK 76 w' w0.heap.size (.slice x.ia x.inn x.ic) x.ins ∧ OwnOf signK 143 w' w0.heap.size (.slice x.sa x.sn x.sc) x.signs ∧ Core w0 yb g2 x.ins x.outs x.op x.signs s w' ∧ OutT w' y := by
    rcases h.outs.step hg with hb | ⟨g, cs, _, hBg, hh, hb⟩
    · exact ⟨h.var.below hb, h.ins.below hb, h.signs.below hb, h.core.below hb, hy.below hb⟩
    · have e5 : g5 ≠ g := fun e => by
        have h9 := h.var
        unfold VarC at h9
        rw [e, hh] at h9
        simp at h9
      have e2 : g ≠ g2 := fun e => by
        have h9 := h.core.res
        unfold VarC at h9
        rw [← e, hh] at h9
        simp at h9
      exact ⟨h.var.but hb h.var.lt e5, h.ins.but hb (not_typed hh (by decide)), h.signs.but hb (not_typed hh (by decide)), h.core.typed hb hh (by decide) (by decide) (by decide) (by decide) e2 hBg, hy.typed hb hh (by decide) (by decide)⟩
  obtain ⟨r5, r1, r2, rc, ry⟩ := st
  have hs : But w'.heap.size g5 w' (w'.setCell ⟨g5, 1, none⟩ (.slice a' n' c')) := (But.refl _ g5 _).setCell _ (.inl rfl) _
  have hv : VarC (w'.setCell ⟨g5, 1, none⟩ (.slice a' n' c')) g5 56 ({ x with oa := a', on := n', oc := c', outs := x.outs ++ [y] } : PTx).cells := VarC.put1 (pre := [.slice x.ia x.inn x.ic]) r5 rfl
  have rc2 := (rc.outs' ry).typed hs r5 (by decide) (by decide) (by decide) (by decide) hgg hB
  exact ⟨r5, ⟨r1.setOther (r1.other r5 (by decide)), ho.setOther (ho.other r5 (by decide)), r2.setOther (r2.other r5 (by decide)), hv, rc2⟩⟩
theorem ReadSt.addSign {w0 w w' : World} {yb g2 g5 n' c' : Nat} {a' : Option Addr} {x : PTx} {y : PSign} {s : List UInt8 × Int} (h : ReadSt w0 yb g2 g5 x s w) (hgg : g5 ≠ g2) (hB : w0.heap.size ≤ g5) (hy : SignIn y)
    (ho : OwnOf signK 143 w' w0.heap.size (.slice a' n' c') (x.signs ++ [y])) (hg : w.grownBy w' (Value.slice x.sa x.sn x.sc).ownBlock) : VarC w' g5 56 x.cells ∧ ReadSt w0 yb g2 g5 { x with sa := a', sn := n', sc := c', signs := x.signs ++ [y] } s (w'.setCell ⟨g5, 39, none⟩ (.slice a' n' c')) := by
  have st : VarC w' g5 56 x.cells ∧ OwnOf inK 76 w' w0.heap.size (.slice x.ia x.inn x.ic) x.ins ∧ OwnOf outK 79 w' w0.heap.size (.slice x.oa x.on x.oc) x.outs ∧ Core w0 yb g2 x.ins x.outs x.op x.signs s w' ∧ SignIn y := by
    rcases h.signs.step hg with hb | ⟨g, cs, _, hBg, hh, hb⟩
    · exact ⟨h.var.below hb, h.ins.below hb, h.outs.below hb, h.core.below hb, hy⟩
    · have e5 : g5 ≠ g := fun e => by
        have h9 := h.var
        unfold VarC at h9
        rw [e, hh] at h9
        simp at h9
      have e2 : g ≠ g2 := fun e => by
        have h9 := h.core.res
        unfold VarC at h9
        rw [← e, hh] at h9
        simp at h9
      exact ⟨h.var.but hb h.var.lt e5, h.ins.but hb (not_typed hh (by decide)), h.outs.but hb (not_typed hh (by decide)), h.core.typed hb hh (by decide) (by decide) (by decide) (by decide) e2 hBg, hy⟩
  obtain ⟨r5, r1, r2, rc, ry⟩ := st
  have hs : But w'.heap.size g5 w' (w'.setCell ⟨g5, 39, none⟩ (.slice a' n' c')) := (But.refl _ g5 _).setCell _ (.inl rfl) _
  have hv : VarC (w'.setCell ⟨g5, 39, none⟩ (.slice a' n' c')) g5 56 ({ x with sa := a', sn := n', sc := c', signs := x.signs ++ [y] } : PTx).cells := VarC.put1 (pre := .slice x.ia x.inn x.ic :: .slice x.oa x.on x.oc :: x.op.cells) (post := []) r5 (by simp [POp.len h.core.opT.1.root])
  have rc2 := (rc.signs' ry).typed hs r5 (by decide) (by decide) (by decide) (by decide) hgg hB
  exact ⟨r5, ⟨r1.setOther (r1.other r5 (by decide)), r2.setOther (r2.other r5 (by decide)), ho.setOther (ho.other r5 (by decide)), hv, rc2⟩⟩
/-- The op is stored. -/
theorem ReadSt.setOp {w0 w : World} {yb g2 g5 : Nat} {x : PTx} {y : POp} {s : List UInt8 × Int} (h : ReadSt w0 yb g2 g5 x s w) (hgg : g5 ≠ g2) (hB : w0.heap.size ≤ g5) (hy : OpT w y) : ReadSt w0 yb g2 g5 { x with op := y } s (w.setCells g5 2 y.cells) := by
  have hs : But w.heap.size g5 w (w.setCells g5 2 y.cells) := but_setCells y.cells 2 w
  have hv : VarC (w.setCells g5 2 y.cells) g5 56 ({ x with op := y } : PTx).cells := VarC.put (pre := [.slice x.ia x.inn x.ic, .slice x.oa x.on x.oc]) (mid := x.op.cells) (post := [.slice x.sa x.sn x.sc]) h.var (by rw [POp.len hy.1.root, POp.len h.core.opT.1.root]) rfl
  have hc : Core w0 yb g2 x.ins x.outs y x.signs s w := ⟨h.core.inT, h.core.outT, hy, h.core.signT, h.core.res, h.core.eye, h.core.but⟩
  exact ⟨h.ins.but hs (not_typed h.var (by decide)), h.outs.but hs (not_typed h.var (by decide)), h.signs.but hs (not_typed h.var (by decide)), hv, hc.typed hs h.var (by decide) (by decide) (by decide) (by decide) hgg hB⟩
theorem ReadSt.tx {w0 w : World} {yb g2 g5 : Nat} {x : PTx} {s : List UInt8 × Int} (h : ReadSt w0 yb g2 g5 x s w) : TxIn w x :=
  ⟨h.ins.slice (fun y hy => (h.core.inT y hy).1), h.outs.slice (fun y hy => (h.core.outT y hy).1), h.core.opT.1, h.signs.slice h.core.signT⟩
end Go.Proofs.YtcmdpmialehjgaaGreatDoor
namespace Go.Proofs.YtcmdpmialehjgaaGreatDoor
open Go.RowKit

/-- A part that was read. -/
def GotIn (w0 : World) (yb : Nat) (s : List UInt8 × Int) (r : Ending) (w : World) : Prop :=
  ∃ y : PIn, r = .returned (.agg y.cells.toArray) ∧ InT w y ∧ y.strip = (inR s).1 ∧ EyeAt w yb (inR s).2.1 (inR s).2.2 ∧ But w0.heap.size yb w0 w
def GotOp (w0 : World) (yb : Nat) (s : List UInt8 × Int) (r : Ending) (w : World) : Prop :=
  ∃ y : POp, r = .returned (.agg y.cells.toArray) ∧ OpT w y ∧ y.strip = (opR s).1 ∧ EyeAt w yb (opR s).2.1 (opR s).2.2 ∧ But w0.heap.size yb w0 w
def GotSign (w0 : World) (yb : Nat) (s : List UInt8 × Int) (r : Ending) (w : World) : Prop :=
  ∃ y : PSign, r = .returned (.agg y.cells.toArray) ∧ SignIn y ∧ y = (signR s).1 ∧ EyeAt w yb (signR s).2.1 (signR s).2.2 ∧ But w0.heap.size yb w0 w
set_option linter.unusedSimpArgs false in
set_option maxRecDepth 100000 in
set_option maxHeartbeats 12800000 in
theorem getIn_st {w : World} {yb : Nat} {s : List UInt8 × Int} (h : EyeAt w yb s.1 s.2) (hm : s.1.length ≤ 140737488355328) :
    Calls Tryz.prog 69 #[.pointer (some ⟨yb, 0, none⟩)] w (GotIn w yb s) := by
  have hyb := h.lt
  obtain ⟨s1, s2, s3, s4, hs, z1, z2, p, e1, e2, e3, e4, eR⟩ := inR_parts s
  have hlen := sumR_len s
  have r2 := upR_range s1 (m := 15) (by omega)
  have r3 := upR_range s2 (m := 15) (by omega)
  have l3 : s3.1.length ≤ 140737488355328 := by
    have h1 := sumR_le s
    have h2 := upR_le s1 15
    have h3 := upR_le s2 15
    rw [e1] at h1
    rw [e2] at h2
    rw [e3] at h3
    exact Nat.le_trans h3 (Nat.le_trans h2 (Nat.le_trans h1 hm))
  rw [e1] at hlen
  rw [e2] at r2
  rw [e3] at r3
  dsimp only at hlen r2 r3
  have HS1 := Lib.hid (fun (W : World) (hW : EyeAt W yb s.1 s.2) => by have h9 := sum_st W hW hm; rw [e1] at h9; exact h9)
  have HU2 := Lib.hid (fun (W : World) (hW : EyeAt W yb s1.1 s1.2) => by have h9 := upto_st 15 hW; rw [e2] at h9; exact h9)
  have HU3 := Lib.hid (fun (W : World) (hW : EyeAt W yb s2.1 s2.2) => by have h9 := upto_st 15 hW; rw [e3] at h9; exact h9)
  have HT4 := Lib.hid (fun (W : World) (hW : EyeAt W yb s3.1 s3.2) => by have h9 := text_st W 64 hW l3; rw [e4] at h9; exact h9)
  have HER := Lib.hid eR
  have H := Lib.hid h
  have HLEN := Lib.hid hlen
  have F2 : Hid (Fits z1) := Lib.hid ⟨by omega, by omega⟩
  have F3 : Hid (Fits z2) := Lib.hid ⟨by omega, by omega⟩
  have SZ := Lib.hid (size_of HLEN.out)
  clear e1 e2 e3 e4 eR h hm l3 hlen r2 r3
  go_enter Tryz.func69, Tryz.ntmps69
  go_upto_region 2 with (fail)
  rw [← noIn_is]
  have b1 : Below w.heap.size w ((w.alloc (.cells noIn.cells.toArray 76)).alloc (.cells noIn.cells.toArray 76)) := ((Below.refl _ _).alloc (Nat.le_refl _) _).alloc (by simp) _
  have h2 : VarC ((w.alloc (.cells noIn.cells.toArray 76)).alloc (.cells noIn.cells.toArray 76)) w.heap.size 76 noIn.cells := by
    unfold VarC
    rw [heap_alloc_old _ _ (by simp)]
    exact heap_alloc_new _ _
  have h3 : VarC ((w.alloc (.cells noIn.cells.toArray 76)).alloc (.cells noIn.cells.toArray 76)) (w.heap.size + 1) 76 noIn.cells := heap_alloc_at _ _ _ (by simp)
  revert b1 h2 h3
  generalize ((w.alloc (.cells noIn.cells.toArray 76)).alloc (.cells noIn.cells.toArray 76)) = w1
  intro b1 h2 h3
  have PS := Lib.hid (show PartSt w yb w.heap.size (w.heap.size + 1) 76 noIn.cells noIn.cells s w1 from ⟨h2, h3, H.out.below b1, But.of b1⟩)
  revert PS
  obtain ⟨g, hg⟩ : ∃ g, g = w.heap.size := ⟨_, rfl⟩
  rw [← hg]
  intro PS
  have hg2 : w.heap.size ≤ g := by omega
  have hg3 : w.heap.size ≤ g + 1 := by omega
  have hne : g ≠ g + 1 := by omega
  clear b1 h2 h3 H hg
  go_wp2_with fail
  refine (HS1.out _ PS.out.eye).mono ?_
  rintro e y2 ⟨rfl, he, hb⟩
  have PS := Lib.hid (PS.out.read (s' := s1) hyb hg2 hg3 he hb)
  clear he hb
  have TH : Hid (y2.there (g + 1) 0 (cellsOf hs).toArray.size) := Lib.hid (PS.out.var.there (by rw [List.size_toArray, cellsOf_len, HLEN.out]; exact (by simp [noIn, PIn.cells, cellsOf_len, zero32_len])))
  go_upto_region 3 with (refine wpList_store_mid rfl 23 _ _ rfl (g + 1) 0 (cellsOf hs).toArray rfl rfl TH.out SZ.out (all_oneCell_toArray (cellsOf_one hs)) ?_)
  have PS := Lib.hid (PS.out.set (by decide) hyb hg3 hne (but_setCells (cellsOf hs) 0 y2) (VarC.put (pre := []) (mid := cellsOf zero32) (post := [.int .i64 0, .int .i64 0, .slice none 0 0]) PS.out.var (by rw [cellsOf_len, cellsOf_len, HLEN.out]; exact zero32_len.symm) rfl))
  try simp only [List.toList_toArray]
  revert PS
  generalize World.setCells y2 _ _ _ = y3
  intro PS
  clear TH
  try simp only [Act.put]
  go_wp2_with fail
  refine (HU2.out _ PS.out.eye).mono ?_
  rintro e y4 ⟨rfl, he, hb⟩
  have PS := Lib.hid (PS.out.read (s' := s2) hyb hg2 hg3 he hb)
  clear he hb
  have cc : y4.cell? ⟨g + 1, 32, none⟩ = some (.int .i64 0) := by rw [PS.out.var.cell]; exact (by rw [List.nil_append, List.getElem?_append_right (by rw [cellsOf_len, HLEN.out]; omega), cellsOf_len, HLEN.out]; rfl)
  have cf := PS.out.var.free 32
  go_upto_region 4 with (fail)
  have PS := Lib.hid (PS.out.set (by decide) hyb hg3 hne ((But.refl _ (g + 1) _).setCell ⟨g + 1, 32, none⟩ (.inl rfl) (.int .i64 z1)) (VarC.put1 (pre := cellsOf hs) (u := .int .i64 0) (post := ([.int .i64 0, .slice none 0 0] : List Value)) PS.out.var (by rw [cellsOf_len]; exact HLEN.out)))
  clear cc cf
  revert PS
  generalize World.setCell y4 _ _ = y5
  intro PS
  go_wp2_with fail
  refine (HU3.out _ PS.out.eye).mono ?_
  rintro e y6 ⟨rfl, he, hb⟩
  have PS := Lib.hid (PS.out.read (s' := s3) hyb hg2 hg3 he hb)
  clear he hb
  have cc : y6.cell? ⟨g + 1, 33, none⟩ = some (.int .i64 0) := by rw [PS.out.var.cell]; exact (by rw [List.getElem?_append_right (by rw [cellsOf_len, HLEN.out]; omega), cellsOf_len, HLEN.out]; rfl)
  have cf := PS.out.var.free 33
  go_upto_region 5 with (fail)
  have PS := Lib.hid (PS.out.set (by decide) hyb hg3 hne ((But.refl _ (g + 1) _).setCell ⟨g + 1, 33, none⟩ (.inl rfl) (.int .i64 z2)) (VarC.put1 (pre := cellsOf hs ++ [.int .i64 z1]) (u := .int .i64 0) (post := ([.slice none 0 0] : List Value)) (by have h9 := PS.out.var; simpa using h9) (by rw [List.length_append, cellsOf_len, HLEN.out]; rfl)))
  clear cc cf
  revert PS
  generalize World.setCell y6 _ _ = y7
  intro PS
  go_wp2_with fail
  refine (HT4.out _ PS.out.eye).mono ?_
  rintro e y8 ⟨ta, tn, tc, rfl, hrow, hnew, he, hb, htag⟩
  have PS := Lib.hid (PS.out.read (s' := s4) hyb hg2 hg3 he hb)
  have HROW := Lib.hid hrow
  have HTAG := Lib.hid htag
  clear hrow hnew he hb htag
  have cc : y8.cell? ⟨g + 1, 34, none⟩ = some (.slice none 0 0) := by rw [PS.out.var.cell, List.getElem?_append_right (by rw [List.length_append, cellsOf_len, HLEN.out]; simp), List.length_append, cellsOf_len, HLEN.out]; rfl
  have cf := PS.out.var.free 34
  go_upto_region 6 with (fail)
  have h34 := row_typed HROW.out HTAG.out ((But.refl _ (g + 1) _).setCell ⟨g + 1, 34, none⟩ (.inl rfl) (.slice ta tn tc)) PS.out.var (by decide)
  have PS := Lib.hid (PS.out.set (by decide) hyb hg3 hne ((But.refl _ (g + 1) _).setCell ⟨g + 1, 34, none⟩ (.inl rfl) (.slice ta tn tc)) (VarC.put1 (pre := cellsOf hs ++ [.int .i64 z1, .int .i64 z2]) (post := []) (u := .slice none 0 0) (by have h9 := PS.out.var; simpa using h9) (by rw [List.length_append, cellsOf_len, HLEN.out]; rfl)))
  have HRT := Lib.hid h34
  clear cc cf h34 HROW HTAG
  revert PS HRT
  generalize World.setCell y8 _ _ = y9
  intro PS HRT
  obtain ⟨x, hx⟩ : ∃ x : PIn, x = ⟨hs, z1, z2, ta, tn, tc, p⟩ := ⟨_, rfl⟩
  have hxc : x.cells = cellsOf hs ++ [.int .i64 z1, .int .i64 z2] ++ [.slice ta tn tc] := by rw [hx]; simp [PIn.cells]
  rw [← hxc] at PS
  have hxi : InT y9 x := by rw [hx]; exact ⟨⟨HLEN.out, F2.out, F3.out, HRT.out.1⟩, HRT.out.2⟩
  have hst : x.strip = (inR s).1 := by rw [HER.out, hx]; rfl
  have HEY : Hid ((inR s).2 = s4) := Lib.hid (by rw [HER.out])
  have RX := Lib.hid PS.out.var.range
  have SX := Lib.hid (in_size hxi.1.tx)
  have AX := Lib.hid (in_sizeA hxi.1.tx)
  have ZX : Hid (noIn.cells.toArray.size = x.cells.toArray.size) := Lib.hid (by rw [List.size_toArray, List.size_toArray, PIn.len hxi.1.tx]; rfl)
  have HST := Lib.hid hst
  have HXI := Lib.hid hxi
  clear hx hxc hst hxi HER HRT
  go_wp2_with (first | (refine wpList_load_mid rfl 76 _ rfl (g + 1) 0 rfl x.cells _ RX.out Tryz.underlying76 rfl SX.out ?_) | (refine wpList_store_row rfl 76 _ _ rfl g x.cells.toArray rfl rfl 76 noIn.cells.toArray PS.out.res AX.out ZX.out (all_oneCell_toArray x.one) ?_) | fail)
  obtain ⟨q4, q5⟩ := PS.out.done (by decide) hyb hg2 (but_setRow y9 g x.cells.toArray)
  refine bodyPost_ret (results_cell_row rfl _ _ g 76 x.cells.toArray (0, 0) _ rfl (setRow_heap y9 g _ _ 76 _ PS.out.res) Tryz.underlying76 rfl AX.out) rfl ?_
  exact ⟨x, rfl, HXI.out.typed (but_setRow y9 g x.cells.toArray) PS.out.res (by decide), HST.out, by rw [HEY.out]; exact q4, q5⟩
set_option linter.unusedSimpArgs false in
set_option maxRecDepth 100000 in
set_option maxHeartbeats 12800000 in
theorem getSign_st {w : World} {yb : Nat} {s : List UInt8 × Int} (h : EyeAt w yb s.1 s.2) (hm : s.1.length ≤ 140737488355328) :
    Calls Tryz.prog 72 #[.pointer (some ⟨yb, 0, none⟩)] w (GotSign w yb s) := by
  have hyb := h.lt
  obtain ⟨z1, s1, e1⟩ : ∃ z s', upR s 255 = (z, s') := ⟨_, _, rfl⟩
  obtain ⟨hs, s2, e2⟩ : ∃ z s', sumR s1 = (z, s') := ⟨_, _, rfl⟩
  have eR : signR s = (⟨z1, hs⟩, s2) := by unfold signR; rw [e1]; dsimp only; rw [e2]
  have hlen := sumR_len s1
  have r1 := upR_range s (m := 255) (by omega)
  have l1 : s1.1.length ≤ 140737488355328 := by
    have h1 := upR_le s 255
    rw [e1] at h1
    exact Nat.le_trans h1 hm
  rw [e1] at r1
  rw [e2] at hlen
  dsimp only at hlen r1
  have HU1 := Lib.hid (fun (W : World) (hW : EyeAt W yb s.1 s.2) => by have h9 := upto_st 255 hW; rw [e1] at h9; exact h9)
  have HS2 := Lib.hid (fun (W : World) (hW : EyeAt W yb s1.1 s1.2) => by have h9 := sum_st W hW l1; rw [e2] at h9; exact h9)
  have HER := Lib.hid eR
  have H := Lib.hid h
  have HLEN := Lib.hid hlen
  have F1 : Hid (Fits z1) := Lib.hid ⟨by omega, by omega⟩
  have SZ := Lib.hid (size_of HLEN.out)
  clear e1 e2 eR h hm l1 hlen r1
  go_enter Tryz.func72, Tryz.ntmps72
  go_upto_region 2 with (fail)
  rw [← noSign_is]
  have b1 : Below w.heap.size w ((w.alloc (.cells noSign.cells.toArray 143)).alloc (.cells noSign.cells.toArray 143)) := ((Below.refl _ _).alloc (Nat.le_refl _) _).alloc (by simp) _
  have h2 : VarC ((w.alloc (.cells noSign.cells.toArray 143)).alloc (.cells noSign.cells.toArray 143)) w.heap.size 143 noSign.cells := by
    unfold VarC
    rw [heap_alloc_old _ _ (by simp)]
    exact heap_alloc_new _ _
  have h3 : VarC ((w.alloc (.cells noSign.cells.toArray 143)).alloc (.cells noSign.cells.toArray 143)) (w.heap.size + 1) 143 noSign.cells := heap_alloc_at _ _ _ (by simp)
  revert b1 h2 h3
  generalize ((w.alloc (.cells noSign.cells.toArray 143)).alloc (.cells noSign.cells.toArray 143)) = w1
  intro b1 h2 h3
  have PS := Lib.hid (show PartSt w yb w.heap.size (w.heap.size + 1) 143 noSign.cells noSign.cells s w1 from ⟨h2, h3, H.out.below b1, But.of b1⟩)
  revert PS
  obtain ⟨g, hg⟩ : ∃ g, g = w.heap.size := ⟨_, rfl⟩
  rw [← hg]
  intro PS
  have hg2 : w.heap.size ≤ g := by omega
  have hg3 : w.heap.size ≤ g + 1 := by omega
  have hne : g ≠ g + 1 := by omega
  clear b1 h2 h3 H hg
  go_wp2_with fail
  refine (HU1.out _ PS.out.eye).mono ?_
  rintro e y2 ⟨rfl, he, hb⟩
  have PS := Lib.hid (PS.out.read (s' := s1) hyb hg2 hg3 he hb)
  clear he hb
  have cc : y2.cell? ⟨g + 1, 0, none⟩ = some (.int .i64 0) := by rw [PS.out.var.cell]; exact rfl
  have cf := PS.out.var.free 0
  go_upto_region 3 with (fail)
  have PS := Lib.hid (PS.out.set (by decide) hyb hg3 hne ((But.refl _ (g + 1) _).setCell ⟨g + 1, 0, none⟩ (.inl rfl) (.int .i64 z1)) (VarC.put1 (pre := []) (u := .int .i64 0) (post := (cellsOf zero32 : List Value)) PS.out.var rfl))
  clear cc cf
  revert PS
  generalize World.setCell y2 _ _ = y3
  intro PS
  go_wp2_with fail
  refine (HS2.out _ PS.out.eye).mono ?_
  rintro e y4 ⟨rfl, he, hb⟩
  have PS := Lib.hid (PS.out.read (s' := s2) hyb hg2 hg3 he hb)
  clear he hb
  have TH : Hid (y4.there (g + 1) 1 (cellsOf hs).toArray.size) := Lib.hid (PS.out.var.there (by rw [List.size_toArray, cellsOf_len, HLEN.out]; exact (by simp [cellsOf_len, zero32_len])))
  go_upto_region 4 with (refine wpList_store_mid rfl 23 _ _ rfl (g + 1) 1 (cellsOf hs).toArray rfl rfl TH.out SZ.out (all_oneCell_toArray (cellsOf_one hs)) ?_)
  have PS := Lib.hid (PS.out.set (by decide) hyb hg3 hne (but_setCells (cellsOf hs) 1 y4) (VarC.put (pre := [.int .i64 z1]) (mid := cellsOf zero32) (post := []) (by rw [List.append_nil]; exact PS.out.var) (by rw [cellsOf_len, cellsOf_len, HLEN.out]; exact zero32_len.symm) rfl))
  try simp only [List.toList_toArray]
  revert PS
  generalize World.setCells y4 _ _ _ = y5
  intro PS
  clear TH
  try simp only [Act.put]
  obtain ⟨x, hx⟩ : ∃ x : PSign, x = ⟨z1, hs⟩ := ⟨_, rfl⟩
  have hxc : x.cells = [.int .i64 z1] ++ (cellsOf hs ++ []) := by rw [hx]; simp [PSign.cells]
  rw [← hxc] at PS
  have hxi : SignIn x := by rw [hx]; exact ⟨F1.out, HLEN.out⟩
  have hst : x = (signR s).1 := by rw [HER.out, hx]
  have HEY : Hid ((signR s).2 = s2) := Lib.hid (by rw [HER.out])
  have RX := Lib.hid PS.out.var.range
  have SX := Lib.hid (sign_size hxi.sum)
  have AX := Lib.hid (sign_sizeA hxi.sum)
  have ZX : Hid (noSign.cells.toArray.size = x.cells.toArray.size) := Lib.hid (by rw [List.size_toArray, List.size_toArray, PSign.len hxi.sum]; rfl)
  have HST := Lib.hid hst
  have HXI := Lib.hid hxi
  clear hx hxc hst hxi HER
  go_wp2_with (first | (refine wpList_load_mid rfl 143 _ rfl (g + 1) 0 rfl x.cells _ RX.out Tryz.underlying143 rfl SX.out ?_) | (refine wpList_store_row rfl 143 _ _ rfl g x.cells.toArray rfl rfl 143 noSign.cells.toArray PS.out.res AX.out ZX.out (all_oneCell_toArray x.one) ?_) | fail)
  obtain ⟨q4, q5⟩ := PS.out.done (by decide) hyb hg2 (but_setRow y5 g x.cells.toArray)
  refine bodyPost_ret (results_cell_row rfl _ _ g 143 x.cells.toArray (0, 0) _ rfl (setRow_heap y5 g _ _ 143 _ PS.out.res) Tryz.underlying143 rfl AX.out) rfl ?_
  exact ⟨x, rfl, HXI.out, HST.out, by rw [HEY.out]; exact q4, q5⟩
set_option linter.unusedSimpArgs false in
set_option maxRecDepth 100000 in
set_option maxHeartbeats 12800000 in
theorem getOp_st {w : World} {yb : Nat} {s : List UInt8 × Int} (h : EyeAt w yb s.1 s.2) (hm : s.1.length ≤ 140737488355328) :
    Calls Tryz.prog 71 #[.pointer (some ⟨yb, 0, none⟩)] w (GotOp w yb s) := by
  have hyb := h.lt
  obtain ⟨s1, s2, s3, s4, s5, s6, z1, z2, z3, z4, hs, p, e1, e2, e3, e4, e5, e6, eR⟩ := opR_parts s
  have hlen := sumR_len s4
  have r1 := upR_range s (m := 7) (by omega)
  have r2 := upR_range s1 (m := 15) (by omega)
  have r3 := upR_range s2 (m := 1048576) (by omega)
  have r4 := upR_range s3 (m := 1125899906842624) (by omega)
  have h1 := upR_le s 7
  have h2 := upR_le s1 15
  have h3 := upR_le s2 1048576
  have h4 := upR_le s3 1125899906842624
  have h5 := sumR_le s4
  rw [e1] at r1 h1
  rw [e2] at r2 h2
  rw [e3] at r3 h3
  rw [e4] at r4 h4
  rw [e5] at hlen h5
  dsimp only at hlen r1 r2 r3 r4 h1 h2 h3 h4 h5
  have l4 : s4.1.length ≤ 140737488355328 := Nat.le_trans h4 (Nat.le_trans h3 (Nat.le_trans h2 (Nat.le_trans h1 hm)))
  have l5 : s5.1.length ≤ 140737488355328 := Nat.le_trans h5 l4
  have HU1 := Lib.hid (fun (W : World) (hW : EyeAt W yb s.1 s.2) => by have h9 := upto_st 7 hW; rw [e1] at h9; exact h9)
  have HU2 := Lib.hid (fun (W : World) (hW : EyeAt W yb s1.1 s1.2) => by have h9 := upto_st 15 hW; rw [e2] at h9; exact h9)
  have HU3 := Lib.hid (fun (W : World) (hW : EyeAt W yb s2.1 s2.2) => by have h9 := upto_st 1048576 hW; rw [e3] at h9; exact h9)
  have HU4 := Lib.hid (fun (W : World) (hW : EyeAt W yb s3.1 s3.2) => by have h9 := upto_st 1125899906842624 hW; rw [e4] at h9; exact h9)
  have HS5 := Lib.hid (fun (W : World) (hW : EyeAt W yb s4.1 s4.2) => by have h9 := sum_st W hW l4; rw [e5] at h9; exact h9)
  have HT6 := Lib.hid (fun (W : World) (hW : EyeAt W yb s5.1 s5.2) => by have h9 := text_st W 65536 hW l5; rw [e6] at h9; exact h9)
  have HER := Lib.hid eR
  have H := Lib.hid h
  have HLEN := Lib.hid hlen
  have F1 : Hid (Fits z1) := Lib.hid ⟨by omega, by omega⟩
  have F2 : Hid (Fits z2) := Lib.hid ⟨by omega, by omega⟩
  have F3 : Hid (Fits z3) := Lib.hid ⟨by omega, by omega⟩
  have F4 : Hid (Fits z4) := Lib.hid ⟨by omega, by omega⟩
  have SZ := Lib.hid (size_of HLEN.out)
  clear e1 e2 e3 e4 e5 e6 eR h hm l4 l5 hlen r1 r2 r3 r4 h1 h2 h3 h4 h5
  go_enter Tryz.func71, Tryz.ntmps71
  go_upto_region 2 with (fail)
  rw [← noOp_is]
  have b1 : Below w.heap.size w ((w.alloc (.cells noOp.cells.toArray 53)).alloc (.cells noOp.cells.toArray 53)) := ((Below.refl _ _).alloc (Nat.le_refl _) _).alloc (by simp) _
  have h2 : VarC ((w.alloc (.cells noOp.cells.toArray 53)).alloc (.cells noOp.cells.toArray 53)) w.heap.size 53 noOp.cells := by
    unfold VarC
    rw [heap_alloc_old _ _ (by simp)]
    exact heap_alloc_new _ _
  have h3 : VarC ((w.alloc (.cells noOp.cells.toArray 53)).alloc (.cells noOp.cells.toArray 53)) (w.heap.size + 1) 53 noOp.cells := heap_alloc_at _ _ _ (by simp)
  revert b1 h2 h3
  generalize ((w.alloc (.cells noOp.cells.toArray 53)).alloc (.cells noOp.cells.toArray 53)) = w1
  intro b1 h2 h3
  have PS := Lib.hid (show PartSt w yb w.heap.size (w.heap.size + 1) 53 noOp.cells noOp.cells s w1 from ⟨h2, h3, H.out.below b1, But.of b1⟩)
  revert PS
  obtain ⟨g, hg⟩ : ∃ g, g = w.heap.size := ⟨_, rfl⟩
  rw [← hg]
  intro PS
  have hg2 : w.heap.size ≤ g := by omega
  have hg3 : w.heap.size ≤ g + 1 := by omega
  have hne : g ≠ g + 1 := by omega
  clear b1 h2 h3 H hg
  go_wp2_with fail
  refine (HU1.out _ PS.out.eye).mono ?_
  rintro e y2 ⟨rfl, he, hb⟩
  have PS := Lib.hid (PS.out.read (s' := s1) hyb hg2 hg3 he hb)
  clear he hb
  have cc : y2.cell? ⟨g + 1, 0, none⟩ = some (.int .i64 0) := by rw [PS.out.var.cell]; exact rfl
  have cf := PS.out.var.free 0
  go_upto_region 3 with (fail)
  have PS := Lib.hid (PS.out.set (by decide) hyb hg3 hne ((But.refl _ (g + 1) _).setCell ⟨g + 1, 0, none⟩ (.inl rfl) (.int .i64 z1)) (VarC.put1 (pre := []) (u := .int .i64 0) (post := (.int .i64 0 :: .int .i64 0 :: .int .i64 0 :: (cellsOf zero32 ++ [Value.slice none 0 0]) : List Value)) PS.out.var rfl))
  clear cc cf
  revert PS
  generalize World.setCell y2 _ _ = y3
  intro PS
  go_wp2_with fail
  refine (HU2.out _ PS.out.eye).mono ?_
  rintro e y4 ⟨rfl, he, hb⟩
  have PS := Lib.hid (PS.out.read (s' := s2) hyb hg2 hg3 he hb)
  clear he hb
  have cc : y4.cell? ⟨g + 1, 1, none⟩ = some (.int .i64 0) := by rw [PS.out.var.cell]; exact rfl
  have cf := PS.out.var.free 1
  go_upto_region 4 with (fail)
  have PS := Lib.hid (PS.out.set (by decide) hyb hg3 hne ((But.refl _ (g + 1) _).setCell ⟨g + 1, 1, none⟩ (.inl rfl) (.int .i64 z2)) (VarC.put1 (pre := [.int .i64 z1]) (u := .int .i64 0) (post := (.int .i64 0 :: .int .i64 0 :: (cellsOf zero32 ++ [Value.slice none 0 0]) : List Value)) PS.out.var rfl))
  clear cc cf
  revert PS
  generalize World.setCell y4 _ _ = y5
  intro PS
  go_wp2_with fail
  refine (HU3.out _ PS.out.eye).mono ?_
  rintro e y6 ⟨rfl, he, hb⟩
  have PS := Lib.hid (PS.out.read (s' := s3) hyb hg2 hg3 he hb)
  clear he hb
  have cc : y6.cell? ⟨g + 1, 2, none⟩ = some (.int .i64 0) := by rw [PS.out.var.cell]; exact rfl
  have cf := PS.out.var.free 2
  go_upto_region 5 with (fail)
  have PS := Lib.hid (PS.out.set (by decide) hyb hg3 hne ((But.refl _ (g + 1) _).setCell ⟨g + 1, 2, none⟩ (.inl rfl) (.int .i64 z3)) (VarC.put1 (pre := [.int .i64 z1, .int .i64 z2]) (u := .int .i64 0) (post := (.int .i64 0 :: (cellsOf zero32 ++ [Value.slice none 0 0]) : List Value)) PS.out.var rfl))
  clear cc cf
  revert PS
  generalize World.setCell y6 _ _ = y7
  intro PS
  go_wp2_with fail
  refine (HU4.out _ PS.out.eye).mono ?_
  rintro e y8 ⟨rfl, he, hb⟩
  have PS := Lib.hid (PS.out.read (s' := s4) hyb hg2 hg3 he hb)
  clear he hb
  have cc : y8.cell? ⟨g + 1, 3, none⟩ = some (.int .i64 0) := by rw [PS.out.var.cell]; exact rfl
  have cf := PS.out.var.free 3
  go_upto_region 6 with (fail)
  have PS := Lib.hid (PS.out.set (by decide) hyb hg3 hne ((But.refl _ (g + 1) _).setCell ⟨g + 1, 3, none⟩ (.inl rfl) (.int .i64 z4)) (VarC.put1 (pre := [.int .i64 z1, .int .i64 z2, .int .i64 z3]) (u := .int .i64 0) (post := (cellsOf zero32 ++ [Value.slice none 0 0] : List Value)) PS.out.var rfl))
  clear cc cf
  revert PS
  generalize World.setCell y8 _ _ = y9
  intro PS
  go_wp2_with fail
  refine (HS5.out _ PS.out.eye).mono ?_
  rintro e ya ⟨rfl, he, hb⟩
  have PS := Lib.hid (PS.out.read (s' := s5) hyb hg2 hg3 he hb)
  clear he hb
  have TH : Hid (ya.there (g + 1) 4 (cellsOf hs).toArray.size) := Lib.hid (PS.out.var.there (by rw [List.size_toArray, cellsOf_len, HLEN.out]; exact (by simp [noOp, POp.cells, cellsOf_len, zero32_len])))
  go_upto_region 7 with (refine wpList_store_mid rfl 23 _ _ rfl (g + 1) 4 (cellsOf hs).toArray rfl rfl TH.out SZ.out (all_oneCell_toArray (cellsOf_one hs)) ?_)
  have PS := Lib.hid (PS.out.set (by decide) hyb hg3 hne (but_setCells (cellsOf hs) 4 ya) (VarC.put (pre := [.int .i64 z1, .int .i64 z2, .int .i64 z3, .int .i64 z4]) (mid := cellsOf zero32) (post := [.slice none 0 0]) PS.out.var (by rw [cellsOf_len, cellsOf_len, HLEN.out]; exact zero32_len.symm) rfl))
  try simp only [List.toList_toArray]
  revert PS
  generalize World.setCells ya _ _ _ = yb5
  intro PS
  clear TH
  try simp only [Act.put]
  go_wp2_with fail
  refine (HT6.out _ PS.out.eye).mono ?_
  rintro e yc ⟨ta, tn, tc, rfl, hrow, hnew, he, hb, htag⟩
  have PS := Lib.hid (PS.out.read (s' := s6) hyb hg2 hg3 he hb)
  have HROW := Lib.hid hrow
  have HTAG := Lib.hid htag
  clear hrow hnew he hb htag
  have hv36 : VarC yc (g + 1) 53 ((.int .i64 z1 :: .int .i64 z2 :: .int .i64 z3 :: .int .i64 z4 :: cellsOf hs) ++ (.slice none 0 0 :: [])) := by have h9 := PS.out.var; simpa using h9
  have hl36 : (.int .i64 z1 :: .int .i64 z2 :: .int .i64 z3 :: .int .i64 z4 :: cellsOf hs : List Value).length = 36 := by simp [cellsOf_len, HLEN.out]
  have cc : yc.cell? ⟨g + 1, 36, none⟩ = some (.slice none 0 0) := by rw [hv36.cell, List.getElem?_append_right (by rw [hl36]; omega), hl36]; rfl
  have cf := PS.out.var.free 36
  have HV36 := Lib.hid hv36
  have HL36 := Lib.hid hl36
  clear hv36 hl36
  go_upto_region 8 with (fail)
  have h34 := row_typed HROW.out HTAG.out ((But.refl _ (g + 1) _).setCell ⟨g + 1, 36, none⟩ (.inl rfl) (.slice ta tn tc)) PS.out.var (by decide)
  have PS := Lib.hid (PS.out.set (by decide) hyb hg3 hne ((But.refl _ (g + 1) _).setCell ⟨g + 1, 36, none⟩ (.inl rfl) (.slice ta tn tc)) (VarC.put1 (v := .slice ta tn tc) HV36.out HL36.out))
  have HRT := Lib.hid h34
  clear cc cf h34 HROW HTAG HV36 HL36
  revert PS HRT
  generalize World.setCell yc _ _ = yd
  intro PS HRT
  obtain ⟨x, hx⟩ : ∃ x : POp, x = ⟨z1, z2, z3, z4, hs, ta, tn, tc, p⟩ := ⟨_, rfl⟩
  have hxc : x.cells = (.int .i64 z1 :: .int .i64 z2 :: .int .i64 z3 :: .int .i64 z4 :: cellsOf hs) ++ [.slice ta tn tc] := by rw [hx]; simp [POp.cells]
  rw [← hxc] at PS
  have hxi : OpT yd x := by rw [hx]; exact ⟨⟨F1.out, F2.out, F3.out, F4.out, HLEN.out, HRT.out.1⟩, HRT.out.2⟩
  have hst : x.strip = (opR s).1 := by rw [HER.out, hx]; rfl
  have HEY : Hid ((opR s).2 = s6) := Lib.hid (by rw [HER.out])
  have RX := Lib.hid PS.out.var.range
  have SX := Lib.hid (op_size hxi.1.root)
  have AX := Lib.hid (op_sizeA hxi.1.root)
  have ZX : Hid (noOp.cells.toArray.size = x.cells.toArray.size) := Lib.hid (by rw [List.size_toArray, List.size_toArray, POp.len hxi.1.root]; rfl)
  have HST := Lib.hid hst
  have HXI := Lib.hid hxi
  clear hx hxc hst hxi HER HRT
  go_wp2_with (first | (refine wpList_load_mid rfl 53 _ rfl (g + 1) 0 rfl x.cells _ RX.out Tryz.underlying53 rfl SX.out ?_) | (refine wpList_store_row rfl 53 _ _ rfl g x.cells.toArray rfl rfl 53 noOp.cells.toArray PS.out.res AX.out ZX.out (all_oneCell_toArray x.one) ?_) | fail)
  obtain ⟨q4, q5⟩ := PS.out.done (by decide) hyb hg2 (but_setRow yd g x.cells.toArray)
  refine bodyPost_ret (results_cell_row rfl _ _ g 53 x.cells.toArray (0, 0) _ rfl (setRow_heap yd g _ _ 53 _ PS.out.res) Tryz.underlying53 rfl AX.out) rfl ?_
  exact ⟨x, rfl, HXI.out.typed (but_setRow yd g x.cells.toArray) PS.out.res (by decide), HST.out, by rw [HEY.out]; exact q4, q5⟩
end Go.Proofs.YtcmdpmialehjgaaGreatDoor
namespace Go.Proofs.YtcmdpmialehjgaaGreatDoor
open Go.RowKit

theorem outR_m (s : List UInt8 × Int) : Fits (outR s).1.1 := by
  obtain ⟨s1, s2, s3, s4, m, n, xs, e1, e2, e3, e4, e⟩ := outR_parts s
  have hr := upR_range s (m := 1125899906842624) (by omega)
  rw [e1] at hr
  rw [e]
  split
  · exact ⟨by show _ ≤ m; dsimp only at hr; omega, by show m ≤ _; dsimp only at hr; omega⟩
  · show Fits 0
    constructor <;> decide
theorem pOutR_le (s : List UInt8 × Int) : (pOutR s).2.1.length ≤ s.1.length := outR_le s
def inS : SortAt Tryz.prog inK 50 76 where
  bytes := 72
  small := by decide
  ksmall := by decide
  zero := .agg noIn.cells.toArray
  under := Tryz.underlying50
  info := by kernel_rfl
  zsize := rfl
def outS : SortAt Tryz.prog outK 51 79 where
  bytes := 32
  small := by decide
  ksmall := by decide
  zero := .agg noOut.cells.toArray
  under := Tryz.underlying51
  info := by kernel_rfl
  zsize := rfl
def signS : SortAt Tryz.prog signK 54 143 where
  bytes := 40
  small := by decide
  ksmall := by decide
  zero := .agg noSign.cells.toArray
  under := Tryz.underlying54
  info := by kernel_rfl
  zsize := rfl
theorem noTx_is : noTx.cells.toArray = #[.slice none 0 0, .slice none 0 0, .int .i64 0, .int .i64 0, .int .i64 0, .int .i64 0, .int .u8 0, .int .u8 0, .int .u8 0, .int .u8 0, .int .u8 0, .int .u8 0, .int .u8 0, .int .u8 0, .int .u8 0, .int .u8 0, .int .u8 0, .int .u8 0, .int .u8 0, .int .u8 0, .int .u8 0, .int .u8 0, .int .u8 0, .int .u8 0, .int .u8 0, .int .u8 0, .int .u8 0, .int .u8 0, .int .u8 0, .int .u8 0, .int .u8 0, .int .u8 0, .int .u8 0, .int .u8 0, .int .u8 0, .int .u8 0, .int .u8 0, .int .u8 0, .slice none 0 0, .slice none 0 0] := rfl
theorem tx_var39 {w : World} {g : Nat} {x : PTx} (h : VarC w g 56 x.cells) (hr : x.op.root.length = 32) : w.cell? ⟨g, 39, none⟩ = some (.slice x.sa x.sn x.sc) := by
  have h9 := tx_signs hr h.range
  rw [Nat.zero_add] at h9
  exact h9
theorem noTx_in (w : World) : TxIn w noTx := ⟨SliceOf.nil _ _, SliceOf.nil _ _, ⟨⟨by decide, by decide⟩, ⟨by decide, by decide⟩, ⟨by decide, by decide⟩, ⟨by decide, by decide⟩, zero32_len, Row.nil _⟩, SliceOf.nil _ _⟩
/-- The result is written. -/
theorem ReadSt.final {w0 w w' : World} {yb g2 g5 : Nat} {x : PTx} {s : List UInt8 × Int} (h : ReadSt w0 yb g2 g5 x s w) (hB : w0.heap.size ≤ g2) (hb : But w.heap.size g2 w w') : TxIn w' x ∧ Below w0.heap.size w0 w' := by
  have hp := h.core.res
  refine ⟨⟨(h.ins.but hb (not_typed hp (by decide))).slice (fun y hy => ((h.core.inT y hy).typed hb hp (by decide)).1), (h.outs.but hb (not_typed hp (by decide))).slice (fun y hy => ((h.core.outT y hy).typed hb hp (by decide) (by decide)).1), (h.core.opT.typed hb hp (by decide)).1, (h.signs.but hb (not_typed hp (by decide))).slice h.core.signT⟩, h.core.but.trans ((hb.mono h.core.but.size).below hB)⟩
/-- A transaction whose rows bear their types: it stays where a variable of another type is written. -/
structure TypedTx (B : Nat) (w : World) (x : PTx) : Prop where
  ins : OwnOf inK 76 w B (.slice x.ia x.inn x.ic) x.ins
  outs : OwnOf outK 79 w B (.slice x.oa x.on x.oc) x.outs
  signs : OwnOf signK 143 w B (.slice x.sa x.sn x.sc) x.signs
  inT : ∀ y ∈ x.ins, InT w y
  outT : ∀ y ∈ x.outs, OutT w y
  opT : OpT w x.op
  signT : ∀ y ∈ x.signs, SignIn y
theorem TypedTx.in {B : Nat} {w : World} {x : PTx} (h : TypedTx B w x) : TxIn w x := ⟨h.ins.slice (fun y hy => (h.inT y hy).1), h.outs.slice (fun y hy => (h.outT y hy).1), h.opT.1, h.signs.slice h.signT⟩
theorem TypedTx.put {B p : Nat} {w w' : World} {x : PTx} {cs : Array Value} {t : TypeId} {fr : Nat × Nat} (h : TypedTx B w x) (hb : But w.heap.size p w w') (hp : w.heap[p]? = some (.cells cs t fr)) (h1 : t ≠ 76) (h2 : t ≠ 79) (h3 : t ≠ 143) (h4 : t ≠ 5) (h5 : t ≠ 3) (h6 : t ≠ 82) : TypedTx B w' x :=
  ⟨h.ins.but hb (not_typed hp h1), h.outs.but hb (not_typed hp h2), h.signs.but hb (not_typed hp h3), fun y hy => (h.inT y hy).typed hb hp h4, fun y hy => (h.outT y hy).typed hb hp h5 h6, h.opT.typed hb hp h4, h.signT⟩
theorem TypedTx.below {B : Nat} {w w' : World} {x : PTx} (h : TypedTx B w x) (hb : Below w.heap.size w w') : TypedTx B w' x :=
  ⟨h.ins.below hb, h.outs.below hb, h.signs.below hb, fun y hy => (h.inT y hy).below hb, fun y hy => (h.outT y hy).below hb, h.opT.below hb, h.signT⟩
theorem noTx_typed (B : Nat) (w : World) : TypedTx B w noTx := ⟨OwnOf.nil _ _ _ _, OwnOf.nil _ _ _ _, OwnOf.nil _ _ _ _, (fun _ h => by cases h), (fun _ h => by cases h), ⟨(noTx_in w).op, fun h => absurd h (by show ¬ 0 < 0; omega)⟩, (fun _ h => by cases h)⟩
theorem ReadSt.typed9 {w0 w w' : World} {yb g2 g5 : Nat} {x : PTx} {s : List UInt8 × Int} (h : ReadSt w0 yb g2 g5 x s w) (hb : But w.heap.size g2 w w') : TypedTx w0.heap.size w' x := by
  have hp := h.core.res
  exact ⟨h.ins.but hb (not_typed hp (by decide)), h.outs.but hb (not_typed hp (by decide)), h.signs.but hb (not_typed hp (by decide)), fun y hy => (h.core.inT y hy).typed hb hp (by decide), fun y hy => (h.core.outT y hy).typed hb hp (by decide) (by decide), h.core.opT.typed hb hp (by decide), h.core.signT⟩
/-- The error that is told of bytes. -/
def txE (b : List UInt8) : Int := if doneE (txR (b, 0)).2 = 0 then (if txOk (txR (b, 0)).1 = true then 0 else 4) else doneE (txR (b, 0)).2
/-- The same, with the error named. -/
def ReadTxE (w0 : World) (b : List UInt8) (r : Ending) (w' : World) : Prop :=
  ∃ (x : PTx) (E : Int), r = .returned (.tuple #[.agg x.cells.toArray, .int .i64 E]) ∧ TxIn w' x ∧ Below w0.heap.size w0 w' ∧ (E = 0 → txOk x = true ∧ txB x = b) ∧ (E ≠ 0 → x = noTx ∧ ∀ t : PTx, Lens t → txOk t = true → txB t ≠ b) ∧ E = txE b ∧ TypedTx w0.heap.size w' x
theorem txE_bad {b : List UInt8} {q : PTx} {s : List UInt8 × Int} {E : Int} (hR : txR (b, 0) = (q, s)) (h : doneE s = E) (h0 : E ≠ 0) : E = txE b := by
  unfold txE
  rw [hR]
  show E = if doneE s = 0 then _ else doneE s
  rw [h, if_neg h0]
theorem txE_done {w : World} {b : List UInt8} {q x : PTx} (hR : txR (b, 0) = (q, ([], 0))) (hx : TxIn w x) (hq : x.strip = q) : txE b = if txOk x = true then 0 else 4 := by
  unfold txE
  rw [hR]
  show (if doneE ([], 0) = 0 then (if txOk q = true then (0 : Int) else 4) else _) = _
  rw [if_pos (show doneE ([], 0) = 0 from rfl), ← hq, txOk_strip hx.lens]
/-- How it ends, plainly. -/
theorem read_bad {b : List UInt8} {q : PTx} {s : List UInt8 × Int} (hR : txR (b, 0) = (q, s)) (h : doneE s ≠ 0) : ∀ t : PTx, Lens t → txOk t = true → txB t ≠ b := fun t hl hk e => by
  have h9 := txR_put hl hk
  rw [e, hR] at h9
  cases h9
  exact h rfl
theorem read_wrong {w : World} {b : List UInt8} {q x : PTx} {s : List UInt8 × Int} (hR : txR (b, 0) = (q, s)) (hx : TxIn w x) (hq : x.strip = q) (h : txOk x = false) : ∀ t : PTx, Lens t → txOk t = true → txB t ≠ b := fun t hl hk e => by
  have h9 := txR_put hl hk
  rw [e, hR] at h9
  obtain ⟨h8, _⟩ := Prod.mk.inj h9
  have h7 := txOk_strip hx.lens
  rw [hq, h8, txOk_strip hl, hk, h] at h7
  cases h7
theorem read_good {b : List UInt8} {q x : PTx} (hR : txR (b, 0) = (q, ([], 0))) (hq : x.strip = q) : txB x = b := by
  have h9 := (txR_ok (s := (b, 0)) (by rw [hR])).2
  rw [hR] at h9
  dsimp only at h9
  rw [List.append_nil, ← hq, txB_strip] at h9
  exact h9.symm
set_option linter.unusedSimpArgs false in
set_option maxRecDepth 100000 in
set_option maxHeartbeats 25600000 in
theorem txReadE_any {w : World} {a : Option Addr} {n c : Nat} {b : List UInt8} (h : Row w a n c b) (hn : n ≤ 1000000) :
    Calls Tryz.prog 49 #[.slice a n c] w (ReadTxE w b) := by
  obtain ⟨s1, s2, s3, s4, s5, s6, s7, n1, n2, n3, qi, qo, qp, qs, e1, e2, e3, e4, e5, e6, e7, eR, m1, m2, m3⟩ := txR_parts (b, 0)
  have hbl : b.length ≤ 140737488355328 := by rw [h.1]; omega
  have l1 := upR_le (b, 0) 16
  have l2 := listR_le inR_le s1 n1
  have l3 := upR_le s2 16
  have l4 := listR_le pOutR_le s3 n2
  have l5 := opR_le s4
  have l6 := upR_le s5 16
  rw [e1] at l1
  rw [e2] at l2
  rw [e3] at l3
  rw [e4] at l4
  rw [e5] at l5
  rw [e6] at l6
  dsimp only at l1 l2 l3 l4 l5 l6
  have HLs1 : Hid (s1.1.length ≤ 140737488355328) := Lib.hid (Nat.le_trans l1 hbl)
  have HLs3 : Hid (s3.1.length ≤ 140737488355328) := Lib.hid (Nat.le_trans l3 (Nat.le_trans l2 HLs1.out))
  have HLs4 : Hid (s4.1.length ≤ 140737488355328) := Lib.hid (Nat.le_trans l4 HLs3.out)
  have HLs6 : Hid (s6.1.length ≤ 140737488355328) := Lib.hid (Nat.le_trans l6 (Nat.le_trans l5 HLs4.out))
  have HU1 := Lib.hid (fun (W : World) (yb : Nat) (hW : EyeAt W yb b 0) => by have h9 := upto_st (s := (b, 0)) 16 hW; rw [e1] at h9; exact h9)
  have HU3 := Lib.hid (fun (W : World) (yb : Nat) (hW : EyeAt W yb s2.1 s2.2) => by have h9 := upto_st 16 hW; rw [e3] at h9; exact h9)
  have HU6 := Lib.hid (fun (W : World) (yb : Nat) (hW : EyeAt W yb s5.1 s5.2) => by have h9 := upto_st 16 hW; rw [e6] at h9; exact h9)
  have HE2 := Lib.hid e2
  have HE4 := Lib.hid e4
  have HE5 := Lib.hid e5
  have HE7 := Lib.hid e7
  have HER := Lib.hid eR
  have HLK := Lib.hid (fun (W : World) (hW : Below w.heap.size w W) => look_any (h.below hW) (by omega))
  have SZ0 : Hid ((Tryz.prog.info? 56).map (·.size) = some noTx.cells.toArray.size) := Lib.hid (tx_sizeA zero32_len)
  have hm1 : (n1 : Int) ≤ 16 := by omega
  have hm2 : (n2 : Int) ≤ 16 := by omega
  have hm3 : (n3 : Int) ≤ 16 := by omega
  clear e1 e2 e3 e4 e5 e6 e7 eR l1 l2 l3 l4 l5 l6 hbl h
  go_enter Tryz.func49, Tryz.ntmps49
  go_upto_region 1 with (fail)
  rw [← noTx_is]
  have b1 : Below w.heap.size w (w.alloc (.cells noTx.cells.toArray 56)) := (Below.refl _ _).alloc (Nat.le_refl _) _
  have h1 : VarC (w.alloc (.cells noTx.cells.toArray 56)) w.heap.size 56 noTx.cells := heap_alloc_new w (.cells noTx.cells.toArray 56)
  revert b1 h1
  generalize (w.alloc (.cells noTx.cells.toArray 56)) = w1
  obtain ⟨g2, hg2⟩ : ∃ g, g = w.heap.size := ⟨_, rfl⟩
  rw [← hg2]
  intro b1 h1
  rw [hg2] at b1
  have hB2 : w.heap.size ≤ g2 := by omega
  have HB1 := Lib.hid b1
  have H1 := Lib.hid h1
  clear b1 h1 hg2
  go_wp2_with fail
  refine (HLK.out _ HB1.out).mono ?_
  rintro e w2 ⟨yb, rfl, hyb1, he2, hb2⟩
  have hyb : w.heap.size ≤ yb := Nat.le_trans HB1.out.size hyb1
  have HE := Lib.hid he2
  have H2 := Lib.hid (H1.out.below hb2)
  have HB2 := Lib.hid (HB1.out.trans (hb2.mono HB1.out.size))
  clear he2 hb2 hyb1 HLK HB1 H1
  go_upto_region 3 with (fail)
  rw [← noTx_is]
  have b3 : Below w2.heap.size w2 (w2.alloc (.cells noTx.cells.toArray 56)) := (Below.refl _ _).alloc (Nat.le_refl _) _
  have h3 : VarC (w2.alloc (.cells noTx.cells.toArray 56)) w2.heap.size 56 noTx.cells := heap_alloc_new w2 (.cells noTx.cells.toArray 56)
  revert b3 h3
  generalize (w2.alloc (.cells noTx.cells.toArray 56)) = w3
  obtain ⟨g5, hg5⟩ : ∃ g, g = w2.heap.size := ⟨_, rfl⟩
  rw [← hg5]
  intro b3 h3
  rw [hg5] at b3
  have hgg : g5 ≠ g2 := by have := H2.out.lt; omega
  have hB5 : w.heap.size ≤ g5 := by have := HB2.out.size; omega
  have RS : Hid (ReadSt w yb g2 g5 noTx (b, 0) w3) := Lib.hid ⟨OwnOf.nil _ _ _ _, OwnOf.nil _ _ _ _, OwnOf.nil _ _ _ _, h3, ⟨(fun y hy => by cases hy), (fun y hy => by cases hy), ⟨(noTx_in w3).op, Tag.zero _ _⟩, (fun y hy => by cases hy), H2.out.below b3, HE.out.below b3, HB2.out.trans (b3.mono HB2.out.size)⟩⟩
  clear b3 h3 hg5 HE H2 HB2
  go_wp2_with fail
  refine (HU1.out _ _ RS.out.core.eye).mono ?_
  rintro e w4 ⟨rfl, he, hb⟩
  have RS := Lib.hid (RS.out.read (s' := s1) hyb he hb)
  clear he hb HU1
  go_wp2_with fail
  go_loopw [11] (fun i wr => ∃ (k : Nat) (x : PTx) (st : List UInt8 × Int), k ≤ n1 ∧ i = .int .i64 k ∧ x.ins.map PIn.strip = (listR inR k s1).1 ∧ (listR inR k s1).2 = st ∧ x.ins.length = k ∧ x.outs = [] ∧ x.op = noOp ∧ x.signs = [] ∧ ReadSt w yb g2 g5 x st wr) (fun i _ => n1 - (intOf i).toNat)
  case atStart => exact ⟨0, _, _, Nat.zero_le _, rfl, rfl, rfl, rfl, rfl, rfl, rfl, RS.out⟩
  case round =>
    obtain ⟨k, x, st, hk, rfl, hmap, hst, hkl, ho, hop, hsg, hRS⟩ := hrel
    have RS := Lib.hid hRS
    have HMAP := Lib.hid hmap
    have HST := Lib.hid hst
    have HKL := Lib.hid hkl
    have HO := Lib.hid ho
    have HOP := Lib.hid hop
    have HSG := Lib.hid hsg
    clear hmap hst hkl hRS ho hop hsg
    by_cases hkn : k < n1
    · have f1 : (k : Int) < (n1 : Int) := by omega
      have f0 : (0 : Int) ≤ (k : Int) := by omega
      obtain ⟨q, st', hq⟩ : ∃ q st', inR st = (q, st') := ⟨_, _, rfl⟩
      have HLE : Hid (st.1.length ≤ 140737488355328) := Lib.hid (by rw [← HST.out]; exact Nat.le_trans (listR_le inR_le s1 k) HLs1.out)
      have NX1 : Hid ((listR inR (k + 1) s1).1 = (listR inR k s1).1 ++ [q]) := Lib.hid (by rw [listR, HST.out, hq])
      have NX2 : Hid ((listR inR (k + 1) s1).2 = st') := Lib.hid (by rw [listR, HST.out, hq])
      have HW := Lib.hid hq
      clear hq HST
      go_upto_region 5 with (fail)
      refine wp_region_held_drew (S := fun _ => True) (by kernel_rfl) (True.intro) (fun hHeld => ?_)
      refine tkP 0 rfl rfl ?_
      refine tkP 2 rfl rfl ?_
      have RS := Lib.hid (RS.out.more (w' := wr.drew) (below_drew (Below.refl _ _)))
      refine wpAnyH_ready (rs := [1, 3]) (by kernel_rfl) (by simp) ?_
      refine AllReadyH.cons rfl (fun K hK => ?_) ?_
      · refine step_cell (d := 14) rfl (by rfl) 50 _ rfl g5 0 rfl (.slice x.ia x.inn x.ic) (by rw [RS.out.var.cell]; rfl) (Tryz.isAgg50 _) ?_
        refine hK.out _ _ (by (try dsimp only); all_goals exact True.intro) (fun hHeld => ?_)
        clear hK K
        refine tkR 3 rfl (fun K hK => ?_)
        go_simp
        go_wp2_with ((go_at_call 69; (with_reducible refine (getIn_st RS.out.core.eye HLE.out).mono ?_); rintro e y3a ⟨y, rfl, hyt, hys, he, hb⟩; rw [HW.out] at he hys; have RS := Lib.hid (RS.out.read (s' := st') hyb he hb); have HYT := Lib.hid hyt; have HYS := Lib.hid hys; clear he hb hyt hys))
        refine hK.out _ _ (by (try dsimp only); all_goals exact True.intro) (fun hHeld => ?_)
        clear hK K
        refine tkR 4 rfl (fun K hK => ?_)
        refine step_lit_of inS (d := 17) (x := y) rfl (by rfl) rfl (by rfl) (PIn.len HYT.out.1.tx) ?_
        intro p y4a hpp hlit hbl
        have RS := Lib.hid (RS.out.more hbl)
        have LIT := Lib.hid hlit
        have HYT0 := HYT
        have HYT := Lib.hid (HYT0.out.below hbl)
        clear HYT0
        clear hlit hbl hpp
        refine hK.out _ _ (by (try dsimp only); all_goals exact True.intro) (fun hHeld => ?_)
        clear hK K
        refine tkR 5 rfl (fun K hK => ?_)
        refine step_append_of inS (d := 18) rfl (by rfl) _ _ rfl rfl w.heap.size (.slice x.ia x.inn x.ic) x.ins (by rfl) RS.out.ins p y (by rfl) LIT.out (PIn.len HYT.out.1.tx) (by rw [HKL.out]; omega) RS.out.core.but.size ?_
        intro a' c' y5 ho hgr
        rw [HKL.out] at ho ⊢
        obtain ⟨hv, hrs⟩ := RS.out.addIn hgg hB5 HYT.out ho hgr
        have HV := Lib.hid hv
        have RS := Lib.hid hrs
        clear hv hrs ho hgr
        refine hK.out _ _ (by (try dsimp only); all_goals exact True.intro) (fun hHeld => ?_)
        clear hK K
        refine tkP 6 rfl rfl ?_
        refine tkR 7 rfl (fun K hK => ?_)
        refine step_store_cell (by rfl) 50 _ _ rfl g5 0 (by rfl) (.slice a' (k + 1) c') (by rfl) (.slice x.ia x.inn x.ic) (by rw [HV.out.cell]; rfl) (HV.out.free 0) (by kernel_rfl) rfl ?_
        refine hK.out _ _ (by (try dsimp only); all_goals exact True.intro) (fun hHeld => ?_)
        clear hK K
        refine wpAnyH_done (by kernel_rfl) ?_ _
        clear hHeld HV
        revert RS
        generalize World.setCell y5 _ _ = y7
        intro RS
        have HMP : Hid ((x.ins ++ [y]).map PIn.strip = (listR inR (k + 1) s1).1) := Lib.hid (by rw [NX1.out, ← HMAP.out, ← HYS.out]; simp)
        go_wp2_with fail
        go_roundw
        case rel => exact ⟨k + 1, { x with ia := a', inn := k + 1, ic := c', ins := x.ins ++ [y] }, st', by omega, by go_num, HMP.out, NX2.out, by simp [HKL.out], HO.out, HOP.out, HSG.out, RS.out⟩
        case measure => simp [intOf]; omega
      refine AllReadyH.cons rfl (fun K hK => ?_) ?_
      · go_simp
        go_wp2_with ((go_at_call 69; (with_reducible refine (getIn_st RS.out.core.eye HLE.out).mono ?_); rintro e y3b ⟨y, rfl, hyt, hys, he, hb⟩; rw [HW.out] at he hys; have RS := Lib.hid (RS.out.read (s' := st') hyb he hb); have HYT := Lib.hid hyt; have HYS := Lib.hid hys; clear he hb hyt hys))
        refine hK.out _ _ (by (try dsimp only); all_goals exact True.intro) (fun hHeld => ?_)
        clear hK K
        refine wpAnyH_ready (rs := [1, 4]) (by kernel_rfl) (by simp) ?_
        refine AllReadyH.cons rfl (fun K hK => ?_) ?_
        · refine step_cell (d := 14) rfl (by rfl) 50 _ rfl g5 0 rfl (.slice x.ia x.inn x.ic) (by rw [RS.out.var.cell]; rfl) (Tryz.isAgg50 _) ?_
          refine hK.out _ _ (by (try dsimp only); all_goals exact True.intro) (fun hHeld => ?_)
          clear hK K
          refine tkR 4 rfl (fun K hK => ?_)
          refine step_lit_of inS (d := 17) (x := y) rfl (by rfl) rfl (by rfl) (PIn.len HYT.out.1.tx) ?_
          intro p y4a hpp hlit hbl
          have RS := Lib.hid (RS.out.more hbl)
          have LIT := Lib.hid hlit
          have HYT0 := HYT
          have HYT := Lib.hid (HYT0.out.below hbl)
          clear HYT0
          clear hlit hbl hpp
          refine hK.out _ _ (by (try dsimp only); all_goals exact True.intro) (fun hHeld => ?_)
          clear hK K
          refine tkR 5 rfl (fun K hK => ?_)
          refine step_append_of inS (d := 18) rfl (by rfl) _ _ rfl rfl w.heap.size (.slice x.ia x.inn x.ic) x.ins (by rfl) RS.out.ins p y (by rfl) LIT.out (PIn.len HYT.out.1.tx) (by rw [HKL.out]; omega) RS.out.core.but.size ?_
          intro a' c' y5 ho hgr
          rw [HKL.out] at ho ⊢
          obtain ⟨hv, hrs⟩ := RS.out.addIn hgg hB5 HYT.out ho hgr
          have HV := Lib.hid hv
          have RS := Lib.hid hrs
          clear hv hrs ho hgr
          refine hK.out _ _ (by (try dsimp only); all_goals exact True.intro) (fun hHeld => ?_)
          clear hK K
          refine tkP 6 rfl rfl ?_
          refine tkR 7 rfl (fun K hK => ?_)
          refine step_store_cell (by rfl) 50 _ _ rfl g5 0 (by rfl) (.slice a' (k + 1) c') (by rfl) (.slice x.ia x.inn x.ic) (by rw [HV.out.cell]; rfl) (HV.out.free 0) (by kernel_rfl) rfl ?_
          refine hK.out _ _ (by (try dsimp only); all_goals exact True.intro) (fun hHeld => ?_)
          clear hK K
          refine wpAnyH_done (by kernel_rfl) ?_ _
          clear hHeld HV
          revert RS
          generalize World.setCell y5 _ _ = y7
          intro RS
          have HMP : Hid ((x.ins ++ [y]).map PIn.strip = (listR inR (k + 1) s1).1) := Lib.hid (by rw [NX1.out, ← HMAP.out, ← HYS.out]; simp)
          go_wp2_with fail
          go_roundw
          case rel => exact ⟨k + 1, { x with ia := a', inn := k + 1, ic := c', ins := x.ins ++ [y] }, st', by omega, by go_num, HMP.out, NX2.out, by simp [HKL.out], HO.out, HOP.out, HSG.out, RS.out⟩
          case measure => simp [intOf]; omega
        refine AllReadyH.cons rfl (fun K hK => ?_) ?_
        · refine step_lit_of inS (d := 17) (x := y) rfl (by rfl) rfl (by rfl) (PIn.len HYT.out.1.tx) ?_
          intro p y4b hpp hlit hbl
          have RS := Lib.hid (RS.out.more hbl)
          have LIT := Lib.hid hlit
          have HYT0 := HYT
          have HYT := Lib.hid (HYT0.out.below hbl)
          clear HYT0
          clear hlit hbl hpp
          refine hK.out _ _ (by (try dsimp only); all_goals exact True.intro) (fun hHeld => ?_)
          clear hK K
          refine tkR 1 rfl (fun K hK => ?_)
          refine step_cell (d := 14) rfl (by rfl) 50 _ rfl g5 0 rfl (.slice x.ia x.inn x.ic) (by rw [RS.out.var.cell]; rfl) (Tryz.isAgg50 _) ?_
          refine hK.out _ _ (by (try dsimp only); all_goals exact True.intro) (fun hHeld => ?_)
          clear hK K
          refine tkR 5 rfl (fun K hK => ?_)
          refine step_append_of inS (d := 18) rfl (by rfl) _ _ rfl rfl w.heap.size (.slice x.ia x.inn x.ic) x.ins (by rfl) RS.out.ins p y (by rfl) LIT.out (PIn.len HYT.out.1.tx) (by rw [HKL.out]; omega) RS.out.core.but.size ?_
          intro a' c' y5 ho hgr
          rw [HKL.out] at ho ⊢
          obtain ⟨hv, hrs⟩ := RS.out.addIn hgg hB5 HYT.out ho hgr
          have HV := Lib.hid hv
          have RS := Lib.hid hrs
          clear hv hrs ho hgr
          refine hK.out _ _ (by (try dsimp only); all_goals exact True.intro) (fun hHeld => ?_)
          clear hK K
          refine tkP 6 rfl rfl ?_
          refine tkR 7 rfl (fun K hK => ?_)
          refine step_store_cell (by rfl) 50 _ _ rfl g5 0 (by rfl) (.slice a' (k + 1) c') (by rfl) (.slice x.ia x.inn x.ic) (by rw [HV.out.cell]; rfl) (HV.out.free 0) (by kernel_rfl) rfl ?_
          refine hK.out _ _ (by (try dsimp only); all_goals exact True.intro) (fun hHeld => ?_)
          clear hK K
          refine wpAnyH_done (by kernel_rfl) ?_ _
          clear hHeld HV
          revert RS
          generalize World.setCell y5 _ _ = y7
          intro RS
          have HMP : Hid ((x.ins ++ [y]).map PIn.strip = (listR inR (k + 1) s1).1) := Lib.hid (by rw [NX1.out, ← HMAP.out, ← HYS.out]; simp)
          go_wp2_with fail
          go_roundw
          case rel => exact ⟨k + 1, { x with ia := a', inn := k + 1, ic := c', ins := x.ins ++ [y] }, st', by omega, by go_num, HMP.out, NX2.out, by simp [HKL.out], HO.out, HOP.out, HSG.out, RS.out⟩
          case measure => simp [intOf]; omega
        exact AllReadyH.nil
      exact AllReadyH.nil
    · obtain rfl : k = n1 := by omega
      have f1 : ¬ ((k : Int) < (k : Int)) := by omega
      obtain ⟨hi2, rfl⟩ : x.ins.map PIn.strip = qi ∧ st = s2 := by
        have h9 := HE2.out
        have h8 := HMAP.out
        have h7 := HST.out
        rw [h9] at h8 h7
        exact ⟨h8, h7.symm⟩
      have HI := Lib.hid hi2
      clear hi2 HMAP HST HE2 HKL
      go_wp2_with fail
      refine (HU3.out _ _ RS.out.core.eye).mono ?_
      rintro e w6 ⟨rfl, he, hb⟩
      have RS := Lib.hid (RS.out.read (s' := s3) hyb he hb)
      clear he hb HU3
      go_wp2_with fail
      go_loopw [23] (fun i wr => ∃ (k : Nat) (x : PTx) (st : List UInt8 × Int), k ≤ n2 ∧ i = .int .i64 k ∧ x.outs.map POut.strip = (listR pOutR k s3).1 ∧ (listR pOutR k s3).2 = st ∧ x.outs.length = k ∧ x.ins.map PIn.strip = qi ∧ x.op = noOp ∧ x.signs = [] ∧ ReadSt w yb g2 g5 x st wr) (fun i _ => n2 - (intOf i).toNat)
      case atStart => exact ⟨0, _, _, Nat.zero_le _, rfl, by rw [HO.out]; rfl, rfl, by rw [HO.out]; rfl, HI.out, HOP.out, HSG.out, RS.out⟩
      case round =>
        obtain ⟨k, x, st, hk, rfl, hmap, hst, hkl, hi, hop, hsg, hRS⟩ := hrel
        have RS := Lib.hid hRS
        have HMAP := Lib.hid hmap
        have HST := Lib.hid hst
        have HKL := Lib.hid hkl
        have HI := Lib.hid hi
        have HOP := Lib.hid hop
        have HSG := Lib.hid hsg
        clear hmap hst hkl hRS hi hop hsg
        by_cases hkn : k < n2
        · have f1 : (k : Int) < (n2 : Int) := by omega
          have f0 : (0 : Int) ≤ (k : Int) := by omega
          obtain ⟨q, st', hq⟩ : ∃ q st', pOutR st = (q, st') := ⟨_, _, rfl⟩
          have HLE : Hid (st.1.length ≤ 140737488355328) := Lib.hid (by rw [← HST.out]; exact Nat.le_trans (listR_le pOutR_le s3 k) HLs3.out)
          have NX1 : Hid ((listR pOutR (k + 1) s3).1 = (listR pOutR k s3).1 ++ [q]) := Lib.hid (by rw [listR, HST.out, hq])
          have NX2 : Hid ((listR pOutR (k + 1) s3).2 = st') := Lib.hid (by rw [listR, HST.out, hq])
          have HW := Lib.hid hq
          clear hq HST
          go_upto_region 9 with (fail)
          refine wp_region_held_drew (S := fun _ => True) (by kernel_rfl) (True.intro) (fun hHeld => ?_)
          refine tkP 0 rfl rfl ?_
          refine tkP 2 rfl rfl ?_
          have RS := Lib.hid (RS.out.more (w' := wr.drew) (below_drew (Below.refl _ _)))
          refine wpAnyH_ready (rs := [1, 3]) (by kernel_rfl) (by simp) ?_
          refine AllReadyH.cons rfl (fun K hK => ?_) ?_
          · refine step_cell (d := 26) rfl (by rfl) 51 _ rfl g5 1 rfl (.slice x.oa x.on x.oc) (by rw [RS.out.var.cell]; rfl) (Tryz.isAgg51 _) ?_
            refine hK.out _ _ (by (try dsimp only); all_goals exact True.intro) (fun hHeld => ?_)
            clear hK K
            refine tkR 3 rfl (fun K hK => ?_)
            go_simp
            go_wp2_with ((go_at_call 70; (with_reducible refine (lockGet_tag RS.out.core.eye HLE.out).mono ?_); rintro e y3a ⟨a9, n9, c9, xs9, rfl, hws, hky, _, hmp, he, hb, htg⟩; obtain ⟨y, hy⟩ : ∃ y : POut, y = ⟨(outR st).1.1, a9, n9, c9, xs9⟩ := ⟨_, rfl⟩; have hyt : OutT y3a y := (by rw [hy]; exact ⟨⟨outR_m st, hws⟩, fun z hz => (hky z hz).1, htg⟩); have hys : y.strip = (pOutR st).1 := (by rw [hy]; unfold POut.strip pOutR; dsimp only; rw [← hmp, List.length_map]); rw [show (Value.agg #[Value.int .i64 (outR st).1.1, .slice a9 n9 c9]) = .agg y.cells.toArray by rw [hy]; rfl]; clear hy hws hky hmp htg; replace he : EyeAt y3a yb (pOutR st).2.1 (pOutR st).2.2 := he; rw [HW.out] at he hys; have RS := Lib.hid (RS.out.read (s' := st') hyb he hb); have HYT := Lib.hid hyt; have HYS := Lib.hid hys; clear he hb hyt hys))
            refine hK.out _ _ (by (try dsimp only); all_goals exact True.intro) (fun hHeld => ?_)
            clear hK K
            refine tkR 4 rfl (fun K hK => ?_)
            refine step_lit_of outS (d := 29) (x := y) rfl (by rfl) rfl (by rfl) (rfl) ?_
            intro p y4a hpp hlit hbl
            have RS := Lib.hid (RS.out.more hbl)
            have LIT := Lib.hid hlit
            have HYT0 := HYT
            have HYT := Lib.hid (HYT0.out.below hbl)
            clear HYT0
            clear hlit hbl hpp
            refine hK.out _ _ (by (try dsimp only); all_goals exact True.intro) (fun hHeld => ?_)
            clear hK K
            refine tkR 5 rfl (fun K hK => ?_)
            refine step_append_of outS (d := 30) rfl (by rfl) _ _ rfl rfl w.heap.size (.slice x.oa x.on x.oc) x.outs (by rfl) RS.out.outs p y (by rfl) LIT.out (rfl) (by rw [HKL.out]; omega) RS.out.core.but.size ?_
            intro a' c' y5 ho hgr
            rw [HKL.out] at ho ⊢
            obtain ⟨hv, hrs⟩ := RS.out.addOut hgg hB5 HYT.out ho hgr
            have HV := Lib.hid hv
            have RS := Lib.hid hrs
            clear hv hrs ho hgr
            refine hK.out _ _ (by (try dsimp only); all_goals exact True.intro) (fun hHeld => ?_)
            clear hK K
            refine tkP 6 rfl rfl ?_
            refine tkR 7 rfl (fun K hK => ?_)
            refine step_store_cell (by rfl) 51 _ _ rfl g5 1 (by rfl) (.slice a' (k + 1) c') (by rfl) (.slice x.oa x.on x.oc) (by rw [HV.out.cell]; rfl) (HV.out.free 1) (by kernel_rfl) rfl ?_
            refine hK.out _ _ (by (try dsimp only); all_goals exact True.intro) (fun hHeld => ?_)
            clear hK K
            refine wpAnyH_done (by kernel_rfl) ?_ _
            clear hHeld HV
            revert RS
            generalize World.setCell y5 _ _ = y7
            intro RS
            have HMP : Hid ((x.outs ++ [y]).map POut.strip = (listR pOutR (k + 1) s3).1) := Lib.hid (by rw [NX1.out, ← HMAP.out, ← HYS.out]; simp)
            go_wp2_with fail
            go_roundw
            case rel => exact ⟨k + 1, { x with oa := a', on := k + 1, oc := c', outs := x.outs ++ [y] }, st', by omega, by go_num, HMP.out, NX2.out, by simp [HKL.out], HI.out, HOP.out, HSG.out, RS.out⟩
            case measure => simp [intOf]; omega
          refine AllReadyH.cons rfl (fun K hK => ?_) ?_
          · go_simp
            go_wp2_with ((go_at_call 70; (with_reducible refine (lockGet_tag RS.out.core.eye HLE.out).mono ?_); rintro e y3b ⟨a9, n9, c9, xs9, rfl, hws, hky, _, hmp, he, hb, htg⟩; obtain ⟨y, hy⟩ : ∃ y : POut, y = ⟨(outR st).1.1, a9, n9, c9, xs9⟩ := ⟨_, rfl⟩; have hyt : OutT y3b y := (by rw [hy]; exact ⟨⟨outR_m st, hws⟩, fun z hz => (hky z hz).1, htg⟩); have hys : y.strip = (pOutR st).1 := (by rw [hy]; unfold POut.strip pOutR; dsimp only; rw [← hmp, List.length_map]); rw [show (Value.agg #[Value.int .i64 (outR st).1.1, .slice a9 n9 c9]) = .agg y.cells.toArray by rw [hy]; rfl]; clear hy hws hky hmp htg; replace he : EyeAt y3b yb (pOutR st).2.1 (pOutR st).2.2 := he; rw [HW.out] at he hys; have RS := Lib.hid (RS.out.read (s' := st') hyb he hb); have HYT := Lib.hid hyt; have HYS := Lib.hid hys; clear he hb hyt hys))
            refine hK.out _ _ (by (try dsimp only); all_goals exact True.intro) (fun hHeld => ?_)
            clear hK K
            refine wpAnyH_ready (rs := [1, 4]) (by kernel_rfl) (by simp) ?_
            refine AllReadyH.cons rfl (fun K hK => ?_) ?_
            · refine step_cell (d := 26) rfl (by rfl) 51 _ rfl g5 1 rfl (.slice x.oa x.on x.oc) (by rw [RS.out.var.cell]; rfl) (Tryz.isAgg51 _) ?_
              refine hK.out _ _ (by (try dsimp only); all_goals exact True.intro) (fun hHeld => ?_)
              clear hK K
              refine tkR 4 rfl (fun K hK => ?_)
              refine step_lit_of outS (d := 29) (x := y) rfl (by rfl) rfl (by rfl) (rfl) ?_
              intro p y4a hpp hlit hbl
              have RS := Lib.hid (RS.out.more hbl)
              have LIT := Lib.hid hlit
              have HYT0 := HYT
              have HYT := Lib.hid (HYT0.out.below hbl)
              clear HYT0
              clear hlit hbl hpp
              refine hK.out _ _ (by (try dsimp only); all_goals exact True.intro) (fun hHeld => ?_)
              clear hK K
              refine tkR 5 rfl (fun K hK => ?_)
              refine step_append_of outS (d := 30) rfl (by rfl) _ _ rfl rfl w.heap.size (.slice x.oa x.on x.oc) x.outs (by rfl) RS.out.outs p y (by rfl) LIT.out (rfl) (by rw [HKL.out]; omega) RS.out.core.but.size ?_
              intro a' c' y5 ho hgr
              rw [HKL.out] at ho ⊢
              obtain ⟨hv, hrs⟩ := RS.out.addOut hgg hB5 HYT.out ho hgr
              have HV := Lib.hid hv
              have RS := Lib.hid hrs
              clear hv hrs ho hgr
              refine hK.out _ _ (by (try dsimp only); all_goals exact True.intro) (fun hHeld => ?_)
              clear hK K
              refine tkP 6 rfl rfl ?_
              refine tkR 7 rfl (fun K hK => ?_)
              refine step_store_cell (by rfl) 51 _ _ rfl g5 1 (by rfl) (.slice a' (k + 1) c') (by rfl) (.slice x.oa x.on x.oc) (by rw [HV.out.cell]; rfl) (HV.out.free 1) (by kernel_rfl) rfl ?_
              refine hK.out _ _ (by (try dsimp only); all_goals exact True.intro) (fun hHeld => ?_)
              clear hK K
              refine wpAnyH_done (by kernel_rfl) ?_ _
              clear hHeld HV
              revert RS
              generalize World.setCell y5 _ _ = y7
              intro RS
              have HMP : Hid ((x.outs ++ [y]).map POut.strip = (listR pOutR (k + 1) s3).1) := Lib.hid (by rw [NX1.out, ← HMAP.out, ← HYS.out]; simp)
              go_wp2_with fail
              go_roundw
              case rel => exact ⟨k + 1, { x with oa := a', on := k + 1, oc := c', outs := x.outs ++ [y] }, st', by omega, by go_num, HMP.out, NX2.out, by simp [HKL.out], HI.out, HOP.out, HSG.out, RS.out⟩
              case measure => simp [intOf]; omega
            refine AllReadyH.cons rfl (fun K hK => ?_) ?_
            · refine step_lit_of outS (d := 29) (x := y) rfl (by rfl) rfl (by rfl) (rfl) ?_
              intro p y4b hpp hlit hbl
              have RS := Lib.hid (RS.out.more hbl)
              have LIT := Lib.hid hlit
              have HYT0 := HYT
              have HYT := Lib.hid (HYT0.out.below hbl)
              clear HYT0
              clear hlit hbl hpp
              refine hK.out _ _ (by (try dsimp only); all_goals exact True.intro) (fun hHeld => ?_)
              clear hK K
              refine tkR 1 rfl (fun K hK => ?_)
              refine step_cell (d := 26) rfl (by rfl) 51 _ rfl g5 1 rfl (.slice x.oa x.on x.oc) (by rw [RS.out.var.cell]; rfl) (Tryz.isAgg51 _) ?_
              refine hK.out _ _ (by (try dsimp only); all_goals exact True.intro) (fun hHeld => ?_)
              clear hK K
              refine tkR 5 rfl (fun K hK => ?_)
              refine step_append_of outS (d := 30) rfl (by rfl) _ _ rfl rfl w.heap.size (.slice x.oa x.on x.oc) x.outs (by rfl) RS.out.outs p y (by rfl) LIT.out (rfl) (by rw [HKL.out]; omega) RS.out.core.but.size ?_
              intro a' c' y5 ho hgr
              rw [HKL.out] at ho ⊢
              obtain ⟨hv, hrs⟩ := RS.out.addOut hgg hB5 HYT.out ho hgr
              have HV := Lib.hid hv
              have RS := Lib.hid hrs
              clear hv hrs ho hgr
              refine hK.out _ _ (by (try dsimp only); all_goals exact True.intro) (fun hHeld => ?_)
              clear hK K
              refine tkP 6 rfl rfl ?_
              refine tkR 7 rfl (fun K hK => ?_)
              refine step_store_cell (by rfl) 51 _ _ rfl g5 1 (by rfl) (.slice a' (k + 1) c') (by rfl) (.slice x.oa x.on x.oc) (by rw [HV.out.cell]; rfl) (HV.out.free 1) (by kernel_rfl) rfl ?_
              refine hK.out _ _ (by (try dsimp only); all_goals exact True.intro) (fun hHeld => ?_)
              clear hK K
              refine wpAnyH_done (by kernel_rfl) ?_ _
              clear hHeld HV
              revert RS
              generalize World.setCell y5 _ _ = y7
              intro RS
              have HMP : Hid ((x.outs ++ [y]).map POut.strip = (listR pOutR (k + 1) s3).1) := Lib.hid (by rw [NX1.out, ← HMAP.out, ← HYS.out]; simp)
              go_wp2_with fail
              go_roundw
              case rel => exact ⟨k + 1, { x with oa := a', on := k + 1, oc := c', outs := x.outs ++ [y] }, st', by omega, by go_num, HMP.out, NX2.out, by simp [HKL.out], HI.out, HOP.out, HSG.out, RS.out⟩
              case measure => simp [intOf]; omega
            exact AllReadyH.nil
          exact AllReadyH.nil
        · obtain rfl : k = n2 := by omega
          have f1 : ¬ ((k : Int) < (k : Int)) := by omega
          obtain ⟨hi4, rfl⟩ : x.outs.map POut.strip = qo ∧ st = s4 := by
            have h9 := HE4.out
            have h8 := HMAP.out
            have h7 := HST.out
            rw [h9] at h8 h7
            exact ⟨h8, h7.symm⟩
          have HO := Lib.hid hi4
          clear hi4 HMAP HST HE4
          go_wp2_with fail
          refine (getOp_st RS.out.core.eye HLs4.out).mono ?_
          rintro e w8 ⟨y, rfl, hyt, hys, he, hb⟩
          rw [HE5.out] at he hys
          have RS := Lib.hid (RS.out.read (s' := s5) hyb he hb)
          have HYT := Lib.hid hyt
          have HYS := Lib.hid hys
          have TH : Hid (w8.there g5 2 y.cells.toArray.size) := Lib.hid (RS.out.var.there (by rw [List.size_toArray, POp.len HYT.out.1.root, PTx.len RS.out.core.opT.1.root]; omega))
          have AY := Lib.hid (op_sizeA HYT.out.1.root)
          clear hyt hys he hb
          go_upto_region 12 with (refine wpList_store_mid rfl 53 _ _ rfl g5 2 y.cells.toArray rfl rfl TH.out AY.out (all_oneCell_toArray y.one) ?_)
          have RS := Lib.hid (RS.out.setOp hgg hB5 HYT.out)
          try simp only [List.toList_toArray]
          revert RS
          generalize World.setCells w8 _ _ _ = w9
          intro RS
          try simp only [Act.put]
          have HOP : Hid (y.strip = qp) := HYS
          have HRL : Hid (y.root.length = 32) := Lib.hid HYT.out.1.root
          obtain ⟨X, hX⟩ : ∃ X : PTx, X = { x with op := y } := ⟨_, rfl⟩
          have HIX : Hid (X.ins.map PIn.strip = qi) := Lib.hid (by rw [hX]; exact HI.out)
          have HOX : Hid (X.outs.map POut.strip = qo) := Lib.hid (by rw [hX]; exact HO.out)
          have HPX : Hid (X.op.strip = qp) := Lib.hid (by rw [hX]; exact HOP.out)
          have HSX : Hid (X.signs = []) := Lib.hid (by rw [hX]; exact HSG.out)
          rw [← hX] at RS
          clear TH AY HYT HYS HOP HRL HI HO HSG hX HE5 HKL
          go_wp2_with fail
          refine (HU6.out _ _ RS.out.core.eye).mono ?_
          rintro e w10 ⟨rfl, he, hb⟩
          have RS := Lib.hid (RS.out.read (s' := s6) hyb he hb)
          clear he hb HU6
          go_wp2_with fail
          go_loopw [38] (fun i wr => ∃ (k : Nat) (x : PTx) (st : List UInt8 × Int), k ≤ n3 ∧ i = .int .i64 k ∧ x.signs = (listR signR k s6).1 ∧ (listR signR k s6).2 = st ∧ x.signs.length = k ∧ x.ins.map PIn.strip = qi ∧ x.outs.map POut.strip = qo ∧ x.op.strip = qp ∧ ReadSt w yb g2 g5 x st wr) (fun i _ => n3 - (intOf i).toNat)
          case atStart => exact ⟨0, _, _, Nat.zero_le _, rfl, by rw [HSX.out]; rfl, rfl, by rw [HSX.out]; rfl, HIX.out, HOX.out, HPX.out, RS.out⟩
          case round =>
            obtain ⟨k, x, st, hk, rfl, hmap, hst, hkl, hi, ho, hop, hRS⟩ := hrel
            have RS := Lib.hid hRS
            have HMAP := Lib.hid hmap
            have HST := Lib.hid hst
            have HKL := Lib.hid hkl
            have HI := Lib.hid hi
            have HO := Lib.hid ho
            have HOP := Lib.hid hop
            clear hmap hst hkl hRS hi ho hop
            by_cases hkn : k < n3
            · have f1 : (k : Int) < (n3 : Int) := by omega
              have f0 : (0 : Int) ≤ (k : Int) := by omega
              obtain ⟨q, st', hq⟩ : ∃ q st', signR st = (q, st') := ⟨_, _, rfl⟩
              have HLE : Hid (st.1.length ≤ 140737488355328) := Lib.hid (by rw [← HST.out]; exact Nat.le_trans (listR_le signR_le s6 k) HLs6.out)
              have NX1 : Hid ((listR signR (k + 1) s6).1 = (listR signR k s6).1 ++ [q]) := Lib.hid (by rw [listR, HST.out, hq])
              have NX2 : Hid ((listR signR (k + 1) s6).2 = st') := Lib.hid (by rw [listR, HST.out, hq])
              have HW := Lib.hid hq
              have HRL : Hid (x.op.root.length = 32) := Lib.hid RS.out.core.opT.1.root
              clear hq HST
              go_upto_region 14 with (fail)
              refine wp_region_held_drew (S := fun _ => True) (by kernel_rfl) (True.intro) (fun hHeld => ?_)
              refine tkP 0 rfl rfl ?_
              refine tkP 2 rfl rfl ?_
              have RS := Lib.hid (RS.out.more (w' := wr.drew) (below_drew (Below.refl _ _)))
              refine wpAnyH_ready (rs := [1, 3]) (by kernel_rfl) (by simp) ?_
              refine AllReadyH.cons rfl (fun K hK => ?_) ?_
              · refine step_cell (d := 41) rfl (by rfl) 54 _ rfl g5 39 rfl (.slice x.sa x.sn x.sc) (tx_var39 RS.out.var HRL.out) (Tryz.isAgg54 _) ?_
                refine hK.out _ _ (by (try dsimp only); all_goals exact True.intro) (fun hHeld => ?_)
                clear hK K
                refine tkR 3 rfl (fun K hK => ?_)
                go_simp
                go_wp2_with ((go_at_call 72; (with_reducible refine (getSign_st RS.out.core.eye HLE.out).mono ?_); rintro e y3a ⟨y, rfl, hyt, hys, he, hb⟩; rw [HW.out] at he hys; have RS := Lib.hid (RS.out.read (s' := st') hyb he hb); have HYT := Lib.hid hyt; have HYS := Lib.hid hys; clear he hb hyt hys))
                refine hK.out _ _ (by (try dsimp only); all_goals exact True.intro) (fun hHeld => ?_)
                clear hK K
                refine tkR 4 rfl (fun K hK => ?_)
                refine step_lit_of signS (d := 44) (x := y) rfl (by rfl) rfl (by rfl) (PSign.len HYT.out.sum) ?_
                intro p y4a hpp hlit hbl
                have RS := Lib.hid (RS.out.more hbl)
                have LIT := Lib.hid hlit
                clear hlit hbl hpp
                refine hK.out _ _ (by (try dsimp only); all_goals exact True.intro) (fun hHeld => ?_)
                clear hK K
                refine tkR 5 rfl (fun K hK => ?_)
                refine step_append_of signS (d := 45) rfl (by rfl) _ _ rfl rfl w.heap.size (.slice x.sa x.sn x.sc) x.signs (by rfl) RS.out.signs p y (by rfl) LIT.out (PSign.len HYT.out.sum) (by rw [HKL.out]; omega) RS.out.core.but.size ?_
                intro a' c' y5 ho hgr
                rw [HKL.out] at ho ⊢
                obtain ⟨hv, hrs⟩ := RS.out.addSign hgg hB5 HYT.out ho hgr
                have HV := Lib.hid hv
                have RS := Lib.hid hrs
                clear hv hrs ho hgr
                refine hK.out _ _ (by (try dsimp only); all_goals exact True.intro) (fun hHeld => ?_)
                clear hK K
                refine tkP 6 rfl rfl ?_
                refine tkR 7 rfl (fun K hK => ?_)
                refine step_store_cell (by rfl) 54 _ _ rfl g5 39 (by rfl) (.slice a' (k + 1) c') (by rfl) (.slice x.sa x.sn x.sc) (tx_var39 HV.out HRL.out) (HV.out.free 39) (by kernel_rfl) rfl ?_
                refine hK.out _ _ (by (try dsimp only); all_goals exact True.intro) (fun hHeld => ?_)
                clear hK K
                refine wpAnyH_done (by kernel_rfl) ?_ _
                clear hHeld HV
                revert RS
                generalize World.setCell y5 _ _ = y7
                intro RS
                have HMP : Hid ((x.signs ++ [y]) = (listR signR (k + 1) s6).1) := Lib.hid (by rw [NX1.out, ← HMAP.out, ← HYS.out])
                go_wp2_with fail
                go_roundw
                case rel => exact ⟨k + 1, { x with sa := a', sn := k + 1, sc := c', signs := x.signs ++ [y] }, st', by omega, by go_num, HMP.out, NX2.out, by simp [HKL.out], HI.out, HO.out, HOP.out, RS.out⟩
                case measure => simp [intOf]; omega
              refine AllReadyH.cons rfl (fun K hK => ?_) ?_
              · go_simp
                go_wp2_with ((go_at_call 72; (with_reducible refine (getSign_st RS.out.core.eye HLE.out).mono ?_); rintro e y3b ⟨y, rfl, hyt, hys, he, hb⟩; rw [HW.out] at he hys; have RS := Lib.hid (RS.out.read (s' := st') hyb he hb); have HYT := Lib.hid hyt; have HYS := Lib.hid hys; clear he hb hyt hys))
                refine hK.out _ _ (by (try dsimp only); all_goals exact True.intro) (fun hHeld => ?_)
                clear hK K
                refine wpAnyH_ready (rs := [1, 4]) (by kernel_rfl) (by simp) ?_
                refine AllReadyH.cons rfl (fun K hK => ?_) ?_
                · refine step_cell (d := 41) rfl (by rfl) 54 _ rfl g5 39 rfl (.slice x.sa x.sn x.sc) (tx_var39 RS.out.var HRL.out) (Tryz.isAgg54 _) ?_
                  refine hK.out _ _ (by (try dsimp only); all_goals exact True.intro) (fun hHeld => ?_)
                  clear hK K
                  refine tkR 4 rfl (fun K hK => ?_)
                  refine step_lit_of signS (d := 44) (x := y) rfl (by rfl) rfl (by rfl) (PSign.len HYT.out.sum) ?_
                  intro p y4a hpp hlit hbl
                  have RS := Lib.hid (RS.out.more hbl)
                  have LIT := Lib.hid hlit
                  clear hlit hbl hpp
                  refine hK.out _ _ (by (try dsimp only); all_goals exact True.intro) (fun hHeld => ?_)
                  clear hK K
                  refine tkR 5 rfl (fun K hK => ?_)
                  refine step_append_of signS (d := 45) rfl (by rfl) _ _ rfl rfl w.heap.size (.slice x.sa x.sn x.sc) x.signs (by rfl) RS.out.signs p y (by rfl) LIT.out (PSign.len HYT.out.sum) (by rw [HKL.out]; omega) RS.out.core.but.size ?_
                  intro a' c' y5 ho hgr
                  rw [HKL.out] at ho ⊢
                  obtain ⟨hv, hrs⟩ := RS.out.addSign hgg hB5 HYT.out ho hgr
                  have HV := Lib.hid hv
                  have RS := Lib.hid hrs
                  clear hv hrs ho hgr
                  refine hK.out _ _ (by (try dsimp only); all_goals exact True.intro) (fun hHeld => ?_)
                  clear hK K
                  refine tkP 6 rfl rfl ?_
                  refine tkR 7 rfl (fun K hK => ?_)
                  refine step_store_cell (by rfl) 54 _ _ rfl g5 39 (by rfl) (.slice a' (k + 1) c') (by rfl) (.slice x.sa x.sn x.sc) (tx_var39 HV.out HRL.out) (HV.out.free 39) (by kernel_rfl) rfl ?_
                  refine hK.out _ _ (by (try dsimp only); all_goals exact True.intro) (fun hHeld => ?_)
                  clear hK K
                  refine wpAnyH_done (by kernel_rfl) ?_ _
                  clear hHeld HV
                  revert RS
                  generalize World.setCell y5 _ _ = y7
                  intro RS
                  have HMP : Hid ((x.signs ++ [y]) = (listR signR (k + 1) s6).1) := Lib.hid (by rw [NX1.out, ← HMAP.out, ← HYS.out])
                  go_wp2_with fail
                  go_roundw
                  case rel => exact ⟨k + 1, { x with sa := a', sn := k + 1, sc := c', signs := x.signs ++ [y] }, st', by omega, by go_num, HMP.out, NX2.out, by simp [HKL.out], HI.out, HO.out, HOP.out, RS.out⟩
                  case measure => simp [intOf]; omega
                refine AllReadyH.cons rfl (fun K hK => ?_) ?_
                · refine step_lit_of signS (d := 44) (x := y) rfl (by rfl) rfl (by rfl) (PSign.len HYT.out.sum) ?_
                  intro p y4b hpp hlit hbl
                  have RS := Lib.hid (RS.out.more hbl)
                  have LIT := Lib.hid hlit
                  clear hlit hbl hpp
                  refine hK.out _ _ (by (try dsimp only); all_goals exact True.intro) (fun hHeld => ?_)
                  clear hK K
                  refine tkR 1 rfl (fun K hK => ?_)
                  refine step_cell (d := 41) rfl (by rfl) 54 _ rfl g5 39 rfl (.slice x.sa x.sn x.sc) (tx_var39 RS.out.var HRL.out) (Tryz.isAgg54 _) ?_
                  refine hK.out _ _ (by (try dsimp only); all_goals exact True.intro) (fun hHeld => ?_)
                  clear hK K
                  refine tkR 5 rfl (fun K hK => ?_)
                  refine step_append_of signS (d := 45) rfl (by rfl) _ _ rfl rfl w.heap.size (.slice x.sa x.sn x.sc) x.signs (by rfl) RS.out.signs p y (by rfl) LIT.out (PSign.len HYT.out.sum) (by rw [HKL.out]; omega) RS.out.core.but.size ?_
                  intro a' c' y5 ho hgr
                  rw [HKL.out] at ho ⊢
                  obtain ⟨hv, hrs⟩ := RS.out.addSign hgg hB5 HYT.out ho hgr
                  have HV := Lib.hid hv
                  have RS := Lib.hid hrs
                  clear hv hrs ho hgr
                  refine hK.out _ _ (by (try dsimp only); all_goals exact True.intro) (fun hHeld => ?_)
                  clear hK K
                  refine tkP 6 rfl rfl ?_
                  refine tkR 7 rfl (fun K hK => ?_)
                  refine step_store_cell (by rfl) 54 _ _ rfl g5 39 (by rfl) (.slice a' (k + 1) c') (by rfl) (.slice x.sa x.sn x.sc) (tx_var39 HV.out HRL.out) (HV.out.free 39) (by kernel_rfl) rfl ?_
                  refine hK.out _ _ (by (try dsimp only); all_goals exact True.intro) (fun hHeld => ?_)
                  clear hK K
                  refine wpAnyH_done (by kernel_rfl) ?_ _
                  clear hHeld HV
                  revert RS
                  generalize World.setCell y5 _ _ = y7
                  intro RS
                  have HMP : Hid ((x.signs ++ [y]) = (listR signR (k + 1) s6).1) := Lib.hid (by rw [NX1.out, ← HMAP.out, ← HYS.out])
                  go_wp2_with fail
                  go_roundw
                  case rel => exact ⟨k + 1, { x with sa := a', sn := k + 1, sc := c', signs := x.signs ++ [y] }, st', by omega, by go_num, HMP.out, NX2.out, by simp [HKL.out], HI.out, HO.out, HOP.out, RS.out⟩
                  case measure => simp [intOf]; omega
                exact AllReadyH.nil
              exact AllReadyH.nil
            · obtain rfl : k = n3 := by omega
              have f1 : ¬ ((k : Int) < (k : Int)) := by omega
              obtain ⟨hi7, rfl⟩ : x.signs = qs ∧ st = s7 := by
                have h9 := HE7.out
                have h8 := HMAP.out
                have h7 := HST.out
                rw [h9] at h8 h7
                exact ⟨by simpa using h8, h7.symm⟩
              have hstrip : x.strip = ⟨none, qi.length, 0, qi, none, qo.length, 0, qo, qp, none, qs.length, 0, qs⟩ := by
                unfold PTx.strip
                rw [hi7, ← HI.out, ← HO.out, ← HOP.out, List.length_map, List.length_map]
              have HSTR := Lib.hid hstrip
              clear hi7 hstrip HMAP HST HI HO HOP HE7
              obtain ⟨E, hE⟩ : ∃ E, doneE st = E := ⟨_, rfl⟩
              have HDN := Lib.hid (done_st _ RS.out.core.eye)
              rw [hE] at HDN
              go_wp2_with fail
              refine HDN.out.mono ?_
              rintro e wd ⟨rfl, ⟨sd, he⟩, hb⟩
              have RS := Lib.hid (RS.out.read (s' := sd) hyb he hb)
              have HE := Lib.hid hE
              clear he hb HDN hE
              by_cases h0 : E = 0
              rotate_left
              · have hb : (E != 0) = true := by simpa using h0
                have HBAD := Lib.hid (read_bad HER.out (by rw [HE.out]; exact h0))
                have HTE := Lib.hid (txE_bad HER.out HE.out h0)
                have H0 := Lib.hid h0
                clear h0 HE
                go_upto_region 18 with (fail)
                try rw [← noTx_is]
                go_wp2_with (first | (refine wpList_store_row rfl 56 _ _ rfl g2 noTx.cells.toArray (by rfl) (by rfl) 56 noTx.cells.toArray RS.out.core.res SZ0.out rfl (all_oneCell_toArray noTx.one) ?_) | fail)
                refine bodyPost_ret (results_cell_then rfl _ _ g2 56 noTx.cells.toArray (0, 0) _ (.int .i64 E) rfl rfl (setRow_heap wd g2 _ _ 56 _ RS.out.core.res) Tryz.underlying56 rfl SZ0.out) rfl ?_
                exact ⟨noTx, E, rfl, noTx_in _, (RS.out.final hB2 (but_setRow wd g2 noTx.cells.toArray)).2, fun e => absurd e H0.out, fun _ => ⟨rfl, HBAD.out⟩, HTE.out, noTx_typed _ _⟩
              · subst h0
                have hb : ((0 : Int) != 0) = false := by decide
                have hs7 := doneE_zero HE.out
                have HER2 := HER.out
                rw [hs7] at HER2
                have HER2 := Lib.hid HER2
                have HRI := Lib.hid (txRight_any RS.out.tx)
                have RV := Lib.hid RS.out.var.range
                have SX := Lib.hid (tx_size RS.out.core.opT.1.root)
                clear HE hs7
                by_cases hok : txOk x = true
                rotate_left
                · have hok' : txOk x = false := by simpa using hok
                  rw [hok'] at HRI
                  have HBAD := Lib.hid (read_wrong HER.out RS.out.tx HSTR.out hok')
                  have HTE : Hid (4 = txE b) := Lib.hid (by rw [txE_done HER2.out RS.out.tx HSTR.out, hok']; rfl)
                  clear hok hok'
                  go_wp2_with (first | (refine wpList_load_mid rfl 56 _ rfl g5 0 rfl x.cells _ RV.out Tryz.underlying56 rfl SX.out ?_) | fail)
                  refine HRI.out.mono ?_
                  rintro e we ⟨rfl, hb⟩
                  have RS := Lib.hid (RS.out.more hb)
                  clear hb HRI RV
                  go_upto_region 20 with (fail)
                  try rw [← noTx_is]
                  go_wp2_with (first | (refine wpList_store_row rfl 56 _ _ rfl g2 noTx.cells.toArray (by rfl) (by rfl) 56 noTx.cells.toArray RS.out.core.res SZ0.out rfl (all_oneCell_toArray noTx.one) ?_) | fail)
                  refine bodyPost_ret (results_cell_then rfl _ _ g2 56 noTx.cells.toArray (0, 0) _ (.int .i64 4) rfl rfl (setRow_heap we g2 _ _ 56 _ RS.out.core.res) Tryz.underlying56 rfl SZ0.out) rfl ?_
                  exact ⟨noTx, 4, rfl, noTx_in _, (RS.out.final hB2 (but_setRow we g2 noTx.cells.toArray)).2, (fun e => absurd e (by decide)), fun _ => ⟨rfl, HBAD.out⟩, HTE.out, noTx_typed _ _⟩
                · rw [hok] at HRI
                  have HOK := Lib.hid hok
                  have HGD := Lib.hid (read_good HER2.out HSTR.out)
                  have HTE : Hid (0 = txE b) := Lib.hid (by rw [txE_done HER2.out RS.out.tx HSTR.out, if_pos hok])
                  clear hok
                  go_wp2_with (first | (refine wpList_load_mid rfl 56 _ rfl g5 0 rfl x.cells _ RV.out Tryz.underlying56 rfl SX.out ?_) | fail)
                  refine HRI.out.mono ?_
                  rintro e we ⟨rfl, hb⟩
                  have RS := Lib.hid (RS.out.more hb)
                  have RV2 := Lib.hid RS.out.var.range
                  have AX := Lib.hid (tx_sizeA RS.out.core.opT.1.root)
                  have ZX : Hid (noTx.cells.toArray.size = x.cells.toArray.size) := Lib.hid (by rw [List.size_toArray, List.size_toArray, PTx.len RS.out.core.opT.1.root]; rfl)
                  clear hb HRI RV
                  go_wp2_with (first | (refine wpList_load_mid rfl 56 _ rfl g5 0 rfl x.cells _ RV2.out Tryz.underlying56 rfl SX.out ?_) | (refine wpList_store_row rfl 56 _ _ rfl g2 x.cells.toArray rfl rfl 56 noTx.cells.toArray RS.out.core.res AX.out ZX.out (all_oneCell_toArray x.one) ?_) | fail)
                  refine bodyPost_ret (results_cell_then rfl _ _ g2 56 x.cells.toArray (0, 0) _ (.int .i64 0) rfl rfl (setRow_heap we g2 _ _ 56 _ RS.out.core.res) Tryz.underlying56 rfl AX.out) rfl ?_
                  obtain ⟨q1, q2⟩ := RS.out.final hB2 (but_setRow we g2 x.cells.toArray)
                  exact ⟨x, 0, rfl, q1, q2, fun _ => ⟨HOK.out, HGD.out⟩, fun e => absurd rfl e, HTE.out, RS.out.typed9 (but_setRow we g2 x.cells.toArray)⟩
end Go.Proofs.YtcmdpmialehjgaaGreatDoor
