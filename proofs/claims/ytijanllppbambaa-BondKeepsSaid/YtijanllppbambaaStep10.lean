/- The law's step, both boards together. -/
import Derived.Test.YtijanllppbambaaStepWalk2
import Derived.Test.YtijanllppbambaaCodeAny
import Derived.Test.YtijanllppbambaaLProve
import Derived.Test.YtijanllppbambaaLAsk
import Derived.Test.YtijanllppbambaaLKeep2
import Derived.Test.YtijanllppbambaaLLock2
namespace Go.Proofs.Ytijanllppbambaa
open Go.RowKit Go.Maps

def bothOf (tb hb pb : Nat) : Nat → Option Obj → Prop := fun k o => mapsOf tb hb k o ∨ plainOf pb k o
theorem Bar.wide {S T : Nat → Option Obj → Prop} {w w' : World} (h : Bar S w w') (hST : ∀ k o, S k o → T k o) : Bar T w w' := ⟨h.os, h.tape, h.output, h.size, fun k hk hn => h.block k hk (fun e => hn (hST _ _ e))⟩
/-- How both boards stand. -/
structure Sit (B : Nat) (w0 : World) (pv : Value) (tb hb : Nat) (p : Value) (pb N M : Nat) (ts1 : List PTE) (hs1 : List PHE) (ts2 : List PTE) (hs2 : List PHE) (w : World) : Prop where
  bd : BoardAt B w pv tb hb N ts1 hs1
  pl : PlainAt B w p pb M ts2 hs2
  bar : Bar (bothOf tb hb pb) w0 w
  bel : Below B w0 w
section
variable {B : Nat} {w0 w w' : World} {pv p : Value} {tb hb pb N M : Nat} {ts1 ts2 ts' : List PTE} {hs1 hs2 hs' : List PHE}
theorem Sit.below (h : Sit B w0 pv tb hb p pb N M ts1 hs1 ts2 hs2 w) (k : Below w.heap.size w w') : Sit B w0 pv tb hb p pb N M ts1 hs1 ts2 hs2 w' :=
  ⟨h.bd.below k, h.pl.below k, h.bar.trans (Bar.of k), h.bel.trans (k.mono h.bd.le)⟩
theorem Sit.code (h : Sit B w0 pv tb hb p pb N M ts1 hs1 ts2 hs2 w) {ans : Value} {e : Ending} (k : CodeOut B w pv tb hb N ans ts' hs' e w') : Sit B w0 pv tb hb p pb (N + 1) M ts' hs' ts2 hs2 w' ∧ KeepOp w w' := by
  obtain ⟨_, h1, h2, h3⟩ := k
  obtain ⟨es, cl, ht⟩ := h.bd.tMap
  obtain ⟨es2, cl2, hh⟩ := h.bd.hMap
  have no : ∀ i cs t fr, w.heap[i]? = some (Obj.cells cs t fr) → ¬ mapsOf tb hb i (some (Obj.cells cs t fr)) := fun i cs t fr e9 e => by
    rcases e with e | e
    · rw [e, ht] at e9
      cases e9
    · rw [e, hh] at e9
      cases e9
  exact ⟨⟨h1, h.pl.bar h2 no, h.bar.trans (h2.wide fun _ _ e => .inl e), h.bel.trans h3⟩, fun g cs fr e9 => h2.keep e9 (no _ _ _ _ e9)⟩
theorem Sit.law (h : Sit B w0 pv tb hb p pb N M ts1 hs1 ts2 hs2 w) {ans : Value} {e : Ending} (k : PlainOut B w p pb M ans ts' hs' e w') : Sit B w0 pv tb hb p pb N (M + 1) ts1 hs1 ts' hs' w' ∧ KeepOp w w' := by
  obtain ⟨_, h1, h2, h3⟩ := k
  obtain ⟨v1, v2, hp, _⟩ := h.pl.parts
  obtain ⟨vb, e1, e2⟩ := h.bd.has
  have nm : ∀ i es cl, w.heap[i]? = some (Obj.map es cl) → w'.heap[i]? = w.heap[i]? := fun i es cl e9 => (h2.keep e9 (fun e => by
    rcases e with e | ⟨_, _, e⟩ | ⟨_, _, e⟩
    · rw [e, hp] at e9
      cases e9
    · cases e
    · cases e)).trans e9.symm
  obtain ⟨n, a3, a4⟩ := h.bd.mt
  obtain ⟨m, a5, a6⟩ := h.bd.mh
  obtain ⟨es, cl, a7⟩ := h.bd.tMap
  obtain ⟨es2, cl2, a8⟩ := h.bd.hMap
  exact ⟨⟨⟨⟨vb, e1, keepP h2 e2 hp (by decide) (by decide) (by decide)⟩, h.bd.tB, h.bd.hB, h.bd.ne, h.bd.few, ⟨n, a3, a4.at (nm _ _ _ a7)⟩, ⟨m, a5, a6.at (nm _ _ _ a8)⟩, h.bd.inv⟩, h1, h.bar.trans (h2.wide fun _ _ e => .inr e), h.bel.trans h3⟩, fun g cs fr e9 => keepP h2 e9 hp (by decide) (by decide) (by decide)⟩
end
/-- What a call answers and leaves. -/
def stepA (k n m z : Int) (s : List UInt8) (c : PChan) (ts : List PTE) (hs : List PHE) : Int × Int × List PTE × List PHE :=
  if k = 0 then (0, (lockB n m s ts).1, (lockB n m s ts).2, hs)
  else if k = 1 ∨ k = 2 then (0, (holdB n c ts hs).1, ts, (holdB n c ts hs).2)
  else if k = 3 then (0, (letB n c.id hs).1, ts, (letB n c.id hs).2)
  else if k = 4 then (0, (askB n m z ts hs).1, (askB n m z ts hs).2, hs)
  else if k = 5 then ((takeB n z ts).1, (takeB n z ts).2.1, (takeB n z ts).2.2, hs)
  else if k = 6 then (0, (proveB n c.id z s hs).1, ts, (proveB n c.id z s hs).2)
  else if k = 7 then settleB n c.id z ts hs
  else (0, 0, ts, hs)
def StepOut (B : Nat) (w0 : World) (pv : Value) (tb hb : Nat) (p : Value) (pb N M : Nat) (k n m z : Int) (s : List UInt8) (c : PChan) (ts1 : List PTE) (hs1 : List PHE) (ts2 : List PTE) (hs2 : List PHE) (e : Ending) (w' : World) : Prop :=
  ∃ r, e = .returned (.bool r) ∧ (ts1 = ts2 → hs1 = hs2 → r = true) ∧ Sit B w0 pv tb hb p pb (N + 1) (M + 1) (stepA k n m z s c ts1 hs1).2.2.1 (stepA k n m z s c ts1 hs1).2.2.2 (stepA k n m z s c ts2 hs2).2.2.1 (stepA k n m z s c ts2 hs2).2.2.2 w'
theorem step_any {B : Nat} {w0 w : World} {pv p : Value} {tb hb pb N M : Nat} {ts1 ts2 : List PTE} {hs1 hs2 : List PHE} {k n m z : Int} {s : List UInt8} {c : PChan} (h : Sit B w0 pv tb hb p pb N M ts1 hs1 ts2 hs2 w) (hN : N + 1 ≤ 100) (hM : M + 1 ≤ 100) (ho : CallIn ⟨k, n, m, s, c, z⟩) (hz0 : -1099511627776 ≤ z) (hz1 : z ≤ 1099511627776) : Calls Try.prog 7 #[pv, p, .agg (PCall.cells ⟨k, n, m, s, c, z⟩).toArray] w fun e w' => StepOut B w0 pv tb hb p pb N M k n m z s c ts1 hs1 ts2 hs2 e w' := by
  have bl : ∀ W W', Sit B w0 pv tb hb p pb N M ts1 hs1 ts2 hs2 W → Below W.heap.size W W' → Sit B w0 pv tb hb p pb N M ts1 hs1 ts2 hs2 W' := fun W W' hW k => hW.below k
  by_cases k0 : k = 0
  · subst k0
    refine (step_lock (P1 := Sit B w0 pv tb hb p pb (N + 1) M (lockB n m s ts1).2 hs1 ts2 hs2) (P2 := Sit B w0 pv tb hb p pb (N + 1) (M + 1) (lockB n m s ts1).2 hs1 (lockB n m s ts2).2 hs2) (a1 := (lockB n m s ts1).1) (a2 := (lockB n m s ts2).1) ho h bl
      (fun W hW => (lock_code hW.bd hN ho.tower ho.n ho.root).mono fun e w' k => ⟨k.1, hW.code k⟩) (fun W hW => (llock_any hW.pl hM ho).mono fun e w' k => ⟨k.1, hW.law k⟩)).mono ?_
    rintro e w' ⟨rfl, h2⟩
    refine ⟨_, rfl, (fun e1 _ => decide_eq_true (by rw [e1])), ?_⟩
    simpa [stepA] using h2
  by_cases k1 : k = 1 ∨ k = 2
  · have hst : ∀ ts hs, stepA k n m z s c ts hs = (0, (holdB n c ts hs).1, ts, (holdB n c ts hs).2) := fun _ _ => by unfold stepA; rw [if_neg k0, if_pos k1]
    have hkl : ∀ ts hs, keepLB k n c ts hs = holdB n c ts hs := fun _ _ => by unfold keepLB; rw [if_neg (by omega)]
    have hc : ∀ W, Sit B w0 pv tb hb p pb N M ts1 hs1 ts2 hs2 W → Calls Try.prog 16 #[pv, .int .i64 n, .agg c.cells.toArray] W fun e w' => e = .returned (.int .i64 (holdB n c ts1 hs1).1) ∧ Sit B w0 pv tb hb p pb (N + 1) M ts1 (holdB n c ts1 hs1).2 ts2 hs2 w' ∧ KeepOp W w' := fun W hW => (hold_code hW.bd hN ho.tower ho.ch).mono fun e w' k => ⟨k.1, hW.code k⟩
    have hl : ∀ W, Sit B w0 pv tb hb p pb (N + 1) M ts1 (holdB n c ts1 hs1).2 ts2 hs2 W → Calls Try.prog 24 #[p, .agg (PCall.cells ⟨k, n, m, s, c, z⟩).toArray] W fun e w' => e = .returned (.int .i64 (holdB n c ts2 hs2).1) ∧ Sit B w0 pv tb hb p pb (N + 1) (M + 1) ts1 (holdB n c ts1 hs1).2 ts2 (holdB n c ts2 hs2).2 w' ∧ KeepOp W w' := fun W hW => (lkeep_any hW.pl hM ho).mono fun e w' k => by
      rw [hkl] at k
      exact ⟨k.1, hW.law k⟩
    have fin : Calls Try.prog 7 #[pv, p, .agg (PCall.cells ⟨k, n, m, s, c, z⟩).toArray] w fun e w' => e = .returned (.bool (decide ((holdB n c ts1 hs1).1 = (holdB n c ts2 hs2).1))) ∧ Sit B w0 pv tb hb p pb (N + 1) (M + 1) ts1 (holdB n c ts1 hs1).2 ts2 (holdB n c ts2 hs2).2 w' := by
      rcases k1 with k1 | k1
      · subst k1
        exact step_hold1 ho h bl hc hl
      · subst k1
        exact step_hold2 ho h bl hc hl
    refine fin.mono ?_
    rintro e w' ⟨rfl, h2⟩
    refine ⟨_, rfl, (fun e1 e2 => decide_eq_true (by rw [e1, e2])), ?_⟩
    rw [hst, hst]
    exact h2
  by_cases k3 : k = 3
  · subst k3
    have hkl : ∀ ts hs, keepLB 3 n c ts hs = letB n c.id hs := fun _ _ => by unfold keepLB; rw [if_pos rfl]
    refine (step_let (P1 := Sit B w0 pv tb hb p pb (N + 1) M ts1 (letB n c.id hs1).2 ts2 hs2) (P2 := Sit B w0 pv tb hb p pb (N + 1) (M + 1) ts1 (letB n c.id hs1).2 ts2 (letB n c.id hs2).2) (a1 := (letB n c.id hs1).1) (a2 := (letB n c.id hs2).1) ho h bl
      (fun W hW => (let_code hW.bd hN ho.tower ho.ch.id).mono fun e w' k => ⟨k.1, hW.code k⟩) (fun W hW => (lkeep_any hW.pl hM ho).mono fun e w' k => by
        rw [hkl] at k
        exact ⟨k.1, hW.law k⟩)).mono ?_
    rintro e w' ⟨rfl, h2⟩
    refine ⟨_, rfl, (fun _ e2 => decide_eq_true (by rw [e2])), ?_⟩
    simpa [stepA] using h2
  by_cases k4 : k = 4
  · subst k4
    have hkl : ∀ ts hs, askLB 4 n m z ts hs = (0, askB n m z ts hs) := fun _ _ => by unfold askLB; rw [if_pos rfl]
    refine (step_ask (P1 := Sit B w0 pv tb hb p pb N (M + 1) ts1 hs1 (askB n m z ts2 hs2).2 hs2) (P2 := Sit B w0 pv tb hb p pb (N + 1) (M + 1) (askB n m z ts1 hs1).2 hs1 (askB n m z ts2 hs2).2 hs2) (a2 := 0) (b1 := (askB n m z ts1 hs1).1) (b2 := (askB n m z ts2 hs2).1) ho h bl
      (fun W hW => (lask_any hW.pl hM ho hz0 hz1).mono fun e w' k => by
        rw [hkl] at k
        exact ⟨k.1, hW.law k⟩) (fun W hW => (ask_code hW.bd hN ho.tower hz0 hz1).mono fun e w' k => ⟨k.1, (hW.code k).1⟩)).mono ?_
    rintro e w' ⟨rfl, h2⟩
    refine ⟨_, rfl, (fun e1 e2 => decide_eq_true (by rw [e1, e2])), ?_⟩
    simpa [stepA] using h2
  by_cases k5 : k = 5
  · subst k5
    have hkl : ∀ ts hs, askLB 5 n m z ts hs = takeB n z ts := fun _ _ => by unfold askLB; rw [if_neg (by decide)]
    refine (step_take (P1 := Sit B w0 pv tb hb p pb N (M + 1) ts1 hs1 (takeB n z ts2).2.2 hs2) (P2 := Sit B w0 pv tb hb p pb (N + 1) (M + 1) (takeB n z ts1).2.2 hs1 (takeB n z ts2).2.2 hs2) (a1 := (takeB n z ts1).1) (a2 := (takeB n z ts2).1) (b1 := (takeB n z ts1).2.1) (b2 := (takeB n z ts2).2.1) ho h bl
      (fun W hW => (lask_any hW.pl hM ho hz0 hz1).mono fun e w' k => by
        rw [hkl] at k
        exact ⟨k.1, hW.law k⟩) (fun W hW => (take_code hW.bd hN ho.tower hz0 hz1).mono fun e w' k => ⟨k.1, (hW.code k).1⟩)).mono ?_
    rintro e w' ⟨r, rfl, hr, h2⟩
    refine ⟨r, rfl, (fun e1 _ => hr (by rw [e1]) (by rw [e1])), ?_⟩
    simpa [stepA] using h2
  by_cases k6 : k = 6
  · subst k6
    have hkl : ∀ ts hs, proveLB 6 n c.id z s ts hs = (0, (proveB n c.id z s hs).1, ts, (proveB n c.id z s hs).2) := fun _ _ => by unfold proveLB; rw [if_pos rfl]
    refine (step_prove (P1 := Sit B w0 pv tb hb p pb N (M + 1) ts1 hs1 ts2 (proveB n c.id z s hs2).2) (P2 := Sit B w0 pv tb hb p pb (N + 1) (M + 1) ts1 (proveB n c.id z s hs1).2 ts2 (proveB n c.id z s hs2).2) (a2 := 0) (b1 := (proveB n c.id z s hs1).1) (b2 := (proveB n c.id z s hs2).1) ho h bl
      (fun W hW => (lprove_any hW.pl hM ho hz0 hz1).mono fun e w' k => by
        rw [hkl] at k
        exact ⟨k.1, hW.law k⟩) (fun W hW => (prove_code hW.bd hN ho.root ho.tower ho.ch.id hz0 hz1).mono fun e w' k => ⟨k.1, (hW.code k).1⟩)).mono ?_
    rintro e w' ⟨rfl, h2⟩
    refine ⟨_, rfl, (fun _ e2 => decide_eq_true (by rw [e2])), ?_⟩
    simpa [stepA] using h2
  by_cases k7 : k = 7
  · subst k7
    have hkl : ∀ ts hs, proveLB 7 n c.id z s ts hs = settleB n c.id z ts hs := fun _ _ => by unfold proveLB; rw [if_neg (by decide)]
    refine (step_settle (P1 := Sit B w0 pv tb hb p pb N (M + 1) ts1 hs1 (settleB n c.id z ts2 hs2).2.2.1 (settleB n c.id z ts2 hs2).2.2.2) (P2 := Sit B w0 pv tb hb p pb (N + 1) (M + 1) (settleB n c.id z ts1 hs1).2.2.1 (settleB n c.id z ts1 hs1).2.2.2 (settleB n c.id z ts2 hs2).2.2.1 (settleB n c.id z ts2 hs2).2.2.2) (a1 := (settleB n c.id z ts1 hs1).1) (a2 := (settleB n c.id z ts2 hs2).1) (b1 := (settleB n c.id z ts1 hs1).2.1) (b2 := (settleB n c.id z ts2 hs2).2.1) ho h bl
      (fun W hW => (lprove_any hW.pl hM ho hz0 hz1).mono fun e w' k => by
        rw [hkl] at k
        exact ⟨k.1, hW.law k⟩) (fun W hW => (settle_code hW.bd hN ho.tower ho.ch.id hz0 hz1).mono fun e w' k => ⟨k.1, (hW.code k).1⟩)).mono ?_
    rintro e w' ⟨r, rfl, hr, h2⟩
    refine ⟨r, rfl, (fun e1 e2 => hr (by rw [e1, e2]) (by rw [e1, e2])), ?_⟩
    simpa [stepA] using h2
  · have hst : ∀ ts hs, stepA k n m z s c ts hs = (0, 0, ts, hs) := fun _ _ => by unfold stepA; rw [if_neg k0, if_neg k1, if_neg k3, if_neg k4, if_neg k5, if_neg k6, if_neg k7]
    refine (step_else ho (by omega) h bl).mono ?_
    rintro e w' ⟨rfl, h2⟩
    refine ⟨true, rfl, (fun _ _ => rfl), ?_⟩
    rw [hst, hst]
    exact ⟨h2.bd.more hN, h2.pl.more hM, h2.bar, h2.bel⟩
end Go.Proofs.Ytijanllppbambaa
