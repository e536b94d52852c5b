/- What calls answer and leave, as plain lists; what a call of the board's leaves in memory. -/
import Derived.Test.YtijanllppbambaaBondFree
namespace Go.Proofs.Ytijanllppbambaa
open Go.RowKit Go.Maps

/-! ### As plain lists -/
def oldT (n : Int) (root : List UInt8) (ts : List PTE) : PTow := match lookT n ts with | some x => x.t | none => ⟨root, 0, 0, 0⟩
def badLock (n m : Int) (root : List UInt8) : Prop := n < 0 ∨ 15 < n ∨ m < 1 ∨ root = zero32
instance (n m : Int) (root : List UInt8) : Decidable (badLock n m root) := inferInstanceAs (Decidable (_ ∨ _ ∨ _ ∨ _))
def lockB (n m : Int) (root : List UInt8) (ts : List PTE) : Int × List PTE :=
  if badLock n m root then (1, ts) else if (oldT n root ts).root ≠ root then (8, ts) else if 1125899906842624 < m then (5, ts) else if 1125899906842624 < totT ts + m then (10, ts)
  else (0, putT n ⟨root, (oldT n root ts).locked + m, (oldT n root ts).asked, (oldT n root ts).at9⟩ ts)
def holdB (n : Int) (c : PChan) (ts : List PTE) (hs : List PHE) : Int × List PHE :=
  if c.cap < 1 ∨ 1125899906842624 < c.cap then (1, hs) else if lookT n ts = none then (21, hs) else if lookH n c.id hs ≠ none then (8, hs) else if freeB n ts hs < c.cap then (20, hs) else (0, hs ++ [⟨n, ⟨c, c.cap, false, 0, zero32⟩⟩])
def letB (n id : Int) (hs : List PHE) : Int × List PHE :=
  match lookH n id hs with | none => (7, hs) | some x => if x.h.proved then (9, hs) else (0, delK hkey (n, id) hs)
def askB (n m height : Int) (ts : List PTE) (hs : List PHE) : Int × List PTE :=
  match lookT n ts with | none => (21, ts) | some x => if 0 < x.t.asked then (9, ts) else if m < 1 ∨ freeB n ts hs < m then (20, ts) else (0, putT n ⟨x.t.root, x.t.locked, m, height⟩ ts)
def takeB (n height : Int) (ts : List PTE) : Int × Int × List PTE :=
  match lookT n ts with | none => (0, 21, ts) | some x => if x.t.asked = 0 then (0, 7, ts) else if height - x.t.at9 < 12 then (0, 17, ts) else (x.t.asked, 0, putT n ⟨x.t.root, x.t.locked - x.t.asked, 0, 0⟩ ts)
def proveB (n id height : Int) (commit : List UInt8) (hs : List PHE) : Int × List PHE :=
  match lookH n id hs with | none => (7, hs) | some x => if x.h.proved then (9, hs) else (0, setK hkey (n, id) ⟨n, ⟨x.h.ch, x.h.amount, true, height, commit⟩⟩ hs)
def lessT (n m : Int) (ts : List PTE) : List PTE := match lookT n ts with | some x => putT n ⟨x.t.root, x.t.locked - m, x.t.asked, x.t.at9⟩ ts | none => ts
def settleB (n id height : Int) (ts : List PTE) (hs : List PHE) : Int × Int × List PTE × List PHE :=
  match lookH n id hs with | none => (0, 7, ts, hs) | some x => if x.h.proved = false then (0, 7, ts, hs) else if height - x.h.at9 < 3 then (0, 17, ts, hs) else (x.h.amount, 0, lessT n x.h.amount ts, delK hkey (n, id) hs)
section
variable {ts : List PTE} {hs : List PHE}
theorem Inv.oldRoot (h : Inv ts hs) {n : Int} {root : List UInt8} (hr : root.length = 32) : (oldT n root ts).root.length = 32 := by
  unfold oldT
  cases hl : lookT n ts with
  | none => exact hr
  | some x => exact h.tr x (lookK_mem hl).1
theorem Inv.old (h : Inv ts hs) (n : Int) (root : List UInt8) : 0 ≤ (oldT n root ts).locked ∧ (oldT n root ts).locked ≤ totT ts ∧ 0 ≤ (oldT n root ts).asked ∧ -1099511627776 ≤ (oldT n root ts).at9 ∧ (oldT n root ts).at9 ≤ 1099511627776 ∧ (oldT n root ts).asked + heldH n hs ≤ (oldT n root ts).locked := by
  unfold oldT
  cases hl : lookT n ts with
  | none =>
    have h1 := h.tot0
    have h2 := h.heldNone hl
    simp only
    omega
  | some x =>
    obtain ⟨h1, h2⟩ := lookT_num hl
    have h3 := h.locked0 h1
    have h4 := totT_le (fun _ hy => h.locked0 hy) x h1
    have h5 := h.ta x h1
    have h6 := h.tl x h1
    rw [h2] at h6
    exact ⟨h3, h4, h5.1, h5.2.1, h5.2.2, h6⟩
theorem Inv.lock (h : Inv ts hs) {n m : Int} {root : List UInt8} (h0 : 0 ≤ n) (h1 : n ≤ 15) (hr : root.length = 32) (hm : 1 ≤ m) (hov : ¬ 1125899906842624 < totT ts + m) : Inv (putT n ⟨root, (oldT n root ts).locked + m, (oldT n root ts).asked, (oldT n root ts).at9⟩ ts) hs := by
  obtain ⟨o1, o2, o3, o4, o5, o6⟩ := h.old n root
  refine h.put h0 h1 hr o3 o4 o5 (by simp only; omega) ?_
  rw [totT_put h.tk]
  unfold oldT at *
  cases hl : lookT n ts with
  | none => simp only [hl] at *; omega
  | some x => simp only [hl] at *; omega
theorem Inv.ask (h : Inv ts hs) {n m height : Int} {x : PTE} (hl : lookT n ts = some x) (h0 : -1099511627776 ≤ height) (h1 : height ≤ 1099511627776) (ha : ¬ 0 < x.t.asked) (hm : ¬ (m < 1 ∨ freeB n ts hs < m)) : Inv (putT n ⟨x.t.root, x.t.locked, m, height⟩ ts) hs := by
  obtain ⟨h2, h3⟩ := lookT_num hl
  have h4 := h.tn x h2
  rw [h3] at h4
  have h5 := h.ta x h2
  have h6 : freeB n ts hs = x.t.locked - x.t.asked - heldH n hs := by unfold freeB; rw [hl]
  refine h.put h4.1 h4.2 (h.tr x h2) (by simp only; omega) h0 h1 (by simp only; omega) ?_
  rw [totT_put h.tk, hl]
  have := h.tot
  simp only
  omega
theorem Inv.take (h : Inv ts hs) {n : Int} {x : PTE} (hl : lookT n ts = some x) : Inv (putT n ⟨x.t.root, x.t.locked - x.t.asked, 0, 0⟩ ts) hs := by
  obtain ⟨h2, h3⟩ := lookT_num hl
  have h4 := h.tn x h2
  rw [h3] at h4
  have h5 := h.ta x h2
  have h6 := h.tl x h2
  rw [h3] at h6
  refine h.put h4.1 h4.2 (h.tr x h2) (Int.le_refl _) (by simp only; decide) (by simp only; decide) (by simp only; omega) ?_
  rw [totT_put h.tk, hl]
  have := h.tot
  simp only
  omega
theorem Inv.hold (h : Inv ts hs) {n : Int} {c : PChan} (hc : ChanIn c) (h1 : 1 ≤ c.cap) (hl : lookT n ts ≠ none) (hh : lookH n c.id hs = none) (hf : ¬ freeB n ts hs < c.cap) : Inv ts (hs ++ [⟨n, ⟨c, c.cap, false, 0, zero32⟩⟩]) where
  tk := h.tk
  hk := by
    rw [List.map_append, List.nodup_append]
    refine ⟨h.hk, by simp, fun a ha b hb e => ?_⟩
    simp at hb
    subst hb
    subst e
    obtain ⟨x, hx, e⟩ := List.mem_map.1 ha
    exact lookK_none.1 hh x hx e
  tn := h.tn
  tr := h.tr
  ta := h.ta
  tl x hx := by
    have h2 := h.tl x hx
    rw [heldH_append]
    show x.t.asked + (heldH x.n hs + ((if n = x.n then c.cap else 0) + 0)) ≤ x.t.locked
    by_cases e : n = x.n
    · subst e
      have h3 : lookT x.n ts = some x := lookK_of_mem (key := PTE.n) h.tk hx
      unfold freeB at hf
      rw [h3] at hf
      simp only at hf
      rw [if_pos rfl]
      omega
    · rw [if_neg e]
      omega
  hin x hx := by
    rcases List.mem_append.1 hx with hx | hx
    · exact h.hin x hx
    · simp at hx
      subst hx
      obtain ⟨y, hy⟩ := Option.ne_none_iff_exists'.1 hl
      obtain ⟨h2, h3⟩ := lookT_num hy
      have h4 := h.tn y h2
      rw [h3] at h4
      exact ⟨by constructor <;> simp only <;> omega, hc, hc.cap, by constructor <;> (simp only; decide), rfl⟩
  ha x hx := by
    rcases List.mem_append.1 hx with hx | hx
    · exact h.ha x hx
    · simp at hx
      subst hx
      exact ⟨h1, by simp only; decide, by simp only; decide⟩
  ht x hx := by
    rcases List.mem_append.1 hx with hx | hx
    · exact h.ht x hx
    · simp at hx
      subst hx
      exact hl
  tot := h.tot
theorem Inv.prove (h : Inv ts hs) {n id height : Int} {commit : List UInt8} {x : PHE} (hl : lookH n id hs = some x) (h0 : -1099511627776 ≤ height) (h1 : height ≤ 1099511627776) (hc : commit.length = 32) : Inv ts (setK hkey (n, id) ⟨n, ⟨x.h.ch, x.h.amount, true, height, commit⟩⟩ hs) := by
  obtain ⟨h2, h3⟩ := lookK_mem hl
  have e1 : x.n = n := congrArg Prod.fst h3
  have e2 : x.h.ch.id = id := congrArg Prod.snd h3
  have hk : hkey (⟨n, ⟨x.h.ch, x.h.amount, true, height, commit⟩⟩ : PHE) = (n, id) := by unfold hkey; rw [← e2]
  have h4 := h.hin x h2
  refine ⟨h.tk, by rw [setK_keys hk]; exact h.hk, h.tn, h.tr, h.ta, fun y hy => ?_, fun y hy => ?_, fun y hy => ?_, fun y hy => ?_, h.tot⟩
  · have h5 := h.tl y hy
    rw [heldH_set y.n hk h.hk, hl]
    simp only
    split <;> omega
  · rcases setK_mem hy with rfl | ⟨hy, _⟩
    · exact ⟨by rw [← e1]; exact h4.n, h4.h.ch, h4.h.amount, by constructor <;> simp only <;> omega, hc⟩
    · exact h.hin y hy
  · rcases setK_mem hy with rfl | ⟨hy, _⟩
    · exact ⟨(h.ha x h2).1, h0, h1⟩
    · exact h.ha y hy
  · rcases setK_mem hy with rfl | ⟨hy, _⟩
    · have h5 := h.ht x h2
      rw [e1] at h5
      exact h5
    · exact h.ht y hy
theorem Inv.settle (h : Inv ts hs) {n id : Int} {x : PHE} {y : PTE} (hl : lookH n id hs = some x) (ht : lookT n ts = some y) : Inv (putT n ⟨y.t.root, y.t.locked - x.h.amount, y.t.asked, y.t.at9⟩ ts) (delK hkey (n, id) hs) := by
  obtain ⟨h2, h3⟩ := lookT_num ht
  obtain ⟨h4, h5⟩ := lookK_mem hl
  have e1 : x.n = n := congrArg Prod.fst h5
  have h6 := h.tn y h2
  rw [h3] at h6
  have h7 := h.ta y h2
  have h8 := h.tl y h2
  rw [h3] at h8
  have h9 := (h.ha x h4).1
  have h10 := h.amountHeld h4
  rw [e1] at h10
  refine (h.del n id).put h6.1 h6.2 (h.tr y h2) h7.1 h7.2.1 h7.2.2 ?_ ?_
  · rw [heldH_del n n id h.hk, hl]
    simp only [if_true]
    omega
  · rw [totT_put h.tk, ht]
    have := h.tot
    simp only
    omega
/-- Between the two: the tower has less, and its hold is there yet. -/
theorem Inv.tower (h : Inv ts hs) {x : PHE} (hx : x ∈ hs) : ∃ y, lookT x.n ts = some y := Option.ne_none_iff_exists'.1 (h.ht x hx)
end

/-! ### In memory -/
theorem ne_of_map {w : World} {g b : Nat} {es : Array MapEntry} {cl : Nat} {cs : Array Value} {t : TypeId} {fr : Nat × Nat} (hm : w.heap[b]? = some (.map es cl)) (hg : w.heap[g]? = some (.cells cs t fr)) : g ≠ b := fun e => by
  subst e
  rw [hm] at hg
  cases hg
theorem but_of_grown {w w' : World} {b : Nat} (h : w.grownBy w' (some b)) : But w.heap.size b w w' := ⟨h.os, h.tape, h.output, h.size, fun k hk hp => h.block k hk (fun e => hp (Option.some.inj e))⟩
/-- The board's maps. -/
def mapsOf (tb hb : Nat) : Nat → Option Obj → Prop := fun k _ => k = tb ∨ k = hb
def CodeOut (B : Nat) (w : World) (pv : Value) (tb hb N : Nat) (ans : Value) (ts : List PTE) (hs : List PHE) (e : Ending) (w' : World) : Prop :=
  e = .returned ans ∧ BoardAt B w' pv tb hb (N + 1) ts hs ∧ Bar (mapsOf tb hb) w w' ∧ Below B w w'
section
variable {B : Nat} {w w' : World} {pv : Value} {tb hb N : Nat} {ts : List PTE} {hs : List PHE}
theorem BoardAt.le (h : BoardAt B w pv tb hb N ts hs) : B ≤ w.heap.size := by
  obtain ⟨es, cl, h1⟩ := h.tMap
  have h2 := lt_of_block h1
  have h3 := h.tB
  omega
theorem BoardAt.same (h : BoardAt B w pv tb hb N ts hs) (hN : N + 1 ≤ 100) (k : Below w.heap.size w w') (ans : Value) : CodeOut B w pv tb hb N ans ts hs (.returned ans) w' :=
  ⟨rfl, (h.below k).more hN, Bar.of k, k.mono h.le⟩
theorem BoardAt.wrote {w2 : World} (h : BoardAt B w pv tb hb N ts hs) (k : Below w.heap.size w w2) (hg : w2.grownBy w' (some tb) ∨ w2.grownBy w' (some hb)) {ts' : List PTE} {hs' : List PHE} (h9 : BoardAt B w' pv tb hb (N + 1) ts' hs') (ans : Value) : CodeOut B w pv tb hb N ans ts' hs' (.returned ans) w' := by
  have hb1 : Bar (mapsOf tb hb) w2 w' := by
    rcases hg with hg | hg
    · exact Bar.grown hg (fun k e => .inl (Option.some.inj e).symm)
    · exact Bar.grown hg (fun k e => .inr (Option.some.inj e).symm)
  have hb2 : Below B w2 w' := by
    have h1 := h.tB
    have h2 := h.hB
    have h3 := h.le
    have h4 := k.size
    rcases hg with hg | hg
    · exact ⟨hg.os, hg.tape, hg.output, hg.size, fun i hi => hg.block i (by omega) (fun e => by cases e; omega)⟩
    · exact ⟨hg.os, hg.tape, hg.output, hg.size, fun i hi => hg.block i (by omega) (fun e => by cases e; omega)⟩
  exact ⟨rfl, h9, (Bar.of k).trans hb1, (k.mono h.le).trans hb2⟩
/-- A tower is put into the map. -/
theorem BoardAt.putTow (h : BoardAt B w pv tb hb N ts hs) (hN : N + 1 ≤ 100) {n : Int} (hf : Fits n) (t : PTow) (hi : Inv (putT n t ts) hs) : ∃ w', (Instr.mapUpdate 48 (.map (some tb)) (.int .i64 n) (.agg t.cells.toArray)).run Try.prog w = .ok () w' ∧ BoardAt B w' pv tb hb (N + 1) (putT n t ts) hs ∧ w.grownBy w' (some tb) := by
  obtain ⟨k, hk, hm⟩ := h.mt
  have hfew := h.few
  have hF : ∀ x : NumD, (if x = ⟨n, hf⟩ then some (Value.agg t.cells.toArray) else towF ts x) = towF (putT n t ts) x := fun x => by
    unfold towF
    rw [lookT_put]
    by_cases e : x = ⟨n, hf⟩
    · subst e
      simp
    · have e2 : ¬ x.z = n := fun e9 => e (by cases x; cases e9; rfl)
      rw [if_neg e, if_neg e2]
  cases hl : lookT n ts with
  | none =>
    obtain ⟨w', h1, h2, h3⟩ := hm.put (e := 67) Try.underlying48 (by omega) ⟨n, hf⟩ (by unfold towF; rw [hl]; rfl) (.agg t.cells.toArray)
    exact ⟨w', h1, h.towers hk h2 h3 (by rw [putT_len, if_pos hl]) hF hN hi, h3⟩
  | some x =>
    obtain ⟨w', h1, h2, h3⟩ := hm.set (e := 67) Try.underlying48 (by omega) ⟨n, hf⟩ (by unfold towF; rw [hl]; simp) (.agg t.cells.toArray)
    exact ⟨w', h1, h.towers hk h2 h3 (by rw [putT_len, if_neg (by rw [hl]; simp)]) hF hN hi, h3⟩
/-- A hold is put into the map, where there was none. -/
theorem BoardAt.addH (h : BoardAt B w pv tb hb N ts hs) (hN : N + 1 ≤ 100) {n : Int} {v : PHold} (f1 : Fits n) (f2 : Fits v.ch.id) (hl : lookH n v.ch.id hs = none) (hi : Inv ts (hs ++ [⟨n, v⟩])) : ∃ w', (Instr.mapUpdate 49 (.map (some hb)) (.agg #[.int .i64 n, .int .i64 v.ch.id]) (.agg v.cells.toArray)).run Try.prog w = .ok () w' ∧ BoardAt B w' pv tb hb (N + 1) ts (hs ++ [⟨n, v⟩]) ∧ w.grownBy w' (some hb) := by
  obtain ⟨k, hk, hm⟩ := h.mh
  have hfew := h.few
  obtain ⟨w', h1, h2, h3⟩ := hm.put (e := 53) Try.underlying49 (by omega) ⟨n, v.ch.id, f1, f2⟩ (by unfold holF; rw [hl]; rfl) (.agg v.cells.toArray)
  refine ⟨w', h1, h.holds (by omega) h2 h3 (by simp) (fun x => ?_) hN hi, h3⟩
  unfold holF lookH
  rw [lookK_end]
  by_cases e : x = ⟨n, v.ch.id, f1, f2⟩
  · subst e
    unfold lookH at hl
    rw [if_pos rfl, hl]
    simp [hkey]
  · have e2 : ¬ hkey ⟨n, v⟩ = (x.y, x.z) := fun e9 => e (by cases x; unfold hkey at e9; simp at e9; obtain ⟨e3, e4⟩ := e9; subst e3 e4; rfl)
    rw [if_neg e, if_neg e2]
    cases lookK hkey (x.y, x.z) hs <;> rfl
/-- A hold is put into the map, where there was one. -/
theorem BoardAt.setH (h : BoardAt B w pv tb hb N ts hs) (hN : N + 1 ≤ 100) {n id : Int} {v : PHold} (f1 : Fits n) (f2 : Fits id) (hid : v.ch.id = id) (hl : lookH n id hs ≠ none) (hi : Inv ts (setK hkey (n, id) ⟨n, v⟩ hs)) : ∃ w', (Instr.mapUpdate 49 (.map (some hb)) (.agg #[.int .i64 n, .int .i64 id]) (.agg v.cells.toArray)).run Try.prog w = .ok () w' ∧ BoardAt B w' pv tb hb (N + 1) ts (setK hkey (n, id) ⟨n, v⟩ hs) ∧ w.grownBy w' (some hb) := by
  obtain ⟨k, hk, hm⟩ := h.mh
  have hfew := h.few
  obtain ⟨w', h1, h2, h3⟩ := hm.set (e := 53) Try.underlying49 (by omega) ⟨n, id, f1, f2⟩ (by unfold holF; cases h9 : lookH n id hs with | none => exact absurd h9 hl | some x => simp) (.agg v.cells.toArray)
  refine ⟨w', h1, h.holds (by omega) h2 h3 setK_len.symm (fun x => ?_) hN hi, h3⟩
  unfold holF lookH
  rw [setK_look (k := (n, id)) (y := (⟨n, v⟩ : PHE)) (by unfold hkey; rw [hid]) hl]
  by_cases e : x = ⟨n, id, f1, f2⟩
  · subst e
    simp
  · have e2 : ¬ (x.y, x.z) = (n, id) := fun e9 => e (by cases x; simp at e9; obtain ⟨e3, e4⟩ := e9; subst e3 e4; rfl)
    rw [if_neg e, if_neg e2]
/-- A hold is struck. -/
theorem BoardAt.delH (h : BoardAt B w pv tb hb N ts hs) (hN : N + 1 ≤ 100) {n id : Int} (f1 : Fits n) (f2 : Fits id) (hl : lookH n id hs ≠ none) (ty : TypeId) : ∃ w', (Builtin.delete_ #[49, 76] ty #[.map (some hb), .agg #[.int .i64 n, .int .i64 id]]).run Try.prog w = .ok (.tuple #[]) w' ∧ BoardAt B w' pv tb hb (N + 1) ts (delK hkey (n, id) hs) ∧ w.grownBy w' (some hb) := by
  obtain ⟨k, hk, hm⟩ := h.mh
  have hfew := h.few
  obtain ⟨w', h1, h2, h3⟩ := hm.drop (e := 53) Try.underlying49 ⟨n, id, f1, f2⟩ (by unfold holF; cases h9 : lookH n id hs with | none => exact absurd h9 hl | some x => simp) ty
  refine ⟨w', h1, h.holds (by omega) h2 h3 (by have := delK_len h.inv.hk hl; omega) (fun x => ?_) hN (h.inv.del n id), h3⟩
  unfold holF lookH
  rw [delK_look]
  by_cases e : x = ⟨n, id, f1, f2⟩
  · subst e
    simp
  · have e2 : ¬ (x.y, x.z) = (n, id) := fun e9 => e (by cases x; simp at e9; obtain ⟨e3, e4⟩ := e9; subst e3 e4; rfl)
    rw [if_neg e, if_neg e2]
/-- One of a tower's holds is paid: its tower has less, and the hold is no more. -/
theorem BoardAt.pay (h : BoardAt B w pv tb hb N ts hs) (hN : N + 1 ≤ 100) {n id : Int} (f1 : Fits n) (f2 : Fits id) {t : PTow} (hl : lookH n id hs ≠ none) (hi : Inv (putT n t ts) (delK hkey (n, id) hs)) : ∃ w1, (Instr.mapUpdate 48 (.map (some tb)) (.int .i64 n) (.agg t.cells.toArray)).run Try.prog w = .ok () w1 ∧ w.grownBy w1 (some tb) ∧ ∀ (w2 : World) (ty : TypeId), Below w1.heap.size w1 w2 → ∃ w', (Builtin.delete_ #[49, 76] ty #[.map (some hb), .agg #[.int .i64 n, .int .i64 id]]).run Try.prog w2 = .ok (.tuple #[]) w' ∧ BoardAt B w' pv tb hb (N + 1) (putT n t ts) (delK hkey (n, id) hs) ∧ w2.grownBy w' (some hb) := by
  obtain ⟨k, hk, hm⟩ := h.mt
  obtain ⟨k2, hk2, hm2⟩ := h.mh
  have hfew := h.few
  have hF : ∀ x : NumD, (if x = ⟨n, f1⟩ then some (Value.agg t.cells.toArray) else towF ts x) = towF (putT n t ts) x := fun x => by
    unfold towF
    rw [lookT_put]
    by_cases e : x = ⟨n, f1⟩
    · subst e
      simp
    · have e2 : ¬ x.z = n := fun e9 => e (by cases x; cases e9; rfl)
      rw [if_neg e, if_neg e2]
  have hput : ∃ w1, (Instr.mapUpdate 48 (.map (some tb)) (.int .i64 n) (.agg t.cells.toArray)).run Try.prog w = .ok () w1 ∧ MapK numK w1 tb (k + 1) (putT n t ts).length (towF (putT n t ts)) ∧ w.grownBy w1 (some tb) := by
    cases hl9 : lookT n ts with
    | none =>
      obtain ⟨w', h1, h2, h3⟩ := hm.put (e := 67) Try.underlying48 (by omega) ⟨n, f1⟩ (by unfold towF; rw [hl9]; rfl) (.agg t.cells.toArray)
      exact ⟨w', h1, by rw [putT_len, if_pos hl9]; exact h2.congr hF, h3⟩
    | some x =>
      obtain ⟨w', h1, h2, h3⟩ := hm.set (e := 67) Try.underlying48 (by omega) ⟨n, f1⟩ (by unfold towF; rw [hl9]; simp) (.agg t.cells.toArray)
      exact ⟨w', h1, by rw [putT_len, if_neg (by rw [hl9]; simp)]; exact h2.congr hF, h3⟩
  obtain ⟨w1, h1, h2, h3⟩ := hput
  refine ⟨w1, h1, h3, fun w2 ty hW => ?_⟩
  have hh1 : MapK twoK w1 hb k2 hs.length (holF hs) := hm2.at (h3.block hb hm2.lt (fun e => h.ne (Option.some.inj e).symm))
  have hh2 := hh1.below hW
  obtain ⟨w', g1, g2, g3⟩ := hh2.drop (e := 53) Try.underlying49 ⟨n, id, f1, f2⟩ (by unfold holF; cases h9 : lookH n id hs with | none => exact absurd h9 hl | some x => simp) ty
  obtain ⟨vb, v1, v2⟩ := h.has
  obtain ⟨es, cl, m1⟩ := h.tMap
  obtain ⟨es2, cl2, m2⟩ := h.hMap
  have v3 : w1.heap[vb]? = some (.cells #[.map (some tb), .map (some hb)] 51 (0, 0)) := (h3.block vb (lt_of_block v2) (fun e => by cases e; rw [m1] at v2; cases v2)).trans v2
  have v4 := keep hW v3
  have v5 := (g3.block vb (lt_of_block v4) (fun e => by cases e; rw [m2] at v2; cases v2)).trans v4
  have t5 : MapK numK w' tb (k + 1) (putT n t ts).length (towF (putT n t ts)) := (h2.below hW).at (g3.block tb (h2.below hW).lt (fun e => h.ne (Option.some.inj e)))
  refine ⟨w', g1, ⟨⟨vb, v1, v5⟩, h.tB, h.hB, h.ne, hN, ⟨k + 1, by omega, t5⟩, ⟨k2, by omega, ?_⟩, hi⟩, g3⟩
  have e9 : hs.length - 1 = (delK hkey (n, id) hs).length := by have := delK_len h.inv.hk hl; omega
  rw [← e9]
  refine g2.congr (fun x => ?_)
  unfold holF lookH
  rw [delK_look]
  by_cases e : x = ⟨n, id, f1, f2⟩
  · subst e
    simp
  · have e2 : ¬ (x.y, x.z) = (n, id) := fun e9 => e (by cases x; simp at e9; obtain ⟨e3, e4⟩ := e9; subst e3 e4; rfl)
    rw [if_neg e, if_neg e2]
/-- .. as it leaves all. -/
theorem BoardAt.wrote2 {w2 w3 w4 : World} (h : BoardAt B w pv tb hb N ts hs) (k : Below w.heap.size w w2) (hg : w2.grownBy w3 (some tb)) (k3 : Below w3.heap.size w3 w4) (hg2 : w4.grownBy w' (some hb)) {ts' : List PTE} {hs' : List PHE} (h9 : BoardAt B w' pv tb hb (N + 1) ts' hs') (ans : Value) : CodeOut B w pv tb hb N ans ts' hs' (.returned ans) w' := by
  have h1 := h.tB
  have h2 := h.hB
  have h3 := h.le
  have h4 := k.size
  have h5 := hg.size
  have h6 := k3.size
  have b1 : Below B w2 w3 := ⟨hg.os, hg.tape, hg.output, hg.size, fun i hi => hg.block i (by omega) (fun e => by cases e; omega)⟩
  have b2 : Below B w4 w' := ⟨hg2.os, hg2.tape, hg2.output, hg2.size, fun i hi => hg2.block i (by omega) (fun e => by cases e; omega)⟩
  have b3 : Below B w3 w4 := k3.mono (by omega)
  exact ⟨rfl, h9, (((Bar.of k).trans (Bar.grown hg (fun k e => .inl (Option.some.inj e).symm))).trans (Bar.of k3)).trans (Bar.grown hg2 (fun k e => .inr (Option.some.inj e).symm)), (((k.mono h.le).trans b1).trans b3).trans b2⟩
end
/-- Two loads, a build: where their guard lets them. -/
theorem wpList_loadw {P : Program} {ops : Array Oper} {rest : List Oper} {op : Oper} {a : Act} {w : World} {Q : Exit → Act → World → Prop} (hw : Region.wanted op (yielded ops a.tmps) = true) (ty : TypeId) (x : Operand) (ho : op.op = .load ty x)
    (b o : Nat) (hx : a.eval x = .pointer (some ⟨b, o, none⟩)) (cs : List Value) (d : TypeDesc) (hc : w.rangeAt b o cs) (hu : P.underlying ty = some d) (hd : d.isRow = true) (hi : (P.info? ty).map (·.size) = some cs.length)
    (h : wpList P ops Q rest (a.put op.dst (.agg cs.toArray)) w) : wpList P ops Q (op :: rest) a w :=
  wpList_step fun K hK => by
    rw [if_pos hw]
    exact wp_load_mid ty x ho b o hx cs d hc hu hd hi (hK _ _ h)
theorem wpList_buildw {P : Program} {ops : Array Oper} {rest : List Oper} {o : Oper} {A : Act} {w : World} {Q : Exit → Act → World → Prop} (hw : Region.wanted o (yielded ops A.tmps) = true) {t : TypeId} {fs : Array (Nat × Operand)} {vs : List (Nat × Value)} {r : Value} (ho : o.op = .build t fs) (hx : (fs.toList.map fun f => (f.1, A.eval f.2)) = vs) (hrun : ∀ w, (Instr.build t vs.toArray).run P w = .ok r w)
    (h : wpList P ops Q rest (A.put o.dst r) w) : wpList P ops Q (o :: rest) A w :=
  wpList_step fun K hK => by
    rw [if_pos hw]
    have e : (fs.map fun f => (f.1, A.eval f.2)) = vs.toArray := by rw [← hx]; apply Array.toList_inj.1; exact Array.toList_map
    unfold Oper.wp execOp
    simp only [ho, e, Sem.run_bind, hrun w, Result.andThen_ok, Sem.run_pure]
    exact hK _ _ h
theorem sum_size {s : List UInt8} (h : s.length = 32) : (Try.prog.info? 31).map (·.size) = some (cellsOf s).length := by rw [cellsOf_len, h]; exact Try.size31
theorem eq_sums {s t : List UInt8} (hs : s.length = 32) (ht : t.length = 32) {r : Bool} (hr : decide (s = t) = r) (W : World) : (Op.equalIn 10000 31 (.agg (cellsOf s).toArray) (.agg (cellsOf t).toArray)).run Try.prog W = .ok r W := by rw [run_eqSums s t hs ht W, hr]
end Go.Proofs.Ytijanllppbambaa
