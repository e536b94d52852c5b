/- The code's calls, all cases in one. -/
import Derived.Test.YtijanllppbambaaBondLock
import Derived.Test.YtijanllppbambaaBondHold
import Derived.Test.YtijanllppbambaaBondLet
import Derived.Test.YtijanllppbambaaBondAsk
import Derived.Test.YtijanllppbambaaBondTake
import Derived.Test.YtijanllppbambaaBondProve
import Derived.Test.YtijanllppbambaaBondSettle
namespace Go.Proofs.Ytijanllppbambaa
open Go.RowKit Go.Maps

theorem noTow_len : noTow.root.length = 32 := rfl
section
variable {B : Nat} {w : World} {pv : Value} {tb hb N : Nat} {ts : List PTE} {hs : List PHE}
theorem CodeOut.of (h : BoardAt B w pv tb hb N ts hs) (hN : N + 1 ≤ 100) {ans : Value} {e : Ending} {w' : World} (k : e = .returned ans ∧ Below w.heap.size w w') : CodeOut B w pv tb hb N ans ts hs e w' := by
  obtain ⟨rfl, k⟩ := k
  exact h.same hN k ans
theorem lock_code (h : BoardAt B w pv tb hb N ts hs) (hN : N + 1 ≤ 100) {n m : Int} {s : List UInt8} (fn : Fits n) (fm : Fits m) (hs9 : s.length = 32) : Calls Try.prog 12 #[pv, .int .i64 n, .int .i64 m, .agg (cellsOf s).toArray] w fun e w' => CodeOut B w pv tb hb N (.int .i64 (lockB n m s ts).1) (lockB n m s ts).2 hs e w' := by
  by_cases hbad : badLock n m s
  · rw [show lockB n m s ts = (1, ts) by unfold lockB; rw [if_pos hbad]]
    exact (lock_bad hs9 h.given (.inr hbad)).mono fun _ _ k => .of h hN k
  · have h0 : 0 ≤ n ∧ n ≤ 15 ∧ 1 ≤ m := by unfold badLock at hbad; omega
    have htot := h.inv.tot0
    have htm := h.inv.tot
    have hadd := add_two htot htm h0.2.2
    have hro := h.inv.oldRoot (n := n) hs9
    have hold := h.inv.old n s
    obtain ⟨v, ok, ht, hr, hok, hv⟩ : ∃ (v : PTow) (ok : Bool), GetIs w pv n v ok ∧ v.root.length = 32 ∧ (ok = true → v = oldT n s ts) ∧ (ok = false → v = noTow ∧ oldT n s ts = ⟨s, 0, 0, 0⟩) := by
      cases hl : lookT n ts with
      | none => exact ⟨noTow, false, h.get_no fn hl, noTow_len, (fun e => by cases e), fun _ => ⟨rfl, by unfold oldT; rw [hl]⟩⟩
      | some x => exact ⟨x.t, true, h.get_yes hl, h.inv.tr x (lookT_num hl).1, (fun _ => by unfold oldT; rw [hl]), fun e => by cases e⟩
    by_cases hroot : (oldT n s ts).root ≠ s
    · rw [show lockB n m s ts = (8, ts) by unfold lockB; rw [if_neg hbad, if_pos hroot]]
      cases ok with
      | false => exact absurd (by rw [(hv rfl).2]) hroot
      | true =>
        have hve := hok rfl
        subst hve
        exact (lock_twice hs9 h.given hbad hr ht hroot).mono fun _ _ k => .of h hN k
    · have hrs := Classical.byContradiction (fun e => hroot e)
      have hok2 : ok = true → v.root = s := fun e => by rw [hok e]; exact hrs
      by_cases h5 : 1125899906842624 < m
      · rw [show lockB n m s ts = (5, ts) by unfold lockB; rw [if_neg hbad, if_neg hroot, if_pos h5]]
        rw [if_pos h5] at hadd
        exact (lock_over hs9 h.given hbad hr ht hok2 (totalIs h) (by constructor <;> omega) fm hadd (by decide)).mono fun _ _ k => .of h hN k
      · by_cases h10 : 1125899906842624 < totT ts + m
        · rw [show lockB n m s ts = (10, ts) by unfold lockB; rw [if_neg hbad, if_neg hroot, if_neg h5, if_pos h10]]
          rw [if_neg h5, if_pos h10] at hadd
          exact (lock_over hs9 h.given hbad hr ht hok2 (totalIs h) (by constructor <;> omega) fm hadd (by decide)).mono fun _ _ k => .of h hN k
        · rw [show lockB n m s ts = (0, putT n ⟨s, (oldT n s ts).locked + m, (oldT n s ts).asked, (oldT n s ts).at9⟩ ts) by unfold lockB; rw [if_neg hbad, if_neg hroot, if_neg h5, if_neg h10]]
          rw [if_neg h5, if_neg h10] at hadd
          have hi := h.inv.lock h0.1 h0.2.1 hs9 h0.2.2 h10
          have hvl : v.locked = (oldT n s ts).locked ∧ v.asked = (oldT n s ts).asked ∧ v.at9 = (oldT n s ts).at9 := by
            cases ok with
            | true => rw [hok rfl]; exact ⟨rfl, rfl, rfl⟩
            | false => rw [(hv rfl).1, (hv rfl).2]; exact ⟨rfl, rfl, rfl⟩
          rw [← hvl.1, ← hvl.2.1, ← hvl.2.2] at hi hold ⊢
          exact lock_ok9 h hN fn hs9 h.given hbad hr ht hok2 fm hadd (by omega) (by omega) (by omega) hi
theorem hold_code (h : BoardAt B w pv tb hb N ts hs) (hN : N + 1 ≤ 100) {n : Int} {c : PChan} (fn : Fits n) (hc : ChanIn c) : Calls Try.prog 16 #[pv, .int .i64 n, .agg c.cells.toArray] w fun e w' => CodeOut B w pv tb hb N (.int .i64 (holdB n c ts hs).1) ts (holdB n c ts hs).2 e w' := by
  unfold holdB
  by_cases hbad : c.cap < 1 ∨ 1125899906842624 < c.cap
  · rw [if_pos hbad]
    exact (hold_bad hc h.given (.inr hbad)).mono fun _ _ k => .of h hN k
  · rw [if_neg hbad]
    have h1 : ¬ c.cap < 1 := fun e => hbad (.inl e)
    have h2 : ¬ 1125899906842624 < c.cap := fun e => hbad (.inr e)
    cases hl : lookT n ts with
    | none =>
      rw [if_pos rfl]
      exact (hold_tower hc h.given h1 h2 noTow_len (h.get_no fn hl)).mono fun _ _ k => .of h hN k
    | some x =>
      rw [if_neg (by simp)]
      have hr := h.inv.tr x (lookT_num hl).1
      cases hq : lookH n c.id hs with
      | some y =>
        rw [if_pos (by simp)]
        exact (hold_twice hc h.given h1 h2 hr (h.get_yes hl) (h.inv.hin y (lookK_mem hq).1).h (h.holds_yes hq)).mono fun _ _ k => .of h hN k
      | none =>
        rw [if_neg (by simp)]
        by_cases h3 : freeB n ts hs < c.cap
        · rw [if_pos h3]
          exact (hold_bond hc h.given h1 h2 hr (h.get_yes hl) noHold_in (h.holds_no fn hc.id hq) (freeIs h fn) h3).mono fun _ _ k => .of h hN k
        · rw [if_neg h3]
          exact hold_ok h hN fn hc h1 h2 hl hq h3
theorem let_code (h : BoardAt B w pv tb hb N ts hs) (hN : N + 1 ≤ 100) {n id : Int} (f1 : Fits n) (f2 : Fits id) : Calls Try.prog 17 #[pv, .int .i64 n, .int .i64 id] w fun e w' => CodeOut B w pv tb hb N (.int .i64 (letB n id hs).1) ts (letB n id hs).2 e w' := by
  unfold letB
  cases hq : lookH n id hs with
  | none => exact (let_none noHold_in (h.holds_no f1 f2 hq)).mono fun _ _ k => .of h hN k
  | some y =>
    simp only
    cases hp : y.h.proved with
    | true => exact (let_proved (h.inv.hin y (lookK_mem hq).1).h (h.holds_yes hq) hp).mono fun _ _ k => .of h hN k
    | false => exact let_ok h hN f1 f2 hq hp
theorem ask_code (h : BoardAt B w pv tb hb N ts hs) (hN : N + 1 ≤ 100) {n m z : Int} (fn : Fits n) (hz0 : -1099511627776 ≤ z) (hz1 : z ≤ 1099511627776) : Calls Try.prog 18 #[pv, .int .i64 n, .int .i64 m, .int .i64 z] w fun e w' => CodeOut B w pv tb hb N (.int .i64 (askB n m z ts hs).1) (askB n m z ts hs).2 hs e w' := by
  unfold askB
  cases hl : lookT n ts with
  | none => exact (ask_none noTow_len (h.get_no fn hl)).mono fun _ _ k => .of h hN k
  | some x =>
    have hr := h.inv.tr x (lookT_num hl).1
    simp only
    by_cases h1 : 0 < x.t.asked
    · rw [if_pos h1]
      exact (ask_state hr (h.get_yes hl) h1).mono fun _ _ k => .of h hN k
    · rw [if_neg h1]
      by_cases h2 : m < 1 ∨ freeB n ts hs < m
      · rw [if_pos h2]
        exact (ask_bond hr (h.get_yes hl) (freeIs h fn) h1 h2).mono fun _ _ k => .of h hN k
      · rw [if_neg h2]
        exact ask_ok h hN hl hz0 hz1 h1 h2
theorem take_code (h : BoardAt B w pv tb hb N ts hs) (hN : N + 1 ≤ 100) {n z : Int} (fn : Fits n) (hz0 : -1099511627776 ≤ z) (hz1 : z ≤ 1099511627776) : Calls Try.prog 13 #[pv, .int .i64 n, .int .i64 z] w fun e w' => CodeOut B w pv tb hb N (.tuple #[.int .i64 (takeB n z ts).1, .int .i64 (takeB n z ts).2.1]) (takeB n z ts).2.2 hs e w' := by
  unfold takeB
  cases hl : lookT n ts with
  | none => exact (take_none noTow_len (h.get_no fn hl)).mono fun _ _ k => .of h hN k
  | some x =>
    have hr := h.inv.tr x (lookT_num hl).1
    have hta := h.inv.ta x (lookT_num hl).1
    simp only
    by_cases h1 : x.t.asked = 0
    · rw [if_pos h1]
      exact (take_zero hr (h.get_yes hl) h1).mono fun _ _ k => .of h hN k
    · rw [if_neg h1]
      by_cases h2 : z - x.t.at9 < 12
      · rw [if_pos h2]
        exact (take_early hr (h.get_yes hl) h1 hz0 hz1 hta.2.1 hta.2.2 h2).mono fun _ _ k => .of h hN k
      · rw [if_neg h2]
        exact take_ok h hN hl hz0 hz1 h1 h2
theorem prove_code (h : BoardAt B w pv tb hb N ts hs) (hN : N + 1 ≤ 100) {n id z : Int} {s : List UInt8} (hs9 : s.length = 32) (f1 : Fits n) (f2 : Fits id) (hz0 : -1099511627776 ≤ z) (hz1 : z ≤ 1099511627776) : Calls Try.prog 19 #[pv, .int .i64 n, .int .i64 id, .int .i64 z, .agg (cellsOf s).toArray] w fun e w' => CodeOut B w pv tb hb N (.int .i64 (proveB n id z s hs).1) ts (proveB n id z s hs).2 e w' := by
  unfold proveB
  cases hq : lookH n id hs with
  | none => exact (prove_none noHold_in (h.holds_no f1 f2 hq)).mono fun _ _ k => .of h hN k
  | some y =>
    simp only
    cases hp : y.h.proved with
    | true => exact (prove_proved (h.inv.hin y (lookK_mem hq).1).h (h.holds_yes hq) hp).mono fun _ _ k => .of h hN k
    | false => exact prove_ok h hN hs9 f1 f2 hq hz0 hz1 hp
theorem settle_code (h : BoardAt B w pv tb hb N ts hs) (hN : N + 1 ≤ 100) {n id z : Int} (f1 : Fits n) (f2 : Fits id) (hz0 : -1099511627776 ≤ z) (hz1 : z ≤ 1099511627776) : Calls Try.prog 14 #[pv, .int .i64 n, .int .i64 id, .int .i64 z] w fun e w' => CodeOut B w pv tb hb N (.tuple #[.int .i64 (settleB n id z ts hs).1, .int .i64 (settleB n id z ts hs).2.1]) (settleB n id z ts hs).2.2.1 (settleB n id z ts hs).2.2.2 e w' := by
  unfold settleB
  cases hq : lookH n id hs with
  | none => exact (settle_none noHold_in (h.holds_no f1 f2 hq)).mono fun _ _ k => .of h hN k
  | some y =>
    have hyi := (h.inv.hin y (lookK_mem hq).1).h
    have hya := h.inv.ha y (lookK_mem hq).1
    simp only
    cases hp : y.h.proved with
    | false => exact (settle_wait hyi (h.holds_yes hq) hp).mono fun _ _ k => .of h hN k
    | true =>
      by_cases h2 : z - y.h.at9 < 3
      · simp only [Bool.true_eq_false, if_false, if_pos h2]
        exact (settle_early hyi (h.holds_yes hq) hp hz0 hz1 hya.2.1 hya.2.2 h2).mono fun _ _ k => .of h hN k
      · simp only [Bool.true_eq_false, if_false, if_neg h2]
        have hyn : y.n = n := congrArg Prod.fst (lookK_mem hq).2
        have ht := h.inv.ht y (lookK_mem hq).1
        rw [hyn] at ht
        unfold lessT
        cases hx : lookT n ts with
        | none => exact absurd hx ht
        | some x => exact settle_ok h hN f1 f2 hq hx hz0 hz1 hp h2
end
end Go.Proofs.Ytijanllppbambaa
