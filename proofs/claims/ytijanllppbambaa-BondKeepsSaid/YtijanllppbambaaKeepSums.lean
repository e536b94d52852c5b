/- What a call leaves locked, as plain lists. -/
import Derived.Test.YtijanllppbambaaStep10
namespace Go.Proofs.Ytijanllppbambaa
open Go.RowKit Go.Maps

section
variable {ts : List PTE} {hs : List PHE}
theorem tot_lock (h : Inv ts hs) (n m : Int) (s : List UInt8) : totT (lockB n m s ts).2 = totT ts + (if (lockB n m s ts).1 = 0 then m else 0) := by
  unfold lockB
  by_cases h1 : badLock n m s
  · simp [h1]
  by_cases h2 : (oldT n s ts).root ≠ s
  · simp [h1, h2]
  by_cases h3 : 1125899906842624 < m
  · simp [h1, h2, h3]
  by_cases h4 : 1125899906842624 < totT ts + m
  · simp [h1, h2, h3, h4]
  · rw [if_neg h1, if_neg h2, if_neg h3, if_neg h4]
    simp only [if_true]
    rw [totT_put h.tk]
    unfold oldT
    cases lookT n ts <;> simp only <;> omega
theorem tot_take (h : Inv ts hs) (n z : Int) : totT (takeB n z ts).2.2 = totT ts - (takeB n z ts).1 := by
  unfold takeB
  cases hl : lookT n ts with
  | none => simp
  | some x =>
    simp only
    by_cases h1 : x.t.asked = 0
    · simp [h1]
    by_cases h2 : z - x.t.at9 < 12
    · simp [h1, h2]
    · rw [if_neg h1, if_neg h2]
      simp only
      rw [totT_put h.tk, hl]
      simp only
      omega
theorem tot_ask (h : Inv ts hs) (n m z : Int) : totT (askB n m z ts hs).2 = totT ts := by
  unfold askB
  cases hl : lookT n ts with
  | none => rfl
  | some x =>
    simp only
    by_cases h1 : 0 < x.t.asked
    · simp [h1]
    by_cases h2 : m < 1 ∨ freeB n ts hs < m
    · rw [if_neg h1, if_pos h2]
    · rw [if_neg h1, if_neg h2]
      simp only
      rw [totT_put h.tk, hl]
      simp only
      omega
theorem tot_settle (h : Inv ts hs) (n id z : Int) : totT (settleB n id z ts hs).2.2.1 = totT ts - (settleB n id z ts hs).1 := by
  unfold settleB
  cases hq : lookH n id hs with
  | none => simp
  | some y =>
    have hyn : y.n = n := congrArg Prod.fst (lookK_mem hq).2
    have ht := h.ht y (lookK_mem hq).1
    rw [hyn] at ht
    simp only
    by_cases h1 : y.h.proved = false
    · rw [if_pos h1]
      simp
    by_cases h2 : z - y.h.at9 < 3
    · rw [if_neg h1, if_pos h2]
      simp
    · rw [if_neg h1, if_neg h2]
      simp only
      unfold lessT
      cases hl : lookT n ts with
      | none => exact absurd hl ht
      | some x =>
        simp only
        rw [totT_put h.tk, hl]
        simp only
        omega
theorem tot_step (h : Inv ts hs) {k : Int} (h0 : k ≠ 0) (h5 : k ≠ 5) (h7 : k ≠ 7) (n m z : Int) (s : List UInt8) (c : PChan) : totT (stepA k n m z s c ts hs).2.2.1 = totT ts := by
  unfold stepA
  rw [if_neg h0]
  by_cases k1 : k = 1 ∨ k = 2
  · rw [if_pos k1]
  rw [if_neg k1]
  by_cases k3 : k = 3
  · rw [if_pos k3]
  rw [if_neg k3]
  by_cases k4 : k = 4
  · rw [if_pos k4]
    exact tot_ask h n m z
  rw [if_neg k4, if_neg h5]
  by_cases k6 : k = 6
  · rw [if_pos k6]
  rw [if_neg k6, if_neg h7]
end
end Go.Proofs.Ytijanllppbambaa
