/- Plain lists and worlds for the statements of layer 1: what a slice of bytes holds; numbers in seven bits a byte. No program is named. -/
import Derived.WalkKit
import Derived.Laws.IdiomStrings
import Derived.Lib.Hide
namespace Go.Proofs.Ytdcieknblahoeaa
open Go.RowKit

/-- A slice of bytes that reads as 'l'. -/
def Row (w : World) (a : Option Addr) (n c : Nat) (l : List UInt8) : Prop :=
  l.length = n ∧ n ≤ c ∧ c ≤ maxLen ∧ (a = none → c = 0) ∧
  (0 < n → ∃ b off, a = some ⟨b, off, none⟩ ∧ b < w.heap.size ∧ ∀ j, j < n → w.cell? ⟨b, off + j, none⟩ = some (.int .u8 (((l.getD j 0).toNat : Nat) : Int)))

/-- The number that the first 'i' bytes make, seven bits each. -/
def val (l : List UInt8) : Nat → Nat
  | 0 => 0
  | i + 1 => val l i + ((l.getD i 0).toNat % 128) * 128 ^ i

theorem val_lt (l : List UInt8) : ∀ i, val l i < 128 ^ i
  | 0 => by simp [val]
  | i + 1 => by
    have h := val_lt l i
    have h2 : (l.getD i 0).toNat % 128 < 128 := Nat.mod_lt _ (by decide)
    unfold val
    have h3 : ((l.getD i 0).toNat % 128) * 128 ^ i ≤ 127 * 128 ^ i := Nat.mul_le_mul_right _ (by omega)
    rw [Nat.pow_succ]
    omega

theorem val_step_le (l : List UInt8) (i : Nat) (h : i < 9) : val l i + ((l.getD i 0).toNat % 128) * 128 ^ i ≤ 9223372036854775807 := by
  have h1 := val_lt l (i + 1)
  unfold val at h1
  have h2 : (128 : Nat) ^ (i + 1) ≤ 128 ^ 9 := Nat.pow_le_pow_right (by decide) (by omega)
  have h3 : (128 : Nat) ^ 9 = 9223372036854775808 := by decide
  omega

/-- The place of the first byte below 128; or how many there are; or nine. -/
def stopAt (l : List UInt8) : Nat := ((l.take 9).takeWhile fun c => decide (128 ≤ c.toNat)).length

theorem takeWhile_len {α : Type} (p : α → Bool) : ∀ (l : List α) (k : Nat), k ≤ l.length → (∀ j (h : j < l.length), j < k → p l[j] = true) → (∀ (h : k < l.length), p l[k] = false) → (l.takeWhile p).length = k
  | [], k, hk, _, _ => by simp at hk; simp [hk]
  | x :: l, 0, _, _, h2 => by
    have := h2 (by simp)
    simp at this
    simp [List.takeWhile, this]
  | x :: l, k + 1, hk, h1, h2 => by
    have hx : p x = true := h1 0 (by simp) (by omega)
    simp only [List.takeWhile, hx, List.length_cons]
    rw [takeWhile_len p l k (by simpa using hk) (fun j h hj => (List.getElem_cons_succ x l j (by simpa using h)) ▸ h1 (j + 1) (by simpa using h) (by omega)) (fun h => (List.getElem_cons_succ x l k (by simpa using h)) ▸ h2 (by simpa using h))]

theorem stop_eq (l : List UInt8) (k : Nat) (hk : k ≤ l.length) (h9 : k ≤ 9) (h1 : ∀ j, j < k → 128 ≤ (l.getD j 0).toNat) (h2 : k = l.length ∨ k = 9 ∨ (l.getD k 0).toNat < 128) : stopAt l = k := by
  unfold stopAt
  refine takeWhile_len _ _ k (by simp; omega) (fun j h hj => ?_) (fun h => ?_)
  · simp only [List.length_take] at h
    have := h1 j hj
    have hl : j < l.length := by omega
    simpa [List.getD, List.getElem?_eq_getElem hl] using this
  · simp only [List.length_take] at h
    have hl : k < l.length := by omega
    have : (l.getD k 0).toNat < 128 := by omega
    simpa [List.getD, List.getElem?_eq_getElem hl] using this

/-- What is read at the front of bytes: the number, how many bytes it has, the error. -/
def numOf (l : List UInt8) : Nat × Nat × Nat :=
  if stopAt l = 9 then (0, 0, 5)
  else if stopAt l = l.length then (0, 0, 2)
  else if (l.getD (stopAt l) 0).toNat = 0 ∧ 0 < stopAt l then (0, 0, 4)
  else (val l (stopAt l + 1), stopAt l + 1, 0)

theorem num_none (l : List UInt8) (k : Nat) (hk : k = l.length) (h9 : k < 9) (h1 : ∀ j, j < k → 128 ≤ (l.getD j 0).toNat) : numOf l = (0, 0, 2) := by
  have h := stop_eq l k (by omega) (by omega) h1 (.inl hk)
  unfold numOf
  rw [h, if_neg (by omega), if_pos hk]
theorem num_nine (l : List UInt8) (hk : 9 ≤ l.length) (h1 : ∀ j, j < 9 → 128 ≤ (l.getD j 0).toNat) : numOf l = (0, 0, 5) := by
  have h := stop_eq l 9 (by omega) (by omega) h1 (.inr (.inl rfl))
  unfold numOf
  rw [h, if_pos rfl]
theorem num_form (l : List UInt8) (k : Nat) (hk : k < l.length) (h9 : k < 9) (h1 : ∀ j, j < k → 128 ≤ (l.getD j 0).toNat) (h0 : (l.getD k 0).toNat = 0) (hp : 0 < k) : numOf l = (0, 0, 4) := by
  have h := stop_eq l k (by omega) (by omega) h1 (.inr (.inr (by omega)))
  unfold numOf
  rw [h, if_neg (by omega), if_neg (by omega), if_pos ⟨h0, hp⟩]
theorem num_good (l : List UInt8) (k : Nat) (hk : k < l.length) (h9 : k < 9) (h1 : ∀ j, j < k → 128 ≤ (l.getD j 0).toNat) (h2 : (l.getD k 0).toNat < 128) (hp : ¬ ((l.getD k 0).toNat = 0 ∧ 0 < k)) : numOf l = (val l (k + 1), k + 1, 0) := by
  have h := stop_eq l k (by omega) (by omega) h1 (.inr (.inr h2))
  unfold numOf
  rw [h, if_neg (by omega), if_neg (by omega), if_neg hp]

theorem pow_seven (k : Nat) : (2 : Int) ^ (7 * k) = ((128 ^ k : Nat) : Int) := by
  rw [Int.pow_mul]
  simp
theorem val_wrap (l : List UInt8) (k c : Nat) (h : k < 9) (hc : c = (l.getD k 0).toNat) : wrap64 (((val l k : Nat) : Int) + wrap64 ((c : Int) % 128 * 2 ^ (7 * k))) = ((val l (k + 1) : Nat) : Int) := by
  have h1 := val_step_le l k h
  rw [pow_seven]
  have e : (c : Int) % 128 * ((128 ^ k : Nat) : Int) = (((l.getD k 0).toNat % 128 * 128 ^ k : Nat) : Int) := by rw [hc]; simp
  have ev : val l (k + 1) = val l k + (l.getD k 0).toNat % 128 * 128 ^ k := rfl
  rw [e, ev]
  obtain ⟨m, hm⟩ : ∃ m, m = (l.getD k 0).toNat % 128 * 128 ^ k := ⟨_, rfl⟩
  rw [← hm] at h1 ⊢
  have e1 : wrap64 ((m : Nat) : Int) = (m : Int) := IntWalk.wrap64_in _ ⟨by omega, by omega⟩
  have e2 : wrap64 (((val l k : Nat) : Int) + (m : Int)) = ((val l k : Nat) : Int) + (m : Int) := IntWalk.wrap64_in _ ⟨by omega, by omega⟩
  rw [e1, e2]
  omega

theorem val_wrap0 (l : List UInt8) (k c : Nat) (h : k < 9) (hc : c = (l.getD k 0).toNat) (h0 : c = 0) : wrap64 (((val l k : Nat) : Int) + wrap64 0) = ((val l (k + 1) : Nat) : Int) := by
  have := val_wrap l k c h hc
  rw [h0] at this
  simpa using this

theorem stopAt_le (l : List UInt8) : stopAt l ≤ l.length ∧ stopAt l ≤ 9 := by
  unfold stopAt
  have h : ∀ (p : UInt8 → Bool) (m : List UInt8), (m.takeWhile p).length ≤ m.length := by
    intro p m
    induction m with
    | nil => simp
    | cons x m ih =>
      simp only [List.takeWhile]
      split
      · simp only [List.length_cons]; omega
      · simp
  have := h (fun c => decide (128 ≤ c.toNat)) (l.take 9)
  simp only [List.length_take] at this
  omega
/-- What holds of the three numbers. -/
theorem num_facts (l : List UInt8) : ∃ v k x : Nat, numOf l = (v, k, x) ∧ v ≤ 9223372036854775807 ∧ k ≤ l.length ∧ (x = 0 → 0 < k) ∧ (x ≠ 0 → v = 0 ∧ k = 0) ∧ x ≤ 5 := by
  have h1 := stopAt_le l
  unfold numOf
  by_cases c1 : stopAt l = 9
  · exact ⟨0, 0, 5, by rw [if_pos c1], by omega, by omega, by omega, by omega, by omega⟩
  · by_cases c2 : stopAt l = l.length
    · exact ⟨0, 0, 2, by rw [if_neg c1, if_pos c2], by omega, by omega, by omega, by omega, by omega⟩
    · by_cases c3 : (l.getD (stopAt l) 0).toNat = 0 ∧ 0 < stopAt l
      · exact ⟨0, 0, 4, by rw [if_neg c1, if_neg c2, if_pos c3], by omega, by omega, by omega, by omega, by omega⟩
      · have h4 := val_lt l (stopAt l + 1)
        have h2 : (128 : Nat) ^ (stopAt l + 1) ≤ 128 ^ 9 := Nat.pow_le_pow_right (by decide) (by omega)
        have h3 : (128 : Nat) ^ 9 = 9223372036854775808 := by decide
        exact ⟨val l (stopAt l + 1), stopAt l + 1, 0, by rw [if_neg c1, if_neg c2, if_neg c3], by omega, by omega, by omega, by omega, by omega⟩

end Go.Proofs.Ytdcieknblahoeaa
