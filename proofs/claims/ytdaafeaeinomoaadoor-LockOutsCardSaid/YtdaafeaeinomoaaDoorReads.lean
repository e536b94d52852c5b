/- Reading as plain functions of what is left and the error: a number up to another one, numbers, a sum; and what Upto and Sum come to, whatever the error. -/
import Derived.Test.YtdaafeaeinomoaaDoorWire
namespace Go.Proofs.YtdaafeaeinomoaaDoor
open Go.RowKit

theorem stop_ex (l : List UInt8) : ∃ k, k ≤ l.length ∧ k ≤ 9 ∧ (∀ j, j < k → 128 ≤ (l.getD j 0).toNat) ∧ (k = l.length ∨ k = 9 ∨ (l.getD k 0).toNat < 128) := by
  have key : ∀ m, m ≤ 9 → (∃ k, k ≤ l.length ∧ k ≤ 9 ∧ (∀ j, j < k → 128 ≤ (l.getD j 0).toNat) ∧ (k = l.length ∨ k = 9 ∨ (l.getD k 0).toNat < 128)) ∨ (m ≤ l.length ∧ ∀ j, j < m → 128 ≤ (l.getD j 0).toNat) := by
    intro m
    induction m with
    | zero => intro _; exact .inr ⟨Nat.zero_le _, fun j h => by omega⟩
    | succ m ih =>
      intro hm
      rcases ih (by omega) with h | ⟨h1, h2⟩
      · exact .inl h
      · by_cases h3 : m = l.length
        · exact .inl ⟨m, h1, by omega, h2, .inl h3⟩
        · by_cases h4 : (l.getD m 0).toNat < 128
          · exact .inl ⟨m, h1, by omega, h2, .inr (.inr h4)⟩
          · refine .inr ⟨by omega, fun j hj => ?_⟩
            by_cases e : j = m
            · subst e; omega
            · exact h2 j (by omega)
  rcases key 9 (Nat.le_refl _) with h | ⟨h1, h2⟩
  · exact h
  · exact ⟨9, h1, Nat.le_refl _, h2, .inr (.inl rfl)⟩
theorem numOf_back (l : List UInt8) (h : (numOf l).2.2 = 0) : numB (((numOf l).1 : Nat) : Int) = l.take (numOf l).2.1 := by
  obtain ⟨k, hk, h9, h1, h2⟩ := stop_ex l
  by_cases e9 : k = 9
  · subst e9; rw [num_nine l hk h1] at h; simp at h
  by_cases el : k = l.length
  · rw [num_none l k el (by omega) h1] at h; simp at h
  have h3 : (l.getD k 0).toNat < 128 := by omega
  by_cases h0 : (l.getD k 0).toNat = 0 ∧ 0 < k
  · rw [num_form l k (by omega) (by omega) h1 h0.1 h0.2] at h; simp at h
  · rw [num_good l k (by omega) (by omega) h1 h3 h0]
    exact numB_read l k (by omega) (by omega) h1 h3 h0

/-- A number at most m is read; s: what is left, and the error. -/
def upR (s : List UInt8 × Int) (m : Int) : Int × (List UInt8 × Int) := if s.2 = 0 then ((uptoOf s.1 m).1, (s.1.drop (uptoOf s.1 m).2.1, (uptoOf s.1 m).2.2)) else (0, s)
theorem upR_bad {s : List UInt8 × Int} (m : Int) (h : s.2 ≠ 0) : upR s m = (0, s) := by unfold upR; rw [if_neg h]
theorem uptoOf_cases (l : List UInt8) (m : Int) : (uptoOf l m).2.2 = 0 ∧ (numOf l).2.2 = 0 ∧ (uptoOf l m).1 = (numOf l).1 ∧ (uptoOf l m).2.1 = (numOf l).2.1 ∧ ((numOf l).1 : Int) ≤ m ∨ (uptoOf l m).2.2 ≠ 0 ∧ (uptoOf l m).1 = 0 := by
  unfold uptoOf
  by_cases h1 : (numOf l).2.2 ≠ 0
  · rw [if_pos h1]
    refine .inr ⟨?_, rfl⟩
    show ((numOf l).2.2 : Int) ≠ 0
    omega
  · rw [if_neg h1]
    by_cases h2 : m < (numOf l).1
    · rw [if_pos h2]
      exact .inr ⟨show (5 : Int) ≠ 0 by decide, rfl⟩
    · rw [if_neg h2]
      exact .inl ⟨rfl, by omega, rfl, rfl, by omega⟩
theorem upR_ok {s : List UInt8 × Int} {m : Int} (h : (upR s m).2.2 = 0) : s.2 = 0 ∧ s.1 = numB (upR s m).1 ++ (upR s m).2.1 := by
  by_cases h0 : s.2 = 0
  · unfold upR at h ⊢
    rw [if_pos h0] at h ⊢
    rcases uptoOf_cases s.1 m with ⟨_, h2, h3, h4, _⟩ | ⟨h1, _⟩
    · refine ⟨h0, ?_⟩
      show s.1 = numB (uptoOf s.1 m).1 ++ s.1.drop (uptoOf s.1 m).2.1
      rw [h3, h4, numOf_back s.1 h2, List.take_append_drop]
    · exact absurd h h1
  · rw [upR_bad m h0] at h
    exact absurd h h0
theorem upR_range (s : List UInt8 × Int) {m : Int} (hm : 0 ≤ m) : 0 ≤ (upR s m).1 ∧ (upR s m).1 ≤ m := by
  by_cases h0 : s.2 = 0
  · unfold upR
    rw [if_pos h0]
    rcases uptoOf_cases s.1 m with ⟨_, _, h3, _, h5⟩ | ⟨_, h1⟩
    · show 0 ≤ (uptoOf s.1 m).1 ∧ (uptoOf s.1 m).1 ≤ m
      rw [h3]
      omega
    · show 0 ≤ (uptoOf s.1 m).1 ∧ (uptoOf s.1 m).1 ≤ m
      rw [h1]
      omega
  · rw [upR_bad m h0]
    exact ⟨Int.le_refl _, hm⟩
theorem upR_put {z m : Int} (t : List UInt8) (h0 : 0 ≤ z) (h1 : z ≤ m) (h2 : z ≤ 9223372036854775807) : upR (numB z ++ t, 0) m = (z, (t, 0)) := by
  unfold upR
  rw [if_pos rfl]
  show ((uptoOf (numB z ++ t) m).1, ((numB z ++ t).drop (uptoOf (numB z ++ t) m).2.1, (uptoOf (numB z ++ t) m).2.2)) = _
  rw [uptoOf_numB z t m h0 h2 h1]
  simp
theorem upR_le (s : List UInt8 × Int) (m : Int) : (upR s m).2.1.length ≤ s.1.length := by
  unfold upR
  split
  · simp
  · exact Nat.le_refl _
/-- A sum is read: 32 bytes; or the zero one. -/
def sumB (l : List UInt8) : List UInt8 := if l.length = 32 then l else zero32
def sumR (s : List UInt8 × Int) : List UInt8 × (List UInt8 × Int) := if s.2 = 0 then (sumB (rawOf s.1 32).1, ((rawOf s.1 32).2.1, (rawOf s.1 32).2.2)) else (zero32, s)
theorem zero32_size : zero32.length = 32 := by decide
theorem sumB_len (l : List UInt8) : (sumB l).length = 32 := by
  unfold sumB
  split
  · assumption
  · exact zero32_size
theorem sumB_cells (l : List UInt8) : sumCells l = cellsOf (sumB l) := by
  unfold sumCells sumB
  split <;> rfl
theorem sumR_len (s : List UInt8 × Int) : (sumR s).1.length = 32 := by
  unfold sumR
  split
  · exact sumB_len _
  · exact zero32_size
theorem sumR_bad {s : List UInt8 × Int} (h : s.2 ≠ 0) : sumR s = (zero32, s) := by unfold sumR; rw [if_neg h]
theorem sumR_ok {s : List UInt8 × Int} (h : (sumR s).2.2 = 0) : s.2 = 0 ∧ s.1 = (sumR s).1 ++ (sumR s).2.1 := by
  by_cases h0 : s.2 = 0
  · refine ⟨h0, ?_⟩
    unfold sumR at h ⊢
    rw [if_pos h0] at h ⊢
    unfold rawOf at h ⊢
    by_cases h1 : (32 : Int) < 0 ∨ (s.1.length : Int) < 32
    · rw [if_pos h1] at h
      exact absurd h (show ¬ (2 : Int) = 0 by decide)
    · rw [if_neg h1]
      show s.1 = sumB (s.1.take 32) ++ s.1.drop 32
      unfold sumB
      rw [if_pos (by simp; omega), List.take_append_drop]
  · rw [sumR_bad h0] at h
    exact absurd h h0
theorem sumR_put {h : List UInt8} (t : List UInt8) (hl : h.length = 32) : sumR (h ++ t, 0) = (h, (t, 0)) := by
  unfold sumR
  rw [if_pos rfl]
  show (sumB (rawOf (h ++ t) 32).1, ((rawOf (h ++ t) 32).2.1, (rawOf (h ++ t) 32).2.2)) = _
  rw [rawOf_more h t hl]
  unfold sumB
  rw [if_pos hl]
theorem sumR_le (s : List UInt8 × Int) : (sumR s).2.1.length ≤ s.1.length := by
  unfold sumR
  split
  · exact rawOf_le _ _
  · exact Nat.le_refl _
/-- So many numbers, each at most m, are read. -/
def numsR (m : Int) : Nat → List UInt8 × Int → List Int × (List UInt8 × Int)
  | 0, s => ([], s)
  | k + 1, s => ((numsR m k s).1 ++ [(upR (numsR m k s).2 m).1], (upR (numsR m k s).2 m).2)
theorem numsR_len (m : Int) (s : List UInt8 × Int) : ∀ k, (numsR m k s).1.length = k
  | 0 => rfl
  | k + 1 => by simp [numsR, numsR_len m s k]
theorem numsR_range {m : Int} (hm : 0 ≤ m) (s : List UInt8 × Int) : ∀ k, ∀ z ∈ (numsR m k s).1, 0 ≤ z ∧ z ≤ m
  | 0, z, hz => by cases hz
  | k + 1, z, hz => by
    rcases List.mem_append.1 hz with hz | hz
    · exact numsR_range hm s k z hz
    · simp at hz
      subst hz
      exact upR_range _ hm
theorem numsR_ok {m : Int} {s : List UInt8 × Int} : ∀ {k : Nat}, (numsR m k s).2.2 = 0 → s.2 = 0 ∧ s.1 = numsB (numsR m k s).1 ++ (numsR m k s).2.1
  | 0, h => ⟨h, by simp [numsR, numsB]⟩
  | k + 1, h => by
    obtain ⟨h1, h2⟩ := upR_ok h
    obtain ⟨h3, h4⟩ := numsR_ok (k := k) h1
    refine ⟨h3, ?_⟩
    show s.1 = numsB ((numsR m k s).1 ++ [(upR (numsR m k s).2 m).1]) ++ (upR (numsR m k s).2 m).2.1
    rw [numsB_snoc, List.append_assoc, ← h2]
    exact h4
theorem numsR_put {m : Int} {l : List Int} (t : List UInt8) (hm : m ≤ 9223372036854775807) (hl : ∀ z ∈ l, 0 ≤ z ∧ z ≤ m) : ∀ k, k ≤ l.length → numsR m k (numsB l ++ t, 0) = (l.take k, (numsB (l.drop k) ++ t, 0))
  | 0, _ => by simp [numsR]
  | k + 1, hk => by
    have hz := hl _ (List.getElem_mem (show k < l.length by omega))
    have e : l.getD k 0 = l[k] := by simp [List.getD, show k < l.length by omega]
    rw [numsR, numsR_put t hm hl k (by omega), numsB_drop l k (by omega), List.append_assoc, upR_put _ (by rw [e]; omega) (by rw [e]; omega) (by rw [e]; omega), List.take_succ_eq_append_getElem (by omega), e]
theorem numsR_le (m : Int) (s : List UInt8 × Int) : ∀ k, (numsR m k s).2.1.length ≤ s.1.length
  | 0 => Nat.le_refl _
  | k + 1 => Nat.le_trans (upR_le _ _) (numsR_le m s k)
/-- The first error is remembered. -/
def failR (s : List UInt8 × Int) (e : Int) : List UInt8 × Int := if s.2 = 0 then (s.1, e) else s

/-! ### In memory -/
theorem upto_st {yb : Nat} {s : List UInt8 × Int} {w : World} (m : Int) (h : EyeAt w yb s.1 s.2) : Calls Tryd.prog 43 #[.pointer (some ⟨yb, 0, none⟩), .int .i64 m] w fun r w' =>
    r = .returned (.int .i64 (upR s m).1) ∧ EyeAt w' yb (upR s m).2.1 (upR s m).2.2 ∧ But w.heap.size yb w w' := by
  by_cases h0 : s.2 = 0
  · unfold upR
    rw [if_pos h0]
    rw [h0] at h
    exact upto_first m h
  · rw [upR_bad m h0]
    exact (upto_later s.2 m h0 h).mono fun r w' ⟨e1, e2⟩ => ⟨e1, by rw [← e2]; exact h, by rw [← e2]; exact But.refl _ _ _⟩
theorem sum_st {yb : Nat} {s : List UInt8 × Int} (w : World) (h : EyeAt w yb s.1 s.2) (hm : s.1.length ≤ 140737488355328) : Calls Tryd.prog 55 #[.pointer (some ⟨yb, 0, none⟩)] w fun r w' =>
    r = .returned (.agg (cellsOf (sumR s).1).toArray) ∧ EyeAt w' yb (sumR s).2.1 (sumR s).2.2 ∧ But w.heap.size yb w w' := by
  by_cases h0 : s.2 = 0
  · unfold sumR
    rw [if_pos h0]
    rw [h0] at h
    have := sum_first w h hm
    rw [sumB_cells] at this
    exact this
  · rw [sumR_bad h0]
    exact sum_later w h0 h
theorem fail_st {yb : Nat} {s : List UInt8 × Int} {w : World} (e : Int) (h : EyeAt w yb s.1 s.2) : Calls Tryd.prog 45 #[.pointer (some ⟨yb, 0, none⟩), .int .i64 e] w fun r w' =>
    r = .returned (.tuple #[]) ∧ EyeAt w' yb (failR s e).1 (failR s e).2 ∧ But w.heap.size yb w w' := by
  by_cases h0 : s.2 = 0
  · unfold failR
    rw [if_pos h0]
    rw [h0] at h
    exact fail_first e h
  · unfold failR
    rw [if_neg h0]
    exact (fail_later s.2 e h0 h).mono fun r w' ⟨e1, e2⟩ => ⟨e1, by rw [← e2]; exact h, by rw [← e2]; exact But.refl _ _ _⟩
end Go.Proofs.YtdaafeaeinomoaaDoor
