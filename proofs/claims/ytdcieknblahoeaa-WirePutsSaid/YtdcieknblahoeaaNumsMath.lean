/- WireNums, the plain part: a number that is read has no other bytes. -/
import Derived.Test.YtdcieknblahoeaaNb
namespace Go.Proofs.Ytdcieknblahoeaa
open Go.RowKit

theorem val_cons (c : UInt8) (t : List UInt8) : ∀ i, val (c :: t) (i + 1) = c.toNat % 128 + 128 * val t i
  | 0 => by simp [val]
  | i + 1 => by
    rw [val, val_cons c t i]
    have e : (c :: t).getD (i + 1) 0 = t.getD i 0 := by simp [List.getD]
    rw [e, val]
    have p : (128 : Nat) ^ (i + 1) = 128 ^ i * 128 := Nat.pow_succ _ _
    rw [p]
    have q : (t.getD i 0).toNat % 128 * (128 ^ i * 128) = 128 * ((t.getD i 0).toNat % 128 * 128 ^ i) := by
      rw [← Nat.mul_assoc, Nat.mul_comm]
    rw [q, Nat.mul_add]
    omega

theorem bt_self (c : UInt8) : bt c.toNat = c := by
  unfold bt
  simp

theorem nb_val : ∀ (s f : Nat) (l : List UInt8), s < l.length → s ≤ f → (∀ j, j < s → 128 ≤ (l.getD j 0).toNat) → (l.getD s 0).toNat < 128 → ¬ ((l.getD s 0).toNat = 0 ∧ 0 < s) → nb f (val l (s + 1)) = l.take (s + 1)
  | 0, f, [], h, _, _, _, _ => by simp at h
  | 0, f, c :: t, _, _, _, h2, _ => by
    have h2' : c.toNat < 128 := by simpa [List.getD] using h2
    have e : val (c :: t) 1 = c.toNat := by
      rw [val_cons]
      simp [val]
      omega
    rw [e, nb_small _ _ h2', bt_self]
    simp
  | s + 1, f, [], h, _, _, _, _ => by simp at h
  | s + 1, 0, c :: t, _, h, _, _, _ => by omega
  | s + 1, f + 1, c :: t, hl, hf, h1, h2, h3 => by
    have hc : 128 ≤ c.toNat := by simpa [List.getD] using h1 0 (by omega)
    have hc2 := c.toNat_lt
    have e2 : (c :: t).getD (s + 1) 0 = t.getD s 0 := by simp [List.getD]
    rw [e2] at h2 h3
    have hpos : 1 ≤ val t (s + 1) := by
      unfold val
      have h4 : 1 ≤ (t.getD s 0).toNat % 128 := by omega
      have h5 : 1 ≤ (128 : Nat) ^ s := Nat.pow_pos (by decide)
      have := Nat.mul_le_mul h4 h5
      omega
    have ih := nb_val s f t (by simpa using hl) (by omega) (fun j hj => by
      have := h1 (j + 1) (by omega)
      simpa [List.getD] using this) h2 (fun ⟨h, h'⟩ => h3 ⟨h, by omega⟩)
    rw [val_cons, nb_large f _ (by omega)]
    have m1 : (c.toNat % 128 + 128 * val t (s + 1)) % 128 + 128 = c.toNat := by omega
    have m2 : (c.toNat % 128 + 128 * val t (s + 1)) / 128 = val t (s + 1) := by omega
    rw [m1, m2, ih, bt_self]
    simp

theorem numB_read (l : List UInt8) (s : Nat) (hl : s < l.length) (h9 : s < 9) (h1 : ∀ j, j < s → 128 ≤ (l.getD j 0).toNat) (h2 : (l.getD s 0).toNat < 128) (h3 : ¬ ((l.getD s 0).toNat = 0 ∧ 0 < s)) : numB ((val l (s + 1) : Nat) : Int) = l.take (s + 1) := by
  unfold numB
  rw [Int.toNat_natCast]
  exact nb_val s 8 l hl (by omega) h1 h2 h3

/-- What the law's own loop leaves in its three variables (the number, the error, how many bytes), of bytes whose number is v, of k bytes, with the error x. -/
def Looped (l : List UInt8) (v k x : Nat) (want err size : Value) : Prop :=
  ∃ W E Z : Nat, want = .int .i64 W ∧ err = .int .i64 E ∧ size = .int .i64 Z ∧
    ((x = 0 ∧ E = 0 ∧ Z = k ∧ W = v ∧ 0 < k ∧ k ≤ l.length ∧ numB (v : Nat) = l.take k ∧ (1 < k → (l.getD (k - 1) 0).toNat ≠ 0)) ∨
     (x = 4 ∧ E = 0 ∧ 1 < Z ∧ Z ≤ l.length ∧ (l.getD (Z - 1) 0).toNat = 0) ∨
     (x = E ∧ E ≠ 0 ∧ Z = 0))

theorem looped_end {l : List UInt8} {v k x : Nat} (hv : numOf l = (v, k, x)) (i : Nat) (hi : i = 9 ∨ (i = l.length ∧ i < 9)) (hil : i ≤ l.length) (h1 : ∀ j, j < i → 128 ≤ (l.getD j 0).toNat) (W E : Nat) (hE : E = if i = 9 then 5 else 2) : Looped l v k x (.int .i64 W) (.int .i64 E) (.int .i64 0) := by
  refine ⟨W, E, 0, rfl, rfl, rfl, .inr (.inr ?_)⟩
  by_cases h9 : i = 9
  · subst h9
    rw [if_pos rfl] at hE
    rw [num_nine l hil h1] at hv
    simp at hv
    omega
  · rw [if_neg h9] at hE
    rw [num_none l i (by omega) (by omega) h1] at hv
    simp at hv
    omega
theorem looped_break {l : List UInt8} {v k x : Nat} (hv : numOf l = (v, k, x)) (i : Nat) (hil : i < l.length) (h9 : i < 9) (h1 : ∀ j, j < i → 128 ≤ (l.getD j 0).toNat) (h2 : (l.getD i 0).toNat < 128) (W S : Int) (hW : W = ((val l (i + 1) : Nat) : Int)) (hS : S = ((i + 1 : Nat) : Int)) : Looped l v k x (.int .i64 W) (.int .i64 0) (.int .i64 S) := by
  subst hW
  subst hS
  refine ⟨val l (i + 1), 0, i + 1, rfl, rfl, rfl, ?_⟩
  by_cases h0 : (l.getD i 0).toNat = 0 ∧ 0 < i
  · rw [num_form l i hil h9 h1 h0.1 h0.2] at hv
    simp at hv
    exact .inr (.inl ⟨by omega, rfl, by omega, by omega, h0.1⟩)
  · rw [num_good l i hil h9 h1 h2 h0] at hv
    simp at hv
    obtain ⟨e1, e2, e3⟩ := hv
    subst e1
    subst e2
    exact .inl ⟨by omega, rfl, rfl, rfl, by omega, by omega, numB_read l i hil h9 h1 h2 h0, fun h e => h0 ⟨e, by omega⟩⟩
end Go.Proofs.Ytdcieknblahoeaa
