/- A number's bytes, as plain lists. No program is named. -/
import Derived.Test.YtdcieknblahoeaaMem
namespace Go.Proofs.Ytdcieknblahoeaa
open Go.RowKit

/-- A byte of a number; a definition of its own, so that the walk leaves it as it stands. -/
def bt (x : Nat) : UInt8 := UInt8.ofNat x

/-- A number's bytes, f + 1 of them at most. -/
def nb : Nat → Nat → List UInt8
  | 0, n => [bt n]
  | f + 1, n => if n < 128 then [bt n] else bt (n % 128 + 128) :: nb f (n / 128)
/-- A number's bytes; one below 0 as 0. -/
def numB (n : Int) : List UInt8 := nb 8 n.toNat

theorem nb_small (f n : Nat) (h : n < 128) : nb f n = [bt n] := by
  cases f with
  | zero => rfl
  | succ f => unfold nb; rw [if_pos h]
theorem nb_large (f n : Nat) (h : 128 ≤ n) : nb (f + 1) n = bt (n % 128 + 128) :: nb f (n / 128) := by
  rw [nb, if_neg (by omega)]
theorem nb_len : ∀ f n, 1 ≤ (nb f n).length ∧ (nb f n).length ≤ f + 1
  | 0, n => by simp [nb]
  | f + 1, n => by
    have := nb_len f (n / 128)
    by_cases h : n < 128
    · rw [nb_small _ _ h]; simp
    · rw [nb_large _ _ (by omega)]; simp; omega
theorem numB_len (n : Int) : 1 ≤ (numB n).length ∧ (numB n).length ≤ 9 := nb_len 8 _

/-- What holds at the head of each round: 'acc' is written, 'r' is to be written in f + 1 bytes at most. -/
def Rest (n : Nat) (acc : List UInt8) (r : Nat) : Prop := ∃ f, acc ++ nb f r = nb 8 n ∧ acc.length + f ≤ 8 ∧ r < 128 ^ (f + 1)
theorem rest_start (n : Nat) (h : n ≤ 9223372036854775807) : Rest n [] n := by
  have e : (128 : Nat) ^ (8 + 1) = 9223372036854775808 := by decide
  exact ⟨8, rfl, by simp, by omega⟩
theorem rest_len {n r : Nat} {acc : List UInt8} (h : Rest n acc r) : acc.length ≤ 8 := by
  obtain ⟨f, _, h2, _⟩ := h
  omega
theorem rest_step {n r : Nat} {acc : List UInt8} (h : Rest n acc r) (hr : 128 ≤ r) : Rest n (acc ++ [bt (r % 128 + 128)]) (r / 128) := by
  obtain ⟨f, h1, h2, h3⟩ := h
  cases f with
  | zero => simp at h3; omega
  | succ f =>
    rw [nb_large f r hr] at h1
    refine ⟨f, by rw [← h1]; simp, by simp; omega, ?_⟩
    rw [Nat.pow_succ] at h3
    omega
theorem rest_end {n r : Nat} {acc : List UInt8} (h : Rest n acc r) (hr : r < 128) : acc ++ [bt r] = nb 8 n := by
  obtain ⟨f, h1, _, _⟩ := h
  rw [nb_small f r hr] at h1
  exact h1
theorem byte_val (r : Nat) (h : r < 256) : ((bt r).toNat : Int) = (r : Int) := by
  unfold bt
  rw [UInt8.toNat_ofNat']
  omega
end Go.Proofs.Ytdcieknblahoeaa
