/- WirePuts, the plain part: what is written is read as it was. -/
import Derived.Test.YtdcieknblahoeaaStep
import Derived.Test.YtdcieknblahoeaaNumsMath
namespace Go.Proofs.Ytdcieknblahoeaa
open Go.RowKit

theorem bt_toNat (x : Nat) (h : x < 256) : (bt x).toNat = x := by
  unfold bt
  rw [UInt8.toNat_ofNat']
  omega

/-- The bytes of a number, with whatever behind them. -/
theorem nb_read : ∀ (f n : Nat) (t : List UInt8), n < 128 ^ (f + 1) →
    (∀ j, j + 1 < (nb f n).length → 128 ≤ ((nb f n ++ t).getD j 0).toNat) ∧
    ((nb f n ++ t).getD ((nb f n).length - 1) 0).toNat < 128 ∧
    (1 < (nb f n).length → ((nb f n ++ t).getD ((nb f n).length - 1) 0).toNat ≠ 0) ∧
    val (nb f n ++ t) (nb f n).length = n ∧ (1 ≤ n → ((nb f n ++ t).getD ((nb f n).length - 1) 0).toNat ≠ 0)
  | f, n, t, h => by
    by_cases hn : n < 128
    · rw [nb_small f n hn]
      have e : (bt n).toNat = n := bt_toNat n (by omega)
      refine ⟨fun j hj => ?_, ?_, fun hj => ?_, ?_, fun h1 => ?_⟩
      · simp at hj
      · simp [e, hn]
      · simp at hj
      · simp [val, e]; omega
      · simp [e]; omega
    · cases f with
      | zero => simp at h; omega
      | succ f =>
        rw [nb_large f n (by omega)]
        have hq : n / 128 < 128 ^ (f + 1) := by rw [Nat.pow_succ] at h; omega
        obtain ⟨i1, i2, i3, i4, i5⟩ := nb_read f (n / 128) t hq
        have hl := nb_len f (n / 128)
        have e : (bt (n % 128 + 128)).toNat = n % 128 + 128 := bt_toNat _ (by omega)
        obtain ⟨m, hm⟩ : ∃ m, (nb f (n / 128)).length = m + 1 := ⟨(nb f (n / 128)).length - 1, by omega⟩
        have g : ∀ j, ((bt (n % 128 + 128) :: nb f (n / 128)) ++ t).getD (j + 1) 0 = (nb f (n / 128) ++ t).getD j 0 := fun j => by simp [List.getD]
        have hlen : (bt (n % 128 + 128) :: nb f (n / 128)).length = m + 2 := by simp [hm]
        rw [hlen]
        rw [hm] at i1 i2 i3 i4 i5
        refine ⟨fun j hj => ?_, ?_, fun _ => ?_, ?_, fun _ => ?_⟩
        · cases j with
          | zero => simp [e]
          | succ j => rw [g]; exact i1 j (by omega)
        · show (((bt (n % 128 + 128) :: nb f (n / 128)) ++ t).getD (m + 1) 0).toNat < 128
          rw [g]
          exact i2
        · show (((bt (n % 128 + 128) :: nb f (n / 128)) ++ t).getD (m + 1) 0).toNat ≠ 0
          rw [g]
          exact i5 (by omega)
        · show val (bt (n % 128 + 128) :: (nb f (n / 128) ++ t)) (m + 2) = n
          rw [val_cons, i4, e]
          omega
        · show (((bt (n % 128 + 128) :: nb f (n / 128)) ++ t).getD (m + 1) 0).toNat ≠ 0
          rw [g]
          exact i5 (by omega)

theorem numOf_numB (z : Int) (t : List UInt8) (hz : z ≤ 9223372036854775807) : numOf (numB z ++ t) = (z.toNat, (numB z).length, 0) := by
  unfold numB
  have e9 : (128 : Nat) ^ (8 + 1) = 9223372036854775808 := by decide
  obtain ⟨h1, h2, h3, h4, _⟩ := nb_read 8 z.toNat t (by omega)
  have hl := nb_len 8 z.toNat
  obtain ⟨m, hm⟩ : ∃ m, (nb 8 z.toNat).length = m + 1 := ⟨(nb 8 z.toNat).length - 1, by omega⟩
  rw [hm] at h1 h2 h3 h4 ⊢
  have := num_good (nb 8 z.toNat ++ t) m (by simp [hm]; omega) (by omega) (fun j hj => h1 j (by omega)) h2 (fun ⟨a, b⟩ => h3 (by omega) a)
  rw [this, h4]

/-- The bytes of numbers, one behind the other. -/
def numsB : List Int → List UInt8
  | [] => []
  | z :: l => numB z ++ numsB l
theorem numsB_snoc : ∀ (l : List Int) (z : Int), numsB (l ++ [z]) = numsB l ++ numB z
  | [], z => by simp [numsB]
  | x :: l, z => by simp [numsB, numsB_snoc l z]
theorem numsB_len : ∀ (l : List Int), (numsB l).length ≤ 9 * l.length
  | [] => by simp [numsB]
  | z :: l => by
    have := numsB_len l
    have h := numB_len z
    simp [numsB]
    omega
theorem numsB_take (l : List Int) (k : Nat) (h : k < l.length) : numsB (l.take (k + 1)) = numsB (l.take k) ++ numB (l.getD k 0) := by
  rw [List.take_succ_eq_append_getElem h, numsB_snoc]
  simp [List.getD, h]
theorem numsB_drop (l : List Int) (k : Nat) (h : k < l.length) : numsB (l.drop k) = numB (l.getD k 0) ++ numsB (l.drop (k + 1)) := by
  rw [List.drop_eq_getElem_cons h]
  simp [numsB, List.getD, h]

theorem uptoOf_numB (z : Int) (t : List UInt8) (m : Int) (h0 : 0 ≤ z) (hz : z ≤ 9223372036854775807) (hm : z ≤ m) : uptoOf (numB z ++ t) m = (z, (numB z).length, 0) := by
  unfold uptoOf
  rw [numOf_numB z t hz]
  have e : ((z.toNat : Nat) : Int) = z := by omega
  show (if (0 : Nat) ≠ 0 then _ else if m < ((z.toNat : Nat) : Int) then _ else (((z.toNat : Nat) : Int), (numB z).length, (0 : Int))) = _
  rw [if_neg (by simp), e, if_neg (by omega)]
theorem textOf_numB (q t : List UInt8) (h : q.length ≤ 200) : textOf (numB (q.length : Nat) ++ (q ++ t)) 200 = (q, t, 0) := by
  have hu := uptoOf_numB (q.length : Nat) (q ++ t) 200 (by omega) (by omega) (by omega)
  unfold textOf
  rw [hu, if_pos rfl]
  have e : (numB (q.length : Nat) ++ (q ++ t)).drop (numB (q.length : Nat)).length = q ++ t := by simp
  show rawOf ((numB (q.length : Nat) ++ (q ++ t)).drop (numB (q.length : Nat)).length) (q.length : Nat) = _
  rw [e]
  unfold rawOf
  rw [if_neg (by rw [List.length_append]; omega)]
  simp
theorem rawOf_sum (s : List UInt8) (h : s.length = 32) : rawOf s 32 = (s, [], 0) := by
  unfold rawOf
  rw [if_neg (by omega)]
  have e : (32 : Int).toNat = s.length := by rw [h]; rfl
  rw [e]
  simp
end Go.Proofs.Ytdcieknblahoeaa
