/- Plain lists and worlds for the statements of layer 1: what a slice of bytes holds; numbers in seven bits a byte. No program is named. Worlds for the statements of layer 1: what stays where one block is written and new ones are made; a block of two cells; an eye. No program is named. A number's bytes, as plain lists. No program is named. What the functions of the eye come to, one contract each (the program's functions 13 to 45, 26). What the functions of the pen come to, one contract each (the program's functions 9 to 12, 24, 23). A nil pen writes nothing; bytes as a string. Eye.Sum (function 16): 32 bytes are told; and copies into a row of the call's own. The law's 'step' (function 22): what it does with an eye that has failed, and with one that has not. WireNums, the plain part: a number that is read has no other bytes. WirePuts, the plain part: what is written is read as it was. What a pen that is not nil writes: numbers, a text, a sum. What is read of bytes that were written: texts of any length, sums with whatever behind them. No program is named. What a pen leaves as it was: blocks that are no byte's, sheet's or pen's; and numbers, sums written so. Reading as plain functions of what is left and the error: a number up to another one, numbers, a sum; and what Upto and Sum come to, whatever the error. What Raw and Text tell lies in a new block of bytes; and a text as a plain function of what is left and the error. -/
import Derived.Test.YtlnenkmcegadmaaDoorMemory
import Derived.WalkKit
import Derived.OneCell
import Derived.Test.YtlnenkmcegadmaaDoorRows
import Derived.WalkSpells
import Derived.WalkLawsBesides
import Derived.BigQuiet
import Derived.Deep.QuietTactic
import Derived.Laws.CopyOwn
import Derived.Deep.RegionLaw
import Derived.Deep.RegionHeld3
import Derived.WalkSmall
import Derived.Laws.OwnMore
import Derived.Laws.BytesArg
import Derived.Deep.RegionHeldLaw
import Derived.Laws.Tables
import Derived.Stop.BytesEq
namespace Go.Proofs.YtlnenkmcegadmaaDoor
open Go.RowKit


/-- The number that the first 'i' bytes make, seven bits each. -/
def val (l : List UInt8) : Nat → Nat
  | 0 => 0
  | i + 1 => val l i + ((l.getD i 0).toNat % 128) * 128 ^ i

theorem val_lt (l : List UInt8) : ∀ i, val l i < 128 ^ i
  | 0 => by simp [val]
  | i + 1 => by
    have h := val_lt l i
    have h2 : (l.getD i 0).toNat % 128 < 128 := Nat.mod_lt _ (by decide)
    unfold val
    have h3 : ((l.getD i 0).toNat % 128) * 128 ^ i ≤ 127 * 128 ^ i := Nat.mul_le_mul_right _ (by omega)
    rw [Nat.pow_succ]
    omega

theorem val_step_le (l : List UInt8) (i : Nat) (h : i < 9) : val l i + ((l.getD i 0).toNat % 128) * 128 ^ i ≤ 9223372036854775807 := by
  have h1 := val_lt l (i + 1)
  unfold val at h1
  have h2 : (128 : Nat) ^ (i + 1) ≤ 128 ^ 9 := Nat.pow_le_pow_right (by decide) (by omega)
  have h3 : (128 : Nat) ^ 9 = 9223372036854775808 := by decide
  omega

/-- The place of the first byte below 128; or how many there are; or nine. -/
def stopAt (l : List UInt8) : Nat := ((l.take 9).takeWhile fun c => decide (128 ≤ c.toNat)).length

theorem takeWhile_len {α : Type} (p : α → Bool) : ∀ (l : List α) (k : Nat), k ≤ l.length → (∀ j (h : j < l.length), j < k → p l[j] = true) → (∀ (h : k < l.length), p l[k] = false) → (l.takeWhile p).length = k
  | [], k, hk, _, _ => by simp at hk; simp [hk]
  | x :: l, 0, _, _, h2 => by
    have := h2 (by simp)
    simp at this
    simp [List.takeWhile, this]
  | x :: l, k + 1, hk, h1, h2 => by
    have hx : p x = true := h1 0 (by simp) (by omega)
    simp only [List.takeWhile, hx, List.length_cons]
    rw [takeWhile_len p l k (by simpa using hk) (fun j h hj => (List.getElem_cons_succ x l j (by simpa using h)) ▸ h1 (j + 1) (by simpa using h) (by omega)) (fun h => (List.getElem_cons_succ x l k (by simpa using h)) ▸ h2 (by simpa using h))]

theorem stop_eq (l : List UInt8) (k : Nat) (hk : k ≤ l.length) (h9 : k ≤ 9) (h1 : ∀ j, j < k → 128 ≤ (l.getD j 0).toNat) (h2 : k = l.length ∨ k = 9 ∨ (l.getD k 0).toNat < 128) : stopAt l = k := by
  unfold stopAt
  refine takeWhile_len _ _ k (by simp; omega) (fun j h hj => ?_) (fun h => ?_)
  · simp only [List.length_take] at h
    have := h1 j hj
    have hl : j < l.length := by omega
    simpa [List.getD, List.getElem?_eq_getElem hl] using this
  · simp only [List.length_take] at h
    have hl : k < l.length := by omega
    have : (l.getD k 0).toNat < 128 := by omega
    simpa [List.getD, List.getElem?_eq_getElem hl] using this

/-- What is read at the front of bytes: the number, how many bytes it has, the error. -/
def numOf (l : List UInt8) : Nat × Nat × Nat :=
  if stopAt l = 9 then (0, 0, 5)
  else if stopAt l = l.length then (0, 0, 2)
  else if (l.getD (stopAt l) 0).toNat = 0 ∧ 0 < stopAt l then (0, 0, 4)
  else (val l (stopAt l + 1), stopAt l + 1, 0)

theorem num_none (l : List UInt8) (k : Nat) (hk : k = l.length) (h9 : k < 9) (h1 : ∀ j, j < k → 128 ≤ (l.getD j 0).toNat) : numOf l = (0, 0, 2) := by
  have h := stop_eq l k (by omega) (by omega) h1 (.inl hk)
  unfold numOf
  rw [h, if_neg (by omega), if_pos hk]
theorem num_nine (l : List UInt8) (hk : 9 ≤ l.length) (h1 : ∀ j, j < 9 → 128 ≤ (l.getD j 0).toNat) : numOf l = (0, 0, 5) := by
  have h := stop_eq l 9 (by omega) (by omega) h1 (.inr (.inl rfl))
  unfold numOf
  rw [h, if_pos rfl]
theorem num_form (l : List UInt8) (k : Nat) (hk : k < l.length) (h9 : k < 9) (h1 : ∀ j, j < k → 128 ≤ (l.getD j 0).toNat) (h0 : (l.getD k 0).toNat = 0) (hp : 0 < k) : numOf l = (0, 0, 4) := by
  have h := stop_eq l k (by omega) (by omega) h1 (.inr (.inr (by omega)))
  unfold numOf
  rw [h, if_neg (by omega), if_neg (by omega), if_pos ⟨h0, hp⟩]
theorem num_good (l : List UInt8) (k : Nat) (hk : k < l.length) (h9 : k < 9) (h1 : ∀ j, j < k → 128 ≤ (l.getD j 0).toNat) (h2 : (l.getD k 0).toNat < 128) (hp : ¬ ((l.getD k 0).toNat = 0 ∧ 0 < k)) : numOf l = (val l (k + 1), k + 1, 0) := by
  have h := stop_eq l k (by omega) (by omega) h1 (.inr (.inr h2))
  unfold numOf
  rw [h, if_neg (by omega), if_neg (by omega), if_neg hp]

theorem pow_seven (k : Nat) : (2 : Int) ^ (7 * k) = ((128 ^ k : Nat) : Int) := by
  rw [Int.pow_mul]
  simp
theorem val_wrap (l : List UInt8) (k c : Nat) (h : k < 9) (hc : c = (l.getD k 0).toNat) : wrap64 (((val l k : Nat) : Int) + wrap64 ((c : Int) % 128 * 2 ^ (7 * k))) = ((val l (k + 1) : Nat) : Int) := by
  have h1 := val_step_le l k h
  rw [pow_seven]
  have e : (c : Int) % 128 * ((128 ^ k : Nat) : Int) = (((l.getD k 0).toNat % 128 * 128 ^ k : Nat) : Int) := by rw [hc]; simp
  have ev : val l (k + 1) = val l k + (l.getD k 0).toNat % 128 * 128 ^ k := rfl
  rw [e, ev]
  obtain ⟨m, hm⟩ : ∃ m, m = (l.getD k 0).toNat % 128 * 128 ^ k := ⟨_, rfl⟩
  rw [← hm] at h1 ⊢
  have e1 : wrap64 ((m : Nat) : Int) = (m : Int) := IntWalk.wrap64_in _ ⟨by omega, by omega⟩
  have e2 : wrap64 (((val l k : Nat) : Int) + (m : Int)) = ((val l k : Nat) : Int) + (m : Int) := IntWalk.wrap64_in _ ⟨by omega, by omega⟩
  rw [e1, e2]
  omega

theorem val_wrap0 (l : List UInt8) (k c : Nat) (h : k < 9) (hc : c = (l.getD k 0).toNat) (h0 : c = 0) : wrap64 (((val l k : Nat) : Int) + wrap64 0) = ((val l (k + 1) : Nat) : Int) := by
  have := val_wrap l k c h hc
  rw [h0] at this
  simpa using this

theorem stopAt_le (l : List UInt8) : stopAt l ≤ l.length ∧ stopAt l ≤ 9 := by
  unfold stopAt
  have h : ∀ (p : UInt8 → Bool) (m : List UInt8), (m.takeWhile p).length ≤ m.length := by
    intro p m
    induction m with
    | nil => simp
    | cons x m ih =>
      simp only [List.takeWhile]
      split
      · simp only [List.length_cons]; omega
      · simp
  have := h (fun c => decide (128 ≤ c.toNat)) (l.take 9)
  simp only [List.length_take] at this
  omega
/-- What holds of the three numbers. -/
theorem num_facts (l : List UInt8) : ∃ v k x : Nat, numOf l = (v, k, x) ∧ v ≤ 9223372036854775807 ∧ k ≤ l.length ∧ (x = 0 → 0 < k) ∧ (x ≠ 0 → v = 0 ∧ k = 0) ∧ x ≤ 5 := by
  have h1 := stopAt_le l
  unfold numOf
  by_cases c1 : stopAt l = 9
  · exact ⟨0, 0, 5, by rw [if_pos c1], by omega, by omega, by omega, by omega, by omega⟩
  · by_cases c2 : stopAt l = l.length
    · exact ⟨0, 0, 2, by rw [if_neg c1, if_pos c2], by omega, by omega, by omega, by omega, by omega⟩
    · by_cases c3 : (l.getD (stopAt l) 0).toNat = 0 ∧ 0 < stopAt l
      · exact ⟨0, 0, 4, by rw [if_neg c1, if_neg c2, if_pos c3], by omega, by omega, by omega, by omega, by omega⟩
      · have h4 := val_lt l (stopAt l + 1)
        have h2 : (128 : Nat) ^ (stopAt l + 1) ≤ 128 ^ 9 := Nat.pow_le_pow_right (by decide) (by omega)
        have h3 : (128 : Nat) ^ 9 = 9223372036854775808 := by decide
        exact ⟨val l (stopAt l + 1), stopAt l + 1, 0, by rw [if_neg c1, if_neg c2, if_neg c3], by omega, by omega, by omega, by omega, by omega⟩

end Go.Proofs.YtlnenkmcegadmaaDoor
namespace Go.Proofs.YtlnenkmcegadmaaDoor
open Go.RowKit



/-- A block of two cells. -/
theorem two_cell0 {w : World} {b : Nat} {u v : Value} {t : TypeId} (h : w.heap[b]? = some (.cells #[u, v] t (0, 0))) : w.cell? ⟨b, 0, none⟩ = some u := by simp [World.cell?, h]
theorem two_cell1 {w : World} {b : Nat} {u v : Value} {t : TypeId} (h : w.heap[b]? = some (.cells #[u, v] t (0, 0))) : w.cell? ⟨b, 1, none⟩ = some v := by simp [World.cell?, h]
theorem two_free0 {w : World} {b : Nat} {u v : Value} {t : TypeId} (h : w.heap[b]? = some (.cells #[u, v] t (0, 0))) : w.frozen? ⟨b, 0, none⟩ = false := by simp [World.frozen?, h]
theorem two_free1 {w : World} {b : Nat} {u v : Value} {t : TypeId} (h : w.heap[b]? = some (.cells #[u, v] t (0, 0))) : w.frozen? ⟨b, 1, none⟩ = false := by simp [World.frozen?, h]
theorem two_set0 {w : World} {b : Nat} {u v x : Value} {t : TypeId} (h : w.heap[b]? = some (.cells #[u, v] t (0, 0))) : (w.setCell ⟨b, 0, none⟩ x).heap[b]? = some (.cells #[x, v] t (0, 0)) := by
  rw [heap_setCell_same w b 0 _ t x h]; rfl
theorem two_set1 {w : World} {b : Nat} {u v x : Value} {t : TypeId} (h : w.heap[b]? = some (.cells #[u, v] t (0, 0))) : (w.setCell ⟨b, 1, none⟩ x).heap[b]? = some (.cells #[u, x] t (0, 0)) := by
  rw [heap_setCell_same w b 1 _ t x h]; rfl

/-- A block that holds no byte is no slice's of bytes. -/
def NoBytes (w : World) (p : Nat) : Prop := ∀ off u, w.cell? ⟨p, off, none⟩ ≠ some (.int .u8 u)
theorem noBytes_two {w : World} {b : Nat} {u v : Value} {t : TypeId} (h : w.heap[b]? = some (.cells #[u, v] t (0, 0))) (hu : ∀ n, u ≠ .int .u8 n) (hv : ∀ n, v ≠ .int .u8 n) : NoBytes w b := by
  intro off n hc
  match off, hc with
  | 0, hc => rw [two_cell0 h] at hc; exact hu n (Option.some.inj hc)
  | 1, hc => rw [two_cell1 h] at hc; exact hv n (Option.some.inj hc)
  | k + 2, hc => simp [World.cell?, h] at hc

theorem Row.butN {w w' : World} {p n c : Nat} {a : Option Addr} {l : List UInt8} (h : Row w a n c l) (hb : But w.heap.size p w w') (hp : NoBytes w p) : Row w' a n c l := by
  obtain ⟨h1, h2, h3, h4, h5⟩ := h
  refine ⟨h1, h2, h3, h4, fun h0 => ?_⟩
  obtain ⟨b, off, rfl, hlt, hc⟩ := h5 h0
  have hbp : b ≠ p := fun e => by subst e; exact hp _ _ (hc 0 h0)
  exact ⟨b, off, rfl, Nat.lt_of_lt_of_le hlt hb.size, fun j hj => (hb.cell (a := ⟨b, off + j, none⟩) hlt hbp).trans (hc j hj)⟩


/-- The row of a slice lies in a block of bytes (type 5). -/
def Tag (w : World) (a : Option Addr) (n : Nat) : Prop := 0 < n → ∃ b off cs fr, a = some ⟨b, off, none⟩ ∧ w.heap[b]? = some (.cells cs 5 fr)
theorem Tag.zero (w : World) (a : Option Addr) : Tag w a 0 := fun h => absurd h (by omega)
theorem Tag.below {w w' : World} {a : Option Addr} {n : Nat} (h : Tag w a n) (hb : Below w.heap.size w w') : Tag w' a n := fun h0 => by
  obtain ⟨b, off, cs, fr, e, hh⟩ := h h0
  exact ⟨b, off, cs, fr, e, (hb.block _ (lt_of_block hh)).trans hh⟩
theorem Tag.but {w w' : World} {p n c : Nat} {a : Option Addr} {l : List UInt8} (h : Tag w a n) (hrow : Row w a n c l) (hb : But w.heap.size p w w') (hp : NoBytes w p) : Tag w' a n := fun h0 => by
  obtain ⟨b, off, cs, fr, e, hh⟩ := h h0
  obtain ⟨b', off', e', _, hc⟩ := hrow.2.2.2.2 h0
  rw [e] at e'
  cases e'
  have hbp : b ≠ p := fun e => by subst e; exact hp _ _ (hc 0 h0)
  exact ⟨b, off, cs, fr, e, hb.heap hh (lt_of_block hh) hbp⟩
theorem Tag.drop {w : World} {a a' : Option Addr} {n k : Nat} (h : Tag w a n) (ha' : k < n → ∀ b off, a = some ⟨b, off, none⟩ → a' = some ⟨b, off + k, none⟩) : Tag w a' (n - k) := fun h0 => by
  obtain ⟨b, off, cs, fr, e, hh⟩ := h (by omega)
  exact ⟨b, off + k, cs, fr, ha' (by omega) b off e, hh⟩

end Go.Proofs.YtlnenkmcegadmaaDoor
namespace Go.Proofs.YtlnenkmcegadmaaDoor
open Go.RowKit

/-- A byte of a number; a definition of its own, so that the walk leaves it as it stands. -/
def bt (x : Nat) : UInt8 := UInt8.ofNat x

/-- A number's bytes, f + 1 of them at most. -/
def nb : Nat → Nat → List UInt8
  | 0, n => [bt n]
  | f + 1, n => if n < 128 then [bt n] else bt (n % 128 + 128) :: nb f (n / 128)
/-- A number's bytes; one below 0 as 0. -/
def numB (n : Int) : List UInt8 := nb 8 n.toNat

theorem nb_small (f n : Nat) (h : n < 128) : nb f n = [bt n] := by
  cases f with
  | zero => rfl
  | succ f => unfold nb; rw [if_pos h]
theorem nb_large (f n : Nat) (h : 128 ≤ n) : nb (f + 1) n = bt (n % 128 + 128) :: nb f (n / 128) := by
  rw [nb, if_neg (by omega)]
theorem nb_len : ∀ f n, 1 ≤ (nb f n).length ∧ (nb f n).length ≤ f + 1
  | 0, n => by simp [nb]
  | f + 1, n => by
    have := nb_len f (n / 128)
    by_cases h : n < 128
    · rw [nb_small _ _ h]; simp
    · rw [nb_large _ _ (by omega)]; simp; omega
theorem numB_len (n : Int) : 1 ≤ (numB n).length ∧ (numB n).length ≤ 9 := nb_len 8 _

/-- What holds at the head of each round: 'acc' is written, 'r' is to be written in f + 1 bytes at most. -/
def Rest (n : Nat) (acc : List UInt8) (r : Nat) : Prop := ∃ f, acc ++ nb f r = nb 8 n ∧ acc.length + f ≤ 8 ∧ r < 128 ^ (f + 1)
theorem rest_start (n : Nat) (h : n ≤ 9223372036854775807) : Rest n [] n := by
  have e : (128 : Nat) ^ (8 + 1) = 9223372036854775808 := by decide
  exact ⟨8, rfl, by simp, by omega⟩
theorem rest_len {n r : Nat} {acc : List UInt8} (h : Rest n acc r) : acc.length ≤ 8 := by
  obtain ⟨f, _, h2, _⟩ := h
  omega
theorem rest_step {n r : Nat} {acc : List UInt8} (h : Rest n acc r) (hr : 128 ≤ r) : Rest n (acc ++ [bt (r % 128 + 128)]) (r / 128) := by
  obtain ⟨f, h1, h2, h3⟩ := h
  cases f with
  | zero => simp at h3; omega
  | succ f =>
    rw [nb_large f r hr] at h1
    refine ⟨f, by rw [← h1]; simp, by simp; omega, ?_⟩
    rw [Nat.pow_succ] at h3
    omega
theorem rest_end {n r : Nat} {acc : List UInt8} (h : Rest n acc r) (hr : r < 128) : acc ++ [bt r] = nb 8 n := by
  obtain ⟨f, h1, _, _⟩ := h
  rw [nb_small f r hr] at h1
  exact h1
theorem byte_val (r : Nat) (h : r < 256) : ((bt r).toNat : Int) = (r : Int) := by
  unfold bt
  rw [UInt8.toNat_ofNat']
  omega
end Go.Proofs.YtlnenkmcegadmaaDoor
namespace Go.Proofs.YtlnenkmcegadmaaDoor
open Go.RowKit

theorem ret_three {a b c a' b' c' : Int} (h1 : a = a') (h2 : b = b') (h3 : c = c') : Ending.returned (.tuple #[.int .i64 a, .int .i64 b, .int .i64 c]) = .returned (.tuple #[.int .i64 a', .int .i64 b', .int .i64 c']) := by rw [h1, h2, h3]

theorem own_full {w : World} {B g n : Nat} {xs : List Value} (h : w.ownsRow B 5 1 (.slice (some ⟨g, 0, none⟩) n n) n xs) : ∃ cur : List Value, w.heap[g]? = some (.cells cur.toArray 5 (0, 0)) ∧ cur.length = n ∧ B ≤ g := by
  obtain ⟨_, h⟩ := h
  rcases h with ⟨h, _⟩ | ⟨g', cap, cur, h, hB, hh, _, _, hs, _⟩
  · cases h
  · cases h
    exact ⟨cur.toList, by simpa using hh, by simpa using hs, hB⟩



/-- What Upto tells of bytes: the number, how many of them are read, the error. -/
def uptoOf (l : List UInt8) (m : Int) : Int × Nat × Int :=
  if (numOf l).2.2 ≠ 0 then (0, 0, (numOf l).2.2) else if m < (numOf l).1 then (0, (numOf l).2.1, 5) else ((numOf l).1, (numOf l).2.1, 0)
/-- What Raw tells of bytes: those that are read, those that are left, the error. -/
def rawOf (l : List UInt8) (n : Int) : List UInt8 × List UInt8 × Int := if n < 0 ∨ (l.length : Int) < n then ([], l, 2) else (l.take n.toNat, l.drop n.toNat, 0)
/-- What Text tells of bytes. -/
def textOf (l : List UInt8) (m : Int) : List UInt8 × List UInt8 × Int :=
  if (uptoOf l m).2.2 = 0 then rawOf (l.drop (uptoOf l m).2.1) (uptoOf l m).1 else ([], l.drop (uptoOf l m).2.1, (uptoOf l m).2.2)
end Go.Proofs.YtlnenkmcegadmaaDoor
namespace Go.Proofs.YtlnenkmcegadmaaDoor
open Go.RowKit

/-- A pen at block pb that wrote l: its sheet, and what stands there, lie from block B on. -/
def PenAt (w : World) (B pb : Nat) (l : List UInt8) : Prop :=
  (w.heap[pb]? = some (.cells #[.pointer none, .int .i64 0] 61 (0, 0)) ∧ l = []) ∨
  ∃ sb v, w.heap[pb]? = some (.cells #[.pointer (some ⟨sb, 0, none⟩), .int .i64 (l.length : Nat)] 61 (0, 0)) ∧ w.heap[sb]? = some (.cells #[v] 99 (0, 0)) ∧ B ≤ sb ∧ Own w B v l

theorem Own.apart {w : World} {B b : Nat} {v : Value} {l : List UInt8} {cs : Array Value} {t : TypeId} (h : Own w B v l) (hb : w.heap[b]? = some (.cells cs t (0, 0))) (ht : t ≠ 5) : v.ownBlock ≠ some b := by
  rcases h.2 with ⟨rfl, _⟩ | ⟨g, cap, cur, rfl, _, hh, _⟩
  · intro e; cases e
  · intro e
    simp [Value.ownBlock] at e
    subst e
    rw [hh] at hb
    simp at hb
    exact ht hb.2.symm

theorem PenAt.store {w1 : World} {B pb sb M c' : Nat} {a' : Option Addr} {x y : Value} {r : List UInt8} {z : Int} (hp1 : w1.heap[pb]? = some (.cells #[.pointer (some ⟨sb, 0, none⟩), x] 61 (0, 0))) (hs1 : w1.heap[sb]? = some (.cells #[y] 99 (0, 0)))
    (hB : B ≤ sb) (ho : Own w1 B (.slice a' M c') r) (hz : z = (r.length : Nat)) : PenAt ((w1.setCell ⟨sb, 0, none⟩ (.slice a' M c')).setCell ⟨pb, 1, none⟩ (.int .i64 z)) B pb r := by
  subst hz
  have hne : sb ≠ pb := fun e => by subst e; rw [hp1] at hs1; simp at hs1
  have hpa := ho.apart hp1 (by decide)
  have hsa := ho.apart hs1 (by decide)
  refine .inr ⟨sb, _, two_set1 ((Below.heap_setCell _ _ _ _ (Ne.symm hne)).trans hp1), (Below.heap_setCell _ _ _ _ hne).trans (one_setCell hs1), hB, ?_⟩
  exact ownsRow_setCell_other (ownsRow_setCell_other ho hsa _) hpa _

theorem PenAt.lt {w : World} {B pb : Nat} {l : List UInt8} (h : PenAt w B pb l) : pb < w.heap.size := by
  rcases h with ⟨h, _⟩ | ⟨sb, v, h, _⟩
  · exact lt_of_block h
  · exact lt_of_block h
theorem PenAt.below {w w' : World} {B pb : Nat} {l : List UInt8} (h : PenAt w B pb l) (_hB : B ≤ w.heap.size) (hb : Below w.heap.size w w') : PenAt w' B pb l := by
  rcases h with ⟨h, h'⟩ | ⟨sb, v, h1, h2, h3, h4⟩
  · exact .inl ⟨(hb.block _ (lt_of_block h)).trans h, h'⟩
  · exact .inr ⟨sb, v, (hb.block _ (lt_of_block h1)).trans h1, (hb.block _ (lt_of_block h2)).trans h2, h3, h4.below hb⟩

set_option maxHeartbeats 800000 in
theorem write_on {B pb sb : Nat} {v : Value} {l q : List UInt8} {a : Option Addr} {m c : Nat} {w : World} (hp : w.heap[pb]? = some (.cells #[.pointer (some ⟨sb, 0, none⟩), .int .i64 (l.length : Nat)] 61 (0, 0))) (hs : w.heap[sb]? = some (.cells #[v] 99 (0, 0))) (hB : B ≤ sb) (ho : Own w B v l)
    (hq : Row w a m c q) (hm : l.length + m ≤ 140737488355328) :
    Calls Tryd.prog 38 #[.pointer (some ⟨pb, 0, none⟩), .slice a m c] w fun r w' => r = .returned (.pointer (some ⟨pb, 0, none⟩)) ∧ PenAt w' B pb (l ++ q) ∧ But B pb w w' := by
  have hbz : B ≤ w.heap.size := by have := lt_of_block hs; omega
  obtain ⟨ao, cp, rfl, _⟩ := ho.shape
  have c0 := two_cell0 hp
  have c1 := two_cell1 hp
  have f1 := two_free1 hp
  have s0 := cell_of_one hs
  have fs := free_of_one hs
  obtain ⟨i0, hi, hz0, hz1, hz2⟩ := info_parts Tryd.info5
  have HQ := Lib.hid hq
  have HI := Lib.hid hi
  obtain ⟨N, hN⟩ : ∃ N, N = l.length := ⟨_, rfl⟩
  rw [← hN] at c1 s0 hm ho hp hs
  have HO := Lib.hid ho
  have HP := Lib.hid hp
  have HS := Lib.hid hs
  have hpa : some pb ≠ (Value.slice ao N cp).ownBlock := Ne.symm (ho.apart hp (by decide))
  have hsa : some sb ≠ (Value.slice ao N cp).ownBlock := Ne.symm (ho.apart hs (by decide))
  have hpl := lt_of_block hp
  have hsp : (⟨sb, 0, none⟩ : Addr) ≠ ⟨pb, 0, none⟩ := fun e => by simp at e; subst e; rw [hp] at hs; simp at hs
  have hsl := lt_of_block hs
  have HN := Lib.hid hN
  clear hp hs ho hq hi hN
  go_enter Tryd.func38, Tryd.ntmps38
  go_wp2_with fail
  go_quiet (fail)
  go_wp2_with fail
  go_region_law
    ((refine step_append_row (by rfl) (.tmp 44) (.tmp 45) 45 (by rfl) B i0 Tryd.underlying45 HI.out hz0 hz1 hz2 (.slice ao N cp) l N HN.out.symm (by rfl) HO.out a m c q (by rfl) HQ.out hm hbz ?_; intro a' c' w1 hown1 hgrow1; have hp1 : w1.heap[pb]? = some (.cells #[.pointer (some ⟨sb, 0, none⟩), .int .i64 (N : Nat)] 61 (0, 0)) := (hgrow1.block pb hpl hpa).trans HP.out; have hs1 : w1.heap[sb]? = some (.cells #[.slice ao N cp] 99 (0, 0)) := (hgrow1.block sb hsl hsa).trans HS.out; have k0 := two_cell0 hp1; have k1 := two_cell1 hp1; have g1 := two_free1 hp1; have s1 := cell_of_one hs1; have t1 := free_of_one hs1; have HP1 := Lib.hid hp1; have HS1 := Lib.hid hs1; have HO1 := Lib.hid hown1; have HG1 := Lib.hid hgrow1; clear hp1 hs1 hown1 hgrow1))
  all_goals go_wp2
  all_goals go_ret
  all_goals
    have hb1 : Below B w w1 := Below.grown (w := w.drewN (nq + 1)) (below_drewN (Below.refl B w) _) HG1.out hbz HO.out.lt
    exact ⟨rfl, PenAt.store HP1.out HS1.out hB HO1.out (by rw [List.length_append, ← HN.out, HQ.out.1]; omega), ((But.of hb1).setCell ⟨sb, 0, none⟩ (.inr hB) _).setCell ⟨pb, 1, none⟩ (.inl rfl) _⟩
theorem write_nil (v : Value) (w : World) : Calls Tryd.prog 38 #[.pointer none, v] w fun r w' => r = .returned (.pointer none) ∧ w = w' := by
  go_enter Tryd.func38, Tryd.ntmps38
  go_wp2
  go_ret
  exact ⟨rfl, rfl⟩
theorem bytes_nil (w : World) : Calls Tryd.prog 27 #[.pointer none] w fun r w' => r = .returned (.slice none 0 0) ∧ w = w' := by
  go_enter Tryd.func27, Tryd.ntmps27
  go_wp2
  go_ret
  exact ⟨rfl, rfl⟩
theorem bytes_none {pb : Nat} {v : Value} {w : World} (h : w.heap[pb]? = some (.cells #[v, .int .i64 0] 61 (0, 0))) : Calls Tryd.prog 27 #[.pointer (some ⟨pb, 0, none⟩)] w fun r w' => r = .returned (.slice none 0 0) ∧ w = w' := by
  have c1 := two_cell1 h
  clear h
  go_enter Tryd.func27, Tryd.ntmps27
  go_wp2
  go_ret
  exact ⟨rfl, rfl⟩

set_option maxHeartbeats 800000 in
theorem write_fresh {B pb : Nat} {q : List UInt8} {a : Option Addr} {m c : Nat} {w : World} (hp : w.heap[pb]? = some (.cells #[.pointer none, .int .i64 0] 61 (0, 0))) (hbz : B ≤ w.heap.size)
    (hq : Row w a m c q) (hm : m ≤ 140737488355328) :
    Calls Tryd.prog 38 #[.pointer (some ⟨pb, 0, none⟩), .slice a m c] w fun r w' => r = .returned (.pointer (some ⟨pb, 0, none⟩)) ∧ PenAt w' B pb q ∧ But B pb w w' := by
  have c0 := two_cell0 hp
  have c1 := two_cell1 hp
  have f0 := two_free0 hp
  have f1 := two_free1 hp
  have hpl := lt_of_block hp
  have hpn : NoBytes w pb := noBytes_two hp (fun _ h => by cases h) (fun _ h => by cases h)
  obtain ⟨i0, hi, hz0, hz1, hz2⟩ := info_parts Tryd.info5
  have HP := Lib.hid hp
  have HQ := Lib.hid hq
  have HI := Lib.hid hi
  have HPN := Lib.hid hpn
  clear hp hq hi hpn
  go_enter Tryd.func38, Tryd.ntmps38
  go_wp2_with fail
  go_quiet (fail)
  clear c0 c1 f0 f1 hpl
  have hb0 : Below B w (w.drewN nq) := below_drewN (Below.refl B w) _
  have hp0 : (w.drewN nq).heap[pb]? = some (.cells #[.pointer none, .int .i64 0] 61 (0, 0)) := HP.out
  have hbz0 : B ≤ (w.drewN nq).heap.size := hbz
  have hq0 : Row (w.drewN nq) a m c q := HQ.out
  have hn0 : NoBytes (w.drewN nq) pb := HPN.out
  revert hb0 hp0 hbz0 hq0 hn0
  generalize w.drewN nq = w0
  intro hb0 hp0 hbz0 hq0 hn0
  have c0 := two_cell0 hp0
  have c1 := two_cell1 hp0
  have f0 := two_free0 hp0
  have f1 := two_free1 hp0
  have hpl := lt_of_block hp0
  have HB0 := Lib.hid hb0
  have HP0 := Lib.hid hp0
  have HQ0 := Lib.hid hq0
  have HN0 := Lib.hid hn0
  clear hb0 hp0 hq0 hn0
  go_wp2_with (go_at_call 27; refine (bytes_none HP0.out).mono ?_; rintro r w' ⟨rfl, rfl⟩)
  have h1 : ((w0.setCell ⟨pb, 0, none⟩ (.pointer (some ⟨w0.heap.size, 0, none⟩))).alloc (.cells #[.slice none 0 0] 99)).heap[pb]? = some (.cells #[.pointer (some ⟨w0.heap.size, 0, none⟩), .int .i64 0] 61 (0, 0)) :=
    (Below.heap_alloc _ _ _ (by simpa using hpl)).trans (two_set0 HP0.out)
  have h2 : ((w0.setCell ⟨pb, 0, none⟩ (.pointer (some ⟨w0.heap.size, 0, none⟩))).alloc (.cells #[.slice none 0 0] 99)).heap[w0.heap.size]? = some (.cells #[.slice none 0 0] 99 (0, 0)) := by
    have := heap_alloc_new (w0.setCell ⟨pb, 0, none⟩ (.pointer (some ⟨w0.heap.size, 0, none⟩))) (.cells #[.slice none 0 0] 99)
    simpa using this
  have h3 : But w0.heap.size pb w0 ((w0.setCell ⟨pb, 0, none⟩ (.pointer (some ⟨w0.heap.size, 0, none⟩))).alloc (.cells #[.slice none 0 0] 99)) :=
    ((But.refl _ pb _).setCell ⟨pb, 0, none⟩ (.inl rfl) _).alloc (by simp) _
  have h4 : Row ((w0.setCell ⟨pb, 0, none⟩ (.pointer (some ⟨w0.heap.size, 0, none⟩))).alloc (.cells #[.slice none 0 0] 99)) a m c q := HQ0.out.butN h3 HN0.out
  have h5 : But B pb w ((w0.setCell ⟨pb, 0, none⟩ (.pointer (some ⟨w0.heap.size, 0, none⟩))).alloc (.cells #[.slice none 0 0] 99)) := (But.of HB0.out).trans (h3.mono hbz0)
  clear h3
  revert h1 h2 h4 h5
  generalize ((w0.setCell ⟨pb, 0, none⟩ (.pointer (some ⟨w0.heap.size, 0, none⟩))).alloc (.cells #[.slice none 0 0] 99)) = w2
  revert hbz0
  generalize w0.heap.size = sb
  intro hB hp hs hq hb2
  clear c0 c1 f0 f1 hpl
  have c0 := two_cell0 hp
  have c1 := two_cell1 hp
  have f1 := two_free1 hp
  have s0 := cell_of_one hs
  have fs := free_of_one hs
  have ho : Own w2 B (.slice none 0 0) [] := World.ownsRow_nil _ _ _ _
  have hpa : some pb ≠ (Value.slice none 0 0).ownBlock := fun e => by cases e
  have hsa : some sb ≠ (Value.slice none 0 0).ownBlock := fun e => by cases e
  have hpl := lt_of_block hp
  have hsl := lt_of_block hs
  have hsp : (⟨sb, 0, none⟩ : Addr) ≠ ⟨pb, 0, none⟩ := fun e => by simp at e; subst e; rw [hp] at hs; simp at hs
  have hbz2 : B ≤ w2.heap.size := by omega
  have hm0 : 0 + m ≤ 140737488355328 := by omega
  have HPP := Lib.hid hp
  have HS := Lib.hid hs
  have HQQ := Lib.hid hq
  have HO := Lib.hid ho
  have HB2 := Lib.hid hb2
  clear hp hs hq ho hb2
  go_region_law
    ((refine step_append_row (by rfl) (.tmp 44) (.tmp 45) 45 (by rfl) B i0 Tryd.underlying45 HI.out hz0 hz1 hz2 (.slice none 0 0) [] 0 rfl (by rfl) HO.out a m c q (by rfl) HQQ.out hm0 hbz2 ?_; intro a' c' w1 hown1 hgrow1; have hp1 : w1.heap[pb]? = some (.cells #[.pointer (some ⟨sb, 0, none⟩), .int .i64 0] 61 (0, 0)) := (hgrow1.block pb hpl hpa).trans HPP.out; have hs1 : w1.heap[sb]? = some (.cells #[.slice none 0 0] 99 (0, 0)) := (hgrow1.block sb hsl hsa).trans HS.out; have k0 := two_cell0 hp1; have k1 := two_cell1 hp1; have g1 := two_free1 hp1; have s1 := cell_of_one hs1; have t1 := free_of_one hs1; have HP1 := Lib.hid hp1; have HS1 := Lib.hid hs1; have HO1 := Lib.hid hown1; have HG1 := Lib.hid hgrow1; clear hp1 hs1 hown1 hgrow1))
  all_goals go_wp2
  all_goals go_ret
  all_goals
    have hb1 : Below B w2 w1 := Below.grown (w := w2.drew) ((Below.refl B w2).drew) HG1.out hbz2 HO.out.lt
    exact ⟨rfl, PenAt.store HP1.out HS1.out hB (by simpa using HO1.out) (by rw [HQQ.out.1]), HB2.out.trans (((But.of hb1).setCell ⟨sb, 0, none⟩ (.inr hB) _).setCell ⟨pb, 1, none⟩ (.inl rfl) _)⟩
theorem write_any {B pb : Nat} {l q : List UInt8} {a : Option Addr} {m c : Nat} {w : World} (hp : PenAt w B pb l) (hbz : B ≤ w.heap.size) (hq : Row w a m c q) (hm : l.length + m ≤ 140737488355328) :
    Calls Tryd.prog 38 #[.pointer (some ⟨pb, 0, none⟩), .slice a m c] w fun r w' => r = .returned (.pointer (some ⟨pb, 0, none⟩)) ∧ PenAt w' B pb (l ++ q) ∧ But B pb w w' := by
  rcases hp with ⟨h, rfl⟩ | ⟨sb, v, h1, h2, h3, h4⟩
  · exact write_fresh h hbz hq (by simpa using hm)
  · exact write_on h1 h2 h3 h4 hq hm
/-- All that the pen wrote is told, in a slice of the call's own. -/
theorem bytes_some {B pb sb : Nat} {v : Value} {l : List UInt8} {w : World} (hp : w.heap[pb]? = some (.cells #[.pointer (some ⟨sb, 0, none⟩), .int .i64 (l.length : Nat)] 61 (0, 0))) (hs : w.heap[sb]? = some (.cells #[v] 99 (0, 0)))
    (ho : Own w B v l) (h0 : 0 < l.length) (hm : l.length ≤ 140737488355328) :
    Calls Tryd.prog 27 #[.pointer (some ⟨pb, 0, none⟩)] w fun r w' => ∃ n c, r = .returned (.slice (some ⟨w.heap.size, 0, none⟩) n c) ∧ Row w' (some ⟨w.heap.size, 0, none⟩) n c l ∧ Below w.heap.size w w' := by
  obtain ⟨ao, cp, rfl, _⟩ := ho.shape
  have hrow := ho.row
  have hpl := lt_of_block hp
  have hsl := lt_of_block hs
  obtain ⟨N, hN⟩ : ∃ N, N = l.length := ⟨_, rfl⟩
  rw [← hN] at hp hs h0 hm hrow
  have c0 := two_cell0 hp
  have c1 := two_cell1 hp
  have s0 := cell_of_one hs
  have hne : ((N : Int) == 0) = false := by simp; omega
  have HN := Lib.hid hN
  have HROW := Lib.hid hrow
  clear hp hs ho hN hrow
  obtain ⟨i0, hi, hz0, hz1, hz2⟩ := info_parts Tryd.info5
  obtain ⟨cs, hcs⟩ : ∃ cs, cs = cellsOf l := ⟨_, rfl⟩
  have hcl : cs.length = N := by rw [hcs, cellsOf, List.length_map]; exact HN.out.symm
  have h1c : ∀ v ∈ cs, v.oneCell' = true := by rw [hcs]; exact cellsOf_one _
  have HCL := Lib.hid hcl
  have HCS := Lib.hid hcs
  have H1C := Lib.hid h1c
  clear hcl hcs h1c
  go_enter Tryd.func27, Tryd.ntmps27
  go_wp2_with (at_make; refine wpList_make_full _ rfl (.tmp 16) (.tmp 16) 45 rfl w.heap.size 5 i0 (.int .u8 0) 1 Tryd.underlying45 hi hz0 hz1 .i64 .i64 _ _ N rfl rfl rfl rfl ?_ ?_ ?_ ?_)
  · rw [hz2]; omega
  · unfold maxLen; omega
  · exact Nat.le_refl _
  · intro w1 hown hgrow
    obtain ⟨cur, hcur, hcurl, _⟩ := own_full hown
    have hb1 : Below w.heap.size w w1 := (Below.refl _ _).grown hgrow (Nat.le_refl _) (fun k h => by cases h)
    have k0 : w1.cell? ⟨pb, 0, none⟩ = some (.pointer (some ⟨sb, 0, none⟩)) := (hb1.cell (p := ⟨pb, 0, none⟩) hpl).trans c0
    have k2 : w1.cell? ⟨sb, 0, none⟩ = some (.slice ao N cp) := (hb1.cell (p := ⟨sb, 0, none⟩) hsl).trans s0
    have HCUR := Lib.hid hcur
    have HCURL := Lib.hid hcurl
    clear hown hgrow hcur hcurl c0 c1 s0
    go_wp2_with (with_reducible refine wpList_copy_splice rfl (.tmp 18) (.tmp 25) 45 45 rfl 5 Tryd.underlying45 Tryd.size5 _ _ N N N cp rfl rfl w.heap.size 0 cur 5 HCUR.out cs ?_ ?_ ?_ ?_ w.heap.size w hb1 (Nat.le_refl _) ?_)
    · rw [HCL.out]; show N = min N N; omega
    · intro _
      obtain ⟨b, off, rfl, hlt', hcell⟩ := HROW.out.2.2.2.2 h0
      refine ⟨_, rfl, fun j v hj => ?_⟩
      have hjn : j < N := by
        have := (List.getElem?_eq_some_iff.1 hj).1
        rw [HCL.out] at this
        exact this
      rw [HCS.out, cellsOf_get (by rw [← HN.out]; omega)] at hj
      have e1 : (⟨b, off, none⟩ : Addr).add j = ⟨b, off + j, none⟩ := by simp [Addr.add]
      rw [e1, hb1.cell (p := ⟨b, off + j, none⟩) hlt', hcell j (by omega), ← hj]
    · rw [HCL.out, HCURL.out]; omega
    · exact H1C.out
    · intro w2 hh2 hb2
      have HRES : Hid (Row w2 (some ⟨w.heap.size, 0, none⟩) N N l) := by
        refine row_new HN.out.symm (Nat.le_refl _) (by unfold maxLen; omega) _ 5 hh2.out (fun j hj => ?_)
        have hs : splice cur 0 cs = cs := by
          have e1 := HCL.out
          have e2 := HCURL.out
          simp [splice]; omega
        rw [hs, HCS.out]
        exact cellsOf_get (by rw [← HN.out]; omega)
      have HB2 := Lib.hid hb2
      clear hb1 hb2
      go_wp2
      go_ret
      exact ⟨N, N, rfl, HRES.out, HB2.out⟩
theorem bytes_any {B pb : Nat} {l : List UInt8} {w : World} (hp : PenAt w B pb l) (hm : l.length ≤ 140737488355328) :
    Calls Tryd.prog 27 #[.pointer (some ⟨pb, 0, none⟩)] w fun r w' => ∃ a n c, r = .returned (.slice a n c) ∧ Row w' a n c l ∧ (∀ x, a = some x → w.heap.size ≤ x.block) ∧ Below w.heap.size w w' := by
  rcases hp with ⟨h, rfl⟩ | ⟨sb, v, h1, h2, h3, h4⟩
  · exact (bytes_none h).mono fun r w' ⟨e1, e2⟩ => ⟨none, 0, 0, e1, Row.nil w', fun x e => (by cases e), by rw [e2]; exact Below.refl _ _⟩
  · by_cases h0 : 0 < l.length
    · exact (bytes_some h1 h2 h4 h0 hm).mono fun r w' ⟨n, c, e1, e2, e3⟩ => ⟨_, n, c, e1, e2, fun x e => (by cases e; exact Nat.le_refl _), e3⟩
    · obtain rfl : l = [] := List.eq_nil_of_length_eq_zero (by omega)
      exact (bytes_none h1).mono fun r w' ⟨e1, e2⟩ => ⟨none, 0, 0, e1, Row.nil w', fun x e => (by cases e), by rw [e2]; exact Below.refl _ _⟩
/-- A new block of one byte. -/
theorem row_one (w : World) (x : Nat) (z : Int) (hx : x < 256) (hz : z = (x : Int)) : Row (w.alloc (.cells #[.int .u8 z] 5)) (some ⟨w.heap.size, 0, none⟩) 1 1 [bt x] := by
  refine row_new rfl (Nat.le_refl _) (by unfold maxLen; omega) [.int .u8 z] 5 (heap_alloc_new w _) (fun j hj => ?_)
  obtain rfl : j = 0 := by omega
  have e : ((([bt x].getD 0 0).toNat : Nat) : Int) = z := by rw [hz]; exact byte_val x hx
  rw [e]
  rfl

/-- An 'append' within the law's own number, round or end: the same on both ways. -/
theorem numB_neg {z : Int} (h : z < 0) : numB z = nb 8 0 := by
  unfold numB
  rw [show z.toNat = 0 by omega]

set_option maxHeartbeats 1600000 in
/-- A number is written by a pen, nil or not. -/
theorem pnum_any (z : Int) (w : World) (p : Option Addr) (R : Option Addr → List UInt8 → World → World → Prop) (hz63 : z ≤ 9223372036854775807)
    (hw : ∀ (w1 : World) (a : Option Addr) (k c : Nat), Below w.heap.size w w1 → Row w1 a k c (numB z) → (∀ x, a = some x → w.heap.size ≤ x.block) →
      Calls Tryd.prog 38 #[.pointer p, .slice a k c] w1 fun r w' => r = .returned (.pointer p) ∧ R p (numB z) w w') :
    Calls Tryd.prog 25 #[.pointer p, .int .i64 z] w fun r w' => r = .returned (.pointer p) ∧ R p (numB z) w w' := by
  obtain ⟨i0, hi, hz0, hz1, hz2⟩ := info_parts Tryd.info5
  have HW := Lib.hid hw
  clear hw
  obtain ⟨n, hzn, hnb, hn⟩ : ∃ n : Nat, ((z < 0 ∧ n = 0) ∨ z = (n : Int)) ∧ numB z = nb 8 n ∧ n ≤ 9223372036854775807 := by
    by_cases h : z < 0
    · exact ⟨0, .inl ⟨h, rfl⟩, numB_neg h, by omega⟩
    · exact ⟨z.toNat, .inr (by omega), rfl, by omega⟩
  rw [hnb] at HW ⊢
  clear hnb
  rcases hzn with ⟨hneg, rfl⟩ | rfl
  case' inl => obtain ⟨n, hn0⟩ : ∃ n : Nat, n = 0 := ⟨_, rfl⟩
  case' inl => have hstart : Value.int .i64 0 = Value.int .i64 (n : Int) := by rw [hn0]; rfl
  case' inl => rw [← hn0] at hn HW ⊢
  case' inl => have HST := Lib.hid hstart
  case' inl => clear hstart hn0
  case' inr => have HST : Hid (Value.int .i64 (n : Int) = Value.int .i64 (n : Int)) := rfl
  all_goals
    go_enter Tryd.func25, Tryd.ntmps25
    go_wp2_with (at_make; refine wpList_make_own _ rfl _ _ 45 rfl w.heap.size 5 i0 (.int .u8 0) 1 Tryd.underlying45 hi hz0 hz1 .i64 .i64 9 9 rfl rfl rfl (by rw [hz2]; omega) (by unfold maxLen; omega) (Nat.le_refl _) ?_; intro w1 hown1 hgrow1; have HOWN1 : Hid (Own w1 w.heap.size (.slice (some ⟨w.heap.size, 0, none⟩) 0 9) []) := hown1; have HBEL1 : Hid (Below w.heap.size w w1) := (Below.refl _ _).grown hgrow1 (Nat.le_refl _) (fun k h => by cases h); clear hown1 hgrow1)
    go_loopw [6, 5] (fun s v wr => ∃ (r k c : Nat) (acc : List UInt8) (a : Option Addr), s = .int .i64 r ∧ v = .slice a k c ∧ Own wr w.heap.size (.slice a k c) acc ∧ acc.length = k ∧ Rest n acc r ∧ r ≤ 9223372036854775807 ∧ Below w.heap.size w wr) (fun s _ _ => (intOf s).toNat)
    case atStart => exact ⟨n, 0, 9, [], _, (by first | rfl | exact HST.out), rfl, HOWN1.out, rfl, rest_start n hn, hn, HBEL1.out⟩
    case round =>
      obtain ⟨r, k, c, acc, a, rfl, rfl, hown, hk, hrest, hr63, hbel⟩ := hrel
      have hkl : k ≤ 8 := by rw [← hk]; exact rest_len hrest
      have HOWN := Lib.hid hown
      have HK := Lib.hid hk
      have HREST := Lib.hid hrest
      have HBEL := Lib.hid hbel
      have HI := Lib.hid hi
      have hbz := hbel.size
      clear hown hk hrest hbel hi
      by_cases hr : 128 ≤ r
      · have hgt : decide ((128 : Int) ≤ (r : Int)) = true := by simp; omega
        have hx : r % 128 + 128 < 256 := by omega
        go_wp2_with (at_builtin; refine wpList_append_row _ rfl (.tmp 12) (.tmp 17) 45 rfl w.heap.size i0 Tryd.underlying45 HI.out hz0 hz1 hz2 _ acc k HK.out rfl (HOWN.out.alloc _) _ 1 1 [bt (r % 128 + 128)] rfl (row_one wr _ _ hx (by omega)) (by omega) (by simp; omega) ?_)
        intro a' c' w2 hown2 hgrow2
        have hbel2 : Below w.heap.size w w2 := (HBEL.out.alloc hbz _).grown hgrow2 (by simp; omega) HOWN.out.lt
        have HOWN2 := Lib.hid hown2
        have HBEL2 := Lib.hid hbel2
        clear hown2 hgrow2 hbel2
        go_wp2
        go_roundw
        case rel => exact ⟨r / 128, k + 1, c', _, a', by go_num, rfl, HOWN2.out, by simp [HK.out], rest_step HREST.out hr, by omega, HBEL2.out⟩
        case measure => simp [intOf]; omega
      · have hgt : decide ((128 : Int) ≤ (r : Int)) = false := by simp; omega
        have hx : r < 256 := by omega
        go_wp2_with (at_builtin; refine wpList_append_row _ rfl (.tmp 22) (.tmp 25) 45 rfl w.heap.size i0 Tryd.underlying45 HI.out hz0 hz1 hz2 _ acc k HK.out rfl (HOWN.out.alloc _) _ 1 1 [bt r] rfl (row_one wr _ _ hx (by omega)) (by omega) (by simp; omega) ?_)
        intro a' c' w2 hown2 hgrow2
        have hbel2 : Below w.heap.size w w2 := (HBEL.out.alloc hbz _).grown hgrow2 (by simp; omega) HOWN.out.lt
        rw [rest_end HREST.out (by omega)] at hown2
        have hrow := hown2.row
        have hfr := hown2.fresh
        have HBEL2 := Lib.hid hbel2
        have HROW2 := Lib.hid hrow
        have HFR := Lib.hid hfr
        clear hown2 hgrow2 hbel2 hrow hfr
        go_wp2_with (go_at_call 38; refine (HW.out _ _ _ _ HBEL2.out HROW2.out HFR.out).mono ?_; rintro e w3 ⟨rfl, hR⟩; have HR := Lib.hid hR; clear hR)
        go_ret
        exact ⟨rfl, HR.out⟩
theorem pnum_nil (z : Int) (w : World) (hz63 : z ≤ 9223372036854775807) : Calls Tryd.prog 25 #[.pointer none, .int .i64 z] w fun r w' => r = .returned (.pointer none) ∧ Below w.heap.size w w' :=
  pnum_any z w none (fun _ _ w w' => Below w.heap.size w w') hz63 fun w1 a k c hb _ _ => (write_nil _ w1).mono fun r w' ⟨h1, h2⟩ => ⟨h1, by rw [← h2]; exact hb⟩
theorem pnum_at {B pb : Nat} {l : List UInt8} {w : World} (z : Int) (hp : PenAt w B pb l) (hbz : B ≤ w.heap.size) (hm : l.length + 9 ≤ 140737488355328) (hz63 : z ≤ 9223372036854775807) :
    Calls Tryd.prog 25 #[.pointer (some ⟨pb, 0, none⟩), .int .i64 z] w fun r w' => r = .returned (.pointer (some ⟨pb, 0, none⟩)) ∧ PenAt w' B pb (l ++ numB z) ∧ But B pb w w' := by
  refine pnum_any z w (some ⟨pb, 0, none⟩) (fun _ q w w' => PenAt w' B pb (l ++ q) ∧ But B pb w w') hz63 fun w1 a k c hb hrow _ => ?_
  have hn := numB_len z
  have hk := hrow.1
  exact (write_any (hp.below hbz hb) (Nat.le_trans hbz hb.size) hrow (by omega)).mono fun r w' ⟨h1, h2, h3⟩ => ⟨h1, h2, (But.of (hb.mono hbz)).trans h3⟩
end Go.Proofs.YtlnenkmcegadmaaDoor
namespace Go.Proofs.YtlnenkmcegadmaaDoor
open Go.RowKit

theorem ptext_nil {a : Option Addr} {n c : Nat} (w : World) (hn : n ≤ 9223372036854775807) : Calls Tryd.prog 44 #[.pointer none, .slice a n c] w fun r w' => r = .returned (.pointer none) ∧ Below w.heap.size w w' := by
  go_enter Tryd.func44, Tryd.ntmps44
  go_wp2_with fail
  refine (pnum_nil _ _ (by omega)).mono ?_
  rintro r w1 ⟨rfl, hb1⟩
  have HB1 := Lib.hid hb1
  clear hb1
  go_wp2_with fail
  refine (write_nil _ _).mono ?_
  rintro r w2 ⟨rfl, rfl⟩
  go_wp2_with fail
  go_ret
  exact ⟨rfl, HB1.out⟩

/-- A slice of numbers that reads as 'l'. -/
def Ints (w : World) (a : Option Addr) (n c : Nat) (l : List Int) : Prop :=
  l.length = n ∧ n ≤ c ∧ c ≤ maxLen ∧ (∀ z ∈ l, z ≤ 9223372036854775807) ∧ (0 < n → ∃ b off, a = some ⟨b, off, none⟩ ∧ b < w.heap.size ∧ ∀ j, j < n → w.cell? ⟨b, off + j, none⟩ = some (.int .i64 (l.getD j 0)))

set_option maxHeartbeats 800000 in
theorem pnums_nil {a : Option Addr} {n c : Nat} {l : List Int} (w : World) (h : Ints w a n c l) : Calls Tryd.prog 43 #[.pointer none, .slice a n c] w fun r w' => r = .returned (.pointer none) ∧ Below w.heap.size w w' := by
  obtain ⟨hl, hnc, hcm, hz, hsome⟩ := h
  have hn63 : n ≤ 9223372036854775807 := by unfold maxLen at hcm; omega
  by_cases h0 : 0 < n
  · obtain ⟨b, off, rfl, hlt, hcell⟩ := hsome h0
    go_enter Tryd.func43, Tryd.ntmps43
    go_wp2
    go_loopw [9] (fun i wr => ∃ k : Nat, k ≤ n ∧ i = .int .i64 k ∧ Below w.heap.size w wr) (fun i _ => n - (intOf i).toNat)
    case atStart => exact ⟨0, Nat.zero_le _, rfl, Below.refl _ _⟩
    case round =>
      obtain ⟨k, hk, rfl, hb⟩ := hrel
      have HB := Lib.hid hb
      have hbz := hb.size
      by_cases hkn : k < n
      · have hck : wr.cell? ⟨b, off + k, none⟩ = some (.int .i64 (l.getD k 0)) := (hb.cell (p := ⟨b, off + k, none⟩) hlt).trans (hcell k hkn)
        have hzk : l.getD k 0 ≤ 9223372036854775807 := by
          have hkl : k < l.length := by omega
          have e : l.getD k 0 = l[k] := by simp [List.getD, hkl]
          rw [e]
          exact hz _ (List.getElem_mem hkl)
        obtain ⟨z, hze⟩ : ∃ z, z = l.getD k 0 := ⟨_, rfl⟩
        rw [← hze] at hck hzk
        clear hcell hsome hb hz hze hl
        go_wp2_with (go_at_call 25; refine (pnum_nil _ _ hzk).mono ?_; rintro r w1 ⟨rfl, hb1⟩; have HB1 := Lib.hid hb1; clear hb1)
        go_roundw
        case rel => exact ⟨k + 1, by omega, by go_num, HB.out.trans (HB1.out.mono hbz)⟩
        case measure => simp [intOf]; omega
      · obtain rfl : k = n := by omega
        clear hcell hsome hb hz hl
        go_wp2
        go_ret
        exact ⟨rfl, HB.out⟩
  · obtain rfl : n = 0 := by omega
    clear hsome hz hl
    go_enter Tryd.func43, Tryd.ntmps43
    go_wp2
    refine wp_loop_rounds 1 ?_
    rw [rounds_succ]
    go_wp2
    go_ret
    exact ⟨rfl, Below.refl _ _⟩

theorem psum_nil (vs : Array Value) (w : World) : Calls Tryd.prog 24 #[.pointer none, .agg vs] w fun r w' => r = .returned (.pointer none) ∧ Below w.heap.size w w' := by
  go_enter Tryd.func24, Tryd.ntmps24
  go_wp2_with fail
  refine (write_nil _ _).mono ?_
  rintro r w2 ⟨rfl, rfl⟩
  go_wp2_with fail
  go_ret
  exact ⟨rfl, (Below.refl _ _).alloc (Nat.le_refl _) _⟩

end Go.Proofs.YtlnenkmcegadmaaDoor
namespace Go.Proofs.YtlnenkmcegadmaaDoor
open Go.RowKit


theorem zeroCells_len : (cellsOf zero32).length = 32 := rfl

/-- What Sum tells, where l1 is read: these 32 bytes; or 32 bytes 0. -/
def sumCells (l1 : List UInt8) : List Value := if l1.length = 32 then cellsOf l1 else (cellsOf zero32)
theorem sumCells_len (l1 : List UInt8) : (sumCells l1).length = 32 := by
  unfold sumCells
  split
  · simpa [cellsOf] using ‹_›
  · rfl
theorem sumCells_one (l1 : List UInt8) : ∀ v ∈ sumCells l1, v.oneCell' = true := by
  unfold sumCells
  split <;> exact cellsOf_one _

theorem sum_splice {l1 : List UInt8} (hl : l1.length = 0 ∨ l1.length = 32) : splice (cellsOf zero32) 0 (cellsOf l1) = sumCells l1 := by
  unfold sumCells
  rcases hl with h | h
  · rw [if_neg (by omega)]
    obtain rfl : l1 = [] := List.eq_nil_of_length_eq_zero h
    rfl
  · rw [if_pos h]
    have e : (cellsOf l1).length = 32 := by simpa [cellsOf] using h
    simp [splice, e, zeroCells_len]

end Go.Proofs.YtlnenkmcegadmaaDoor
namespace Go.Proofs.YtlnenkmcegadmaaDoor
open Go.RowKit


theorem zero32_all : (cellsOf zero32).toArray.all (·.oneCell') = true := by
  rw [List.all_toArray]
  exact List.all_eq_true.2 (cellsOf_one _)
theorem sumCells_all (l1 : List UInt8) : (sumCells l1).toArray.all (·.oneCell') = true := by
  rw [List.all_toArray]
  exact List.all_eq_true.2 (sumCells_one l1)

theorem row_zero (w : World) (g : Nat) (t : TypeId) (h : w.heap[g]? = some (.cells (cellsOf zero32).toArray t (0, 0))) : Row w (some ⟨g, 0, none⟩) 32 32 (List.replicate 32 0) :=
  row_new rfl (Nat.le_refl _) (by unfold maxLen; omega) (cellsOf zero32) t h (fun _ hj => cellsOf_get hj)

theorem rawOf_32 (l : List UInt8) : (rawOf l 32).1.length = 0 ∨ (rawOf l 32).1.length = 32 := by
  unfold rawOf
  split
  · exact .inl rfl
  · right; simp; omega
theorem But.drewN {B p : Nat} {w w' : World} (h : But B p w w') (n : Nat) : But B p w (w'.drewN n) := ⟨h.os, h.tape, h.output, h.size, h.block⟩
theorem But.after {p : Nat} {w w1 w2 : World} (h : Below w.heap.size w w1) (k : But w1.heap.size p w1 w2) : But w.heap.size p w w2 :=
  (But.of h).trans ⟨k.os, k.tape, k.output, k.size, fun i hi hp => k.block i (Nat.lt_of_lt_of_le hi h.size) hp⟩
theorem rawOf_le (l : List UInt8) (n : Int) : (rawOf l n).2.1.length ≤ l.length := by
  unfold rawOf
  split
  · exact Nat.le_refl _
  · simp
theorem textOf_le (l : List UInt8) (n : Int) : (textOf l n).2.1.length ≤ l.length := by
  unfold textOf
  split
  · exact Nat.le_trans (rawOf_le _ _) (by simp)
  · simp

end Go.Proofs.YtlnenkmcegadmaaDoor
namespace Go.Proofs.YtlnenkmcegadmaaDoor
open Go.RowKit

theorem val_cons (c : UInt8) (t : List UInt8) : ∀ i, val (c :: t) (i + 1) = c.toNat % 128 + 128 * val t i
  | 0 => by simp [val]
  | i + 1 => by
    rw [val, val_cons c t i]
    have e : (c :: t).getD (i + 1) 0 = t.getD i 0 := by simp [List.getD]
    rw [e, val]
    have p : (128 : Nat) ^ (i + 1) = 128 ^ i * 128 := Nat.pow_succ _ _
    rw [p]
    have q : (t.getD i 0).toNat % 128 * (128 ^ i * 128) = 128 * ((t.getD i 0).toNat % 128 * 128 ^ i) := by
      rw [← Nat.mul_assoc, Nat.mul_comm]
    rw [q, Nat.mul_add]
    omega

theorem bt_self (c : UInt8) : bt c.toNat = c := by
  unfold bt
  simp

theorem nb_val : ∀ (s f : Nat) (l : List UInt8), s < l.length → s ≤ f → (∀ j, j < s → 128 ≤ (l.getD j 0).toNat) → (l.getD s 0).toNat < 128 → ¬ ((l.getD s 0).toNat = 0 ∧ 0 < s) → nb f (val l (s + 1)) = l.take (s + 1)
  | 0, f, [], h, _, _, _, _ => by simp at h
  | 0, f, c :: t, _, _, _, h2, _ => by
    have h2' : c.toNat < 128 := by simpa [List.getD] using h2
    have e : val (c :: t) 1 = c.toNat := by
      rw [val_cons]
      simp [val]
      omega
    rw [e, nb_small _ _ h2', bt_self]
    simp
  | s + 1, f, [], h, _, _, _, _ => by simp at h
  | s + 1, 0, c :: t, _, h, _, _, _ => by omega
  | s + 1, f + 1, c :: t, hl, hf, h1, h2, h3 => by
    have hc : 128 ≤ c.toNat := by simpa [List.getD] using h1 0 (by omega)
    have hc2 := c.toNat_lt
    have e2 : (c :: t).getD (s + 1) 0 = t.getD s 0 := by simp [List.getD]
    rw [e2] at h2 h3
    have hpos : 1 ≤ val t (s + 1) := by
      unfold val
      have h4 : 1 ≤ (t.getD s 0).toNat % 128 := by omega
      have h5 : 1 ≤ (128 : Nat) ^ s := Nat.pow_pos (by decide)
      have := Nat.mul_le_mul h4 h5
      omega
    have ih := nb_val s f t (by simpa using hl) (by omega) (fun j hj => by
      have := h1 (j + 1) (by omega)
      simpa [List.getD] using this) h2 (fun ⟨h, h'⟩ => h3 ⟨h, by omega⟩)
    rw [val_cons, nb_large f _ (by omega)]
    have m1 : (c.toNat % 128 + 128 * val t (s + 1)) % 128 + 128 = c.toNat := by omega
    have m2 : (c.toNat % 128 + 128 * val t (s + 1)) / 128 = val t (s + 1) := by omega
    rw [m1, m2, ih, bt_self]
    simp

theorem numB_read (l : List UInt8) (s : Nat) (hl : s < l.length) (h9 : s < 9) (h1 : ∀ j, j < s → 128 ≤ (l.getD j 0).toNat) (h2 : (l.getD s 0).toNat < 128) (h3 : ¬ ((l.getD s 0).toNat = 0 ∧ 0 < s)) : numB ((val l (s + 1) : Nat) : Int) = l.take (s + 1) := by
  unfold numB
  rw [Int.toNat_natCast]
  exact nb_val s 8 l hl (by omega) h1 h2 h3


end Go.Proofs.YtlnenkmcegadmaaDoor
namespace Go.Proofs.YtlnenkmcegadmaaDoor
open Go.RowKit

theorem bt_toNat (x : Nat) (h : x < 256) : (bt x).toNat = x := by
  unfold bt
  rw [UInt8.toNat_ofNat']
  omega

/-- The bytes of a number, with whatever behind them. -/
theorem nb_read : ∀ (f n : Nat) (t : List UInt8), n < 128 ^ (f + 1) →
    (∀ j, j + 1 < (nb f n).length → 128 ≤ ((nb f n ++ t).getD j 0).toNat) ∧
    ((nb f n ++ t).getD ((nb f n).length - 1) 0).toNat < 128 ∧
    (1 < (nb f n).length → ((nb f n ++ t).getD ((nb f n).length - 1) 0).toNat ≠ 0) ∧
    val (nb f n ++ t) (nb f n).length = n ∧ (1 ≤ n → ((nb f n ++ t).getD ((nb f n).length - 1) 0).toNat ≠ 0)
  | f, n, t, h => by
    by_cases hn : n < 128
    · rw [nb_small f n hn]
      have e : (bt n).toNat = n := bt_toNat n (by omega)
      refine ⟨fun j hj => ?_, ?_, fun hj => ?_, ?_, fun h1 => ?_⟩
      · simp at hj
      · simp [e, hn]
      · simp at hj
      · simp [val, e]; omega
      · simp [e]; omega
    · cases f with
      | zero => simp at h; omega
      | succ f =>
        rw [nb_large f n (by omega)]
        have hq : n / 128 < 128 ^ (f + 1) := by rw [Nat.pow_succ] at h; omega
        obtain ⟨i1, i2, i3, i4, i5⟩ := nb_read f (n / 128) t hq
        have hl := nb_len f (n / 128)
        have e : (bt (n % 128 + 128)).toNat = n % 128 + 128 := bt_toNat _ (by omega)
        obtain ⟨m, hm⟩ : ∃ m, (nb f (n / 128)).length = m + 1 := ⟨(nb f (n / 128)).length - 1, by omega⟩
        have g : ∀ j, ((bt (n % 128 + 128) :: nb f (n / 128)) ++ t).getD (j + 1) 0 = (nb f (n / 128) ++ t).getD j 0 := fun j => by simp [List.getD]
        have hlen : (bt (n % 128 + 128) :: nb f (n / 128)).length = m + 2 := by simp [hm]
        rw [hlen]
        rw [hm] at i1 i2 i3 i4 i5
        refine ⟨fun j hj => ?_, ?_, fun _ => ?_, ?_, fun _ => ?_⟩
        · cases j with
          | zero => simp [e]
          | succ j => rw [g]; exact i1 j (by omega)
        · show (((bt (n % 128 + 128) :: nb f (n / 128)) ++ t).getD (m + 1) 0).toNat < 128
          rw [g]
          exact i2
        · show (((bt (n % 128 + 128) :: nb f (n / 128)) ++ t).getD (m + 1) 0).toNat ≠ 0
          rw [g]
          exact i5 (by omega)
        · show val (bt (n % 128 + 128) :: (nb f (n / 128) ++ t)) (m + 2) = n
          rw [val_cons, i4, e]
          omega
        · show (((bt (n % 128 + 128) :: nb f (n / 128)) ++ t).getD (m + 1) 0).toNat ≠ 0
          rw [g]
          exact i5 (by omega)

theorem numOf_numB (z : Int) (t : List UInt8) (hz : z ≤ 9223372036854775807) : numOf (numB z ++ t) = (z.toNat, (numB z).length, 0) := by
  unfold numB
  have e9 : (128 : Nat) ^ (8 + 1) = 9223372036854775808 := by decide
  obtain ⟨h1, h2, h3, h4, _⟩ := nb_read 8 z.toNat t (by omega)
  have hl := nb_len 8 z.toNat
  obtain ⟨m, hm⟩ : ∃ m, (nb 8 z.toNat).length = m + 1 := ⟨(nb 8 z.toNat).length - 1, by omega⟩
  rw [hm] at h1 h2 h3 h4 ⊢
  have := num_good (nb 8 z.toNat ++ t) m (by simp [hm]; omega) (by omega) (fun j hj => h1 j (by omega)) h2 (fun ⟨a, b⟩ => h3 (by omega) a)
  rw [this, h4]

/-- The bytes of numbers, one behind the other. -/
def numsB : List Int → List UInt8
  | [] => []
  | z :: l => numB z ++ numsB l
theorem numsB_snoc : ∀ (l : List Int) (z : Int), numsB (l ++ [z]) = numsB l ++ numB z
  | [], z => by simp [numsB]
  | x :: l, z => by simp [numsB, numsB_snoc l z]
theorem numsB_len : ∀ (l : List Int), (numsB l).length ≤ 9 * l.length
  | [] => by simp [numsB]
  | z :: l => by
    have := numsB_len l
    have h := numB_len z
    simp [numsB]
    omega
theorem numsB_take (l : List Int) (k : Nat) (h : k < l.length) : numsB (l.take (k + 1)) = numsB (l.take k) ++ numB (l.getD k 0) := by
  rw [List.take_succ_eq_append_getElem h, numsB_snoc]
  simp [List.getD, h]
theorem numsB_drop (l : List Int) (k : Nat) (h : k < l.length) : numsB (l.drop k) = numB (l.getD k 0) ++ numsB (l.drop (k + 1)) := by
  rw [List.drop_eq_getElem_cons h]
  simp [numsB, List.getD, h]

theorem uptoOf_numB (z : Int) (t : List UInt8) (m : Int) (h0 : 0 ≤ z) (hz : z ≤ 9223372036854775807) (hm : z ≤ m) : uptoOf (numB z ++ t) m = (z, (numB z).length, 0) := by
  unfold uptoOf
  rw [numOf_numB z t hz]
  have e : ((z.toNat : Nat) : Int) = z := by omega
  show (if (0 : Nat) ≠ 0 then _ else if m < ((z.toNat : Nat) : Int) then _ else (((z.toNat : Nat) : Int), (numB z).length, (0 : Int))) = _
  rw [if_neg (by simp), e, if_neg (by omega)]
theorem textOf_numB (q t : List UInt8) (h : q.length ≤ 200) : textOf (numB (q.length : Nat) ++ (q ++ t)) 200 = (q, t, 0) := by
  have hu := uptoOf_numB (q.length : Nat) (q ++ t) 200 (by omega) (by omega) (by omega)
  unfold textOf
  rw [hu, if_pos rfl]
  have e : (numB (q.length : Nat) ++ (q ++ t)).drop (numB (q.length : Nat)).length = q ++ t := by simp
  show rawOf ((numB (q.length : Nat) ++ (q ++ t)).drop (numB (q.length : Nat)).length) (q.length : Nat) = _
  rw [e]
  unfold rawOf
  rw [if_neg (by rw [List.length_append]; omega)]
  simp
theorem rawOf_sum (s : List UInt8) (h : s.length = 32) : rawOf s 32 = (s, [], 0) := by
  unfold rawOf
  rw [if_neg (by omega)]
  have e : (32 : Int).toNat = s.length := by rw [h]; rfl
  rw [e]
  simp
end Go.Proofs.YtlnenkmcegadmaaDoor
namespace Go.Proofs.YtlnenkmcegadmaaDoor
open Go.RowKit

theorem PenAt.noBytes {w : World} {B pb : Nat} {l : List UInt8} (h : PenAt w B pb l) : NoBytes w pb := by
  rcases h with ⟨h, _⟩ | ⟨sb, v, h, _⟩
  · exact noBytes_two h (fun _ h => by cases h) (fun _ h => by cases h)
  · exact noBytes_two h (fun _ h => by cases h) (fun _ h => by cases h)
theorem Row.butB {w w' : World} {p n c B : Nat} {a : Option Addr} {l : List UInt8} (h : Row w a n c l) (hb : But B p w w') (hp : NoBytes w p) (hB : 0 < n → ∀ x, a = some x → x.block < B) : Row w' a n c l := by
  obtain ⟨h1, h2, h3, h4, h5⟩ := h
  refine ⟨h1, h2, h3, h4, fun h0 => ?_⟩
  obtain ⟨b, off, rfl, hlt, hc⟩ := h5 h0
  have hbp : b ≠ p := fun e => by subst e; exact hp _ _ (hc 0 h0)
  exact ⟨b, off, rfl, Nat.lt_of_lt_of_le hlt hb.size, fun j hj => (hb.cell (a := ⟨b, off + j, none⟩) (hB h0 ⟨b, off, none⟩ rfl) hbp).trans (hc j hj)⟩

set_option maxHeartbeats 800000 in
theorem pnums_at {a : Option Addr} {n c B pb : Nat} {zs : List Int} {l : List UInt8} (w : World) (hi : Ints w a n c zs) (hp : PenAt w B pb l) (hbz : B ≤ w.heap.size) (hB : 0 < n → ∀ x, a = some x → x.block < B ∧ x.block ≠ pb) (hn : n ≤ 30) (hl : l.length ≤ 1000000) :
    Calls Tryd.prog 43 #[.pointer (some ⟨pb, 0, none⟩), .slice a n c] w fun r w' => r = .returned (.pointer (some ⟨pb, 0, none⟩)) ∧ PenAt w' B pb (l ++ numsB zs) ∧ But B pb w w' := by
  obtain ⟨hzl, hnc, hcm, hz, hsome⟩ := hi
  have HP := Lib.hid hp
  have HL := Lib.hid hl
  have HZL := Lib.hid hzl
  have HZ := Lib.hid hz
  by_cases h0 : 0 < n
  · obtain ⟨b, off, rfl, hlt, hcell⟩ := hsome h0
    obtain ⟨hbB, hbp⟩ := hB h0 _ rfl
    have HC := Lib.hid hcell
    clear hcell hsome hB hzl hz hl hp
    go_enter Tryd.func43, Tryd.ntmps43
    go_wp2
    go_loopw [9] (fun i wr => ∃ k : Nat, k ≤ n ∧ i = .int .i64 k ∧ PenAt wr B pb (l ++ numsB (zs.take k)) ∧ But B pb w wr) (fun i _ => n - (intOf i).toNat)
    case atStart => exact ⟨0, Nat.zero_le _, rfl, (by simpa [numsB] using HP.out), But.refl _ _ _⟩
    case round =>
      obtain ⟨k, hk, rfl, hpk, hb⟩ := hrel
      have HPK := Lib.hid hpk
      have HB := Lib.hid hb
      have hbzr : B ≤ wr.heap.size := Nat.le_trans hbz hb.size
      clear hpk
      by_cases hkn : k < n
      · have hck : wr.cell? ⟨b, off + k, none⟩ = some (.int .i64 (zs.getD k 0)) := (hb.cell (a := ⟨b, off + k, none⟩) hbB hbp).trans (HC.out k hkn)
        have hkl : k < zs.length := by rw [HZL.out]; exact hkn
        have hzk : zs.getD k 0 ≤ 9223372036854775807 := by
          have e : zs.getD k 0 = zs[k] := by simp [List.getD, hkl]
          rw [e]
          exact HZ.out _ (List.getElem_mem hkl)
        have hts := numsB_take zs k hkl
        obtain ⟨z, hze⟩ : ∃ z, z = zs.getD k 0 := ⟨_, rfl⟩
        rw [← hze] at hck hzk hts
        have HTS := Lib.hid hts
        have HLB : Hid ((l ++ numsB (zs.take k)).length + 9 ≤ 140737488355328) := by
          have h1 := numsB_len (zs.take k)
          have h2 : (zs.take k).length ≤ k := List.length_take_le _ _
          have h3 := HL.out
          show _ ≤ _
          rw [List.length_append]
          omega
        clear hb hze hts hkl
        go_wp2_with (go_at_call 25; refine (pnum_at _ HPK.out hbzr HLB.out hzk).mono ?_; rintro r w1 ⟨rfl, hp1, hb1⟩; rw [List.append_assoc, ← HTS.out] at hp1; have HP1 := Lib.hid hp1; have HB1 := Lib.hid hb1; clear hp1 hb1)
        go_roundw
        case rel => exact ⟨k + 1, by omega, by go_num, HP1.out, HB.out.trans HB1.out⟩
        case measure => simp [intOf]; omega
      · obtain rfl : k = n := by omega
        have htk : zs.take k = zs := List.take_of_length_le (by rw [HZL.out]; exact Nat.le_refl _)
        have HTK := Lib.hid htk
        clear htk hb
        go_wp2
        go_ret
        exact ⟨rfl, by rw [← HTK.out]; exact HPK.out, HB.out⟩
  · obtain rfl : n = 0 := by omega
    have hz0 : zs = [] := List.eq_nil_of_length_eq_zero hzl
    subst hz0
    clear hsome hzl hz hl hp hB HZ HZL
    go_enter Tryd.func43, Tryd.ntmps43
    go_wp2
    refine wp_loop_rounds 1 ?_
    rw [rounds_succ]
    go_wp2
    go_ret
    exact ⟨rfl, by simpa [numsB] using HP.out, But.refl _ _ _⟩

theorem ptext_at {a : Option Addr} {n c B pb : Nat} {l q : List UInt8} (w : World) (hq : Row w a n c q) (hp : PenAt w B pb l) (hbz : B ≤ w.heap.size) (hB : 0 < n → ∀ x, a = some x → x.block < B) (hn : n ≤ 1000000) (hl : l.length ≤ 1000000) :
    Calls Tryd.prog 44 #[.pointer (some ⟨pb, 0, none⟩), .slice a n c] w fun r w' => r = .returned (.pointer (some ⟨pb, 0, none⟩)) ∧ PenAt w' B pb (l ++ (numB (q.length : Nat) ++ q)) ∧ But B pb w w' := by
  have hql := hq.1
  have HP := Lib.hid hp
  have HQ := Lib.hid hq
  have HNB := Lib.hid hp.noBytes
  have HB := Lib.hid hB
  have HQL := Lib.hid hql
  clear hp hq hB hql
  go_enter Tryd.func44, Tryd.ntmps44
  go_wp2_with fail
  refine (pnum_at _ HP.out hbz (by omega) (by omega)).mono ?_
  rintro r w1 ⟨rfl, hp1, hb1⟩
  have HP1 := Lib.hid hp1
  have HB1 := Lib.hid hb1
  have HQ1 : Hid (Row w1 a n c q) := HQ.out.butB hb1 HNB.out HB.out
  have hbz1 : B ≤ w1.heap.size := Nat.le_trans hbz hb1.size
  have HLB : Hid ((l ++ numB (n : Int)).length + n ≤ 140737488355328) := by
    have h1 := numB_len (n : Int)
    show _ ≤ _
    rw [List.length_append]
    omega
  clear hp1 hb1
  go_wp2_with fail
  refine (write_any HP1.out hbz1 HQ1.out HLB.out).mono ?_
  rintro r w2 ⟨rfl, hp2, hb2⟩
  have HP2 := Lib.hid hp2
  have HB2 := Lib.hid hb2
  clear hp2 hb2
  go_wp2_with fail
  go_ret
  exact ⟨rfl, by rw [HQL.out, ← List.append_assoc]; exact HP2.out, HB1.out.trans HB2.out⟩

theorem psum_at {B pb : Nat} {l s : List UInt8} (w : World) (hs : s.length = 32) (hp : PenAt w B pb l) (hbz : B ≤ w.heap.size) (hl : l.length ≤ 1000000) :
    Calls Tryd.prog 24 #[.pointer (some ⟨pb, 0, none⟩), .agg (cellsOf s).toArray] w fun r w' => r = .returned (.pointer (some ⟨pb, 0, none⟩)) ∧ PenAt w' B pb (l ++ s) ∧ But B pb w w' := by
  have hb1 : Below w.heap.size w (w.alloc (.cells (cellsOf s).toArray 23)) := (Below.refl _ _).alloc (Nat.le_refl _) _
  have hp1 : PenAt (w.alloc (.cells (cellsOf s).toArray 23)) B pb l := hp.below hbz hb1
  have hr1 : Row (w.alloc (.cells (cellsOf s).toArray 23)) (some ⟨w.heap.size, 0, none⟩) 32 32 s :=
    row_new hs (Nat.le_refl _) (by unfold maxLen; omega) (cellsOf s) 23 (heap_alloc_new w _) (fun j hj => cellsOf_get (by omega))
  have HB1 := Lib.hid hb1
  have HP1 := Lib.hid hp1
  have HR1 := Lib.hid hr1
  have hlv : (cellsOf s).toArray.size = 32 := by simpa [cellsOf] using hs
  clear hb1 hp1 hr1 hp hs
  obtain ⟨V, hV⟩ : ∃ V, V = (cellsOf s).toArray := ⟨_, rfl⟩
  rw [← hV] at HB1 HP1 HR1 hlv ⊢
  clear hV
  go_enter Tryd.func24, Tryd.ntmps24
  go_wp2_with fail
  refine (write_any HP1.out (by simp; omega) HR1.out (by omega)).mono ?_
  rintro r w2 ⟨rfl, hp2, hb2⟩
  have HP2 := Lib.hid hp2
  have HB2 := Lib.hid hb2
  clear hp2 hb2
  go_wp2_with fail
  go_ret
  exact ⟨rfl, HP2.out, (But.of (HB1.out.mono hbz)).trans HB2.out⟩
end Go.Proofs.YtlnenkmcegadmaaDoor
namespace Go.Proofs.YtlnenkmcegadmaaDoor

theorem textOf_any (q t : List UInt8) (M : Int) (h : (q.length : Int) ≤ M) (hm : q.length ≤ 9223372036854775807) : textOf (numB (q.length : Nat) ++ (q ++ t)) M = (q, t, 0) := by
  have hu := uptoOf_numB (q.length : Nat) (q ++ t) M (by omega) (by omega) h
  unfold textOf
  rw [hu, if_pos rfl]
  have e : (numB (q.length : Nat) ++ (q ++ t)).drop (numB (q.length : Nat)).length = q ++ t := by simp
  show rawOf ((numB (q.length : Nat) ++ (q ++ t)).drop (numB (q.length : Nat)).length) (q.length : Nat) = _
  rw [e]
  unfold rawOf
  rw [if_neg (by rw [List.length_append]; omega)]
  simp
theorem rawOf_more (s t : List UInt8) (h : s.length = 32) : rawOf (s ++ t) 32 = (s, t, 0) := by
  unfold rawOf
  rw [if_neg (by rw [List.length_append]; omega)]
  have e : (32 : Int).toNat = s.length := by rw [h]; rfl
  rw [e]
  simp
/-- Sums, one behind the other. -/
def flat32 (ls : List (List UInt8)) : List UInt8 := ls.flatMap id
theorem flat32_cons (s : List UInt8) (ls : List (List UInt8)) : flat32 (s :: ls) = s ++ flat32 ls := by simp [flat32]
theorem flat32_snoc (s : List UInt8) (ls : List (List UInt8)) : flat32 (ls ++ [s]) = flat32 ls ++ s := by simp [flat32]
theorem flat32_drop (ls : List (List UInt8)) (k : Nat) (h : k < ls.length) : flat32 (ls.drop k) = ls.getD k [] ++ flat32 (ls.drop (k + 1)) := by
  rw [List.drop_eq_getElem_cons h, flat32_cons]
  simp [List.getD, h]
theorem flat32_take (ls : List (List UInt8)) (k : Nat) (h : k < ls.length) : flat32 (ls.take (k + 1)) = flat32 (ls.take k) ++ ls.getD k [] := by
  rw [List.take_succ_eq_append_getElem h, flat32_snoc]
  simp [List.getD, h]
end Go.Proofs.YtlnenkmcegadmaaDoor
namespace Go.Proofs.YtlnenkmcegadmaaDoor
open Go.RowKit

theorem Own.base {w : World} {B B' : Nat} {v : Value} {l : List UInt8} (h : Own w B v l) (hB : B' ≤ B) : Own w B' v l := by
  refine ⟨h.1, ?_⟩
  rcases h.2 with h0 | ⟨g, cap, cur, hv, hb, r⟩
  · exact .inl h0
  · exact .inr ⟨g, cap, cur, hv, by omega, r⟩
theorem PenAt.base {w : World} {B B' pb : Nat} {l : List UInt8} (h : PenAt w B pb l) (hB : B' ≤ B) : PenAt w B' pb l := by
  rcases h with h | ⟨sb, v, h1, h2, h3, h4⟩
  · exact .inl h
  · exact .inr ⟨sb, v, h1, h2, by omega, h4.base hB⟩
set_option maxHeartbeats 800000 in
theorem write_keep {B pb sb : Nat} {v : Value} {l q : List UInt8} {a : Option Addr} {m c : Nat} {w : World} (hp : w.heap[pb]? = some (.cells #[.pointer (some ⟨sb, 0, none⟩), .int .i64 (l.length : Nat)] 61 (0, 0))) (hs : w.heap[sb]? = some (.cells #[v] 99 (0, 0))) (hB : B ≤ sb) (ho : Own w B v l)
    (hq : Row w a m c q) (hm : l.length + m ≤ 140737488355328) :
    Calls Tryd.prog 38 #[.pointer (some ⟨pb, 0, none⟩), .slice a m c] w fun r w' => r = .returned (.pointer (some ⟨pb, 0, none⟩)) ∧ (PenAt w' B pb (l ++ q) ∧ But B pb w w') ∧ ∀ k, k < w.heap.size → k ≠ pb → k ≠ sb → v.ownBlock ≠ some k → w'.heap[k]? = w.heap[k]? := by
  have hbz : B ≤ w.heap.size := by have := lt_of_block hs; omega
  obtain ⟨ao, cp, rfl, _⟩ := ho.shape
  have c0 := two_cell0 hp
  have c1 := two_cell1 hp
  have f1 := two_free1 hp
  have s0 := cell_of_one hs
  have fs := free_of_one hs
  obtain ⟨i0, hi, hz0, hz1, hz2⟩ := info_parts Tryd.info5
  have HQ := Lib.hid hq
  have HI := Lib.hid hi
  obtain ⟨N, hN⟩ : ∃ N, N = l.length := ⟨_, rfl⟩
  rw [← hN] at c1 s0 hm ho hp hs
  have HO := Lib.hid ho
  have HP := Lib.hid hp
  have HS := Lib.hid hs
  have hpa : some pb ≠ (Value.slice ao N cp).ownBlock := Ne.symm (ho.apart hp (by decide))
  have hsa : some sb ≠ (Value.slice ao N cp).ownBlock := Ne.symm (ho.apart hs (by decide))
  have hpl := lt_of_block hp
  have hsp : (⟨sb, 0, none⟩ : Addr) ≠ ⟨pb, 0, none⟩ := fun e => by simp at e; subst e; rw [hp] at hs; simp at hs
  have hsl := lt_of_block hs
  have HN := Lib.hid hN
  clear hp hs ho hq hi hN
  go_enter Tryd.func38, Tryd.ntmps38
  go_wp2_with fail
  go_quiet (fail)
  go_wp2_with fail
  go_region_law
    ((refine step_append_row (by rfl) (.tmp 44) (.tmp 45) 45 (by rfl) B i0 Tryd.underlying45 HI.out hz0 hz1 hz2 (.slice ao N cp) l N HN.out.symm (by rfl) HO.out a m c q (by rfl) HQ.out hm hbz ?_; intro a' c' w1 hown1 hgrow1; have hp1 : w1.heap[pb]? = some (.cells #[.pointer (some ⟨sb, 0, none⟩), .int .i64 (N : Nat)] 61 (0, 0)) := (hgrow1.block pb hpl hpa).trans HP.out; have hs1 : w1.heap[sb]? = some (.cells #[.slice ao N cp] 99 (0, 0)) := (hgrow1.block sb hsl hsa).trans HS.out; have k0 := two_cell0 hp1; have k1 := two_cell1 hp1; have g1 := two_free1 hp1; have s1 := cell_of_one hs1; have t1 := free_of_one hs1; have HP1 := Lib.hid hp1; have HS1 := Lib.hid hs1; have HO1 := Lib.hid hown1; have HG1 := Lib.hid hgrow1; clear hp1 hs1 hown1 hgrow1))
  all_goals go_wp2
  all_goals go_ret
  all_goals
    have hb1 : Below B w w1 := Below.grown (w := w.drewN (nq + 1)) (below_drewN (Below.refl B w) _) HG1.out hbz HO.out.lt
    exact ⟨rfl, ⟨PenAt.store HP1.out HS1.out hB HO1.out (by rw [List.length_append, ← HN.out, HQ.out.1]; omega), ((But.of hb1).setCell ⟨sb, 0, none⟩ (.inr hB) _).setCell ⟨pb, 1, none⟩ (.inl rfl) _⟩,
      fun k h1 h2 h3 h4 => (Below.heap_setCell _ _ _ _ h2).trans ((Below.heap_setCell _ _ _ _ h3).trans (HG1.out.block k h1 (fun e => h4 (by rw [← HN.out]; exact e.symm))))⟩
/-- Blocks that no pen writes stay. -/
def Keeps (w w' : World) : Prop := ∀ (k : Nat) (cs : Array Value) (t : TypeId) (fr : Nat × Nat), w.heap[k]? = some (.cells cs t fr) → t ≠ 5 → t ≠ 99 → t ≠ 61 → w'.heap[k]? = w.heap[k]?
theorem Keeps.refl (w : World) : Keeps w w := fun _ _ _ _ _ _ _ _ => rfl
theorem Keeps.trans {w w1 w2 : World} (h : Keeps w w1) (k : Keeps w1 w2) : Keeps w w2 := fun i cs t fr e n1 n2 n3 => (k i cs t fr ((h i cs t fr e n1 n2 n3).trans e) n1 n2 n3).trans (h i cs t fr e n1 n2 n3)
theorem Keeps.below {w w' : World} (hb : Below w.heap.size w w') : Keeps w w' := fun i _ _ _ e _ _ _ => hb.block i (lt_of_block e)
theorem Own.apart' {w : World} {B b : Nat} {v : Value} {l : List UInt8} {cs : Array Value} {t : TypeId} {fr : Nat × Nat} (h : Own w B v l) (hb : w.heap[b]? = some (.cells cs t fr)) (ht : t ≠ 5) : v.ownBlock ≠ some b := by
  rcases h.2 with ⟨rfl, _⟩ | ⟨g, cap, cur, rfl, _, hh, _⟩
  · intro e; cases e
  · intro e
    simp [Value.ownBlock] at e
    subst e
    rw [hh] at hb
    simp at hb
    exact ht hb.2.1.symm
theorem write_typed {B pb : Nat} {l q : List UInt8} {a : Option Addr} {m c : Nat} {w : World} (hp : PenAt w B pb l) (hbz : B ≤ w.heap.size) (hq : Row w a m c q) (hm : l.length + m ≤ 140737488355328) :
    Calls Tryd.prog 38 #[.pointer (some ⟨pb, 0, none⟩), .slice a m c] w fun r w' => r = .returned (.pointer (some ⟨pb, 0, none⟩)) ∧ PenAt w' B pb (l ++ q) ∧ But B pb w w' ∧ Keeps w w' := by
  rcases hp with ⟨h, rfl⟩ | ⟨sb, v, h1, h2, h3, h4⟩
  · refine (write_fresh h (Nat.le_refl _) hq (by simpa using hm)).mono fun r w' ⟨e1, e2, e3⟩ => ⟨e1, (by simpa using e2.base hbz), e3.mono hbz, fun k cs t fr hk _ _ n3 => ?_⟩
    have hne : k ≠ pb := fun e => by subst e; rw [h] at hk; simp at hk; exact n3 hk.2.1.symm
    exact (e3.heap hk (lt_of_block hk) hne).trans hk.symm
  · refine (write_keep h1 h2 h3 h4 hq hm).mono fun r w' ⟨e1, ⟨e2, e3⟩, e4⟩ => ⟨e1, e2, e3, fun k cs t fr hk n1 n2 n3 => ?_⟩
    have hne : k ≠ pb := fun e => by subst e; rw [h1] at hk; simp at hk; exact n3 hk.2.1.symm
    have hne2 : k ≠ sb := fun e => by subst e; rw [h2] at hk; simp at hk; exact n2 hk.2.1.symm
    exact e4 k (lt_of_block hk) hne hne2 (h4.apart' hk n1)
theorem pnum_typed {B pb : Nat} {l : List UInt8} {w : World} (z : Int) (hp : PenAt w B pb l) (hbz : B ≤ w.heap.size) (hm : l.length + 9 ≤ 140737488355328) (hz63 : z ≤ 9223372036854775807) :
    Calls Tryd.prog 25 #[.pointer (some ⟨pb, 0, none⟩), .int .i64 z] w fun r w' => r = .returned (.pointer (some ⟨pb, 0, none⟩)) ∧ PenAt w' B pb (l ++ numB z) ∧ But B pb w w' ∧ Keeps w w' := by
  refine pnum_any z w (some ⟨pb, 0, none⟩) (fun _ q w w' => PenAt w' B pb (l ++ q) ∧ But B pb w w' ∧ Keeps w w') hz63 fun w1 a k c hb hrow _ => ?_
  have hn := numB_len z
  have hk := hrow.1
  exact (write_typed (hp.below hbz hb) (Nat.le_trans hbz hb.size) hrow (by omega)).mono fun r w' ⟨h1, h2, h3, h4⟩ => ⟨h1, h2, (But.of (hb.mono hbz)).trans h3, (Keeps.below hb).trans h4⟩
set_option maxHeartbeats 800000 in
/-- Numbers that stay where they lie, whatever the pen does. -/
theorem pnums_typed {b off n c B pb : Nat} {zs : List Int} {l : List UInt8} (w : World) (hzl : zs.length = n) (hnc : n ≤ c) (_hcm : c ≤ maxLen) (hz : ∀ z ∈ zs, z ≤ 9223372036854775807)
    (hcell : ∀ wr, But B pb w wr → Keeps w wr → ∀ j, j < n → wr.cell? ⟨b, off + j, none⟩ = some (.int .i64 (zs.getD j 0))) (hp : PenAt w B pb l) (hbz : B ≤ w.heap.size) (hn : n ≤ 1000) (hl : l.length ≤ 1000000) :
    Calls Tryd.prog 43 #[.pointer (some ⟨pb, 0, none⟩), .slice (some ⟨b, off, none⟩) n c] w fun r w' => r = .returned (.pointer (some ⟨pb, 0, none⟩)) ∧ PenAt w' B pb (l ++ numsB zs) ∧ But B pb w w' ∧ Keeps w w' := by
  have HP := Lib.hid hp
  have HL := Lib.hid hl
  have HZL := Lib.hid hzl
  have HZ := Lib.hid hz
  have HC := Lib.hid hcell
  clear hcell hzl hz hl hp
  go_enter Tryd.func43, Tryd.ntmps43
  go_wp2
  go_loopw [9] (fun i wr => ∃ k : Nat, k ≤ n ∧ i = .int .i64 k ∧ PenAt wr B pb (l ++ numsB (zs.take k)) ∧ But B pb w wr ∧ Keeps w wr) (fun i _ => n - (intOf i).toNat)
  case atStart => exact ⟨0, Nat.zero_le _, rfl, (by simpa [numsB] using HP.out), But.refl _ _ _, Keeps.refl _⟩
  case round =>
    obtain ⟨k, hk, rfl, hpk, hb, hkp⟩ := hrel
    have HPK := Lib.hid hpk
    have HB := Lib.hid hb
    have HKP := Lib.hid hkp
    have hbzr : B ≤ wr.heap.size := Nat.le_trans hbz hb.size
    clear hpk
    by_cases hkn : k < n
    · have hck := HC.out wr hb hkp k hkn
      have hkl : k < zs.length := by rw [HZL.out]; exact hkn
      have hzk : zs.getD k 0 ≤ 9223372036854775807 := by
        have e : zs.getD k 0 = zs[k] := by simp [List.getD, hkl]
        rw [e]
        exact HZ.out _ (List.getElem_mem hkl)
      have hts := numsB_take zs k hkl
      obtain ⟨z, hze⟩ : ∃ z, z = zs.getD k 0 := ⟨_, rfl⟩
      rw [← hze] at hck hzk hts
      have HTS := Lib.hid hts
      have HLB : Hid ((l ++ numsB (zs.take k)).length + 9 ≤ 140737488355328) := by
        have h1 := numsB_len (zs.take k)
        have h2 : (zs.take k).length ≤ k := List.length_take_le _ _
        have h3 := HL.out
        show _ ≤ _
        rw [List.length_append]
        omega
      clear hb hkp hze hts hkl
      go_wp2_with (go_at_call 25; refine (pnum_typed _ HPK.out hbzr HLB.out hzk).mono ?_; rintro r w1 ⟨rfl, hp1, hb1, hk1⟩; rw [List.append_assoc, ← HTS.out] at hp1; have HP1 := Lib.hid hp1; have HB1 := Lib.hid hb1; have HK1 := Lib.hid hk1; clear hp1 hb1 hk1)
      go_roundw
      case rel => exact ⟨k + 1, by omega, by go_num, HP1.out, HB.out.trans HB1.out, HKP.out.trans HK1.out⟩
      case measure => simp [intOf]; omega
    · obtain rfl : k = n := by omega
      have htk : zs.take k = zs := List.take_of_length_le (by rw [HZL.out]; exact Nat.le_refl _)
      have HTK := Lib.hid htk
      clear htk hb hkp
      go_wp2
      go_ret
      exact ⟨rfl, by rw [← HTK.out]; exact HPK.out, HB.out, HKP.out⟩
theorem pnums_zero {c B pb : Nat} {a : Option Addr} {l : List UInt8} (w : World) (hp : PenAt w B pb l) :
    Calls Tryd.prog 43 #[.pointer (some ⟨pb, 0, none⟩), .slice a 0 c] w fun r w' => r = .returned (.pointer (some ⟨pb, 0, none⟩)) ∧ PenAt w' B pb (l ++ numsB []) ∧ But B pb w w' ∧ Keeps w w' := by
  have HP := Lib.hid hp
  clear hp
  go_enter Tryd.func43, Tryd.ntmps43
  go_wp2
  refine wp_loop_rounds 1 ?_
  rw [rounds_succ]
  go_wp2
  go_ret
  exact ⟨rfl, by simpa [numsB] using HP.out, But.refl _ _ _, Keeps.refl _⟩
theorem psum_typed {B pb : Nat} {l s : List UInt8} (w : World) (hs : s.length = 32) (hp : PenAt w B pb l) (hbz : B ≤ w.heap.size) (hl : l.length ≤ 1000000) :
    Calls Tryd.prog 24 #[.pointer (some ⟨pb, 0, none⟩), .agg (cellsOf s).toArray] w fun r w' => r = .returned (.pointer (some ⟨pb, 0, none⟩)) ∧ PenAt w' B pb (l ++ s) ∧ But B pb w w' ∧ Keeps w w' := by
  have hb1 : Below w.heap.size w (w.alloc (.cells (cellsOf s).toArray 23)) := (Below.refl _ _).alloc (Nat.le_refl _) _
  have hp1 : PenAt (w.alloc (.cells (cellsOf s).toArray 23)) B pb l := hp.below hbz hb1
  have hr1 : Row (w.alloc (.cells (cellsOf s).toArray 23)) (some ⟨w.heap.size, 0, none⟩) 32 32 s :=
    row_new hs (Nat.le_refl _) (by unfold maxLen; omega) (cellsOf s) 23 (heap_alloc_new w _) (fun j hj => cellsOf_get (by omega))
  have HB1 := Lib.hid hb1
  have HP1 := Lib.hid hp1
  have HR1 := Lib.hid hr1
  have hlv : (cellsOf s).toArray.size = 32 := by simpa [cellsOf] using hs
  clear hb1 hp1 hr1 hp hs
  obtain ⟨V, hV⟩ : ∃ V, V = (cellsOf s).toArray := ⟨_, rfl⟩
  rw [← hV] at HB1 HP1 HR1 hlv ⊢
  clear hV
  go_enter Tryd.func24, Tryd.ntmps24
  go_wp2_with fail
  refine (write_typed HP1.out (by simp; omega) HR1.out (by omega)).mono ?_
  rintro r w2 ⟨rfl, hp2, hb2, hk2⟩
  have HP2 := Lib.hid hp2
  have HB2 := Lib.hid hb2
  have HK2 := Lib.hid hk2
  clear hp2 hb2 hk2
  go_wp2_with fail
  go_ret
  exact ⟨rfl, HP2.out, (But.of (HB1.out.mono hbz)).trans HB2.out, (Keeps.below HB1.out).trans HK2.out⟩
/-- What another pen wrote stays. -/
theorem PenAt.other {w w' : World} {B pb qb : Nat} {l : List UInt8} (h : PenAt w B pb l) (hb : But w.heap.size qb w w') (hne : pb ≠ qb) {cs : Array Value} {fr : Nat × Nat} (hq : w.heap[qb]? = some (.cells cs 61 fr)) : PenAt w' B pb l := by
  rcases h with ⟨h, h'⟩ | ⟨sb, v, h1, h2, h3, h4⟩
  · exact .inl ⟨hb.heap h (lt_of_block h) hne, h'⟩
  · have hs : sb ≠ qb := fun e => by subst e; rw [hq] at h2; simp at h2
    refine .inr ⟨sb, v, hb.heap h1 (lt_of_block h1) hne, hb.heap h2 (lt_of_block h2) hs, h3, ?_⟩
    rcases h4.2 with h0 | ⟨g, cap, cur, hv, hB, hh, r⟩
    · exact ⟨h4.1, .inl h0⟩
    · have hg : g ≠ qb := fun e => by subst e; rw [hq] at hh; simp at hh
      exact ⟨h4.1, .inr ⟨g, cap, cur, hv, hB, hb.heap hh (lt_of_block hh) hg, r⟩⟩
end Go.Proofs.YtlnenkmcegadmaaDoor
namespace Go.Proofs.YtlnenkmcegadmaaDoor
open Go.RowKit

theorem stop_ex (l : List UInt8) : ∃ k, k ≤ l.length ∧ k ≤ 9 ∧ (∀ j, j < k → 128 ≤ (l.getD j 0).toNat) ∧ (k = l.length ∨ k = 9 ∨ (l.getD k 0).toNat < 128) := by
  have key : ∀ m, m ≤ 9 → (∃ k, k ≤ l.length ∧ k ≤ 9 ∧ (∀ j, j < k → 128 ≤ (l.getD j 0).toNat) ∧ (k = l.length ∨ k = 9 ∨ (l.getD k 0).toNat < 128)) ∨ (m ≤ l.length ∧ ∀ j, j < m → 128 ≤ (l.getD j 0).toNat) := by
    intro m
    induction m with
    | zero => intro _; exact .inr ⟨Nat.zero_le _, fun j h => by omega⟩
    | succ m ih =>
      intro hm
      rcases ih (by omega) with h | ⟨h1, h2⟩
      · exact .inl h
      · by_cases h3 : m = l.length
        · exact .inl ⟨m, h1, by omega, h2, .inl h3⟩
        · by_cases h4 : (l.getD m 0).toNat < 128
          · exact .inl ⟨m, h1, by omega, h2, .inr (.inr h4)⟩
          · refine .inr ⟨by omega, fun j hj => ?_⟩
            by_cases e : j = m
            · subst e; omega
            · exact h2 j (by omega)
  rcases key 9 (Nat.le_refl _) with h | ⟨h1, h2⟩
  · exact h
  · exact ⟨9, h1, Nat.le_refl _, h2, .inr (.inl rfl)⟩
theorem numOf_back (l : List UInt8) (h : (numOf l).2.2 = 0) : numB (((numOf l).1 : Nat) : Int) = l.take (numOf l).2.1 := by
  obtain ⟨k, hk, h9, h1, h2⟩ := stop_ex l
  by_cases e9 : k = 9
  · subst e9; rw [num_nine l hk h1] at h; simp at h
  by_cases el : k = l.length
  · rw [num_none l k el (by omega) h1] at h; simp at h
  have h3 : (l.getD k 0).toNat < 128 := by omega
  by_cases h0 : (l.getD k 0).toNat = 0 ∧ 0 < k
  · rw [num_form l k (by omega) (by omega) h1 h0.1 h0.2] at h; simp at h
  · rw [num_good l k (by omega) (by omega) h1 h3 h0]
    exact numB_read l k (by omega) (by omega) h1 h3 h0

/-- A number at most m is read; s: what is left, and the error. -/
def upR (s : List UInt8 × Int) (m : Int) : Int × (List UInt8 × Int) := if s.2 = 0 then ((uptoOf s.1 m).1, (s.1.drop (uptoOf s.1 m).2.1, (uptoOf s.1 m).2.2)) else (0, s)
theorem upR_bad {s : List UInt8 × Int} (m : Int) (h : s.2 ≠ 0) : upR s m = (0, s) := by unfold upR; rw [if_neg h]
theorem uptoOf_cases (l : List UInt8) (m : Int) : (uptoOf l m).2.2 = 0 ∧ (numOf l).2.2 = 0 ∧ (uptoOf l m).1 = (numOf l).1 ∧ (uptoOf l m).2.1 = (numOf l).2.1 ∧ ((numOf l).1 : Int) ≤ m ∨ (uptoOf l m).2.2 ≠ 0 ∧ (uptoOf l m).1 = 0 := by
  unfold uptoOf
  by_cases h1 : (numOf l).2.2 ≠ 0
  · rw [if_pos h1]
    refine .inr ⟨?_, rfl⟩
    show ((numOf l).2.2 : Int) ≠ 0
    omega
  · rw [if_neg h1]
    by_cases h2 : m < (numOf l).1
    · rw [if_pos h2]
      exact .inr ⟨show (5 : Int) ≠ 0 by decide, rfl⟩
    · rw [if_neg h2]
      exact .inl ⟨rfl, by omega, rfl, rfl, by omega⟩
theorem upR_ok {s : List UInt8 × Int} {m : Int} (h : (upR s m).2.2 = 0) : s.2 = 0 ∧ s.1 = numB (upR s m).1 ++ (upR s m).2.1 := by
  by_cases h0 : s.2 = 0
  · unfold upR at h ⊢
    rw [if_pos h0] at h ⊢
    rcases uptoOf_cases s.1 m with ⟨_, h2, h3, h4, _⟩ | ⟨h1, _⟩
    · refine ⟨h0, ?_⟩
      show s.1 = numB (uptoOf s.1 m).1 ++ s.1.drop (uptoOf s.1 m).2.1
      rw [h3, h4, numOf_back s.1 h2, List.take_append_drop]
    · exact absurd h h1
  · rw [upR_bad m h0] at h
    exact absurd h h0
theorem upR_range (s : List UInt8 × Int) {m : Int} (hm : 0 ≤ m) : 0 ≤ (upR s m).1 ∧ (upR s m).1 ≤ m := by
  by_cases h0 : s.2 = 0
  · unfold upR
    rw [if_pos h0]
    rcases uptoOf_cases s.1 m with ⟨_, _, h3, _, h5⟩ | ⟨_, h1⟩
    · show 0 ≤ (uptoOf s.1 m).1 ∧ (uptoOf s.1 m).1 ≤ m
      rw [h3]
      omega
    · show 0 ≤ (uptoOf s.1 m).1 ∧ (uptoOf s.1 m).1 ≤ m
      rw [h1]
      omega
  · rw [upR_bad m h0]
    exact ⟨Int.le_refl _, hm⟩
theorem upR_put {z m : Int} (t : List UInt8) (h0 : 0 ≤ z) (h1 : z ≤ m) (h2 : z ≤ 9223372036854775807) : upR (numB z ++ t, 0) m = (z, (t, 0)) := by
  unfold upR
  rw [if_pos rfl]
  show ((uptoOf (numB z ++ t) m).1, ((numB z ++ t).drop (uptoOf (numB z ++ t) m).2.1, (uptoOf (numB z ++ t) m).2.2)) = _
  rw [uptoOf_numB z t m h0 h2 h1]
  simp
theorem upR_le (s : List UInt8 × Int) (m : Int) : (upR s m).2.1.length ≤ s.1.length := by
  unfold upR
  split
  · simp
  · exact Nat.le_refl _
/-- A sum is read: 32 bytes; or the zero one. -/
def sumB (l : List UInt8) : List UInt8 := if l.length = 32 then l else zero32
def sumR (s : List UInt8 × Int) : List UInt8 × (List UInt8 × Int) := if s.2 = 0 then (sumB (rawOf s.1 32).1, ((rawOf s.1 32).2.1, (rawOf s.1 32).2.2)) else (zero32, s)
theorem zero32_size : zero32.length = 32 := by decide
theorem sumB_len (l : List UInt8) : (sumB l).length = 32 := by
  unfold sumB
  split
  · assumption
  · exact zero32_size
theorem sumB_cells (l : List UInt8) : sumCells l = cellsOf (sumB l) := by
  unfold sumCells sumB
  split <;> rfl
theorem sumR_len (s : List UInt8 × Int) : (sumR s).1.length = 32 := by
  unfold sumR
  split
  · exact sumB_len _
  · exact zero32_size
theorem sumR_bad {s : List UInt8 × Int} (h : s.2 ≠ 0) : sumR s = (zero32, s) := by unfold sumR; rw [if_neg h]
theorem sumR_ok {s : List UInt8 × Int} (h : (sumR s).2.2 = 0) : s.2 = 0 ∧ s.1 = (sumR s).1 ++ (sumR s).2.1 := by
  by_cases h0 : s.2 = 0
  · refine ⟨h0, ?_⟩
    unfold sumR at h ⊢
    rw [if_pos h0] at h ⊢
    unfold rawOf at h ⊢
    by_cases h1 : (32 : Int) < 0 ∨ (s.1.length : Int) < 32
    · rw [if_pos h1] at h
      exact absurd h (show ¬ (2 : Int) = 0 by decide)
    · rw [if_neg h1]
      show s.1 = sumB (s.1.take 32) ++ s.1.drop 32
      unfold sumB
      rw [if_pos (by simp; omega), List.take_append_drop]
  · rw [sumR_bad h0] at h
    exact absurd h h0
theorem sumR_put {h : List UInt8} (t : List UInt8) (hl : h.length = 32) : sumR (h ++ t, 0) = (h, (t, 0)) := by
  unfold sumR
  rw [if_pos rfl]
  show (sumB (rawOf (h ++ t) 32).1, ((rawOf (h ++ t) 32).2.1, (rawOf (h ++ t) 32).2.2)) = _
  rw [rawOf_more h t hl]
  unfold sumB
  rw [if_pos hl]
theorem sumR_le (s : List UInt8 × Int) : (sumR s).2.1.length ≤ s.1.length := by
  unfold sumR
  split
  · exact rawOf_le _ _
  · exact Nat.le_refl _
/-- So many numbers, each at most m, are read. -/
def numsR (m : Int) : Nat → List UInt8 × Int → List Int × (List UInt8 × Int)
  | 0, s => ([], s)
  | k + 1, s => ((numsR m k s).1 ++ [(upR (numsR m k s).2 m).1], (upR (numsR m k s).2 m).2)
theorem numsR_len (m : Int) (s : List UInt8 × Int) : ∀ k, (numsR m k s).1.length = k
  | 0 => rfl
  | k + 1 => by simp [numsR, numsR_len m s k]
theorem numsR_range {m : Int} (hm : 0 ≤ m) (s : List UInt8 × Int) : ∀ k, ∀ z ∈ (numsR m k s).1, 0 ≤ z ∧ z ≤ m
  | 0, z, hz => by cases hz
  | k + 1, z, hz => by
    rcases List.mem_append.1 hz with hz | hz
    · exact numsR_range hm s k z hz
    · simp at hz
      subst hz
      exact upR_range _ hm
theorem numsR_ok {m : Int} {s : List UInt8 × Int} : ∀ {k : Nat}, (numsR m k s).2.2 = 0 → s.2 = 0 ∧ s.1 = numsB (numsR m k s).1 ++ (numsR m k s).2.1
  | 0, h => ⟨h, by simp [numsR, numsB]⟩
  | k + 1, h => by
    obtain ⟨h1, h2⟩ := upR_ok h
    obtain ⟨h3, h4⟩ := numsR_ok (k := k) h1
    refine ⟨h3, ?_⟩
    show s.1 = numsB ((numsR m k s).1 ++ [(upR (numsR m k s).2 m).1]) ++ (upR (numsR m k s).2 m).2.1
    rw [numsB_snoc, List.append_assoc, ← h2]
    exact h4
theorem numsR_put {m : Int} {l : List Int} (t : List UInt8) (hm : m ≤ 9223372036854775807) (hl : ∀ z ∈ l, 0 ≤ z ∧ z ≤ m) : ∀ k, k ≤ l.length → numsR m k (numsB l ++ t, 0) = (l.take k, (numsB (l.drop k) ++ t, 0))
  | 0, _ => by simp [numsR]
  | k + 1, hk => by
    have hz := hl _ (List.getElem_mem (show k < l.length by omega))
    have e : l.getD k 0 = l[k] := by simp [List.getD, show k < l.length by omega]
    rw [numsR, numsR_put t hm hl k (by omega), numsB_drop l k (by omega), List.append_assoc, upR_put _ (by rw [e]; omega) (by rw [e]; omega) (by rw [e]; omega), List.take_succ_eq_append_getElem (by omega), e]
theorem numsR_le (m : Int) (s : List UInt8 × Int) : ∀ k, (numsR m k s).2.1.length ≤ s.1.length
  | 0 => Nat.le_refl _
  | k + 1 => Nat.le_trans (upR_le _ _) (numsR_le m s k)
/-- The first error is remembered. -/
def failR (s : List UInt8 × Int) (e : Int) : List UInt8 × Int := if s.2 = 0 then (s.1, e) else s

/-! ### In memory -/
end Go.Proofs.YtlnenkmcegadmaaDoor
namespace Go.Proofs.YtlnenkmcegadmaaDoor
open Go.RowKit

/-- A text of at most m bytes is read; s: what is left, and the error. -/
def textR (s : List UInt8 × Int) (m : Int) : List UInt8 × (List UInt8 × Int) := if s.2 = 0 then ((textOf s.1 m).1, ((textOf s.1 m).2.1, (textOf s.1 m).2.2)) else ([], s)
theorem textR_bad {s : List UInt8 × Int} (m : Int) (h : s.2 ≠ 0) : textR s m = ([], s) := by unfold textR; rw [if_neg h]
/-- It is a number, and so many bytes. -/
theorem textR_is (s : List UInt8 × Int) (m : Int) : (upR s m).2.2 = 0 ∧ textR s m = rawOf (upR s m).2.1 (upR s m).1 ∨ (upR s m).2.2 ≠ 0 ∧ textR s m = ([], (upR s m).2) := by
  by_cases h0 : s.2 = 0
  · unfold textR upR
    rw [if_pos h0, if_pos h0]
    dsimp only
    by_cases h1 : (uptoOf s.1 m).2.2 = 0
    · exact .inl ⟨h1, by unfold textOf; rw [if_pos h1]⟩
    · exact .inr ⟨h1, by unfold textOf; rw [if_neg h1]⟩
  · rw [textR_bad m h0, upR_bad m h0]
    exact .inr ⟨h0, rfl⟩
theorem textR_ok {s : List UInt8 × Int} {m : Int} (hm : 0 ≤ m) (h : (textR s m).2.2 = 0) : s.2 = 0 ∧ s.1 = numB ((textR s m).1.length : Nat) ++ ((textR s m).1 ++ (textR s m).2.1) := by
  rcases textR_is s m with ⟨h1, h2⟩ | ⟨h1, h2⟩
  · obtain ⟨h3, h4⟩ := upR_ok h1
    have hr := upR_range s hm
    rw [h2] at h ⊢
    refine ⟨h3, ?_⟩
    unfold rawOf at h ⊢
    by_cases hb : (upR s m).1 < 0 ∨ ((upR s m).2.1.length : Int) < (upR s m).1
    · rw [if_pos hb] at h
      exact absurd h (show ¬ (2 : Int) = 0 by decide)
    · rw [if_neg hb]
      dsimp only
      have hl : (((upR s m).2.1.take (upR s m).1.toNat).length : Int) = (upR s m).1 := by rw [List.length_take]; omega
      rw [hl, List.take_append_drop]
      exact h4
  · rw [h2] at h
    exact absurd h h1
theorem textR_len {s : List UInt8 × Int} {m : Int} (hm : 0 ≤ m) : ((textR s m).1.length : Int) ≤ m := by
  rcases textR_is s m with ⟨_, h2⟩ | ⟨_, h2⟩
  · have hr := upR_range s hm
    rw [h2]
    unfold rawOf
    split
    · exact hm
    · show (((upR s m).2.1.take (upR s m).1.toNat).length : Int) ≤ m
      rw [List.length_take]
      omega
  · rw [h2]
    exact hm
theorem textR_put {q : List UInt8} {m : Int} (t : List UInt8) (h1 : (q.length : Int) ≤ m) (h2 : (q.length : Int) ≤ 9223372036854775807) : textR (numB (q.length : Nat) ++ (q ++ t), 0) m = (q, (t, 0)) := by
  have hu := upR_put (z := (q.length : Nat)) (m := m) (q ++ t) (by omega) h1 h2
  rcases textR_is (numB (q.length : Nat) ++ (q ++ t), 0) m with ⟨_, h4⟩ | ⟨h3, h4⟩
  · rw [h4, hu]
    unfold rawOf
    rw [if_neg (by simp only [List.length_append]; omega)]
    simp
  · rw [hu] at h3
    exact absurd rfl h3
theorem textR_le {s : List UInt8 × Int} {m : Int} : (textR s m).2.1.length ≤ s.1.length := by
  rcases textR_is s m with ⟨_, h2⟩ | ⟨_, h2⟩
  · have h3 := upR_le s m
    rw [h2]
    unfold rawOf
    split
    · exact h3
    · show ((upR s m).2.1.drop _).length ≤ _
      rw [List.length_drop]
      omega
  · rw [h2]
    exact upR_le s m
end Go.Proofs.YtlnenkmcegadmaaDoor
