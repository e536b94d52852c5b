/- Keys, signatures and what a signature leads to, plainly (chapter 4). No program is named. -/
import Derived.Test.YtjmdkgjfcfnbiaaDoorSpec
namespace Go.Proofs.YtjmdkgjfcfnbiaaDoor

def secretOf (seed : List UInt8) (i b : Nat) : List UInt8 := sumOf (partsOf 11 [seed, [UInt8.ofNat i, UInt8.ofNat b]])
def shownOf (s : List UInt8) : List UInt8 := sumOf (partsOf 12 [s])
def pairAt (seed : List UInt8) (i : Nat) : List UInt8 := shownOf (secretOf seed i 0) ++ shownOf (secretOf seed i 1)
def allTo (seed : List UInt8) (n : Nat) : List UInt8 := (List.range n).flatMap (pairAt seed)
def allOf (seed : List UInt8) : List UInt8 := (List.range 64).flatMap (pairAt seed)
def keyOf (seed : List UInt8) : List UInt8 := sumOf (partsOf 13 [allOf seed])
theorem secretOf_len (seed : List UInt8) (i b : Nat) : (secretOf seed i b).length = 32 := sumOf_len _
theorem shownOf_len (s : List UInt8) : (shownOf s).length = 32 := sumOf_len _
theorem keyOf_len (seed : List UInt8) : (keyOf seed).length = 32 := sumOf_len _

def digestOf (text : List UInt8) : List UInt8 := sumOf (partsOf 14 [text])
theorem digestOf_len (text : List UInt8) : (digestOf text).length = 32 := sumOf_len _
/-- A bit of a digest, the highest of each byte first. -/
def bitAt (d : List UInt8) (i : Nat) : Nat := (d.getD (i / 8) 0).toNat / 2 ^ (7 - i % 8) % 2
theorem bitAt_lt (d : List UInt8) (i : Nat) : bitAt d i < 2 := Nat.mod_lt _ (by omega)
def signAt (seed text : List UInt8) (i : Nat) : List UInt8 := secretOf seed i (bitAt (digestOf text) i) ++ shownOf (secretOf seed i (1 - bitAt (digestOf text) i))
def signTo (seed text : List UInt8) (n : Nat) : List UInt8 := (List.range n).flatMap (signAt seed text)
def sigOf (seed text : List UInt8) : List UInt8 := signTo seed text 64
/-- The n-th 32 bytes. -/
def piece (sig : List UInt8) (n : Nat) : List UInt8 := (sig.drop (n * 32)).take 32
theorem piece_len {sig : List UInt8} {n : Nat} (h : n * 32 + 32 ≤ sig.length) : (piece sig n).length = 32 := by
  unfold piece
  rw [List.length_take, List.length_drop]
  omega
def backAt (text sig : List UInt8) (i : Nat) : List UInt8 :=
  if bitAt (digestOf text) i = 0 then shownOf (piece sig (2 * i)) ++ piece sig (2 * i + 1) else piece sig (2 * i + 1) ++ shownOf (piece sig (2 * i))
def backTo (text sig : List UInt8) (n : Nat) : List UInt8 := (List.range n).flatMap (backAt text sig)
def backOf (text sig : List UInt8) : List UInt8 := sumOf (partsOf 13 [backTo text sig 64])
theorem backOf_len (text sig : List UInt8) : (backOf text sig).length = 32 := sumOf_len _
theorem flat_succ {α : Type} (f : Nat → List α) (n : Nat) : (List.range (n + 1)).flatMap f = (List.range n).flatMap f ++ f n := by
  rw [List.range_succ, List.flatMap_append]
  simp
theorem flat_len {α : Type} (f : Nat → List α) (n : Nat) (h : ∀ i, i < n → (f i).length = 64) : ((List.range n).flatMap f).length = n * 64 := by
  induction n with
  | zero => rfl
  | succ n ih =>
    rw [flat_succ, List.length_append, ih (fun i hi => h i (by omega)), h n (by omega)]
    omega
theorem flat_piece {α : Type} (f : Nat → List α) (n : Nat) (h : ∀ i, i < n → (f i).length = 64) (i : Nat) (hi : i < n) : (((List.range n).flatMap f).drop (i * 64)).take 64 = f i := by
  induction n with
  | zero => omega
  | succ n ih =>
    have hl := flat_len f n (fun i hi => h i (by omega))
    rw [flat_succ]
    by_cases e : i = n
    · subst e
      rw [List.drop_append_of_le_length (by omega), List.drop_of_length_le (by omega), List.nil_append, List.take_of_length_le (by rw [h i (by omega)]; omega)]
    · rw [List.drop_append_of_le_length (by omega), List.take_append_of_le_length (by rw [List.length_drop]; omega)]
      exact ih (fun i hi => h i (by omega)) (by omega)
theorem flat_same {α : Type} {f g : Nat → List α} (n : Nat) (h : ∀ i, i < n → f i = g i) : (List.range n).flatMap f = (List.range n).flatMap g := by
  induction n with
  | zero => rfl
  | succ n ih => rw [flat_succ, flat_succ, ih (fun i hi => h i (by omega)), h n (by omega)]
theorem pairAt_len (seed : List UInt8) (i : Nat) : (pairAt seed i).length = 64 := by
  unfold pairAt
  rw [List.length_append, shownOf_len, shownOf_len]
theorem signAt_len (seed text : List UInt8) (i : Nat) : (signAt seed text i).length = 64 := by
  unfold signAt
  rw [List.length_append, shownOf_len, secretOf_len]
theorem backAt_len {text sig : List UInt8} {i : Nat} (h : i * 64 + 64 ≤ sig.length) : (backAt text sig i).length = 64 := by
  have h2 : (piece sig (2 * i + 1)).length = 32 := piece_len (by omega)
  have h1 : (shownOf (piece sig (2 * i))).length = 32 := shownOf_len _
  unfold backAt
  generalize shownOf (piece sig (2 * i)) = s at *
  generalize piece sig (2 * i + 1) = t at *
  split
  · rw [List.length_append, h1, h2]
  · rw [List.length_append, h1, h2]
theorem allTo_succ (seed : List UInt8) (n : Nat) : allTo seed (n + 1) = (allTo seed n ++ shownOf (secretOf seed n 0)) ++ shownOf (secretOf seed n 1) := by
  unfold allTo
  rw [flat_succ, List.append_assoc]
  rfl
theorem allTo_len (seed : List UInt8) (n : Nat) : (allTo seed n).length = n * 64 := flat_len _ n fun i _ => pairAt_len seed i
theorem signTo_succ (seed text : List UInt8) (n : Nat) : signTo seed text (n + 1) = (signTo seed text n ++ secretOf seed n (bitAt (digestOf text) n)) ++ shownOf (secretOf seed n (1 - bitAt (digestOf text) n)) := by
  unfold signTo
  rw [flat_succ, List.append_assoc]
  rfl
theorem signTo_len (seed text : List UInt8) (n : Nat) : (signTo seed text n).length = n * 64 := flat_len _ n fun i _ => signAt_len seed text i
theorem backTo_succ0 (text sig : List UInt8) (n : Nat) (h : bitAt (digestOf text) n = 0) : backTo text sig (n + 1) = (backTo text sig n ++ shownOf (piece sig (2 * n))) ++ piece sig (2 * n + 1) := by
  unfold backTo
  rw [flat_succ, List.append_assoc]
  unfold backAt
  rw [if_pos h]
theorem backTo_succ1 (text sig : List UInt8) (n : Nat) (h : ¬ bitAt (digestOf text) n = 0) : backTo text sig (n + 1) = (backTo text sig n ++ piece sig (2 * n + 1)) ++ shownOf (piece sig (2 * n)) := by
  unfold backTo
  rw [flat_succ, List.append_assoc]
  unfold backAt
  rw [if_neg h]
theorem backTo_len {text sig : List UInt8} {n : Nat} (h : n * 64 ≤ sig.length) : (backTo text sig n).length = n * 64 := flat_len _ n fun i hi => backAt_len (by omega)
/-- What was signed leads to its key. -/
theorem signAt_is (seed text : List UInt8) (i : Nat) : signAt seed text i = secretOf seed i (bitAt (digestOf text) i) ++ shownOf (secretOf seed i (1 - bitAt (digestOf text) i)) := rfl
theorem pairAt_is (seed : List UInt8) (i : Nat) : pairAt seed i = shownOf (secretOf seed i 0) ++ shownOf (secretOf seed i 1) := rfl
theorem piece_even (sig x y : List UInt8) (i : Nat) (hx : x.length = 32) (h : (sig.drop (i * 64)).take 64 = x ++ y) : piece sig (2 * i) = x := by
  have h := congrArg (List.take 32) h
  rw [List.take_take, show min 32 64 = 32 from rfl, List.take_append_of_le_length (by omega), List.take_of_length_le (l := x) (by omega)] at h
  unfold piece
  rw [show 2 * i * 32 = i * 64 by omega]
  exact h
theorem piece_odd (sig x y : List UInt8) (i : Nat) (hx : x.length = 32) (h : (sig.drop (i * 64)).take 64 = x ++ y) : piece sig (2 * i + 1) = y := by
  have h := congrArg (List.drop 32) h
  rw [List.drop_take, List.drop_drop, List.drop_append_of_le_length (by omega), List.drop_of_length_le (l := x) (by omega), List.nil_append] at h
  unfold piece
  rw [show (2 * i + 1) * 32 = i * 64 + 32 by omega]
  exact h
/-- What was signed leads to its key. -/
theorem back_sig (seed text : List UInt8) : backOf text (sigOf seed text) = keyOf seed := by
  have e : backTo text (sigOf seed text) 64 = allOf seed := by
    unfold backTo allOf
    refine flat_same 64 fun i hi => ?_
    have hp := flat_piece (signAt seed text) 64 (fun i _ => signAt_len seed text i) i hi
    have hb := bitAt_lt (digestOf text) i
    rw [signAt_is] at hp
    have e1 := piece_even (sigOf seed text) _ _ i (secretOf_len _ _ _) hp
    have e2 := piece_odd (sigOf seed text) _ _ i (secretOf_len _ _ _) hp
    unfold backAt
    rw [e1, e2, pairAt_is]
    generalize bitAt (digestOf text) i = b at *
    rcases (show b = 0 ∨ b = 1 by omega) with rfl | rfl
    · rw [if_pos rfl]
    · rw [if_neg (by omega)]
  unfold backOf keyOf
  rw [e]
theorem sigOf_len (seed text : List UInt8) : (sigOf seed text).length = 4096 := signTo_len seed text 64
end Go.Proofs.YtjmdkgjfcfnbiaaDoor
