/- Rows of whatever is joined in pairs: the document's rows, the halves, the path of a place and what a path leads to. No program is named. The sums that the example of chapter 3 speaks of. No program is named. A slice of sums (32 bytes each, in a row): what it reads as; how it is cut, made, stored into, joined to; a literal of one or two sums. No function of the program is named. What the small functions of package merkle come to: isPlace, beside, pairs, joined, Leaf; and the document's leaf. What 'joined' comes to: the pair of what stands at a place and what stands beside it. What 'lowest' comes to: the row of all leaves. Laws for operations on sums in a region that draws its order: cuts, comparisons, picks; literals. No function of the program is named. What 'above' comes to: the row above one. What 'Root' comes to: the sum of a list. What 'Check' comes to: whether a path leads to a root. What 'Path' comes to: what stands beside the way to a place. -/
import Derived.Test.YtlnenkmcegadmaaDoorSha
import Derived.Test.YtlnenkmcegadmaaDoorMemory
import Derived.OwnWalk
import Derived.Great.BuildSlice
import Derived.Outline
namespace Go.Proofs.YtlnenkmcegadmaaDoor
section
variable {α : Type} (f : α → α → α)

/-- The row above. -/
def up : List α → List α
  | a :: b :: l => f a b :: up l
  | l => l
theorem up_len : ∀ l : List α, (up f l).length = (l.length + 1) / 2
  | [] => by simp [up]
  | [a] => by simp [up]
  | a :: b :: l => by
    have := up_len l
    simp only [up, List.length_cons, this]; omega
theorem up_append : ∀ l m : List α, l.length % 2 = 0 → up f (l ++ m) = up f l ++ up f m
  | [], m, _ => by simp [up]
  | [a], m, h => by simp at h
  | a :: b :: l, m, h => by
    have := up_append l m (by simp at h; omega)
    simp [up, this]
/-- The k-th row above. -/
def tier : Nat → List α → List α
  | 0, l => l
  | k + 1, l => tier k (up f l)
theorem tier_up : ∀ (k : Nat) (l : List α), tier f (k + 1) l = up f (tier f k l)
  | 0, _ => rfl
  | k + 1, l => tier_up k (up f l)
theorem even_half {n k : Nat} (h : n % 2 ^ (k + 1) = 0) : n % 2 = 0 ∧ ((n + 1) / 2) % 2 ^ k = 0 := by
  obtain ⟨q, rfl⟩ := Nat.dvd_of_mod_eq_zero h
  have e : 2 ^ (k + 1) * q = 2 * (2 ^ k * q) := by rw [Nat.pow_succ, Nat.mul_comm (2 ^ k) 2, Nat.mul_assoc]
  rw [e]
  refine ⟨by omega, ?_⟩
  rw [show (2 * (2 ^ k * q) + 1) / 2 = 2 ^ k * q by omega]
  exact Nat.mul_mod_right _ _
theorem tier_append : ∀ (k : Nat) (l m : List α), l.length % 2 ^ k = 0 → tier f k (l ++ m) = tier f k l ++ tier f k m
  | 0, l, m, _ => rfl
  | k + 1, l, m, h => by
    obtain ⟨h1, h2⟩ := even_half h
    show tier f k (up f (l ++ m)) = tier f k (up f l) ++ tier f k (up f m)
    rw [up_append f l m h1]
    exact tier_append k _ _ (by rw [up_len]; exact h2)
theorem tier_short : ∀ (k : Nat) (l : List α), 0 < l.length → l.length ≤ 2 ^ k → (tier f k l).length = 1
  | 0, l, h0, h1 => by simp at h1; show l.length = 1; omega
  | k + 1, l, h0, h1 => by
    have := Nat.pow_succ 2 k
    exact tier_short k (up f l) (by rw [up_len]; omega) (by rw [up_len]; omega)
theorem tier_one (a : α) : ∀ k : Nat, tier f k [a] = [a]
  | 0 => rfl
  | k + 1 => tier_one a k
theorem tier_add (j : Nat) : ∀ (k : Nat) (l : List α), tier f (k + j) l = tier f j (tier f k l)
  | 0, l => by rw [Nat.zero_add]; rfl
  | k + 1, l => by
    rw [show k + 1 + j = (k + j) + 1 by omega]
    exact tier_add j k (up f l)
theorem tier_stable (l : List α) (h0 : 0 < l.length) (k m : Nat) (h : l.length ≤ 2 ^ k) (hkm : k ≤ m) : tier f m l = tier f k l := by
  obtain ⟨d, rfl⟩ := Nat.exists_eq_add_of_le hkm
  rw [tier_add]
  obtain ⟨x, hx⟩ := List.length_eq_one_iff.1 (tier_short f k l h0 h)
  rw [hx, tier_one]
/-- The only one of the highest row. -/
def top [Inhabited α] (l : List α) : α := (tier f l.length l).headD default
theorem tier_top [Inhabited α] (l : List α) (h0 : 0 < l.length) (k : Nat) (h : l.length ≤ 2 ^ k) : tier f k l = [top f l] := by
  have e : tier f l.length l = tier f k l := by
    rcases Nat.le_total k l.length with hk | hk
    · exact tier_stable f l h0 k _ h hk
    · exact (tier_stable f l h0 l.length k (Nat.le_of_lt Nat.lt_two_pow_self) hk).symm
  obtain ⟨x, hx⟩ := List.length_eq_one_iff.1 (tier_short f k l h0 h)
  unfold top
  rw [e, hx]
  rfl
theorem top_one [Inhabited α] (a : α) : top f [a] = a := rfl
/-- By halves: the left one is the greatest power of two below the length. -/
theorem tier_two [Inhabited α] (l : List α) (k : Nat) (h1 : 2 ^ k < l.length) (h2 : l.length ≤ 2 ^ (k + 1)) : tier f k l = [top f (l.take (2 ^ k)), top f (l.drop (2 ^ k))] := by
  have hp : 0 < 2 ^ k := Nat.two_pow_pos k
  have := Nat.pow_succ 2 k
  have lt : (l.take (2 ^ k)).length = 2 ^ k := by rw [List.length_take]; omega
  have e := tier_append f k (l.take (2 ^ k)) (l.drop (2 ^ k)) (by rw [lt]; exact Nat.mod_self _)
  rw [List.take_append_drop] at e
  rw [e, tier_top f _ (by omega) k (by omega), tier_top f (l.drop (2 ^ k)) (by rw [List.length_drop]; omega) k (by rw [List.length_drop]; omega)]
  rfl
theorem top_two [Inhabited α] (l : List α) (k : Nat) (h1 : 2 ^ k < l.length) (h2 : l.length ≤ 2 ^ (k + 1)) : top f l = f (top f (l.take (2 ^ k))) (top f (l.drop (2 ^ k))) := by
  have e := tier_top f l (by omega) (k + 1) h2
  rw [tier_up, tier_two f l k h1 h2] at e
  simpa [up] using e.symm

/-- The place beside. -/
def beside (i : Nat) : Nat := i + 1 - 2 * (i % 2)
/-- What stands beside the way, k rows up. -/
def way : Nat → Nat → List α → List α
  | 0, _, _ => []
  | k + 1, i, l => l[beside i]?.toList ++ way k (i / 2) (up f l)
theorem way_one (a : α) : ∀ k : Nat, way f k 0 [a] = []
  | 0 => rfl
  | k + 1 => way_one a k
theorem beside_lt {i n : Nat} (hn : n % 2 = 0) (h : i < n) : beside i < n := by unfold beside; omega
theorem beside_add {i n : Nat} (hn : n % 2 = 0) : beside (n + i) = n + beside i := by unfold beside; omega
theorem way_left : ∀ (k i : Nat) (l m : List α), l.length % 2 ^ k = 0 → i < l.length → way f k i (l ++ m) = way f k i l
  | 0, i, l, m, _, _ => rfl
  | k + 1, i, l, m, h, hi => by
    obtain ⟨h1, h2⟩ := even_half h
    show (l ++ m)[beside i]?.toList ++ way f k (i / 2) (up f (l ++ m)) = _
    rw [up_append f l m h1, way_left k (i / 2) (up f l) (up f m) (by rw [up_len]; exact h2) (by rw [up_len]; omega), List.getElem?_append_left (beside_lt h1 hi)]
    rfl
theorem way_right : ∀ (k i : Nat) (l m : List α), l.length % 2 ^ k = 0 → way f k (l.length + i) (l ++ m) = way f k i m
  | 0, i, l, m, _ => rfl
  | k + 1, i, l, m, h => by
    obtain ⟨h1, h2⟩ := even_half h
    show (l ++ m)[beside (l.length + i)]?.toList ++ way f k ((l.length + i) / 2) (up f (l ++ m)) = _
    rw [up_append f l m h1, beside_add h1, List.getElem?_append_right (by omega), show l.length + beside i - l.length = beside i by omega,
      show (l.length + i) / 2 = (up f l).length + i / 2 by rw [up_len]; omega, way_right k (i / 2) (up f l) (up f m) (by rw [up_len]; exact h2)]
    rfl
theorem way_up : ∀ (k i : Nat) (l : List α), way f (k + 1) i l = way f k i l ++ (tier f k l)[beside (i / 2 ^ k)]?.toList
  | 0, i, l => by simp [way, tier]
  | k + 1, i, l => by
    show l[beside i]?.toList ++ way f (k + 1) (i / 2) (up f l) = (l[beside i]?.toList ++ way f k (i / 2) (up f l)) ++ (tier f k (up f l))[beside (i / 2 ^ (k + 1))]?.toList
    rw [way_up k (i / 2) (up f l), List.append_assoc, Nat.div_div_eq_div_mul, Nat.pow_succ, Nat.mul_comm (2 ^ k) 2]
theorem way_stable (l : List α) (i k : Nat) (hi : i < l.length) (h : l.length ≤ 2 ^ k) : ∀ d : Nat, way f (k + d) i l = way f k i l
  | 0 => rfl
  | d + 1 => by
    have hk : 2 ^ k ≤ 2 ^ (k + d) := Nat.pow_le_pow_right (by omega) (by omega)
    obtain ⟨x, hx⟩ := List.length_eq_one_iff.1 (tier_short f (k + d) l (by omega) (by omega))
    rw [show k + (d + 1) = (k + d) + 1 by omega, way_up, hx, Nat.div_eq_of_lt (by omega), way_stable l i k hi h d]
    simp [beside]
/-- The path of a place. -/
def pathOf (i : Nat) (l : List α) : List α := way f l.length i l
theorem way_path (l : List α) (i k : Nat) (hi : i < l.length) (h : l.length ≤ 2 ^ k) : way f k i l = pathOf f i l := by
  unfold pathOf
  rcases Nat.le_total k l.length with hk | hk
  · obtain ⟨d, hd⟩ := Nat.exists_eq_add_of_le hk
    have := way_stable f l i k hi h d
    rw [← hd] at this
    exact this.symm
  · obtain ⟨d, hd⟩ := Nat.exists_eq_add_of_le hk
    have := way_stable f l i l.length hi (Nat.le_of_lt Nat.lt_two_pow_self) d
    rw [← hd] at this
    exact this
theorem path_one (a : α) : pathOf f 0 [a] = [] := rfl
theorem path_left [Inhabited α] (l : List α) (i k : Nat) (h1 : 2 ^ k < l.length) (h2 : l.length ≤ 2 ^ (k + 1)) (hi : i < 2 ^ k) : pathOf f i l = pathOf f i (l.take (2 ^ k)) ++ [top f (l.drop (2 ^ k))] := by
  have lt : (l.take (2 ^ k)).length = 2 ^ k := by rw [List.length_take]; omega
  have e := way_left f k i (l.take (2 ^ k)) (l.drop (2 ^ k)) (by rw [lt]; exact Nat.mod_self _) (by omega)
  rw [List.take_append_drop] at e
  rw [← way_path f l i (k + 1) (by omega) h2, way_up, tier_two f l k h1 h2, e, Nat.div_eq_of_lt hi, way_path f _ i k (by omega) (by omega)]
  rfl
theorem path_right [Inhabited α] (l : List α) (i k : Nat) (h1 : 2 ^ k < l.length) (h2 : l.length ≤ 2 ^ (k + 1)) (hi : 2 ^ k ≤ i) (hn : i < l.length) : pathOf f i l = pathOf f (i - 2 ^ k) (l.drop (2 ^ k)) ++ [top f (l.take (2 ^ k))] := by
  have hp : 0 < 2 ^ k := Nat.two_pow_pos k
  have := Nat.pow_succ 2 k
  have lt : (l.take (2 ^ k)).length = 2 ^ k := by rw [List.length_take]; omega
  have e := way_right f k (i - 2 ^ k) (l.take (2 ^ k)) (l.drop (2 ^ k)) (by rw [lt]; exact Nat.mod_self _)
  rw [List.take_append_drop, lt, show 2 ^ k + (i - 2 ^ k) = i by omega] at e
  have hd : i / 2 ^ k = 1 := by
    rw [show i = 2 ^ k + (i - 2 ^ k) by omega, Nat.add_div_left _ hp, Nat.div_eq_of_lt (by omega)]
  rw [← way_path f l i (k + 1) (by omega) h2, way_up, tier_two f l k h1 h2, e, hd, way_path f _ (i - 2 ^ k) k (by rw [List.length_drop]; omega) (by rw [List.length_drop]; omega)]
  rfl

/-- What a path leads to from a place of so many, at most d rows up: none, where it is too long or too short. -/
def ascend : Nat → α → Nat → Nat → List α → Option α
  | 0, now, _, _, p => if p.isEmpty then some now else none
  | d + 1, now, i, n, p =>
    if n ≤ 1 then (if p.isEmpty then some now else none)
    else if beside i < n then (match p with | [] => none | x :: q => ascend d (if i % 2 = 0 then f now x else f x now) (i / 2) ((n + 1) / 2) q)
    else ascend d now (i / 2) ((n + 1) / 2) p
theorem up_get [Inhabited α] : ∀ (l : List α) (i : Nat), i < l.length → (up f l).getD (i / 2) default =
    if beside i < l.length then (if i % 2 = 0 then f (l.getD i default) (l.getD (beside i) default) else f (l.getD (beside i) default) (l.getD i default)) else l.getD i default
  | [], i, h => by simp at h
  | [a], i, h => by
    have : i = 0 := by simp at h; omega
    subst this
    rfl
  | a :: b :: l, 0, h => by simp [up, beside]
  | a :: b :: l, 1, h => by simp [up, beside]
  | a :: b :: l, i + 2, h => by
    have ih := up_get l i (by simp at h; omega)
    rw [show (i + 2) / 2 = i / 2 + 1 by omega, show beside (i + 2) = beside i + 2 by unfold beside; omega, show (i + 2) % 2 = i % 2 by omega]
    simpa [up, List.getD_cons_succ] using ih
theorem ascend_way [Inhabited α] : ∀ (d : Nat) (l : List α) (i : Nat), i < l.length → l.length ≤ 2 ^ d → ascend f d (l.getD i default) i l.length (way f d i l) = some (top f l)
  | 0, l, i, hi, h => by
    obtain ⟨a, rfl⟩ := List.length_eq_one_iff.1 (show l.length = 1 by simp at h; omega)
    have : i = 0 := by simp at hi; omega
    subst this
    rfl
  | d + 1, l, i, hi, h => by
    have hp := Nat.pow_succ 2 d
    by_cases h1 : l.length ≤ 1
    · obtain ⟨a, rfl⟩ := List.length_eq_one_iff.1 (show l.length = 1 by omega)
      have : i = 0 := by simp at hi; omega
      subst this
      rw [way_one]
      rfl
    · have ih := ascend_way d (up f l) (i / 2) (by rw [up_len]; omega) (by rw [up_len]; omega)
      rw [up_get f l i hi, up_len] at ih
      have ht : top f (up f l) = top f l := by
        have e1 := tier_top f l (by omega) (d + 1) h
        have e2 := tier_top f (up f l) (by rw [up_len]; omega) d (by rw [up_len]; omega)
        have e3 : tier f (d + 1) l = tier f d (up f l) := rfl
        rw [e3, e2] at e1
        simpa using e1
      rw [ht] at ih
      unfold ascend
      rw [if_neg h1]
      by_cases hb : beside i < l.length
      · rw [if_pos hb] at ih ⊢
        have : way f (d + 1) i l = l.getD (beside i) default :: way f d (i / 2) (up f l) := by
          show l[beside i]?.toList ++ _ = _
          rw [List.getElem?_eq_getElem hb]
          simp [List.getD, hb]
        rw [this]
        exact ih
      · rw [if_neg hb] at ih ⊢
        have : way f (d + 1) i l = way f d (i / 2) (up f l) := by
          show l[beside i]?.toList ++ _ = _
          rw [List.getElem?_eq_none (by omega)]
          rfl
        rw [this]
        exact ih
/-- More rows than there are change nothing. -/
theorem ascend_more : ∀ (d e : Nat) (now : α) (i n : Nat) (p : List α), n ≤ 2 ^ d → ascend f (d + e) now i n p = ascend f d now i n p
  | 0, 0, _, _, _, _, _ => rfl
  | 0, e + 1, now, i, n, p, h => by
    rw [show 0 + (e + 1) = e + 1 by omega]
    unfold ascend
    rw [if_pos (by simpa using h)]
  | d + 1, e, now, i, n, p, h => by
    have hp := Nat.pow_succ 2 d
    rw [show d + 1 + e = (d + e) + 1 by omega]
    unfold ascend
    by_cases h1 : n ≤ 1
    · rw [if_pos h1, if_pos h1]
    · rw [if_neg h1, if_neg h1]
      by_cases hb : beside i < n
      · rw [if_pos hb, if_pos hb]
        cases p with
        | nil => rfl
        | cons x q => exact ascend_more d e _ _ _ q (by omega)
      · rw [if_neg hb, if_neg hb]
        exact ascend_more d e _ _ _ p (by omega)
/-- How many stand beside the way from a place of so many. -/
def tally : Nat → Nat → Nat → Nat
  | 0, _, _ => 0
  | d + 1, i, n => if n ≤ 1 then 0 else (if beside i < n then 1 else 0) + tally d (i / 2) ((n + 1) / 2)
/-- A path that leads somewhere is just so long. -/
theorem ascend_len : ∀ (d : Nat) (now : α) (i n : Nat) (p : List α) (r : α), ascend f d now i n p = some r → p.length = tally d i n
  | 0, now, i, n, p, r, h => by
    cases p with
    | nil => rfl
    | cons x q => simp [ascend] at h
  | d + 1, now, i, n, p, r, h => by
    unfold ascend at h
    unfold tally
    by_cases h1 : n ≤ 1
    · rw [if_pos h1] at h ⊢
      cases p with
      | nil => rfl
      | cons x q => simp at h
    · rw [if_neg h1] at h ⊢
      by_cases hb : beside i < n
      · rw [if_pos hb] at h ⊢
        cases p with
        | nil => simp at h
        | cons x q =>
          have := ascend_len d _ _ _ q r h
          rw [List.length_cons, this]; omega
      · rw [if_neg hb] at h ⊢
        have := ascend_len d _ _ _ p r h
        omega
/-- So no path of another length leads anywhere. -/
theorem ascend_other {d : Nat} {now : α} {i n : Nat} {p : List α} {r : α} (h : ascend f d now i n p = some r) (q : List α) (hq : q.length ≠ p.length) (now' : α) : ascend f d now' i n q = none := by
  cases e : ascend f d now' i n q with
  | none => rfl
  | some r' =>
    have h1 := ascend_len f d _ _ _ _ _ h
    have h2 := ascend_len f d _ _ _ _ _ e
    omega
end
end Go.Proofs.YtlnenkmcegadmaaDoor
namespace Go.Proofs.YtlnenkmcegadmaaDoor

/-- The sum of a sum's leaf, and of two sums' pair. -/
def leafSum (s : List UInt8) : List UInt8 := sumOf (partsOf 1 [s])
def pairSum (a b : List UInt8) : List UInt8 := sumOf (partsOf 2 [a, b])
theorem leafSum_len (s : List UInt8) : (leafSum s).length = 32 := sumOf_len _
theorem pairSum_len (a b : List UInt8) : (pairSum a b).length = 32 := sumOf_len _
/-- The root of so many sums. -/
def rootSum (l : List (List UInt8)) : List UInt8 := if l.isEmpty then sumOf (partsOf 3 []) else top pairSum (l.map leafSum)
theorem leafA_ne : leafSum (sumOf [97]) ≠ sumOf [97] := by decide +kernel
theorem pairA_ne : pairSum (leafSum (sumOf [97])) (leafSum (sumOf [97])) ≠ leafSum (sumOf [97]) := by decide +kernel
theorem rootA_ne : rootSum [sumOf [97]] ≠ sumOf [97] := leafA_ne
theorem rootAA_ne : rootSum [sumOf [97], sumOf [97]] ≠ leafSum (sumOf [97]) := pairA_ne
theorem top_len : ∀ (l : List (List UInt8)), l ≠ [] → (∀ s ∈ l, s.length = 32) → (top pairSum l).length = 32 := by
  intro l h0 h
  have hall : ∀ (k : Nat) (l : List (List UInt8)), (∀ s ∈ l, s.length = 32) → ∀ s ∈ tier pairSum k l, s.length = 32 := by
    have hup : ∀ l : List (List UInt8), (∀ s ∈ l, s.length = 32) → ∀ s ∈ up pairSum l, s.length = 32 := by
      intro l
      induction l using up.induct with
      | case1 a b l ih =>
        intro h s hs
        simp only [up, List.mem_cons] at hs
        rcases hs with rfl | hs
        · exact pairSum_len _ _
        · exact ih (fun q hq => h q (by simp [hq])) s hs
      | case2 l hl =>
        intro h s hs
        rw [show up pairSum l = l by cases l with
          | nil => rfl
          | cons a l => cases l with
            | nil => rfl
            | cons b l => exact absurd rfl (hl a b l)] at hs
        exact h s hs
    intro k
    induction k with
    | zero => exact fun l h => h
    | succ k ih => exact fun l h => ih (up pairSum l) (hup l h)
  have hp : 0 < l.length := List.length_pos_iff.2 h0
  have e := tier_top pairSum l hp l.length (Nat.le_of_lt Nat.lt_two_pow_self)
  exact hall l.length l h _ (by rw [e]; exact List.mem_singleton_self _)
end Go.Proofs.YtlnenkmcegadmaaDoor
namespace Go.Proofs.YtlnenkmcegadmaaDoor
open Go.RowKit

/-- A slice of sums that reads as 'ls'. -/
def Sums (w : World) (a : Option Addr) (n c : Nat) (ls : List (List UInt8)) : Prop :=
  ls.length = n ∧ n ≤ c ∧ c ≤ maxLen ∧ (a = none → c = 0) ∧ (∀ s ∈ ls, s.length = 32) ∧
  (0 < n → ∃ b off, a = some ⟨b, off, none⟩ ∧ b < w.heap.size ∧ ∀ j, j < n → w.rangeAt b (off + j * 32) (cellsOf (ls.getD j [])))
theorem Sums.below {w w' : World} {n c : Nat} {a : Option Addr} {ls : List (List UInt8)} (h : Sums w a n c ls) (hb : Below w.heap.size w w') : Sums w' a n c ls := by
  obtain ⟨h1, h2, h3, h4, h6, h5⟩ := h
  refine ⟨h1, h2, h3, h4, h6, fun h0 => ?_⟩
  obtain ⟨b, off, rfl, hlt, hc⟩ := h5 h0
  exact ⟨b, off, rfl, Nat.lt_of_lt_of_le hlt hb.size, fun j hj => rangeAt_below (hc j hj) hlt hb⟩
theorem Sums.but {w w' : World} {p n c : Nat} {a : Option Addr} {ls : List (List UInt8)} (h : Sums w a n c ls) (hb : But w.heap.size p w w') (hp : Off p a n) : Sums w' a n c ls := by
  obtain ⟨h1, h2, h3, h4, h6, h5⟩ := h
  refine ⟨h1, h2, h3, h4, h6, fun h0 => ?_⟩
  obtain ⟨b, off, rfl, hlt, hc⟩ := h5 h0
  exact ⟨b, off, rfl, Nat.lt_of_lt_of_le hlt hb.size, fun j hj => rangeAt_but (hc j hj) hlt (hp h0 b off rfl) hb⟩
theorem Sums.off {w : World} {p n c : Nat} {a : Option Addr} {ls : List (List UInt8)} (h : Sums w a n c ls) (hp : w.heap.size ≤ p) : Off p a n := by
  intro h0 b off e
  obtain ⟨b', off', e', hlt, _⟩ := h.2.2.2.2.2 h0
  rw [e] at e'
  cases e'
  omega
theorem Sums.nil (w : World) : Sums w none 0 0 [] := ⟨rfl, Nat.le_refl _, Nat.zero_le _, fun _ => rfl, (fun _ h => by cases h), fun h => by omega⟩
theorem Sums.len {w : World} {n c : Nat} {a : Option Addr} {ls : List (List UInt8)} (h : Sums w a n c ls) : ls.length = n := h.1
theorem Sums.each {w : World} {n c j : Nat} {a : Option Addr} {ls : List (List UInt8)} (h : Sums w a n c ls) (hj : j < n) : (ls.getD j []).length = 32 := by
  have hj' : j < ls.length := by rw [h.1]; exact hj
  rw [List.getD_eq_getElem?_getD, List.getElem?_eq_getElem hj']
  exact h.2.2.2.2.1 _ (List.getElem_mem hj')
theorem Sums.drop {w : World} {n c k : Nat} {a a' : Option Addr} {ls : List (List UInt8)} (h : Sums w a n c ls) (hk : k ≤ n) (ha : a' = none → c = k) (ha' : k < n → ∀ b off, a = some ⟨b, off, none⟩ → a' = some ⟨b, off + k * 32, none⟩) : Sums w a' (n - k) (c - k) (ls.drop k) := by
  obtain ⟨h1, h2, h3, h4, h6, h5⟩ := h
  refine ⟨by simp [h1], by omega, by omega, (fun e => by have := ha e; omega), fun s hs => h6 s (List.mem_of_mem_drop hs), fun h0 => ?_⟩
  obtain ⟨b, off, rfl, hlt, hc⟩ := h5 (by omega)
  refine ⟨b, off + k * 32, ha' (by omega) b off rfl, hlt, fun j hj => ?_⟩
  have := hc (k + j) (by omega)
  rw [show off + k * 32 + j * 32 = off + (k + j) * 32 by rw [Nat.add_mul]; omega]
  have e : (ls.drop k).getD j [] = ls.getD (k + j) [] := by simp [List.getD]
  rw [e]
  exact this
theorem Sums.take {w : World} {n c k : Nat} {a : Option Addr} {ls : List (List UInt8)} (h : Sums w a n c ls) (hk : k ≤ n) : Sums w a k c (ls.take k) := by
  obtain ⟨h1, h2, h3, h4, h6, h5⟩ := h
  refine ⟨by simp [h1]; omega, by omega, h3, h4, fun s hs => h6 s (List.mem_of_mem_take hs), fun h0 => ?_⟩
  obtain ⟨b, off, rfl, hlt, hc⟩ := h5 (by omega)
  refine ⟨b, off, rfl, hlt, fun j hj => ?_⟩
  have e : (ls.take k).getD j [] = ls.getD j [] := by simp [List.getD, hj]
  rw [e]
  exact hc j (by omega)

/-- The cut 's[A:]'. -/
theorem run_cut_from {a : Option Addr} {n c A : Nat} (hA : A ≤ n) (W : World) : (Instr.sliceAt 36 (.slice a n c) (some (.int .i64 (A : Int))) none none).run Tryd.prog W = .ok (.slice (if c = A then a else a.map (·.add (A * 32))) (n - A) (c - A)) W := by
  have hu : Tryd.prog.underlying 36 = some (.slice (Tryd.prog.elem 36)) := by kernel_rfl
  have hs : (sizeOf (Tryd.prog.elem 36)).run Tryd.prog W = .ok 32 W := by kernel_rfl
  rw [run_sliceAt_slice W _ _ _ _ _ hu, run_slice_l W _ a n c hu .i64 (A : Int) (by omega) (by omega), hs]
  simp [Result.andThen, sliced]
theorem Sums.from {w : World} {a : Option Addr} {n c A : Nat} {ls : List (List UInt8)} (h : Sums w a n c ls) (hA : A ≤ n) : Sums w (if c = A then a else a.map (·.add (A * 32))) (n - A) (c - A) (ls.drop A) := by
  have hnc := h.2.1
  refine h.drop hA (fun e => ?_) (fun hlt b off e => ?_)
  · split at e
    · assumption
    · have : a = none := by cases a with
        | none => rfl
        | some x => cases e
      have := h.2.2.2.1 this
      omega
  · rw [if_neg (by omega), e]
    simp [Addr.add]
/-- The cut 's[:A]'. -/
theorem run_cut_to {a : Option Addr} {n c A : Nat} (hA : A ≤ c) (W : World) : (Instr.sliceAt 36 (.slice a n c) none (some (.int .i64 (A : Int))) none).run Tryd.prog W = .ok (.slice a A c) W := by
  have hu : Tryd.prog.underlying 36 = some (.slice (Tryd.prog.elem 36)) := by kernel_rfl
  have hs : (sizeOf (Tryd.prog.elem 36)).run Tryd.prog W = .ok 32 W := by kernel_rfl
  rw [run_sliceAt_slice W _ _ _ _ _ hu, run_slice_h W _ a n c hu .i64 (A : Int) (by omega) (by omega), hs]
  simp [Result.andThen, sliced]
  intro _
  cases a with
  | none => rfl
  | some x => obtain ⟨b, o, sp⟩ := x; cases sp <;> simp [Addr.add]

/-! ### Rows of the call's own -/
def seqCells (ls : List (List UInt8)) : List Value := ls.flatMap cellsOf
theorem seqCells_append (l m : List (List UInt8)) : seqCells (l ++ m) = seqCells l ++ seqCells m := by simp [seqCells]
theorem seqCells_len : ∀ {ls : List (List UInt8)}, (∀ s ∈ ls, s.length = 32) → (seqCells ls).length = ls.length * 32
  | [], _ => rfl
  | s :: ls, h => by
    have ih := seqCells_len (ls := ls) (fun t ht => h t (by simp [ht]))
    have hs := h s (by simp)
    show (cellsOf s ++ seqCells ls).length = _
    rw [List.length_append, ih, cellsOf_len, hs, List.length_cons, Nat.add_mul]
    omega
theorem seqCells_get : ∀ {ls : List (List UInt8)}, (∀ s ∈ ls, s.length = 32) → ∀ {j i : Nat}, i < 32 → (seqCells ls)[j * 32 + i]? = (cellsOf (ls.getD j []))[i]?
  | [], _, j, i, hi => by simp [seqCells, cellsOf]
  | s :: ls, h, 0, i, hi => by
    have hs := h s (by simp)
    show (cellsOf s ++ seqCells ls)[0 * 32 + i]? = (cellsOf s)[i]?
    rw [Nat.zero_mul, Nat.zero_add, List.getElem?_append_left (by rw [cellsOf_len, hs]; exact hi)]
  | s :: ls, h, j + 1, i, hi => by
    have ih := seqCells_get (ls := ls) (fun t ht => h t (by simp [ht])) (j := j) hi
    have hs := h s (by simp)
    show (cellsOf s ++ seqCells ls)[(j + 1) * 32 + i]? = (cellsOf (ls.getD j []))[i]?
    rw [List.getElem?_append_right (by rw [cellsOf_len, hs]; omega), cellsOf_len, hs, ← ih]
    congr 1
    omega
theorem seqCells_one {ls : List (List UInt8)} : ∀ v ∈ seqCells ls, v.oneCell' = true := by
  intro v hv
  obtain ⟨s, _, hs⟩ := List.mem_flatMap.1 hv
  exact cellsOf_one s v hs
theorem seqCells_single (s : List UInt8) : seqCells [s] = cellsOf s := by simp [seqCells]
/-- A slice of sums of the call's own. -/
def OwnS (w : World) (B : Nat) (v : Value) (ls : List (List UInt8)) : Prop := w.ownsRow B 23 32 v ls.length (seqCells ls) ∧ ∀ s ∈ ls, s.length = 32
theorem OwnS.shape {w : World} {B : Nat} {v : Value} {ls : List (List UInt8)} (h : OwnS w B v ls) : ∃ a c, v = .slice a ls.length c ∧ (∀ x, a = some x → B ≤ x.block) := by
  rcases h.1.2 with ⟨rfl, h0⟩ | ⟨g, cap, cur, rfl, hB, _⟩
  · exact ⟨none, 0, by rw [h0], fun x e => by cases e⟩
  · exact ⟨_, _, rfl, fun x e => by cases e; exact hB⟩
theorem OwnS.sums {w : World} {B : Nat} {a : Option Addr} {n c : Nat} {ls : List (List UInt8)} (h : OwnS w B (.slice a n c) ls) : Sums w a n c ls := by
  rcases h.1.2 with ⟨hv, h0⟩ | ⟨g, cap, cur, hv, hB, hh, h1, h2, h3, h4⟩
  · cases hv
    obtain rfl : ls = [] := List.eq_nil_of_length_eq_zero h0
    exact Sums.nil w
  · cases hv
    refine ⟨rfl, h1, h2, (fun e => by cases e), h.2, fun _ => ⟨g, 0, rfl, lt_of_block hh, fun j hj i v hv => ?_⟩⟩
    have hi : i < 32 := by
      have h5 := (List.getElem?_eq_some_iff.1 hv).1
      rw [cellsOf_len] at h5
      have h6 : (ls.getD j []).length = 32 := by
        rw [List.getD_eq_getElem?_getD, List.getElem?_eq_getElem hj]
        exact h.2 _ (List.getElem_mem hj)
      omega
    rw [Nat.zero_add, cell_of_row w g _ _ _ _ hh, ← hv, ← seqCells_get h.2 hi, ← h4, List.getElem?_take, if_pos (by omega)]
    simp
theorem OwnS.below {w w' : World} {B : Nat} {v : Value} {ls : List (List UInt8)} (h : OwnS w B v ls) (hb : Below w.heap.size w w') : OwnS w' B v ls :=
  ⟨World.ownsRow.kept h.1 (row := none) ⟨hb.os, hb.tape, hb.output, hb.size, fun k hk _ => hb.block k hk⟩ (by cases h' : v.ownBlock <;> simp), h.2⟩
theorem OwnS.lt {w : World} {B : Nat} {v : Value} {ls : List (List UInt8)} (h : OwnS w B v ls) : ∀ k, v.ownBlock = some k → B ≤ k ∧ k < w.heap.size := fun k e => World.ownsRow.lt h.1 k e
theorem OwnS.nil (w : World) (B : Nat) : OwnS w B (.slice none 0 0) [] := ⟨World.ownsRow_nil w B _ _, fun _ h => by cases h⟩
theorem OwnS.base {w : World} {B B' : Nat} {v : Value} {ls : List (List UInt8)} (h : OwnS w B v ls) (hB : B' ≤ B) : OwnS w B' v ls := by
  refine ⟨⟨h.1.1, ?_⟩, h.2⟩
  rcases h.1.2 with h0 | ⟨g, cap, cur, hv, hb, r⟩
  · exact .inl h0
  · exact .inr ⟨g, cap, cur, hv, by omega, r⟩

/-- What a store of a sum leaves. -/
theorem setCells_own {e : TypeId} {sz B g n c : Nat} : ∀ (vs : List Value) (o : Nat) (w : World) (xs : List Value), w.ownsRow B e sz (.slice (some ⟨g, 0, none⟩) n c) n xs →
    ∃ ys, (w.setCells g o vs).ownsRow B e sz (.slice (some ⟨g, 0, none⟩) n c) n ys ∧ ys.length = xs.length ∧ But w.heap.size g w (w.setCells g o vs) ∧ ∀ i, ys[i]? = if o ≤ i ∧ i < o + vs.length ∧ i < xs.length then vs[i - o]? else xs[i]?
  | [], o, w, xs, h => ⟨xs, h, rfl, But.refl _ _ _, fun i => by rw [if_neg (by simp; omega)]⟩
  | v :: vs, o, w, xs, h => by
    obtain ⟨ys, h1, h2, h3, h4⟩ := setCells_own vs (o + 1) (w.setCell ⟨g, o, none⟩ v) (xs.set o v) (h.stored o v).1
    refine ⟨ys, h1, by simpa using h2, ?_, fun i => ?_⟩
    · have b1 : But w.heap.size g w (w.setCell ⟨g, o, none⟩ v) := (But.refl w.heap.size g w).setCell ⟨g, o, none⟩ (.inl rfl) v
      exact b1.trans (h3.mono (by simp))
    · rw [h4 i, List.length_set, List.length_cons]
      by_cases c1 : o + 1 ≤ i ∧ i < o + 1 + vs.length ∧ i < xs.length
      · rw [if_pos c1, if_pos (by omega), show i - o = (i - (o + 1)) + 1 by omega]
        rfl
      · rw [if_neg c1]
        by_cases c2 : i = o
        · subst c2
          by_cases c3 : i < xs.length
          · rw [if_pos (by omega), List.getElem?_set_self (by omega)]
            simp
          · rw [if_neg (by omega), List.getElem?_eq_none (by simp; omega), List.getElem?_eq_none (by omega)]
        · rw [List.getElem?_set_ne (by omega)]
          by_cases c3 : o ≤ i ∧ i < o + (vs.length + 1) ∧ i < xs.length
          · omega
          · rw [if_neg c3]
theorem seqCells_set {ls : List (List UInt8)} (h : ∀ s ∈ ls, s.length = 32) {j : Nat} (hj : j < ls.length) {s : List UInt8} (hs : s.length = 32) (i : Nat) :
    (seqCells (ls.set j s))[i]? = if j * 32 ≤ i ∧ i < j * 32 + 32 ∧ i < ls.length * 32 then (cellsOf s)[i - j * 32]? else (seqCells ls)[i]? := by
  have h' : ∀ t ∈ ls.set j s, t.length = 32 := fun t ht => by
    rcases List.mem_or_eq_of_mem_set ht with ht | rfl
    · exact h t ht
    · exact hs
  have e : i = i / 32 * 32 + i % 32 := by omega
  have e1 := seqCells_get h' (j := i / 32) (i := i % 32) (by omega)
  have e2 := seqCells_get h (j := i / 32) (i := i % 32) (by omega)
  rw [← e] at e1 e2
  rw [e1]
  by_cases c : j * 32 ≤ i ∧ i < j * 32 + 32 ∧ i < ls.length * 32
  · have c1 : i / 32 = j := by omega
    have c2 : i - j * 32 = i % 32 := by omega
    rw [if_pos c, c1, c2]
    simp [List.getD, hj]
  · have c1 : i / 32 ≠ j := by
      intro c1
      apply c
      refine ⟨by omega, by omega, ?_⟩
      have := Nat.mul_le_mul_right 32 (show j + 1 ≤ ls.length by omega)
      omega
    rw [if_neg c, e2]
    simp [List.getD, Ne.symm c1]
theorem OwnS.store {w : World} {B g n c j : Nat} {ls : List (List UInt8)} {s : List UInt8} (h : OwnS w B (.slice (some ⟨g, 0, none⟩) n c) ls) (hj : j < n) (hs : s.length = 32) :
    OwnS (w.setCells g (j * 32) (cellsOf s)) B (.slice (some ⟨g, 0, none⟩) n c) (ls.set j s) ∧ But w.heap.size g w (w.setCells g (j * 32) (cellsOf s)) := by
  obtain ⟨a, c', e, _⟩ := h.shape
  have hn : ls.length = n := by cases e; rfl
  have h1 := h.1
  rw [hn] at h1
  obtain ⟨ys, r1, r2, r3, r4⟩ := setCells_own (cellsOf s) (j * 32) w _ h1
  have e : ys = seqCells (ls.set j s) := by
    apply List.ext_getElem?
    intro i
    rw [r4 i, seqCells_set h.2 (by omega) hs i, cellsOf_len, hs, seqCells_len h.2]
  rw [e] at r1
  refine ⟨⟨by rw [List.length_set, hn]; exact r1, fun t ht => ?_⟩, r3⟩
  rcases List.mem_or_eq_of_mem_set ht with ht | rfl
  · exact h.2 t ht
  · exact hs
theorem OwnS.there {w : World} {B g n c j : Nat} {ls : List (List UInt8)} (h : OwnS w B (.slice (some ⟨g, 0, none⟩) n c) ls) (hj : j < n) : w.there g (j * 32) 32 := by
  obtain ⟨a, c', e, _⟩ := h.shape
  have hn : ls.length = n := by cases e; rfl
  have h1 := h.1
  rw [hn] at h1
  intro i hi
  refine ⟨?_, h1.frozenAt _⟩
  have := Nat.mul_le_mul_right 32 (show j + 1 ≤ n by omega)
  rw [h1.cellAt _ (by omega), List.getElem?_eq_getElem (by rw [seqCells_len h.2, hn]; omega)]
  rfl

/-- What 'make([]api.Sum, n)' holds. -/
theorem made_cells (n : Nat) : (madeCells (cellsOf zero32).toArray (n * 32)).toList = seqCells (List.replicate n zero32) := by
  apply List.ext_getElem?
  intro i
  have hall : ∀ s ∈ List.replicate n zero32, s.length = 32 := fun s hs => by rw [(List.mem_replicate.1 hs).2]; rfl
  by_cases hi : i < n * 32
  · have e : i = i / 32 * 32 + i % 32 := by omega
    have e1 := seqCells_get hall (j := i / 32) (i := i % 32) (by omega)
    rw [← e] at e1
    rw [e1]
    have hd : i / 32 < n := by omega
    have hz : (cellsOf zero32).length = 32 := rfl
    have e2 : (List.replicate n zero32).getD (i / 32) [] = zero32 := by simp [List.getD, hd]
    rw [e2, madeCells, Array.toList_map, Array.toList_range, List.getElem?_map, List.getElem?_range hi]
    simp only [Option.map_some, List.size_toArray, hz]
    rw [List.getElem?_eq_getElem (by rw [hz]; omega)]
    rw [getElem!_pos _ _ (by simp [hz]; omega)]
    simp
  · rw [List.getElem?_eq_none (by simp [madeCells]; omega), List.getElem?_eq_none (by rw [seqCells_len hall, List.length_replicate]; omega)]
theorem sum_zero : (Tryd.prog.info? 23).map (fun i => (i.zero, i.size, i.bytes)) = some (some (.agg (cellsOf zero32).toArray), 32, 32) := by kernel_rfl
theorem made_own {w : World} {B : Nat} {n : Nat} {v : Value} (h : w.ownsRow B 23 32 v n (madeCells (Value.cells (.agg (cellsOf zero32).toArray)) (n * 32)).toList) : OwnS w B v (List.replicate n zero32) := by
  have hall : ∀ s ∈ List.replicate n zero32, s.length = 32 := fun s hs => by rw [(List.mem_replicate.1 hs).2]; rfl
  refine ⟨?_, hall⟩
  rw [List.length_replicate, ← made_cells]
  exact h

/-- A literal of so many sums. -/
theorem fill_sums (ls : List (List UInt8)) (h : ∀ s ∈ ls, s.length = 32) (init : Array Value) (hi : init.size = ls.length * 32) :
    Instr.fill (fun i => some (i * 32, 32)) init (((ls.map fun s => Value.agg (cellsOf s).toArray).zipIdx 0).map fun x => (x.2, x.1)) = some (seqCells ls).toArray := by
  obtain ⟨r, h1, h2, h3⟩ := Great.fill_dense (s := 32) (by omega) (ls.map fun s => Value.agg (cellsOf s).toArray) 0 init (fun v hv => by
    obtain ⟨s, hs, rfl⟩ := List.mem_map.1 hv
    show (cellsOf s).toArray.size = 32
    rw [List.size_toArray, cellsOf_len]
    exact h s hs) (by rw [List.length_map, hi]; omega)
  rw [h1]
  congr 1
  apply Array.ext_getElem?
  intro k
  rw [h3 k, List.length_map, show (seqCells ls).toArray[k]? = (seqCells ls)[k]? by simp]
  by_cases hk : k < ls.length * 32
  · rw [if_pos (by omega)]
    have e : k = k / 32 * 32 + k % 32 := by omega
    have e1 := seqCells_get h (j := k / 32) (i := k % 32) (by omega)
    rw [← e] at e1
    rw [e1]
    have hd : k / 32 < ls.length := by omega
    simp [List.getD, hd, Value.cells]
  · rw [if_neg (by omega), Array.getElem?_eq_none (by omega), List.getElem?_eq_none (by rw [seqCells_len h]; omega)]
theorem run_build1 (w : World) (s : List UInt8) (hs : s.length = 32) : (Instr.buildSlice 36 1 #[(0, .agg (cellsOf s).toArray)]).run Tryd.prog w = .ok (.slice (some ⟨w.heap.size, 0, none⟩) 1 1) (w.alloc (.cells (cellsOf s).toArray 23)) := by
  obtain ⟨ie, h1, h2, h3, _⟩ := info_parts sum_zero
  have hf := fill_sums [s] (by simp [hs]) ((Array.range (1 * 32)).map ((Value.cells (.agg (cellsOf zero32).toArray))[· % (Value.cells (.agg (cellsOf zero32).toArray)).size]!)) (by simp)
  rw [seqCells_single] at hf
  exact run_buildSlice w 36 23 1 _ _ ie _ Tryd.underlying36 h1 h2 (by rw [h3]; omega) (by rw [h3]; omega) (by rw [h3]; exact hf)
theorem run_build2 (w : World) (s t : List UInt8) (hs : s.length = 32) (ht : t.length = 32) : (Instr.buildSlice 36 2 #[(0, .agg (cellsOf s).toArray), (1, .agg (cellsOf t).toArray)]).run Tryd.prog w = .ok (.slice (some ⟨w.heap.size, 0, none⟩) 2 2) (w.alloc (.cells (seqCells [s, t]).toArray 23)) := by
  obtain ⟨ie, h1, h2, h3, _⟩ := info_parts sum_zero
  have hf := fill_sums [s, t] (by simp [hs, ht]) ((Array.range (2 * 32)).map ((Value.cells (.agg (cellsOf zero32).toArray))[· % (Value.cells (.agg (cellsOf zero32).toArray)).size]!)) (by simp)
  exact run_buildSlice w 36 23 2 _ _ ie _ Tryd.underlying36 h1 h2 (by rw [h3]; omega) (by rw [h3]; omega) (by rw [h3]; exact hf)
theorem own_lit {w : World} {B : Nat} (ls : List (List UInt8)) (h : ∀ s ∈ ls, s.length = 32) (hB : B ≤ w.heap.size) (n : Nat) (hn : ls.length = n) (h1 : n ≤ 1000) : OwnS (w.alloc (.cells (seqCells ls).toArray 23)) B (.slice (some ⟨w.heap.size, 0, none⟩) n n) ls := by
  subst hn
  exact ⟨World.ownsRow_lit w _ _ hB (by unfold maxLen; omega) (by rw [List.size_toArray, seqCells_len h]), h⟩
/-- A join of two slices of sums, the first of the call's own. -/
theorem append_sums (w : World) (B : Nat) (v : Value) (ls : List (List UInt8)) (h : OwnS w B v ls) (a : Option Addr) (m c : Nat) (q : List (List UInt8)) (hq : Sums w a m c q) (hb : ls.length + m ≤ 1000000) (hbase : B ≤ w.heap.size) :
    ∃ a' c' w', (Builtin.append_ #[36, 36] 36 #[v, .slice a m c]).run Tryd.prog w = .ok (.slice a' (ls.length + m) c') w' ∧ OwnS w' B (.slice a' (ls.length + m) c') (ls ++ q) ∧ w.grownBy w' v.ownBlock := by
  obtain ⟨ie, i1, i2, i3, i4⟩ := info_parts sum_zero
  have hql := hq.1
  have hall : ∀ s ∈ ls ++ q, s.length = 32 := fun s hs => by
    rcases List.mem_append.1 hs with hs | hs
    · exact h.2 s hs
    · exact hq.2.2.2.2.1 s hs
  have key : ∃ v' w', (Builtin.append_ #[36, 36] 36 #[v, .slice a m c]).run Tryd.prog w = .ok v' w' ∧ OwnS w' B v' (ls ++ q) ∧ w.grownBy w' v.ownBlock := by
    cases a with
    | some ad =>
      obtain ⟨v', w', h1, h2, h3, _⟩ := run_append_own (P := Tryd.prog) w B 36 36 23 ie _ 32 32 Tryd.underlying36 i1 i2 i3 i4 rfl (by decide) v ls.length (seqCells ls) h.1 ad m c (seqCells q) (by rw [seqCells_len hq.2.2.2.2.1, hql])
        (fun j u hj => by
          have hjm : j < m * 32 := by
            have := (List.getElem?_eq_some_iff.1 hj).1
            rw [seqCells_len hq.2.2.2.2.1, hql] at this
            exact this
          obtain ⟨b, off, he, _, hc⟩ := hq.2.2.2.2.2 (by omega)
          cases he
          have e1 : (⟨b, off, none⟩ : Addr).add j = ⟨b, off + j, none⟩ := by simp [Addr.add]
          have ej : j = j / 32 * 32 + j % 32 := by omega
          have e2 := seqCells_get hq.2.2.2.2.1 (j := j / 32) (i := j % 32) (by omega)
          rw [← ej] at e2
          rw [e2] at hj
          have := hc (j / 32) (by omega) (j % 32) u hj
          rw [e1, show off + j = off + j / 32 * 32 + j % 32 by omega]
          exact this)
        seqCells_one (by unfold maxLen; omega) (by omega) hbase
      exact ⟨v', w', h1, ⟨by rw [List.length_append, hql, seqCells_append]; exact h2, hall⟩, h3⟩
    | none =>
      have hc0 := hq.2.2.2.1 rfl
      have hm0 : m = 0 := by have := hq.2.1; omega
      subst hm0
      subst hc0
      obtain rfl : q = [] := List.eq_nil_of_length_eq_zero hql
      exact ⟨v, w, run_append_owned_none (P := Tryd.prog) w B 36 36 23 ie 32 Tryd.underlying36 i1 v ls.length (seqCells ls) h.1, by rw [List.append_nil]; exact h, World.grownBy.refl _ _⟩
  obtain ⟨v', w', h1, h2, h3⟩ := key
  obtain ⟨a', c', rfl, _⟩ := h2.shape
  have e : (ls ++ q).length = ls.length + m := by rw [List.length_append, hql]
  rw [e] at h1 h2
  exact ⟨a', c', w', h1, h2, h3⟩
theorem grown_but {w w' : World} {B : Nat} {a : Option Addr} {n c : Nat} {ls : List (List UInt8)} (h : OwnS w B (.slice a n c) ls) (hg : w.grownBy w' (Value.ownBlock (.slice a n c))) (hB : B ≤ w.heap.size) : Below B w w' :=
  ⟨hg.os, hg.tape, hg.output, hg.size, fun k hk => hg.block k (by omega) (fun e => by have := (h.lt k e.symm).1; omega)⟩
end Go.Proofs.YtlnenkmcegadmaaDoor
namespace Go.Proofs.YtlnenkmcegadmaaDoor
open Go.RowKit

theorem xor_one (n : Nat) : n ^^^ 1 = beside n := by
  have h1 : (n ^^^ 1) / 2 = n / 2 := by
    have := Nat.xor_div_two (a := n) (b := 1)
    simpa using this
  have h2 : (n ^^^ 1) % 2 = (n + 1) % 2 := by
    have := Nat.xor_mod_two_pow (a := n) (b := 1) (n := 1)
    rw [Nat.pow_one] at this
    rw [this]
    rcases Nat.mod_two_eq_zero_or_one n with h | h <;> rw [h] <;> simp <;> omega
  unfold beside
  omega
theorem bits_beside (n : Nat) (h : n < 4611686018427387904) : bits .xor .i64 (n : Int) 1 = ((beside n : Nat) : Int) := by
  have hb : beside n < 4611686018427387906 := by unfold beside; omega
  have e0 : (BitVec.ofInt 64 (n : Int) ^^^ BitVec.ofInt 64 1).toNat = beside n := by
    rw [BitVec.toNat_xor, show BitVec.ofInt 64 (n : Int) = BitVec.ofNat 64 n from BitVec.ofInt_natCast .., BitVec.toNat_ofNat, Nat.mod_eq_of_lt (by omega), ← xor_one]
    rfl
  show IntKind.i64.wrap ((BitVec.ofInt 64 (n : Int) ^^^ BitVec.ofInt 64 1).toNat : Int) = _
  rw [e0, IntKind.wrap_i64]
  omega
theorem beside_any (n : Nat) (h : n < 4611686018427387904) (w : World) : Calls Tryd.prog 32 #[.int .i64 (n : Int)] w fun e w' => e = .returned (.int .i64 ((beside n : Nat) : Int)) ∧ w = w' := by
  have e0 := bits_beside n h
  clear h
  go_enter Tryd.func32, Tryd.ntmps32
  go_wp2
  go_ret
  exact ⟨rfl, rfl⟩
theorem pairs_any (n : Nat) (h : n < 4611686018427387904) (w : World) : Calls Tryd.prog 34 #[.int .i64 (n : Int)] w fun e w' => e = .returned (.int .i64 (((n + 1) / 2 : Nat) : Int)) ∧ w = w' := by
  have h0 : (0 : Int) ≤ (n : Int) := by omega
  have h1 : (n : Int) < 4611686018427387904 := by omega
  have e1 : (n : Int) - (n : Int) / 2 = (((n + 1) / 2 : Nat) : Int) := by omega
  have E1 := Lib.hid e1
  clear e1 h
  go_enter Tryd.func34, Tryd.ntmps34
  go_wp2
  go_ret
  exact ⟨by rw [E1.out]; rfl, rfl⟩
theorem isPlace_yes (i n : Nat) (h : i < n) (w : World) : Calls Tryd.prog 31 #[.int .i64 (i : Int), .int .i64 (n : Int)] w fun e w' => e = .returned (.bool true) ∧ w = w' := by
  have h0 : (0 : Int) ≤ (i : Int) := by omega
  have h1 : (i : Int) < (n : Int) := by omega
  go_enter Tryd.func31, Tryd.ntmps31
  go_wp2
  go_ret
  exact ⟨rfl, rfl⟩
theorem isPlace_no (i n : Int) (h : i < 0 ∨ n ≤ i) (w : World) : Calls Tryd.prog 31 #[.int .i64 i, .int .i64 n] w fun e w' => e = .returned (.bool false) ∧ w = w' := by
  by_cases h0 : i < 0
  · clear h
    go_enter Tryd.func31, Tryd.ntmps31
    go_wp2
    go_ret
    exact ⟨rfl, rfl⟩
  · have h1 : 0 ≤ i := by omega
    have h2 : ¬ (i < n) := by omega
    clear h h0
    go_enter Tryd.func31, Tryd.ntmps31
    go_wp2
    go_ret
    exact ⟨rfl, rfl⟩

set_option maxRecDepth 100000 in
set_option maxHeartbeats 1600000 in
theorem leaf_of {w : World} {s : List UInt8} (hs : s.length = 32) (hk : KsAt w) : Calls Tryd.prog 33 #[.agg (cellsOf s).toArray] w fun e w' => e = .returned (.agg (cellsOf (leafSum s)).toArray) ∧ Below w.heap.size w w' := by
  have HK := Lib.hid hk
  have HS := Lib.hid hs
  clear hk hs
  go_enter Tryd.func33, Tryd.ntmps33
  go_wp2_with fail
  rw [← zero32_is]
  have b1 : Below w.heap.size w ((w.alloc (.cells (cellsOf s).toArray 23)).alloc (.cells (cellsOf zero32).toArray 23)) := ((Below.refl _ _).alloc (Nat.le_refl _) _).alloc (by simp) _
  have h1 : ((w.alloc (.cells (cellsOf s).toArray 23)).alloc (.cells (cellsOf zero32).toArray 23)).heap[w.heap.size]? = some (.cells (cellsOf s).toArray 23 (0, 0)) := by
    rw [heap_alloc_old _ _ (by simp), heap_alloc_new]
  have h2 : ((w.alloc (.cells (cellsOf s).toArray 23)).alloc (.cells (cellsOf zero32).toArray 23)).heap[w.heap.size + 1]? = some (.cells (cellsOf zero32).toArray 23 (0, 0)) := heap_alloc_at _ _ _ (by simp)
  have h3 : ((w.alloc (.cells (cellsOf s).toArray 23)).alloc (.cells (cellsOf zero32).toArray 23)).heap.size = w.heap.size + 1 + 1 := by simp
  revert b1 h1 h2 h3
  generalize ((w.alloc (.cells (cellsOf s).toArray 23)).alloc (.cells (cellsOf zero32).toArray 23)) = w3
  obtain ⟨g, hg⟩ : ∃ g, g = w.heap.size := ⟨_, rfl⟩
  rw [← hg]
  intro b1 h1 h2 h3
  rw [hg] at b1
  have HG := Lib.hid hg
  have HB1 := Lib.hid b1
  have H1 := Lib.hid h1
  have H2 := Lib.hid h2
  have H3 := Lib.hid h3
  clear b1 h1 h2 h3 hg
  have b4 : Below w3.heap.size w3 (w3.alloc (.cells #[.slice (some ⟨g, 0, none⟩) 32 32] 45)) := (Below.refl _ _).alloc (Nat.le_refl _) _
  have r1 : Row (w3.alloc (.cells #[.slice (some ⟨g, 0, none⟩) 32 32] 45)) (some ⟨g, 0, none⟩) 32 32 s := row_all ((b4.block _ (lt_of_block H1.out)).trans H1.out) 32 HS.out.symm (by omega)
  have hlen : (partsOf 1 [s]).length ≤ 1125899906842624 := by
    unfold partsOf partOf
    simp only [List.flatMap_cons, List.flatMap_nil, List.length_cons, List.length_append, four_len, List.length_nil, HS.out]
    omega
  refine (join_any 1 1 rfl (rows2_one (heap_alloc_at _ _ _ H3.out) r1) ((HK.out.below HB1.out).below b4) hlen).mono ?_
  rintro e w5 ⟨rfl, hb5⟩
  have hb6 := b4.trans (hb5.mono b4.size)
  have HB6 := Lib.hid hb6
  have HT1 := Lib.hid ((hb6.block _ (lt_of_block H2.out)).trans H2.out)
  clear b4 r1 hlen hb5 hb6
  go_wp2_with (refine wpList_store_row rfl 23 _ _ rfl (g + 1) (cellsOf (sumOf (partsOf 1 [s]))).toArray rfl rfl 23 (cellsOf zero32).toArray HT1.out (sum_size' _) (by rw [sum_size]; rfl) (sum_all _) ?_)
  refine bodyPost_ret (results_cell_row rfl _ _ (g + 1) 23 (cellsOf (sumOf (partsOf 1 [s]))).toArray (0, 0) _ rfl (setRow_heap w5 (g + 1) _ _ 23 _ HT1.out) Tryd.underlying23 rfl (sum_size' _)) rfl ⟨rfl, ?_⟩
  have b7 : Below w.heap.size w w5 := HB1.out.trans (HB6.out.mono HB1.out.size)
  exact b7.trans (((but_setRow _ (g + 1) _).mono b7.size).below (by rw [HG.out]; omega))
end Go.Proofs.YtlnenkmcegadmaaDoor
namespace Go.Proofs.YtlnenkmcegadmaaDoor
open Go.RowKit

/-- The pair of a place's and its neighbour's, in order. -/
def joinOf (i : Nat) (s t : List UInt8) : List UInt8 := if i % 2 = 0 then pairSum s t else pairSum t s
theorem joinOf_len (i : Nat) (s t : List UInt8) : (joinOf i s t).length = 32 := by
  unfold joinOf
  split <;> exact pairSum_len _ _
set_option maxRecDepth 100000 in
set_option maxHeartbeats 1600000 in
theorem joined_any {w : World} {s t : List UInt8} (i : Nat) (hi : i < 4611686018427387904) (hs : s.length = 32) (ht : t.length = 32) (hk : KsAt w) :
    Calls Tryd.prog 35 #[.agg (cellsOf s).toArray, .agg (cellsOf t).toArray, .int .i64 (i : Int)] w fun e w' => e = .returned (.agg (cellsOf (joinOf i s t)).toArray) ∧ Below w.heap.size w w' := by
  have HK := Lib.hid hk
  have HS := Lib.hid hs
  have HT := Lib.hid ht
  have i0 : (0 : Int) ≤ (i : Int) := by omega
  have i1 : (i : Int) < 4611686018427387904 := by omega
  obtain ⟨r, hr, hrl, hpair⟩ : ∃ r, joinOf i s t = r ∧ r.length = 32 ∧ ∀ W : World, KsAt W → (i % 2 = 0 → Calls Tryd.prog 46 #[.int .u8 (2 : Int), .agg (cellsOf s).toArray, .agg (cellsOf t).toArray] W fun e w' => e = .returned (.agg (cellsOf r).toArray) ∧ Below W.heap.size W w') ∧ (¬ i % 2 = 0 → Calls Tryd.prog 46 #[.int .u8 (2 : Int), .agg (cellsOf t).toArray, .agg (cellsOf s).toArray] W fun e w' => e = .returned (.agg (cellsOf r).toArray) ∧ Below W.heap.size W w') :=
    ⟨_, rfl, joinOf_len _ _ _, fun W hW => ⟨fun h => by unfold joinOf; rw [if_pos h]; exact pair_any 2 2 rfl hs ht hW, fun h => by unfold joinOf; rw [if_neg h]; exact pair_any 2 2 rfl ht hs hW⟩⟩
  rw [hr]
  have HR := Lib.hid hrl
  have HP := Lib.hid hpair
  have szs : (Tryd.prog.info? 23).map (·.size) = some (cellsOf s).toArray.size := by rw [List.size_toArray, cellsOf_len, hs]; exact Tryd.size23
  have szt : (Tryd.prog.info? 23).map (·.size) = some (cellsOf t).toArray.size := by rw [List.size_toArray, cellsOf_len, ht]; exact Tryd.size23
  have szr : (Tryd.prog.info? 23).map (·.size) = some (cellsOf r).toArray.size := by rw [List.size_toArray, cellsOf_len, hrl]; exact Tryd.size23
  have SZS := Lib.hid szs
  have SZT := Lib.hid szt
  have SZR := Lib.hid szr
  have hz : (cellsOf zero32).toArray.size = (cellsOf r).toArray.size := by rw [List.size_toArray, List.size_toArray, cellsOf_len, cellsOf_len, hrl]; rfl
  have HZ := Lib.hid hz
  have hall : (cellsOf r).toArray.all (·.oneCell') = true := all_oneCell_toArray (cellsOf_one r)
  have HALL := Lib.hid hall
  clear hk hs ht hr hrl hpair szs szt szr hz hall hi
  by_cases hev : i % 2 = 0
  · have e2 : (i : Int) % 2 = 0 := by omega
    have HEV := Lib.hid hev
    clear hev
    go_enter Tryd.func35, Tryd.ntmps35
    go_upto_region 1 with (fail)
    rw [← zero32_is]
    have b1 : Below w.heap.size w (((w.alloc (.cells (cellsOf s).toArray 23)).alloc (.cells (cellsOf t).toArray 23)).alloc (.cells (cellsOf zero32).toArray 23)) := (((Below.refl _ _).alloc (Nat.le_refl _) _).alloc (by simp) _).alloc (by simp; omega) _
    have h1 : (((w.alloc (.cells (cellsOf s).toArray 23)).alloc (.cells (cellsOf t).toArray 23)).alloc (.cells (cellsOf zero32).toArray 23)).heap[w.heap.size]? = some (.cells (cellsOf s).toArray 23 (0, 0)) := by
      rw [heap_alloc_old _ _ (by simp; omega), heap_alloc_old _ _ (by simp), heap_alloc_new]
    have h2 : (((w.alloc (.cells (cellsOf s).toArray 23)).alloc (.cells (cellsOf t).toArray 23)).alloc (.cells (cellsOf zero32).toArray 23)).heap[w.heap.size + 1]? = some (.cells (cellsOf t).toArray 23 (0, 0)) := by
      rw [heap_alloc_old _ _ (by simp)]
      exact heap_alloc_at _ _ _ (by simp)
    have h3 : (((w.alloc (.cells (cellsOf s).toArray 23)).alloc (.cells (cellsOf t).toArray 23)).alloc (.cells (cellsOf zero32).toArray 23)).heap[w.heap.size + 1 + 1]? = some (.cells (cellsOf zero32).toArray 23 (0, 0)) := heap_alloc_at _ _ _ (by simp)
    revert b1 h1 h2 h3
    generalize (((w.alloc (.cells (cellsOf s).toArray 23)).alloc (.cells (cellsOf t).toArray 23)).alloc (.cells (cellsOf zero32).toArray 23)) = w3
    obtain ⟨g, hg⟩ : ∃ g, g = w.heap.size := ⟨_, rfl⟩
    rw [← hg]
    intro b1 h1 h2 h3
    rw [hg] at b1
    have HG := Lib.hid hg
    have HB1 := Lib.hid b1
    have H1 := Lib.hid h1
    have H2 := Lib.hid h2
    have H3 := Lib.hid h3
    clear b1 h1 h2 h3 hg
    go_wp2_with (first | (refine wpList_load_row rfl 23 _ rfl g rfl 23 (cellsOf s).toArray (0, 0) _ H1.out Tryd.underlying23 rfl SZS.out ?_) | (refine wpList_load_row rfl 23 _ rfl (g + 1) rfl 23 (cellsOf t).toArray (0, 0) _ H2.out Tryd.underlying23 rfl SZT.out ?_) | fail)
    refine ((HP.out _ (HK.out.below HB1.out)).1 HEV.out).mono ?_
    rintro e w5 ⟨rfl, hb5⟩
    have HB5 := Lib.hid hb5
    have HT3 := Lib.hid ((hb5.block _ (lt_of_block H3.out)).trans H3.out)
    clear hb5
    go_wp2_with (refine wpList_store_row rfl 23 _ _ rfl (g + 1 + 1) (cellsOf r).toArray rfl rfl 23 (cellsOf zero32).toArray HT3.out SZR.out HZ.out HALL.out ?_)
    refine bodyPost_ret (results_cell_row rfl _ _ (g + 1 + 1) 23 (cellsOf r).toArray (0, 0) _ rfl (setRow_heap w5 (g + 1 + 1) _ _ 23 _ HT3.out) Tryd.underlying23 rfl SZR.out) rfl ⟨rfl, ?_⟩
    have b7 : Below w.heap.size w w5 := HB1.out.trans (HB5.out.mono HB1.out.size)
    exact b7.trans (((but_setRow _ (g + 1 + 1) _).mono b7.size).below (by rw [HG.out]; omega))
  · have e2 : (i : Int) % 2 = 1 := by omega
    have HEV := Lib.hid hev
    clear hev
    go_enter Tryd.func35, Tryd.ntmps35
    go_upto_region 1 with (fail)
    rw [← zero32_is]
    have b1 : Below w.heap.size w (((w.alloc (.cells (cellsOf s).toArray 23)).alloc (.cells (cellsOf t).toArray 23)).alloc (.cells (cellsOf zero32).toArray 23)) := (((Below.refl _ _).alloc (Nat.le_refl _) _).alloc (by simp) _).alloc (by simp; omega) _
    have h1 : (((w.alloc (.cells (cellsOf s).toArray 23)).alloc (.cells (cellsOf t).toArray 23)).alloc (.cells (cellsOf zero32).toArray 23)).heap[w.heap.size]? = some (.cells (cellsOf s).toArray 23 (0, 0)) := by
      rw [heap_alloc_old _ _ (by simp; omega), heap_alloc_old _ _ (by simp), heap_alloc_new]
    have h2 : (((w.alloc (.cells (cellsOf s).toArray 23)).alloc (.cells (cellsOf t).toArray 23)).alloc (.cells (cellsOf zero32).toArray 23)).heap[w.heap.size + 1]? = some (.cells (cellsOf t).toArray 23 (0, 0)) := by
      rw [heap_alloc_old _ _ (by simp)]
      exact heap_alloc_at _ _ _ (by simp)
    have h3 : (((w.alloc (.cells (cellsOf s).toArray 23)).alloc (.cells (cellsOf t).toArray 23)).alloc (.cells (cellsOf zero32).toArray 23)).heap[w.heap.size + 1 + 1]? = some (.cells (cellsOf zero32).toArray 23 (0, 0)) := heap_alloc_at _ _ _ (by simp)
    revert b1 h1 h2 h3
    generalize (((w.alloc (.cells (cellsOf s).toArray 23)).alloc (.cells (cellsOf t).toArray 23)).alloc (.cells (cellsOf zero32).toArray 23)) = w3
    obtain ⟨g, hg⟩ : ∃ g, g = w.heap.size := ⟨_, rfl⟩
    rw [← hg]
    intro b1 h1 h2 h3
    rw [hg] at b1
    have HG := Lib.hid hg
    have HB1 := Lib.hid b1
    have H1 := Lib.hid h1
    have H2 := Lib.hid h2
    have H3 := Lib.hid h3
    clear b1 h1 h2 h3 hg
    go_wp2_with (first | (refine wpList_load_row rfl 23 _ rfl g rfl 23 (cellsOf s).toArray (0, 0) _ H1.out Tryd.underlying23 rfl SZS.out ?_) | (refine wpList_load_row rfl 23 _ rfl (g + 1) rfl 23 (cellsOf t).toArray (0, 0) _ H2.out Tryd.underlying23 rfl SZT.out ?_) | fail)
    refine ((HP.out _ (HK.out.below HB1.out)).2 HEV.out).mono ?_
    rintro e w5 ⟨rfl, hb5⟩
    have HB5 := Lib.hid hb5
    have HT3 := Lib.hid ((hb5.block _ (lt_of_block H3.out)).trans H3.out)
    clear hb5
    go_wp2_with (refine wpList_store_row rfl 23 _ _ rfl (g + 1 + 1) (cellsOf r).toArray rfl rfl 23 (cellsOf zero32).toArray HT3.out SZR.out HZ.out HALL.out ?_)
    refine bodyPost_ret (results_cell_row rfl _ _ (g + 1 + 1) 23 (cellsOf r).toArray (0, 0) _ rfl (setRow_heap w5 (g + 1 + 1) _ _ 23 _ HT3.out) Tryd.underlying23 rfl SZR.out) rfl ⟨rfl, ?_⟩
    have b7 : Below w.heap.size w w5 := HB1.out.trans (HB5.out.mono HB1.out.size)
    exact b7.trans (((but_setRow _ (g + 1 + 1) _).mono b7.size).below (by rw [HG.out]; omega))
end Go.Proofs.YtlnenkmcegadmaaDoor
namespace Go.Proofs.YtlnenkmcegadmaaDoor
open Go.RowKit

theorem row_step {α : Type} (xs : List α) (z d : α) (n j : Nat) (hn : xs.length = n) (hj : j < n) : (xs.take j ++ List.replicate (n - j) z).set j (xs.getD j d) = xs.take (j + 1) ++ List.replicate (n - (j + 1)) z := by
  have hl : (xs.take j).length = j := by rw [List.length_take]; omega
  rw [List.set_append_right _ _ (by omega), hl, Nat.sub_self, show n - j = (n - (j + 1)) + 1 by omega, List.replicate_succ, List.set_cons_zero]
  have e : xs.getD j d = xs[j] := by simp [List.getD, show j < xs.length by omega]
  rw [e, List.take_succ_eq_append_getElem (by omega), List.append_assoc, List.singleton_append]
theorem row_end {α : Type} (xs : List α) (z : α) (n : Nat) (hn : xs.length = n) : xs.take n ++ List.replicate (n - n) z = xs := by
  rw [Nat.sub_self, List.take_of_length_le (by omega)]; simp
/-- A row under way: j of n are there. -/
structure Filled (w0 : World) (g n j : Nat) (xs : List (List UInt8)) (w : World) : Prop where
  own : OwnS w w0.heap.size (.slice (some ⟨g, 0, none⟩) n n) (xs.take j ++ List.replicate (n - j) zero32)
  below : Below w0.heap.size w0 w
theorem Filled.more {w0 w w' : World} {g n j : Nat} {xs : List (List UInt8)} (h : Filled w0 g n j xs w) (hb : Below w.heap.size w w') : Filled w0 g n j xs w' :=
  ⟨h.own.below hb, h.below.trans (hb.mono h.below.size)⟩
theorem Filled.lt {w0 w : World} {g n j : Nat} {xs : List (List UInt8)} (h : Filled w0 g n j xs w) : w0.heap.size ≤ g ∧ g < w.heap.size := h.own.lt g rfl
theorem Filled.step {w0 w : World} {g n j : Nat} {xs : List (List UInt8)} {s : List UInt8} (h : Filled w0 g n j xs w) (hn : xs.length = n) (hj : j < n) (he : xs.getD j [] = s) (hs : s.length = 32) : Filled w0 g n (j + 1) xs (w.setCells g (j * 32) (cellsOf s)) := by
  obtain ⟨h1, h2⟩ := h.own.store hj hs
  refine ⟨?_, h.below.trans ((h2.mono h.below.size).below h.lt.1)⟩
  rw [← he] at h1 ⊢
  rw [row_step xs zero32 [] n j hn hj] at h1
  exact h1
theorem info32 : ∃ ie, Tryd.prog.info? 23 = some ie ∧ ie.zero = some (.agg (cellsOf zero32).toArray) ∧ ie.size = 32 ∧ ie.bytes = 32 := info_parts sum_zero
set_option maxRecDepth 100000 in
set_option maxHeartbeats 1600000 in
theorem lowest_any {w : World} {a : Option Addr} {n c : Nat} {ls : List (List UInt8)} (h : Sums w a n c ls) (hk : KsAt w) (hn : n ≤ 100000) :
    Calls Tryd.prog 28 #[.slice a n c] w fun e w' => e = .returned (.slice (some ⟨w.heap.size, 0, none⟩) n n) ∧ Sums w' (some ⟨w.heap.size, 0, none⟩) n n (ls.map leafSum) ∧ Below w.heap.size w w' := by
  obtain ⟨ie, i1, i2, i3, i4⟩ := info32
  have H := Lib.hid h
  have HK := Lib.hid hk
  have I1 := Lib.hid i1
  have I2 := Lib.hid i2
  have I3 := Lib.hid i3
  have I4 := Lib.hid i4
  clear h hk i1 i2 i3 i4
  go_enter Tryd.func28, Tryd.ntmps28
  go_wp2_with (at_make; refine wpList_make_full _ rfl _ _ 36 rfl w.heap.size 23 ie _ 32 Tryd.underlying36 I1.out I2.out I3.out _ _ _ _ n rfl rfl rfl rfl (by rw [I4.out]; omega) (by unfold maxLen; omega) (Nat.le_refl _) ?_; intro w1 hown hgrow)
  have hf0 : Filled w w.heap.size n 0 (ls.map leafSum) w1 := ⟨by rw [List.take_zero, List.nil_append, Nat.sub_zero]; exact made_own hown, ⟨hgrow.os, hgrow.tape, hgrow.output, hgrow.size, fun k hk => hgrow.block k hk (by simp)⟩⟩
  have HF0 := Lib.hid hf0
  clear hown hgrow hf0
  obtain ⟨g, hg⟩ : ∃ g, g = w.heap.size := ⟨_, rfl⟩
  rw [← hg] at HF0 ⊢
  have HG := Lib.hid hg
  clear hg
  have hn63 : n ≤ 9223372036854775807 := by omega
  go_loopw [11] (fun i wr => ∃ j : Nat, j ≤ n ∧ i = .int .i64 j ∧ Filled w g n j (ls.map leafSum) wr) (fun i _ => n - (intOf i).toNat)
  case atStart => exact ⟨0, Nat.zero_le _, rfl, HF0.out⟩
  case round =>
    obtain ⟨j, hj, rfl, hat⟩ := hrel
    have HAT := Lib.hid hat
    clear hat HF0
    by_cases hjn : j < n
    · obtain ⟨b, off, rfl, hlt, hcells⟩ := H.out.2.2.2.2.2 (by omega)
      have hr := rangeAt_below (hcells j hjn) hlt HAT.out.below
      have hs := H.out.each hjn
      have he : (ls.map leafSum).getD j [] = leafSum (ls.getD j []) := by
        have : j < ls.length := by rw [H.out.len]; exact hjn
        simp [List.getD, this]
      obtain ⟨s, hes⟩ : ∃ s, s = ls.getD j [] := ⟨_, rfl⟩
      rw [← hes] at hr hs he
      obtain ⟨r, hr', hrl, hlf⟩ : ∃ r, leafSum s = r ∧ r.length = 32 ∧ ∀ W : World, KsAt W → Calls Tryd.prog 33 #[.agg (cellsOf s).toArray] W fun e w' => e = .returned (.agg (cellsOf r).toArray) ∧ Below W.heap.size W w' := ⟨_, rfl, leafSum_len s, fun W hW => leaf_of hs hW⟩
      rw [hr'] at he
      have HL := Lib.hid hrl
      have HLF := Lib.hid hlf
      have szr : (Tryd.prog.info? 23).map (·.size) = some (cellsOf r).toArray.size := by rw [List.size_toArray, cellsOf_len, hrl]; exact Tryd.size23
      have SZR := Lib.hid szr
      clear hr' hrl hlf szr
      have szs : (Tryd.prog.info? 23).map (·.size) = some (cellsOf s).length := by rw [cellsOf_len, hs]; exact Tryd.size23
      have hz : (cellsOf zero32).toArray.size = (cellsOf s).toArray.size := by rw [List.size_toArray, List.size_toArray, cellsOf_len, cellsOf_len, hs]; rfl
      have HR := Lib.hid hr
      have HS := Lib.hid hs
      have HE := Lib.hid he
      have SZ := Lib.hid szs
      have HZ := Lib.hid hz
      clear hcells hr hs he szs hes hz
      go_wp2_with (first | (refine wpList_load_mid rfl 23 _ rfl b (off + j * 32) rfl (cellsOf s) _ HR.out Tryd.underlying23 rfl SZ.out ?_) | (refine wpList_store_row rfl 23 _ _ rfl wr.heap.size (cellsOf s).toArray rfl rfl 23 (cellsOf zero32).toArray (heap_alloc_new _ _) SZ.out HZ.out (all_oneCell_toArray (cellsOf_one s)) ?_) | (refine wpList_load_row rfl 23 _ rfl wr.heap.size rfl 23 (cellsOf s).toArray (0, 0) _ (setRow_heap _ _ _ _ _ _ (heap_alloc_new _ _)) Tryd.underlying23 rfl SZ.out ?_) | fail)
      rw [← zero32_is]
      have b2 : Below wr.heap.size wr ((wr.alloc (.cells (cellsOf zero32).toArray 23)).setRow wr.heap.size (cellsOf s).toArray) := by
        have b1 : Below wr.heap.size wr (wr.alloc (.cells (cellsOf zero32).toArray 23)) := (Below.refl _ _).alloc (Nat.le_refl _) _
        exact b1.trans (((but_setRow _ wr.heap.size _).mono b1.size).below (Nat.le_refl _))
      revert b2
      generalize ((wr.alloc (.cells (cellsOf zero32).toArray 23)).setRow wr.heap.size (cellsOf s).toArray) = w4
      intro b2
      have f4 := HAT.out.more b2
      have k4 := (HK.out.below HAT.out.below).below b2
      have F4 := Lib.hid f4
      have K4 := Lib.hid k4
      clear b2 f4 k4
      refine (HLF.out _ K4.out).mono ?_
      rintro e w5 ⟨rfl, hb5⟩
      have f5 := F4.out.more hb5
      have F5 := Lib.hid f5
      have th : w5.there g (j * 32) (cellsOf r).toArray.size := by rw [List.size_toArray, cellsOf_len, HL.out]; exact f5.own.there hjn
      have TH := Lib.hid th
      clear hb5 f5 th
      go_wp2_with (refine wpList_store_mid rfl 23 _ _ rfl g (j * 32) (cellsOf r).toArray rfl rfl TH.out SZR.out (all_oneCell_toArray (cellsOf_one r)) ?_)
      have f6 := F5.out.step (by rw [List.length_map]; exact H.out.len) hjn HE.out HL.out
      have F6 := Lib.hid f6
      clear f6
      go_roundw
      case rel => exact ⟨j + 1, by omega, by go_num, F6.out⟩
      case measure => simp [intOf]; omega
    · have hjn' : j = n := by omega
      subst hjn'
      go_wp2_with fail
      go_ret
      have e := row_end (ls.map leafSum) zero32 j (by rw [List.length_map]; exact H.out.len)
      have ho := HAT.out.own
      rw [e] at ho
      exact ⟨by rw [← HG.out]; rfl, by rw [← HG.out]; exact ho.sums, HAT.out.below⟩
end Go.Proofs.YtlnenkmcegadmaaDoor
namespace Go.Proofs.YtlnenkmcegadmaaDoor
open Go.RowKit

section
variable {ops : Array Oper} {S : World → Prop} {op : Oper} {a : Act}
theorem yields_from {x : Operand} {lo : Operand} {ad : Option Addr} {n c A : Nat} (hw : Region.wanted op (yielded ops a.tmps) = true) (ho : op.op = .slice 36 x (some lo) none none) (hx : a.eval x = .slice ad n c) (hlo : a.eval lo = .int .i64 (A : Int)) (hA : A ≤ n) :
    YieldsIf Tryd.prog ops S op (.slice (if c = A then ad else ad.map (·.add (A * 32))) (n - A) (c - A)) a :=
  .inl ⟨hw, fun w _ => by
    have h := run_cut_from (a := ad) (n := n) (c := c) hA w
    unfold execOp
    simp only [ho, hx, hlo, Option.map_some, Option.map_none, Sem.run_bind, h, Result.andThen_ok, Sem.run_pure]⟩
theorem yields_to {x : Operand} {hi : Operand} {ad : Option Addr} {n c A : Nat} (hw : Region.wanted op (yielded ops a.tmps) = true) (ho : op.op = .slice 36 x none (some hi) none) (hx : a.eval x = .slice ad n c) (hhi : a.eval hi = .int .i64 (A : Int)) (hA : A ≤ c) :
    YieldsIf Tryd.prog ops S op (.slice ad A c) a :=
  .inl ⟨hw, fun w _ => by
    have h := run_cut_to (a := ad) (n := n) hA w
    unfold execOp
    simp only [ho, hx, hhi, Option.map_some, Option.map_none, Sem.run_bind, h, Result.andThen_ok, Sem.run_pure]⟩
end
/-- A literal of one sum, of two, in a region. -/
theorem step_build1 {ops : Array Oper} {o : Oper} {a : Act} {w : World} {K : Act → World → Prop} {Q : Exit → Act → World → Prop} {E : Prop} {s : List UInt8} (x : Operand) (hw : Region.wanted o (yielded ops a.tmps) = true)
    (ho : o.op = .buildSlice 36 1 #[(0, x)]) (hx : a.eval x = .agg (cellsOf s).toArray) (hs : s.length = 32)
    (h : K (a.put o.dst (.slice (some ⟨w.heap.size, 0, none⟩) 1 1)) (w.alloc (.cells (cellsOf s).toArray 23))) :
    if Region.wanted o (yielded ops a.tmps) = true then Oper.wp Tryd.prog o a w K Q else E := by
  rw [if_pos hw]
  have hb := run_build1 w s hs
  unfold Oper.wp execOp
  simp only [ho, List.map_toArray, List.map_cons, List.map_nil, hx, Sem.run_bind, Sem.run_pure, Result.andThen_ok, hb]
  exact h
theorem step_build2 {ops : Array Oper} {o : Oper} {a : Act} {w : World} {K : Act → World → Prop} {Q : Exit → Act → World → Prop} {E : Prop} {s t : List UInt8} (x y : Operand) (hw : Region.wanted o (yielded ops a.tmps) = true)
    (ho : o.op = .buildSlice 36 2 #[(0, x), (1, y)]) (hx : a.eval x = .agg (cellsOf s).toArray) (hy : a.eval y = .agg (cellsOf t).toArray) (hs : s.length = 32) (ht : t.length = 32)
    (h : K (a.put o.dst (.slice (some ⟨w.heap.size, 0, none⟩) 2 2)) (w.alloc (.cells (seqCells [s, t]).toArray 23))) :
    if Region.wanted o (yielded ops a.tmps) = true then Oper.wp Tryd.prog o a w K Q else E := by
  rw [if_pos hw]
  have hb := run_build2 w s t hs ht
  unfold Oper.wp execOp
  simp only [ho, List.map_toArray, List.map_cons, List.map_nil, hx, hy, Sem.run_bind, Sem.run_pure, Result.andThen_ok, hb]
  exact h
theorem wpList_build1 {ops : Array Oper} {rest : List Oper} {o : Oper} {a : Act} {w : World} {Q : Exit → Act → World → Prop} {s : List UInt8} (hg : o.guard = none) (x : Operand)
    (ho : o.op = .buildSlice 36 1 #[(0, x)]) (hx : a.eval x = .agg (cellsOf s).toArray) (hs : s.length = 32)
    (h : wpList Tryd.prog ops Q rest (a.put o.dst (.slice (some ⟨w.heap.size, 0, none⟩) 1 1)) (w.alloc (.cells (cellsOf s).toArray 23))) : wpList Tryd.prog ops Q (o :: rest) a w := by
  refine wpList_plain hg fun K hK => ?_
  have hb := run_build1 w s hs
  unfold Oper.wp execOp
  simp only [ho, List.map_toArray, List.map_cons, List.map_nil, hx, Sem.run_bind, Sem.run_pure, Result.andThen_ok, hb]
  exact hK _ _ h
/-- 'append' of sums. -/
theorem wpList_append_sums {ops : Array Oper} {rest : List Oper} {o : Oper} {a : Act} {w : World} {Q : Exit → Act → World → Prop} (hg : o.guard = none) (x y : Operand)
    (ho : o.op = .call { callee := .builtin .append, args := #[x, y], argTypes := #[36, 36] }) (hty : o.type = 36) (B : Nat) (v : Value) (ls : List (List UInt8)) (n : Nat) (hn : ls.length = n) (hx : a.eval x = v) (h : OwnS w B v ls) (ad : Option Addr) (m c : Nat) (q : List (List UInt8)) (hy : a.eval y = .slice ad m c) (hq : Sums w ad m c q) (hb : n + m ≤ 1000000) (hbase : B ≤ w.heap.size)
    (hk : ∀ a' c' w', OwnS w' B (.slice a' (n + m) c') (ls ++ q) → w.grownBy w' v.ownBlock → wpList Tryd.prog ops Q rest (a.put o.dst (.slice a' (n + m) c')) w') : wpList Tryd.prog ops Q (o :: rest) a w := by
  subst hn
  refine wpList_plain hg fun K hK => ?_
  obtain ⟨a', c', w', h1, h2, h3⟩ := append_sums w B v ls h ad m c q hq hb hbase
  unfold Oper.wp execOp
  simp only [ho, hty, resolve, invoke, builtin, Sem.run_bind, Sem.run_pure, Result.andThen_ok, List.map_toArray, List.map_cons, List.map_nil, hx, hy, h1]
  exact hK _ _ (hk a' c' w' h2 h3)
theorem step_append_sums {ops : Array Oper} {o : Oper} {a : Act} {w : World} {K : Act → World → Prop} {Q : Exit → Act → World → Prop} {E : Prop} (hw : Region.wanted o (yielded ops a.tmps) = true) (x y : Operand)
    (ho : o.op = .call { callee := .builtin .append, args := #[x, y], argTypes := #[36, 36] }) (hty : o.type = 36) (B : Nat) (v : Value) (ls : List (List UInt8)) (n : Nat) (hn : ls.length = n) (hx : a.eval x = v) (h : OwnS w B v ls) (ad : Option Addr) (m c : Nat) (q : List (List UInt8)) (hy : a.eval y = .slice ad m c) (hq : Sums w ad m c q) (hb : n + m ≤ 1000000) (hbase : B ≤ w.heap.size)
    (hk : ∀ a' c' w', OwnS w' B (.slice a' (n + m) c') (ls ++ q) → w.grownBy w' v.ownBlock → K (a.put o.dst (.slice a' (n + m) c')) w') :
    if Region.wanted o (yielded ops a.tmps) = true then Oper.wp Tryd.prog o a w K Q else E := by
  subst hn
  rw [if_pos hw]
  obtain ⟨a', c', w', h1, h2, h3⟩ := append_sums w B v ls h ad m c q hq hb hbase
  unfold Oper.wp execOp
  simp only [ho, hty, resolve, invoke, builtin, Sem.run_bind, Sem.run_pure, Result.andThen_ok, List.map_toArray, List.map_cons, List.map_nil, hx, hy, h1]
  exact hk a' c' w' h2 h3
end Go.Proofs.YtlnenkmcegadmaaDoor
namespace Go.Proofs.YtlnenkmcegadmaaDoor
open Go.RowKit

/-- A row of the call's own, and all below as it was. -/
structure Holds (w0 : World) (g n : Nat) (X : List (List UInt8)) (w : World) : Prop where
  own : OwnS w w0.heap.size (.slice (some ⟨g, 0, none⟩) n n) X
  below : Below w0.heap.size w0 w
theorem Holds.more {w0 w w' : World} {g n : Nat} {X : List (List UInt8)} (h : Holds w0 g n X w) (hb : Below w.heap.size w w') : Holds w0 g n X w' := ⟨h.own.below hb, h.below.trans (hb.mono h.below.size)⟩
theorem Holds.lt {w0 w : World} {g n : Nat} {X : List (List UInt8)} (h : Holds w0 g n X w) : w0.heap.size ≤ g ∧ g < w.heap.size := h.own.lt g rfl
theorem Holds.step {w0 w : World} {g n j : Nat} {X : List (List UInt8)} {s : List UInt8} (h : Holds w0 g n X w) (hj : j < n) (hs : s.length = 32) : Holds w0 g n (X.set j s) (w.setCells g (j * 32) (cellsOf s)) := by
  obtain ⟨h1, h2⟩ := h.own.store hj hs
  exact ⟨h1, h.below.trans ((h2.mono h.below.size).below h.lt.1)⟩
def soFar (xs : List (List UInt8)) (n j : Nat) : List (List UInt8) := xs.take j ++ List.replicate (n - j) zero32
theorem soFar_step (xs : List (List UInt8)) (n j : Nat) (hn : xs.length = n) (hj : j < n) (s : List UInt8) (hs : xs.getD j [] = s) : (soFar xs n j).set j s = soFar xs n (j + 1) := by
  rw [← hs]; exact row_step xs zero32 [] n j hn hj
theorem up_at (l : List (List UInt8)) (j : Nat) (hj : 2 * j < l.length) : (up pairSum l).getD j [] = if 2 * j + 1 < l.length then joinOf (2 * j) (l.getD (2 * j) []) (l.getD (2 * j + 1) []) else l.getD (2 * j) [] := by
  have h := up_get pairSum l (2 * j) hj
  rw [show 2 * j / 2 = j by omega, show beside (2 * j) = 2 * j + 1 by unfold beside; omega, show 2 * j % 2 = 0 by omega] at h
  rw [show (default : List UInt8) = [] from rfl] at h
  rw [h]
  unfold joinOf
  simp
set_option linter.unusedSimpArgs false in
set_option maxRecDepth 100000 in
set_option maxHeartbeats 3200000 in
theorem above_any {w : World} {a : Option Addr} {n c : Nat} {ls : List (List UInt8)} (h : Sums w a n c ls) (hk : KsAt w) (hn : n ≤ 100000) :
    Calls Tryd.prog 29 #[.slice a n c] w fun e w' => e = .returned (.slice (some ⟨w.heap.size, 0, none⟩) ((n + 1) / 2) ((n + 1) / 2)) ∧ Sums w' (some ⟨w.heap.size, 0, none⟩) ((n + 1) / 2) ((n + 1) / 2) (up pairSum ls) ∧ Below w.heap.size w w' := by
  obtain ⟨ie, i1, i2, i3, i4⟩ := info32
  have hul : (up pairSum ls).length = (n + 1) / 2 := by rw [up_len, h.len]
  have hu2 : ∀ j, 2 * j < n → (up pairSum ls).getD j [] = if 2 * j + 1 < n then joinOf (2 * j) (ls.getD (2 * j) []) (ls.getD (2 * j + 1) []) else ls.getD (2 * j) [] := fun j hj => by
    have := up_at ls j (by rw [h.len]; exact hj)
    rw [h.len] at this
    exact this
  obtain ⟨m, hm⟩ : ∃ m, m = (n + 1) / 2 := ⟨_, rfl⟩
  obtain ⟨xs, hxs⟩ : ∃ xs, xs = up pairSum ls := ⟨_, rfl⟩
  have hp : ∀ W : World, Calls Tryd.prog 34 #[.int .i64 (n : Int)] W fun e w' => e = .returned (.int .i64 (m : Int)) ∧ W = w' := fun W => by rw [hm]; exact pairs_any n (by omega) W
  rw [← hm, ← hxs]
  rw [← hm, ← hxs] at hul
  rw [← hxs] at hu2
  have hm1 : m ≤ 100000 := by omega
  have hm2 : 2 * m ≤ n + 1 := by omega
  have H := Lib.hid h
  have HK := Lib.hid hk
  have HP := Lib.hid hp
  have HUL := Lib.hid hul
  have HU2 := Lib.hid hu2
  have I1 := Lib.hid i1
  have I2 := Lib.hid i2
  have I3 := Lib.hid i3
  have I4 := Lib.hid i4
  clear h hk hp hul hu2 hxs hm i1 i2 i3 i4
  go_enter Tryd.func29, Tryd.ntmps29
  go_wp2_with (first | (go_at_call 34; refine (HP.out _).mono ?_; rintro e w' ⟨rfl, rfl⟩) | (at_make; refine wpList_make_full _ rfl _ _ 36 rfl w.heap.size 23 ie _ 32 Tryd.underlying36 I1.out I2.out I3.out _ _ _ _ m rfl rfl rfl rfl (by rw [I4.out]; omega) (by unfold maxLen; omega) (Nat.le_refl _) ?_; intro w1 hown hgrow))
  have hf0 : Holds w w.heap.size m (soFar xs m 0) w1 := ⟨by unfold soFar; rw [List.take_zero, List.nil_append, Nat.sub_zero]; exact made_own hown, ⟨hgrow.os, hgrow.tape, hgrow.output, hgrow.size, fun k hk => hgrow.block k hk (by simp)⟩⟩
  have HF0 := Lib.hid hf0
  clear hown hgrow hf0
  obtain ⟨g, hg⟩ : ∃ g, g = w.heap.size := ⟨_, rfl⟩
  rw [← hg] at HF0 ⊢
  have HG := Lib.hid hg
  clear hg
  go_loopw [12] (fun i wr => ∃ j : Nat, j ≤ m ∧ i = .int .i64 j ∧ Holds w g m (soFar xs m j) wr) (fun i _ => m - (intOf i).toNat)
  case atStart => exact ⟨0, Nat.zero_le _, rfl, HF0.out⟩
  case round =>
    obtain ⟨j, hj, rfl, hat⟩ := hrel
    have HAT := Lib.hid hat
    clear hat HF0
    by_cases hjm : j < m
    · have h2j : 2 * j < n := by omega
      obtain ⟨b, off, rfl, hlt, hcells⟩ := H.out.2.2.2.2.2 (by omega)
      have hr := hcells (2 * j) h2j
      have hs := H.out.each h2j
      have hu := HU2.out j h2j
      obtain ⟨s, hes⟩ : ∃ s, s = ls.getD (2 * j) [] := ⟨_, rfl⟩
      rw [← hes] at hr hs hu
      have szs : (Tryd.prog.info? 23).map (·.size) = some (cellsOf s).length := by rw [cellsOf_len, hs]; exact Tryd.size23
      have th : wr.there g (j * 32) (cellsOf s).toArray.size := by rw [List.size_toArray, cellsOf_len, hs]; exact HAT.out.own.there hjm
      have hr1 := rangeAt_below hr hlt HAT.out.below
      have e2 : ((2 * j : Nat) : Int) = 2 * (j : Int) := by omega
      have hbs : ∀ W : World, Calls Tryd.prog 32 #[.int .i64 (2 * (j : Int))] W fun e w' => e = .returned (.int .i64 ((2 * j + 1 : Nat) : Int)) ∧ W = w' := fun W => by
        have := beside_any (2 * j) (by omega) W
        rw [show beside (2 * j) = 2 * j + 1 by unfold beside; omega, e2] at this
        exact this
      have HR := Lib.hid hr1
      have HR0 := Lib.hid hr
      have HS := Lib.hid hs
      have SZ := Lib.hid szs
      have TH := Lib.hid th
      have HBS := Lib.hid hbs
      have ew := IntWalk.i64_in (n := 2 * (j : Int)) (by omega)
      have e0 : (0 : Int) ≤ 2 * (j : Int) := by omega
      have e1 : 2 * (j : Int) < (n : Int) := by omega
      have et : (2 * (j : Int)).toNat = 2 * j := by omega
      by_cases hb : 2 * j + 1 < n
      · rw [if_pos hb] at hu
        have hr2 := hcells (2 * j + 1) hb
        have hs2 := H.out.each hb
        obtain ⟨t, het⟩ : ∃ t, t = ls.getD (2 * j + 1) [] := ⟨_, rfl⟩
        rw [← het] at hr2 hs2 hu
        have szt : (Tryd.prog.info? 23).map (·.size) = some (cellsOf t).length := by rw [cellsOf_len, hs2]; exact Tryd.size23
        obtain ⟨r, hr', hrl, hjo⟩ : ∃ r, joinOf (2 * j) s t = r ∧ r.length = 32 ∧ ∀ W : World, KsAt W → Calls Tryd.prog 35 #[.agg (cellsOf s).toArray, .agg (cellsOf t).toArray, .int .i64 (2 * (j : Int))] W fun e w' => e = .returned (.agg (cellsOf r).toArray) ∧ Below W.heap.size W w' := ⟨_, rfl, joinOf_len _ _ _, fun W hW => by rw [← e2]; exact joined_any (2 * j) (by omega) hs hs2 hW⟩
        rw [hr'] at hu
        have szr : (Tryd.prog.info? 23).map (·.size) = some (cellsOf r).toArray.size := by rw [List.size_toArray, cellsOf_len, hrl]; exact Tryd.size23
        have HR2 := Lib.hid hr2
        have HS2 := Lib.hid hs2
        have SZT := Lib.hid szt
        have SZR := Lib.hid szr
        have HL := Lib.hid hrl
        have HJO := Lib.hid hjo
        have HU := Lib.hid hu
        have f0 : (0 : Int) ≤ ((2 * j + 1 : Nat) : Int) := by omega
        have f1 : ((2 * j + 1 : Nat) : Int) < (n : Int) := by omega
        have ft : (((2 * j + 1 : Nat) : Int)).toNat = 2 * j + 1 := by omega
        obtain ⟨J, hJ⟩ : ∃ J, J = 2 * j + 1 := ⟨_, rfl⟩
        rw [← hJ] at HR2 HBS f0 f1 ft
        clear hcells hr hr1 hs hu szs hes th hbs hr2 hs2 het szt hr' hrl hjo szr e2 hb hJ h2j ft
        go_wp2_with (first | (refine wpList_load_mid rfl 23 _ rfl b (off + 2 * j * 32) rfl (cellsOf s) _ HR.out Tryd.underlying23 rfl SZ.out ?_) | (refine wpList_store_mid rfl 23 _ _ rfl g (j * 32) (cellsOf s).toArray rfl rfl TH.out SZ.out (all_oneCell_toArray (cellsOf_one s)) ?_) | (go_at_call 32; (with_reducible refine (HBS.out _).mono ?_); rintro e w' ⟨rfl, rfl⟩))
        have h4 := HAT.out.step hjm HS.out
        revert h4
        generalize wr.setCells g (j * 32) (cellsOf s) = w4
        intro h4
        have H4 := Lib.hid h4
        clear h4
        refine wp_region_held_drew (S := fun w' => Below w.heap.size w w') (by kernel_rfl) (below_drew H4.out.below) (fun hHeld => ?_)
        refine take_at (i := 0) (v := ?_) rfl rfl (by kernel_rfl) (by kernel_rfl) (by kernel_rfl) (fun _ _ _ h => h) (Or.inl ⟨by rfl, ?_⟩) (by assumption) ?_
        rotate_left
        · intro w0 hSw; (try dsimp only at hSw); first | (go_simp; done) | (go_simp; with_reducible rfl)
        simp only [List.setIfInBounds_toArray, List.set_cons_zero, List.set_cons_succ]
        refine take_at (i := 1) (v := ?_) rfl rfl (by kernel_rfl) (by kernel_rfl) (by kernel_rfl) (fun _ _ _ h => h) (Or.inl ⟨by rfl, ?_⟩) (by assumption) ?_
        rotate_left
        · intro w0 hSw; (try dsimp only at hSw); first | (go_simp; done) | (go_simp; with_reducible rfl)
        simp only [List.setIfInBounds_toArray, List.set_cons_zero, List.set_cons_succ]
        refine take_at (i := 2) (v := ?_) rfl rfl (by kernel_rfl) (by kernel_rfl) (by kernel_rfl) (fun _ _ _ h => h) (Or.inl ⟨by rfl, ?_⟩) (by assumption) ?_
        rotate_left
        · intro w0 hSw; (try dsimp only at hSw); first | (go_simp; done) | (go_simp; with_reducible rfl)
        simp only [List.setIfInBounds_toArray, List.set_cons_zero, List.set_cons_succ]
        refine take_at (i := 3) (v := ?_) rfl rfl (by kernel_rfl) (by kernel_rfl) (by kernel_rfl) (fun _ _ _ h => h) (Or.inl ⟨by rfl, ?_⟩) (by assumption) ?_
        rotate_left
        · intro w0 hSw; (try dsimp only at hSw); first | (go_simp; done) | (go_simp; with_reducible rfl)
        simp only [List.setIfInBounds_toArray, List.set_cons_zero, List.set_cons_succ]
        refine take_at (i := 4) (v := ?_) rfl rfl (by kernel_rfl) (by kernel_rfl) (by kernel_rfl) (fun _ _ _ h => h) (Or.inl ⟨by rfl, ?_⟩) (by assumption) ?_
        rotate_left
        · intro w0 hSw; (try dsimp only at hSw); first | (go_simp; done) | (go_simp; with_reducible rfl)
        simp only [List.setIfInBounds_toArray, List.set_cons_zero, List.set_cons_succ]
        refine take_at (i := 5) (v := ?_) rfl rfl (by kernel_rfl) (by kernel_rfl) (by kernel_rfl) (fun _ _ _ h => h) (Or.inl ⟨by rfl, ?_⟩) (by assumption) ?_
        rotate_left
        · intro w0 hSw; (try dsimp only at hSw); first | (go_simp; done) | (go_simp; with_reducible rfl)
        simp only [List.setIfInBounds_toArray, List.set_cons_zero, List.set_cons_succ]
        refine take_at (i := 6) rfl rfl (by kernel_rfl) (by kernel_rfl) (by kernel_rfl) (fun _ _ _ h => h) (yieldsIf_load_mid (by rfl) _ _ rfl b (off + 2 * j * 32) rfl (cellsOf s) _ (fun w0 hSw => rangeAt_below HR0.out hlt hSw) Tryd.underlying23 rfl SZ.out) (by assumption) ?_
        simp only [List.setIfInBounds_toArray, List.set_cons_zero, List.set_cons_succ]
        refine take_at (i := 7) (v := ?_) rfl rfl (by kernel_rfl) (by kernel_rfl) (by kernel_rfl) (fun _ _ _ h => h) (Or.inl ⟨by rfl, ?_⟩) (by assumption) ?_
        rotate_left
        · intro w0 hSw; (try dsimp only at hSw); first | (go_simp; done) | (go_simp; with_reducible rfl)
        simp only [List.setIfInBounds_toArray, List.set_cons_zero, List.set_cons_succ]
        refine take_at (i := 8) (v := ?_) rfl rfl (by kernel_rfl) (by kernel_rfl) (by kernel_rfl) (fun _ _ _ h => h) (Or.inl ⟨by rfl, ?_⟩) (by assumption) ?_
        rotate_left
        · intro w0 hSw; (try dsimp only at hSw); first | (go_simp; done) | (go_simp; with_reducible rfl)
        simp only [List.setIfInBounds_toArray, List.set_cons_zero, List.set_cons_succ]
        refine take_at (i := 9) (v := ?_) rfl rfl (by kernel_rfl) (by kernel_rfl) (by kernel_rfl) (fun _ _ _ h => h) (Or.inl ⟨by rfl, ?_⟩) (by assumption) ?_
        rotate_left
        · intro w0 hSw; (try dsimp only at hSw); first | (go_simp; done) | (go_simp; with_reducible rfl)
        simp only [List.setIfInBounds_toArray, List.set_cons_zero, List.set_cons_succ]
        refine take_at (i := 10) rfl rfl (by kernel_rfl) (by kernel_rfl) (by kernel_rfl) (fun _ _ _ h => h) (yieldsIf_load_mid (by rfl) _ _ rfl b (off + J * 32) rfl (cellsOf t) _ (fun w0 hSw => rangeAt_below HR2.out hlt hSw) Tryd.underlying23 rfl SZT.out) (by assumption) ?_
        simp only [List.setIfInBounds_toArray, List.set_cons_zero, List.set_cons_succ]
        refine take_at (i := 11) (v := ?_) rfl rfl (by kernel_rfl) (by kernel_rfl) (by kernel_rfl) (fun _ _ _ h => h) (Or.inl ⟨by rfl, ?_⟩) (by assumption) ?_
        rotate_left
        · intro w0 hSw; (try dsimp only at hSw); first | (go_simp; done) | (go_simp; with_reducible rfl)
        simp only [List.setIfInBounds_toArray, List.set_cons_zero, List.set_cons_succ]
        refine take_at (i := 12) (v := ?_) rfl rfl (by kernel_rfl) (by kernel_rfl) (by kernel_rfl) (fun _ _ _ h => h) (Or.inl ⟨by rfl, ?_⟩) (by assumption) ?_
        rotate_left
        · intro w0 hSw; (try dsimp only at hSw); first | (go_simp; done) | (go_simp; with_reducible rfl)
        simp only [List.setIfInBounds_toArray, List.set_cons_zero, List.set_cons_succ]
        refine wpAnyH_ready (rs := [13]) (by kernel_rfl) (by simp) ?_
        refine AllReadyH.cons rfl (fun K hK => ?_) ?_
        · go_simp
          go_wp2_with ((go_at_call 35; (with_reducible refine (HJO.out _ (HK.out.below hHeld)).mono ?_); rintro e w5 ⟨rfl, hb5⟩; have HB5 := Lib.hid hb5; clear hb5))
          refine hK.out _ _ (by (try dsimp only); exact Below.trans hHeld (HB5.out.mono (Below.size hHeld))) (fun hHeld => ?_)
          clear hK K
          refine take_at (i := 14) (v := ?_) rfl rfl (by kernel_rfl) (by kernel_rfl) (by kernel_rfl) (fun _ _ _ h => h) (Or.inl ⟨by rfl, ?_⟩) (by assumption) ?_
          rotate_left
          · intro w0 hSw; (try dsimp only at hSw); first | (go_simp; done) | (go_simp; with_reducible rfl)
          simp only [List.setIfInBounds_toArray, List.set_cons_zero, List.set_cons_succ]
          refine wpAnyH_ready (rs := [15]) (by kernel_rfl) (by simp) ?_
          refine AllReadyH.cons rfl (fun K hK => ?_) ?_
          · have h5 := H4.out.more ((below_drew (Below.refl _ _)).trans HB5.out)
            have th5 : w5.there g (j * 32) (cellsOf r).toArray.size := by rw [List.size_toArray, cellsOf_len, HL.out]; exact h5.own.there hjm
            have h6 := h5.step hjm HL.out
            rw [List.set_set, soFar_step xs m j HUL.out hjm r HU.out] at h6
            have H6 := Lib.hid h6
            clear h5 h6
            rw [if_pos (by rfl)]
            refine wp_store_mid 23 _ _ rfl g (j * 32) (cellsOf r).toArray rfl rfl th5 SZR.out (all_oneCell_toArray (cellsOf_one r)) ?_
            refine hK.out _ _ (by (try dsimp only); exact H6.out.below) (fun hHeld => ?_)
            clear hK K
            refine wpAnyH_done (by kernel_rfl) ?_ _
            go_wp2_with fail
            go_roundw
            case rel => exact ⟨j + 1, by omega, by go_num, H6.out⟩
            case measure => simp [intOf]; omega
          exact AllReadyH.nil
        exact AllReadyH.nil
      · rw [if_neg hb] at hu
        have HU := Lib.hid hu
        have f1 : ¬ (((2 * j + 1 : Nat) : Int) < (n : Int)) := by omega
        obtain ⟨J, hJ⟩ : ∃ J, J = 2 * j + 1 := ⟨_, rfl⟩
        rw [← hJ] at HBS f1
        clear hcells hr hr1 hs hu szs hes th hbs e2 hb hJ h2j
        go_wp2_with (first | (refine wpList_load_mid rfl 23 _ rfl b (off + 2 * j * 32) rfl (cellsOf s) _ HR.out Tryd.underlying23 rfl SZ.out ?_) | (refine wpList_store_mid rfl 23 _ _ rfl g (j * 32) (cellsOf s).toArray rfl rfl TH.out SZ.out (all_oneCell_toArray (cellsOf_one s)) ?_) | (go_at_call 32; (with_reducible refine (HBS.out _).mono ?_); rintro e w' ⟨rfl, rfl⟩))
        have h4 := HAT.out.step hjm HS.out
        rw [soFar_step xs m j HUL.out hjm s HU.out] at h4
        have H4 := Lib.hid h4
        clear h4
        go_roundw
        case rel => exact ⟨j + 1, by omega, by go_num, H4.out⟩
        case measure => simp [intOf]; omega
    · have hjm' : j = m := by omega
      subst hjm'
      go_wp2_with fail
      go_ret
      have ho := HAT.out.own
      rw [show soFar xs j j = xs from row_end xs zero32 j HUL.out] at ho
      exact ⟨by rw [← HG.out]; rfl, by rw [← HG.out]; exact ho.sums, HAT.out.below⟩
end Go.Proofs.YtlnenkmcegadmaaDoor
namespace Go.Proofs.YtlnenkmcegadmaaDoor
open Go.RowKit

theorem top_up {l : List (List UInt8)} (h : 0 < l.length) : top pairSum (up pairSum l) = top pairSum l := by
  have e1 := tier_top pairSum l h (l.length + 1) (Nat.le_of_lt (Nat.lt_trans Nat.lt_two_pow_self (by rw [Nat.pow_succ]; have := Nat.two_pow_pos l.length; omega)))
  have e2 := tier_top pairSum (up pairSum l) (by rw [up_len]; omega) l.length (by rw [up_len]; have := Nat.lt_two_pow_self (n := l.length); omega)
  have e3 : tier pairSum (l.length + 1) l = tier pairSum l.length (up pairSum l) := rfl
  rw [e3, e2] at e1
  simpa using e1
theorem half_lt {i n : Nat} (h : i < n) (h1 : ¬ n ≤ 1) : i / 2 < (n + 1) / 2 ∧ (n + 1) / 2 < n := by omega
def lenV : Value → Nat
  | .slice _ n _ => n
  | _ => 0
/-- A row under way up. -/
def RowUp (w1 : World) (T : List UInt8) (v : Value) (wr : World) : Prop := ∃ (k : Nat) (a' : Option Addr) (row : List (List UInt8)), v = .slice a' k k ∧ Sums wr a' k k row ∧ 0 < k ∧ k ≤ 100000 ∧ top pairSum row = T ∧ Below w1.heap.size w1 wr
theorem rootSum_len (l : List (List UInt8)) : (rootSum l).length = 32 := by
  unfold rootSum
  by_cases h0 : l.isEmpty
  · rw [if_pos h0]; exact sumOf_len _
  · rw [if_neg h0]
    refine top_len _ (fun e => h0 (by cases l with
      | nil => rfl
      | cons a l => cases e)) (fun s hs => ?_)
    obtain ⟨t, _, rfl⟩ := List.mem_map.1 hs
    exact leafSum_len t
set_option maxRecDepth 100000 in
set_option maxHeartbeats 1600000 in
theorem root_none {w : World} {a : Option Addr} {c : Nat} (hk : KsAt w) : Calls Tryd.prog 13 #[.slice a 0 c] w fun e w' => e = .returned (.agg (cellsOf (rootSum [])).toArray) ∧ Below w.heap.size w w' := by
  obtain ⟨r, hr, hrl, hj⟩ : ∃ r, rootSum [] = r ∧ r.length = 32 ∧ ∀ W : World, KsAt W → Calls Tryd.prog 26 #[.int .u8 3, .slice none 0 0] W fun e w' => e = .returned (.agg (cellsOf r).toArray) ∧ Below W.heap.size W w' := ⟨_, rfl, sumOf_len _, fun W hW => join_any 3 3 rfl (Rows2.nil W) hW (by decide)⟩
  rw [hr]
  have HK := Lib.hid hk
  have HJ := Lib.hid hj
  have szr : (Tryd.prog.info? 23).map (·.size) = some (cellsOf r).toArray.size := by rw [List.size_toArray, cellsOf_len, hrl]; exact Tryd.size23
  have hz : (cellsOf zero32).toArray.size = (cellsOf r).toArray.size := by rw [List.size_toArray, List.size_toArray, cellsOf_len, cellsOf_len, hrl]; rfl
  have SZR := Lib.hid szr
  have HZ := Lib.hid hz
  clear hk hr hrl hj szr hz
  go_enter Tryd.func13, Tryd.ntmps13
  go_wp2_with fail
  rw [← zero32_is]
  have b1 : Below w.heap.size w (w.alloc (.cells (cellsOf zero32).toArray 23)) := (Below.refl _ _).alloc (Nat.le_refl _) _
  refine (HJ.out _ (HK.out.below b1)).mono ?_
  rintro e w5 ⟨rfl, hb5⟩
  have HB := Lib.hid (b1.trans (hb5.mono b1.size))
  have HT := Lib.hid ((hb5.block w.heap.size (by simp)).trans (heap_alloc_new _ _))
  clear b1 hb5
  go_wp2_with (refine wpList_store_row rfl 23 _ _ rfl w.heap.size (cellsOf r).toArray rfl rfl 23 (cellsOf zero32).toArray HT.out SZR.out HZ.out (all_oneCell_toArray (cellsOf_one r)) ?_)
  refine bodyPost_ret (results_cell_row rfl _ _ w.heap.size 23 (cellsOf r).toArray (0, 0) _ rfl (setRow_heap w5 w.heap.size _ _ 23 _ HT.out) Tryd.underlying23 rfl SZR.out) rfl ⟨rfl, ?_⟩
  exact HB.out.trans (((but_setRow _ w.heap.size _).mono HB.out.size).below (Nat.le_refl _))
set_option maxRecDepth 100000 in
set_option maxHeartbeats 1600000 in
theorem root_some {w : World} {a : Option Addr} {n c : Nat} {ls : List (List UInt8)} (h : Sums w a n c ls) (hk : KsAt w) (h0 : 0 < n) (hn : n ≤ 100000) :
    Calls Tryd.prog 13 #[.slice a n c] w fun e w' => e = .returned (.agg (cellsOf (top pairSum (ls.map leafSum))).toArray) ∧ Below w.heap.size w w' := by
  obtain ⟨T, hT⟩ : ∃ T, T = top pairSum (ls.map leafSum) := ⟨_, rfl⟩
  rw [← hT]
  have H := Lib.hid h
  have HK := Lib.hid hk
  have HTT := Lib.hid hT
  clear h hk hT
  go_enter Tryd.func13, Tryd.ntmps13
  go_wp2_with fail
  rw [← zero32_is]
  have b1 : Below w.heap.size w (w.alloc (.cells (cellsOf zero32).toArray 23)) := (Below.refl _ _).alloc (Nat.le_refl _) _
  have h1 : (w.alloc (.cells (cellsOf zero32).toArray 23)).heap[w.heap.size]? = some (.cells (cellsOf zero32).toArray 23 (0, 0)) := heap_alloc_new _ _
  revert b1 h1
  generalize (w.alloc (.cells (cellsOf zero32).toArray 23)) = w1
  obtain ⟨g, hg⟩ : ∃ g, g = w.heap.size := ⟨_, rfl⟩
  rw [← hg]
  intro b1 h1
  rw [hg] at b1
  have HG := Lib.hid hg
  have HB1 := Lib.hid b1
  have H1 := Lib.hid h1
  clear b1 h1 hg
  refine (lowest_any (H.out.below HB1.out) (HK.out.below HB1.out) hn).mono ?_
  rintro e w2 ⟨rfl, hs2, hb2⟩
  have hru : RowUp w1 T (.slice (some ⟨w1.heap.size, 0, none⟩) n n) w2 := ⟨n, _, _, rfl, hs2, h0, hn, HTT.out.symm, hb2⟩
  have HRU := Lib.hid hru
  clear hs2 hb2 hru
  go_wp2_with fail
  go_loopw [3] (fun v wr => RowUp w1 T v wr) (fun v _ => lenV v)
  case atStart => exact HRU.out
  case round =>
    obtain ⟨k, a', row, rfl, hs, hk0, hkn, hT, hb⟩ := hrel
    have HS := Lib.hid hs
    have HT := Lib.hid hT
    have HB := Lib.hid hb
    clear hs hT hb HRU
    by_cases hk1 : 1 < k
    · have hr := (above_any HS.out ((HK.out.below HB1.out).below HB.out) hkn)
      have HR := Lib.hid hr
      clear hr
      have hki : (1 : Int) < (k : Int) := by omega
      go_wp2_with fail
      refine HR.out.mono ?_
      rintro e w3 ⟨rfl, hs3, hb3⟩
      have hru : RowUp w1 T (.slice (some ⟨wr.heap.size, 0, none⟩) ((k + 1) / 2) ((k + 1) / 2)) w3 := ⟨_, _, _, rfl, hs3, by omega, by omega, by rw [top_up (by rw [HS.out.len]; exact hk0)]; exact HT.out, HB.out.trans (hb3.mono HB.out.size)⟩
      have HRU := Lib.hid hru
      clear hs3 hb3 hru
      go_wp2_with fail
      go_roundw
      case rel => exact HRU.out
      case measure => simp [lenV]; omega
    · have hk2 : k = 1 := by omega
      subst hk2
      obtain ⟨b, off, rfl, hlt, hcells⟩ := HS.out.2.2.2.2.2 (by omega)
      have hr := hcells 0 (by omega)
      have hl := HS.out.each (j := 0) (by omega)
      have hTr : row.getD 0 [] = T := by
        obtain ⟨x, hx⟩ := List.length_eq_one_iff.1 HS.out.len
        rw [← HT.out, hx]
        rfl
      rw [hTr] at hr hl
      have szr : (Tryd.prog.info? 23).map (·.size) = some (cellsOf T).length := by rw [cellsOf_len, hl]; exact Tryd.size23
      have hz : (cellsOf zero32).toArray.size = (cellsOf T).toArray.size := by rw [List.size_toArray, List.size_toArray, cellsOf_len, cellsOf_len, hl]; rfl
      have HT1 := Lib.hid ((HB.out.block _ (lt_of_block H1.out)).trans H1.out)
      rw [Nat.zero_mul, Nat.add_zero] at hr
      have HR := Lib.hid hr
      have SZR := Lib.hid szr
      have HZ := Lib.hid hz
      clear hcells hr hl hTr szr hz
      go_wp2_with (first | (refine wpList_load_mid rfl 23 _ rfl b off rfl (cellsOf T) _ HR.out Tryd.underlying23 rfl SZR.out ?_) | (refine wpList_store_row rfl 23 _ _ rfl g (cellsOf T).toArray rfl rfl 23 (cellsOf zero32).toArray HT1.out SZR.out HZ.out (all_oneCell_toArray (cellsOf_one T)) ?_))
      refine bodyPost_ret (results_cell_row rfl _ _ g 23 (cellsOf T).toArray (0, 0) _ rfl (setRow_heap wr g _ _ 23 _ HT1.out) Tryd.underlying23 rfl SZR.out) rfl ⟨rfl, ?_⟩
      have b7 : Below w.heap.size w wr := HB1.out.trans (HB.out.mono HB1.out.size)
      exact b7.trans (((but_setRow _ g _).mono b7.size).below (by rw [HG.out]; exact Nat.le_refl _))
theorem root_any {w : World} {a : Option Addr} {n c : Nat} {ls : List (List UInt8)} (h : Sums w a n c ls) (hk : KsAt w) (hn : n ≤ 100000) :
    Calls Tryd.prog 13 #[.slice a n c] w fun e w' => e = .returned (.agg (cellsOf (rootSum ls)).toArray) ∧ Below w.heap.size w w' := by
  by_cases h0 : n = 0
  · subst h0
    obtain rfl : ls = [] := List.eq_nil_of_length_eq_zero h.len
    exact root_none hk
  · have e : rootSum ls = top pairSum (ls.map leafSum) := by
      unfold rootSum
      rw [if_neg]
      intro h1
      have := h.len
      rw [List.isEmpty_iff] at h1
      subst h1
      exact h0 this.symm
    rw [e]
    exact root_some h hk (by omega) hn
end Go.Proofs.YtlnenkmcegadmaaDoor
namespace Go.Proofs.YtlnenkmcegadmaaDoor
open Go.RowKit

set_option maxRecDepth 100000 in
set_option maxHeartbeats 1600000 in
theorem check_out {w : World} {r s : List UInt8} {a : Option Addr} {k c : Nat} (i n : Int) (h : 4096 < n ∨ i < 0 ∨ n ≤ i) :
    Calls Tryd.prog 19 #[.agg (cellsOf r).toArray, .agg (cellsOf s).toArray, .int .i64 i, .int .i64 n, .slice a k c] w fun e w' => e = .returned (.bool false) ∧ Below w.heap.size w w' := by
  have b1 : Below w.heap.size w ((w.alloc (.cells (cellsOf r).toArray 23)).alloc (.cells (cellsOf s).toArray 23)) := ((Below.refl _ _).alloc (Nat.le_refl _) _).alloc (by simp) _
  have HB := Lib.hid b1
  clear b1
  by_cases h1 : 4096 < n
  · clear h
    go_enter Tryd.func19, Tryd.ntmps19
    go_wp2_with fail
    go_ret
    exact ⟨rfl, HB.out⟩
  · have h2 : i < 0 ∨ n ≤ i := by omega
    have HI := Lib.hid h2
    clear h h2
    go_enter Tryd.func19, Tryd.ntmps19
    go_wp2_with (go_at_call 31; refine (isPlace_no i n HI.out _).mono ?_; rintro e w' ⟨rfl, rfl⟩)
    go_ret
    exact ⟨rfl, HB.out⟩

/-- A path under way up: from w on, over the block g. -/
def WayUp (w : World) (g : Nat) (R : Option (List UInt8)) (x y v : Value) (wr : World) : Prop :=
  ∃ (d i n k c : Nat) (a : Option Addr) (left : List (List UInt8)) (now : List UInt8), x = .int .i64 i ∧ y = .int .i64 n ∧ v = .slice a k c ∧ i < n ∧ n ≤ 2 ^ d ∧ n ≤ 4096 ∧ Sums w a k c left ∧ now.length = 32 ∧
    wr.heap[g]? = some (.cells (cellsOf now).toArray 23 (0, 0)) ∧ w.heap.size ≤ g ∧ Below w.heap.size w wr ∧ ascend pairSum d now i n left = R
def manyOf : Value → Nat
  | .int _ n => n.toNat
  | _ => 0
theorem ascend_end {d n i : Nat} {now : List UInt8} {left : List (List UInt8)} (h : n ≤ 1) : ascend pairSum d now i n left = if left.isEmpty then some now else none := by
  cases d with
  | zero => rfl
  | succ d => unfold ascend; rw [if_pos h]
theorem ascend_step {d n i : Nat} {now t : List UInt8} {left : List (List UInt8)} (h : ¬ n ≤ 1) (hb : beside i < n) (hl : 0 < left.length) (ht : left.getD 0 [] = t) : ascend pairSum (d + 1) now i n left = ascend pairSum d (joinOf i now t) (i / 2) ((n + 1) / 2) (left.drop 1) := by
  cases left with
  | nil => cases hl
  | cons x q =>
    have hx : x = t := ht
    subst hx
    conv => lhs; unfold ascend
    rw [if_neg h, if_pos hb]
    rfl
theorem ascend_skip {d n i : Nat} {now : List UInt8} {left : List (List UInt8)} (h : ¬ n ≤ 1) (hb : ¬ beside i < n) : ascend pairSum (d + 1) now i n left = ascend pairSum d now (i / 2) ((n + 1) / 2) left := by
  conv => lhs; unfold ascend
  rw [if_neg h, if_neg hb]
theorem ascend_lack {d n i : Nat} {now : List UInt8} (h : ¬ n ≤ 1) (hb : beside i < n) : ascend pairSum (d + 1) now i n [] = none := by
  unfold ascend
  rw [if_neg h, if_pos hb]

set_option linter.unusedSimpArgs false in
set_option maxRecDepth 100000 in
set_option maxHeartbeats 3200000 in
theorem check_in {w : World} {r s : List UInt8} {a : Option Addr} {k c : Nat} {p : List (List UInt8)} (i n : Nat) (hi : i < n) (hn : n ≤ 4096) (hr : r.length = 32) (hs : s.length = 32) (h : Sums w a k c p) (hk : KsAt w) :
    Calls Tryd.prog 19 #[.agg (cellsOf r).toArray, .agg (cellsOf s).toArray, .int .i64 (i : Int), .int .i64 (n : Int), .slice a k c] w fun e w' => e = .returned (.bool (decide (ascend pairSum 12 (leafSum s) i n p = some r))) ∧ Below w.heap.size w w' := by
  obtain ⟨l, hl, hll, hlf⟩ : ∃ l, leafSum s = l ∧ l.length = 32 ∧ ∀ W : World, KsAt W → Calls Tryd.prog 33 #[.agg (cellsOf s).toArray] W fun e w' => e = .returned (.agg (cellsOf l).toArray) ∧ Below W.heap.size W w' := ⟨_, rfl, leafSum_len s, fun W hW => leaf_of hs hW⟩
  rw [hl]
  obtain ⟨R, hR⟩ : ∃ R, R = ascend pairSum 12 l i n p := ⟨_, rfl⟩
  rw [← hR]
  have szs : (Tryd.prog.info? 23).map (·.size) = some (cellsOf s).toArray.size := by rw [List.size_toArray, cellsOf_len, hs]; exact Tryd.size23
  have szr : (Tryd.prog.info? 23).map (·.size) = some (cellsOf r).toArray.size := by rw [List.size_toArray, cellsOf_len, hr]; exact Tryd.size23
  have szl : (Tryd.prog.info? 23).map (·.size) = some (cellsOf l).toArray.size := by rw [List.size_toArray, cellsOf_len, hll]; exact Tryd.size23
  have hz : (cellsOf zero32).toArray.size = (cellsOf l).toArray.size := by rw [List.size_toArray, List.size_toArray, cellsOf_len, cellsOf_len, hll]; rfl
  have H := Lib.hid h
  have HK := Lib.hid hk
  have HI := Lib.hid hi
  have HN := Lib.hid hn
  have HRL := Lib.hid hr
  have HLL := Lib.hid hll
  have HLF := Lib.hid hlf
  have HRR := Lib.hid hR
  have SZS := Lib.hid szs
  have SZR := Lib.hid szr
  have SZL := Lib.hid szl
  have HZ := Lib.hid hz
  have n0 : ¬ (4096 < (n : Int)) := by omega
  clear h hk hr hs hl hll hlf hR szs szr szl hz hi hn
  go_enter Tryd.func19, Tryd.ntmps19
  go_upto_region 1 with (fail)
  have b1 : Below w.heap.size w ((w.alloc (.cells (cellsOf r).toArray 23)).alloc (.cells (cellsOf s).toArray 23)) := ((Below.refl _ _).alloc (Nat.le_refl _) _).alloc (by simp) _
  have h1 : ((w.alloc (.cells (cellsOf r).toArray 23)).alloc (.cells (cellsOf s).toArray 23)).heap[w.heap.size]? = some (.cells (cellsOf r).toArray 23 (0, 0)) := by
    rw [heap_alloc_old _ _ (by simp), heap_alloc_new]
  have h2 : ((w.alloc (.cells (cellsOf r).toArray 23)).alloc (.cells (cellsOf s).toArray 23)).heap[w.heap.size + 1]? = some (.cells (cellsOf s).toArray 23 (0, 0)) := heap_alloc_at _ _ _ (by simp)
  revert b1 h1 h2
  generalize ((w.alloc (.cells (cellsOf r).toArray 23)).alloc (.cells (cellsOf s).toArray 23)) = w1
  obtain ⟨g, hg⟩ : ∃ g, g = w.heap.size := ⟨_, rfl⟩
  rw [← hg]
  intro b1 h1 h2
  rw [hg] at b1
  have HG := Lib.hid hg
  have HB1 := Lib.hid b1
  have H1 := Lib.hid h1
  have H2 := Lib.hid h2
  clear b1 h1 h2 hg
  go_wp2_with (first | (go_at_call 31; (with_reducible refine (isPlace_yes i n HI.out _).mono ?_); rintro e w' ⟨rfl, rfl⟩) | (refine wpList_load_row rfl 23 _ rfl (g + 1) rfl 23 (cellsOf s).toArray (0, 0) _ H2.out Tryd.underlying23 rfl SZS.out ?_) | fail)
  refine (HLF.out _ (HK.out.below HB1.out)).mono ?_
  rintro e w2 ⟨rfl, hb2⟩
  have HB2 := Lib.hid hb2
  clear hb2
  go_wp2_with (refine wpList_store_row rfl 23 _ _ rfl w2.heap.size (cellsOf l).toArray rfl rfl 23 (cellsOf zero32).toArray (heap_alloc_new _ _) SZL.out HZ.out (all_oneCell_toArray (cellsOf_one l)) ?_)
  rw [← zero32_is]
  have b3 : Below w1.heap.size w1 ((w2.alloc (.cells (cellsOf zero32).toArray 23)).setRow w2.heap.size (cellsOf l).toArray) := by
    have b : Below w1.heap.size w1 (w2.alloc (.cells (cellsOf zero32).toArray 23)) := HB2.out.alloc HB2.out.size _
    exact b.trans (((but_setRow _ w2.heap.size _).mono b.size).below HB2.out.size)
  have h3 : ((w2.alloc (.cells (cellsOf zero32).toArray 23)).setRow w2.heap.size (cellsOf l).toArray).heap[w2.heap.size]? = some (.cells (cellsOf l).toArray 23 (0, 0)) := setRow_heap _ _ _ _ _ _ (heap_alloc_new _ _)
  revert b3 h3
  generalize ((w2.alloc (.cells (cellsOf zero32).toArray 23)).setRow w2.heap.size (cellsOf l).toArray) = w3
  obtain ⟨q, hq⟩ : ∃ q, q = w2.heap.size := ⟨_, rfl⟩
  rw [← hq]
  intro b3 h3
  have hq1 : w1.heap.size ≤ q := by rw [hq]; exact HB2.out.size
  have HR5 : Hid (w1.heap[g]? = some (.cells (cellsOf r).toArray 23 (0, 0))) := H1
  have hwu : WayUp w1 q R (.int .i64 (i : Int)) (.int .i64 (n : Int)) (.slice a k c) w3 := ⟨12, i, n, k, c, a, p, l, rfl, rfl, rfl, HI.out, HN.out, HN.out, H.out.below HB1.out, HLL.out, h3, hq1, b3, HRR.out.symm⟩
  have HWU := Lib.hid hwu
  clear b3 h3 hq hq1 hwu n0
  go_loopw [2, 3, 12] (fun x y v wr => WayUp w1 q R x y v wr) (fun _ y _ _ => manyOf y)
  case atStart => exact HWU.out
  case round =>
    obtain ⟨d, i, n, k, c, a, left, now, rfl, rfl, rfl, hin, hnd, hn, hs, hnl, hg, hwq, hb, hR⟩ := hrel
    have HS := Lib.hid hs
    have HNL := Lib.hid hnl
    have HGQ := Lib.hid hg
    have HWQ := Lib.hid hwq
    have HB := Lib.hid hb
    have HRA := Lib.hid hR
    have HIN := Lib.hid hin
    have HND := Lib.hid hnd
    have HN4 := Lib.hid hn
    have szn : (Tryd.prog.info? 23).map (·.size) = some (cellsOf now).toArray.size := by rw [List.size_toArray, cellsOf_len, hnl]; exact Tryd.size23
    have SZN := Lib.hid szn
    have hbs := beside_any i (by omega)
    have HBS := Lib.hid hbs
    have hps := pairs_any n (by omega)
    have HPS := Lib.hid hps
    have HR6 := Lib.hid ((hb.block _ (lt_of_block HR5.out)).trans HR5.out)
    have i0 : (0 : Int) ≤ (i : Int) := by omega
    have i1 : (i : Int) < 4096 := by omega
    have hn2 : ((n : Int) + 1) / 2 = (((n + 1) / 2 : Nat) : Int) := by omega
    have HN2 := Lib.hid hn2
    clear hn2
    have hdiv : (i : Int) / 2 = ((i / 2 : Nat) : Int) := by omega
    have HDIV := Lib.hid hdiv
    clear hs hnl hg hwq hb hR hin hnd hn HWU szn hbs hps hdiv HI HN HRR H
    by_cases hn1 : n ≤ 1
    · have h1 : ¬ ((1 : Int) < (n : Int)) := by omega
      have he := ascend_end (d := d) (i := i) (now := now) (left := left) hn1
      rw [HRA.out] at he
      have HE := Lib.hid he
      clear he hn1
      by_cases hk0 : k = 0
      · subst hk0
        have q1 : ∀ W : World, (Op.equalIn 10000 23 (.agg (cellsOf now).toArray) (.agg (cellsOf r).toArray)).run Tryd.prog W = .ok (decide (now = r)) W := fun W => run_eqSums now r HNL.out HRL.out W
        go_wp2_with (first | (refine wpList_load_wanted (by rfl) 23 _ rfl q rfl 23 (cellsOf now).toArray (0, 0) _ HGQ.out Tryd.underlying23 rfl SZN.out ?_) | (refine wpList_load_wanted (by rfl) 23 _ rfl g rfl 23 (cellsOf r).toArray (0, 0) _ HR6.out Tryd.underlying23 rfl SZR.out ?_))
        go_ret
        have hl : left = [] := List.eq_nil_of_length_eq_zero HS.out.len
        have he := HE.out
        rw [hl] at he
        refine ⟨?_, HB1.out.trans (HB.out.mono HB1.out.size)⟩
        rw [he]
        show Ending.returned (.bool (decide (now = r))) = Ending.returned (.bool (decide (some now = some r)))
        congr 2
        rw [decide_eq_decide]
        exact ⟨fun h => by rw [h], fun h => Option.some.inj h⟩
      · have k0 : ¬ ((k : Int) = 0) := by omega
        go_wp2_with fail
        go_ret
        have hl : left.isEmpty = false := by
          cases hle : left with
          | nil => have := HS.out.len; rw [hle] at this; exact absurd this.symm hk0
          | cons x y => rfl
        have he := HE.out
        rw [hl] at he
        refine ⟨?_, HB1.out.trans (HB.out.mono HB1.out.size)⟩
        rw [he]
        rfl
    · have h1 : (1 : Int) < (n : Int) := by omega
      obtain ⟨d, rfl⟩ : ∃ d', d = d' + 1 := by
        cases d with
        | zero => have := HND.out; simp at this; omega
        | succ d => exact ⟨d, rfl⟩
      by_cases hbn : beside i < n
      · have b0 : ¬ ((n : Int) ≤ ((beside i : Nat) : Int)) := by omega
        by_cases hk0 : k = 0
        · subst hk0
          have hl : left = [] := List.eq_nil_of_length_eq_zero HS.out.len
          have he : ascend pairSum (d + 1) now i n left = none := by rw [hl]; exact ascend_lack hn1 hbn
          rw [HRA.out] at he
          have HE := Lib.hid he
          clear hl he hbn hn1
          go_wp2_with (go_at_call 32; (with_reducible refine (HBS.out _).mono ?_); rintro e w' ⟨rfl, rfl⟩)
          go_ret
          refine ⟨?_, HB1.out.trans (HB.out.mono HB1.out.size)⟩
          rw [HE.out]
          rfl
        · obtain ⟨b, off, rfl, hlt, hcells⟩ := HS.out.2.2.2.2.2 (by omega)
          have hrt := hcells 0 (by omega)
          have htl := HS.out.each (j := 0) (by omega)
          obtain ⟨t, het⟩ : ∃ t, left.getD 0 [] = t := ⟨_, rfl⟩
          rw [het] at hrt htl
          rw [Nat.zero_mul, Nat.add_zero] at hrt
          have hst := ascend_step (d := d) (now := now) hn1 hbn (by rw [HS.out.len]; omega) het
          rw [HRA.out] at hst
          have hib : i < 4611686018427387904 := by have := HIN.out; have := HN4.out; omega
          obtain ⟨jo, hjo', hjl, hjo⟩ : ∃ jo, joinOf i now t = jo ∧ jo.length = 32 ∧ ∀ W : World, KsAt W → Calls Tryd.prog 35 #[.agg (cellsOf now).toArray, .agg (cellsOf t).toArray, .int .i64 (i : Int)] W fun e w' => e = .returned (.agg (cellsOf jo).toArray) ∧ Below W.heap.size W w' := ⟨_, rfl, joinOf_len _ _ _, fun W hW => joined_any i hib HNL.out htl hW⟩
          rw [hjo'] at hst
          have szt : (Tryd.prog.info? 23).map (·.size) = some (cellsOf t).length := by rw [cellsOf_len, htl]; exact Tryd.size23
          have szj : (Tryd.prog.info? 23).map (·.size) = some (cellsOf jo).toArray.size := by rw [List.size_toArray, cellsOf_len, hjl]; exact Tryd.size23
          have hzj : (cellsOf now).toArray.size = (cellsOf jo).toArray.size := by rw [List.size_toArray, List.size_toArray, cellsOf_len, cellsOf_len, hjl, HNL.out]
          have HRT := Lib.hid hrt
          have HRN := Lib.hid hst.symm
          have HJL := Lib.hid hjl
          have HJO := Lib.hid hjo
          have SZT := Lib.hid szt
          have SZJ := Lib.hid szj
          have HZJ := Lib.hid hzj
          obtain ⟨a2, ha2⟩ : ∃ a2, (if c = 1 then some ⟨b, off, none⟩ else (some ⟨b, off, none⟩ : Option Addr).map (·.add (1 * 32))) = a2 := ⟨_, rfl⟩
          have HA2 := Lib.hid ha2
          clear ha2
          have k0 : ¬ ((k : Int) = 0) := by omega
          have hk1 : 0 < k := by omega
          clear hcells hrt htl het hst hjo' hjl hjo szt szj hzj hib hbn
          go_wp2_with (go_at_call 32; (with_reducible refine (HBS.out _).mono ?_); rintro e w' ⟨rfl, rfl⟩)
          refine wp_region_held_drew (S := fun w' => Below w1.heap.size w1 w') (by kernel_rfl) (below_drew HB.out) (fun hHeld => ?_)
          refine take_at (i := 1) (v := ?_) rfl rfl (by kernel_rfl) (by kernel_rfl) (by kernel_rfl) (fun _ _ _ h => h) (Or.inl ⟨by rfl, ?_⟩) (by assumption) ?_
          rotate_left
          · intro w0 hSw; (try dsimp only at hSw); first | (go_simp; done) | (go_simp; with_reducible rfl)
          simp only [List.setIfInBounds_toArray, List.set_cons_zero, List.set_cons_succ]
          refine take_at (i := 2) (v := ?_) rfl rfl (by kernel_rfl) (by kernel_rfl) (by kernel_rfl) (fun _ _ _ h => h) (Or.inl ⟨by rfl, ?_⟩) (by assumption) ?_
          rotate_left
          · intro w0 hSw; (try dsimp only at hSw); first | (go_simp; done) | (go_simp; with_reducible rfl)
          simp only [List.setIfInBounds_toArray, List.set_cons_zero, List.set_cons_succ]
          refine take_at (i := 3) rfl rfl (by kernel_rfl) (by kernel_rfl) (by kernel_rfl) (fun _ _ _ h => h) (yieldsIf_load_mid (by rfl) _ _ rfl b off rfl (cellsOf t) _ (fun w0 hSw => rangeAt_below HRT.out hlt hSw) Tryd.underlying23 rfl SZT.out) (by assumption) ?_
          simp only [List.setIfInBounds_toArray, List.set_cons_zero, List.set_cons_succ]
          refine take_at (i := 4) (v := ?_) rfl rfl (by kernel_rfl) (by kernel_rfl) (by kernel_rfl) (fun _ _ _ h => h) (Or.inl ⟨by rfl, ?_⟩) (by assumption) ?_
          rotate_left
          · intro w0 hSw; (try dsimp only at hSw); first | (go_simp; done) | (go_simp; with_reducible rfl)
          simp only [List.setIfInBounds_toArray, List.set_cons_zero, List.set_cons_succ]
          refine take_at (i := 6) (v := ?_) rfl rfl (by kernel_rfl) (by kernel_rfl) (by kernel_rfl) (fun _ _ _ h => h) (Or.inl ⟨by rfl, ?_⟩) (by assumption) ?_
          rotate_left
          · intro w0 hSw; (try dsimp only at hSw); first | (go_simp; done) | (go_simp; with_reducible rfl)
          simp only [List.setIfInBounds_toArray, List.set_cons_zero, List.set_cons_succ]
          refine take_at (i := 7) (v := .slice a2 (k - 1) (c - 1)) rfl rfl (by kernel_rfl) (by kernel_rfl) (by kernel_rfl) (fun _ _ _ h => h) (by rw [← HA2.out]; exact yields_from (A := 1) (by rfl) rfl rfl rfl (by omega)) (by assumption) ?_
          simp only [List.setIfInBounds_toArray, List.set_cons_zero, List.set_cons_succ]
          refine wpAnyH_ready (rs := [0]) (by kernel_rfl) (by simp) ?_
          refine AllReadyH.cons rfl (fun K hK => ?_) ?_
          · rw [if_pos (by rfl)]
            refine wp_load_row 23 _ rfl q rfl 23 (cellsOf now).toArray (0, 0) _ HGQ.out Tryd.underlying23 rfl SZN.out ?_
            refine hK.out _ _ (by (try dsimp only); exact hHeld) (fun hHeld => ?_)
            clear hK K
            refine wpAnyH_ready (rs := [5]) (by kernel_rfl) (by simp) ?_
            refine AllReadyH.cons rfl (fun K hK => ?_) ?_
            · go_simp
              go_wp2_with ((go_at_call 35; (with_reducible refine (HJO.out _ ((HK.out.below HB1.out).below hHeld)).mono ?_); rintro e w5 ⟨rfl, hb5⟩; have HB5 := Lib.hid hb5; clear hb5))
              refine hK.out _ _ (by (try dsimp only); exact Below.trans hHeld (HB5.out.mono (Below.size hHeld))) (fun hHeld => ?_)
              clear hK K
              refine wpAnyH_ready (rs := [8]) (by kernel_rfl) (by simp) ?_
              refine AllReadyH.cons rfl (fun K hK => ?_) ?_
              · have hq5 := (HB5.out.block q (lt_of_block HGQ.out)).trans HGQ.out
                have HQ5 := Lib.hid hq5
                have b6 : Below w1.heap.size w1 (w5.setRow q (cellsOf jo).toArray) := by
                  have b5 : Below w1.heap.size w1 w5 := hHeld
                  exact b5.trans (((but_setRow _ q _).mono b5.size).below HWQ.out)
                have HB6 := Lib.hid b6
                have HQ6 := Lib.hid (setRow_heap w5 q _ (cellsOf jo).toArray 23 _ HQ5.out)
                clear hq5 b6
                rw [if_pos (by rfl)]
                refine wp_store_row 23 _ _ rfl q (cellsOf jo).toArray rfl rfl 23 (cellsOf now).toArray HQ5.out SZJ.out HZJ.out (all_oneCell_toArray (cellsOf_one jo)) ?_
                refine hK.out _ _ (by (try dsimp only); exact HB6.out) (fun hHeld => ?_)
                clear hK K
                refine take_at (i := 9) (v := ?_) rfl rfl (by kernel_rfl) (by kernel_rfl) (by kernel_rfl) (fun _ _ _ h => h) (Or.inl ⟨by rfl, ?_⟩) (by assumption) ?_
                rotate_left
                · intro w0 hSw; (try dsimp only at hSw); first | (go_simp; done) | (go_simp; with_reducible rfl)
                simp only [List.setIfInBounds_toArray, List.set_cons_zero, List.set_cons_succ]
                refine wpAnyH_done (by kernel_rfl) ?_ _
                have hwu : WayUp w1 q R (.int .i64 ((i / 2 : Nat) : Int)) (.int .i64 (((n + 1) / 2 : Nat) : Int)) (.slice a2 (k - 1) (c - 1)) (w5.setRow q (cellsOf jo).toArray) := ⟨d, i / 2, (n + 1) / 2, k - 1, c - 1, _, left.drop 1, jo, rfl, rfl, rfl, (half_lt HIN.out hn1).1, by have := HND.out; rw [Nat.pow_succ] at this; omega, by have := HN4.out; omega, (by have := HS.out.from (A := 1) (by omega); rw [HA2.out] at this; exact this), HJL.out, HQ6.out, HWQ.out, HB6.out, HRN.out⟩
                have HWU := Lib.hid hwu
                clear hwu
                go_wp2_with (go_at_call 34; (with_reducible refine (HPS.out _).mono ?_); rintro e w' ⟨rfl, rfl⟩)
                go_roundw
                case rel => exact (by first | (rw [HDIV.out, HN2.out]; exact HWU.out) | (rw [HDIV.out]; exact HWU.out))
                case measure => simp [manyOf]; omega
              exact AllReadyH.nil
            exact AllReadyH.nil
          exact AllReadyH.nil
      · have b0 : (n : Int) ≤ ((beside i : Nat) : Int) := by omega
        have he := ascend_skip (d := d) (now := now) (left := left) hn1 hbn
        rw [HRA.out] at he
        have hwu : WayUp w1 q R (.int .i64 ((i / 2 : Nat) : Int)) (.int .i64 (((n + 1) / 2 : Nat) : Int)) (.slice a k c) wr := ⟨d, i / 2, (n + 1) / 2, k, c, _, left, now, rfl, rfl, rfl, (half_lt HIN.out hn1).1, by have := HND.out; rw [Nat.pow_succ] at this; omega, by have := HN4.out; omega, HS.out, HNL.out, HGQ.out, HWQ.out, HB.out, he.symm⟩
        have HWU := Lib.hid hwu
        clear he hwu hbn
        go_wp2_with (first | (go_at_call 32; (with_reducible refine (HBS.out _).mono ?_); rintro e w' ⟨rfl, rfl⟩) | (go_at_call 34; (with_reducible refine (HPS.out _).mono ?_); rintro e w' ⟨rfl, rfl⟩))
        go_roundw
        case rel => exact (by first | (rw [HDIV.out, HN2.out]; exact HWU.out) | (rw [HDIV.out]; exact HWU.out))
        case measure => simp [manyOf]; omega
end Go.Proofs.YtlnenkmcegadmaaDoor
namespace Go.Proofs.YtlnenkmcegadmaaDoor
open Go.RowKit

theorem Sums.grown {w w' : World} {n c : Nat} {a : Option Addr} {ls : List (List UInt8)} {row : Option Nat} (h : Sums w a n c ls) (hg : w.grownBy w' row) (hoff : ∀ g, row = some g → Off g a n) : Sums w' a n c ls := by
  obtain ⟨h1, h2, h3, h4, h6, h5⟩ := h
  refine ⟨h1, h2, h3, h4, h6, fun h0 => ?_⟩
  obtain ⟨b, off, rfl, hlt, hc⟩ := h5 h0
  refine ⟨b, off, rfl, Nat.lt_of_lt_of_le hlt hg.size, fun j hj i v hv => ?_⟩
  exact hg.cell (hc j hj i v hv) (fun e => hoff b e.symm h0 b off rfl rfl)
theorem OwnS.grows {w w' : World} {B : Nat} {v : Value} {ls : List (List UInt8)} (h : OwnS w B v ls) (hg : w.grownBy w' v.ownBlock) (hB : B ≤ w.heap.size) : Below B w w' :=
  ⟨hg.os, hg.tape, hg.output, hg.size, fun k hk => hg.block k (by omega) (fun e => by have := (h.lt k e.symm).1; omega)⟩
/-- What Path tells: a slice that reads as the path, and true. -/
def PathIs (w : World) (q : List (List UInt8)) (e : Ending) (w' : World) : Prop :=
  ∃ (a : Option Addr) (c : Nat), e = .returned (.tuple #[.slice a q.length c, .bool true]) ∧ Sums w' a q.length c q ∧ Below w.heap.size w w'
/-- The same, and that the path lies in new blocks. -/
def PathNew (w : World) (q : List (List UInt8)) (e : Ending) (w' : World) : Prop :=
  ∃ (a : Option Addr) (c : Nat), e = .returned (.tuple #[.slice a q.length c, .bool true]) ∧ Sums w' a q.length c q ∧ Below w.heap.size w w' ∧ ∀ x, a = some x → w.heap.size ≤ x.block
/-- A path under way. -/
def Going (w : World) (R : List (List UInt8)) (x v r : Value) (wr : World) : Prop :=
  ∃ (d i k : Nat) (a : Option Addr) (row acc : List (List UInt8)), x = .int .i64 i ∧ r = .slice a k k ∧ Sums wr a k k row ∧ i < k ∧ k ≤ 2 ^ d ∧ k ≤ 100000 ∧ acc.length + d ≤ 17 ∧ OwnS wr w.heap.size v acc ∧ (∀ g, v.ownBlock = some g → Off g a k) ∧ Below w.heap.size w wr ∧ acc ++ way pairSum d i row = R
theorem way_end {d i : Nat} {row : List (List UInt8)} (h : row.length = 1) (hi : i < 1) : way pairSum d i row = [] := by
  obtain ⟨x, rfl⟩ := List.length_eq_one_iff.1 h
  obtain rfl : i = 0 := by omega
  exact way_one pairSum x d
theorem way_step {d i : Nat} {row : List (List UInt8)} {s : List UInt8} (hb : beside i < row.length) (hs : row.getD (beside i) [] = s) : way pairSum (d + 1) i row = [s] ++ way pairSum d (i / 2) (up pairSum row) := by
  show row[beside i]?.toList ++ _ = _
  rw [List.getElem?_eq_getElem hb]
  have : row[beside i] = s := by rw [← hs]; simp [List.getD, hb]
  rw [this]
  rfl
theorem way_skip {d i : Nat} {row : List (List UInt8)} (hb : ¬ beside i < row.length) : way pairSum (d + 1) i row = way pairSum d (i / 2) (up pairSum row) := by
  show row[beside i]?.toList ++ _ = _
  rw [List.getElem?_eq_none (by omega)]
  rfl
theorem off_new {w : World} {g n : Nat} (h : g < w.heap.size) : Off g (some ⟨w.heap.size, 0, none⟩) n := fun _ b off e => by cases e; omega
set_option maxRecDepth 100000 in
set_option maxHeartbeats 1600000 in
theorem path_out {w : World} {a : Option Addr} {n c : Nat} (i : Int) (h : i < 0 ∨ (n : Int) ≤ i) :
    Calls Tryd.prog 18 #[.int .i64 i, .slice a n c] w fun e w' => e = .returned (.tuple #[.slice none 0 0, .bool false]) ∧ Below w.heap.size w w' := by
  have HI := Lib.hid h
  clear h
  go_enter Tryd.func18, Tryd.ntmps18
  go_wp2_with (go_at_call 31; refine (isPlace_no i n HI.out _).mono ?_; rintro e w' ⟨rfl, rfl⟩)
  go_ret2
  exact ⟨rfl, Below.refl _ _⟩

set_option maxRecDepth 100000 in
set_option maxHeartbeats 3200000 in
theorem path_new {w : World} {a : Option Addr} {n c : Nat} {ls : List (List UInt8)} (i : Nat) (hi : i < n) (hn : n ≤ 100000) (h : Sums w a n c ls) (hk : KsAt w) :
    Calls Tryd.prog 18 #[.int .i64 (i : Int), .slice a n c] w fun e w' => PathNew w (pathOf pairSum i (ls.map leafSum)) e w' := by
  obtain ⟨R, hR⟩ : ∃ R, R = pathOf pairSum i (ls.map leafSum) := ⟨_, rfl⟩
  rw [← hR]
  have hway : way pairSum 17 i (ls.map leafSum) = R := by rw [hR]; exact way_path pairSum _ i 17 (by rw [List.length_map, h.len]; exact hi) (by rw [List.length_map, h.len]; omega)
  have H := Lib.hid h
  have HK := Lib.hid hk
  have HI := Lib.hid hi
  have HN := Lib.hid hn
  have HW := Lib.hid hway
  clear h hk hi hn hR hway
  go_enter Tryd.func18, Tryd.ntmps18
  go_wp2_with (first | (go_at_call 31; (with_reducible refine (isPlace_yes i n HI.out _).mono ?_); rintro e w' ⟨rfl, rfl⟩) | fail)
  refine (lowest_any H.out HK.out HN.out).mono ?_
  rintro e w2 ⟨rfl, hs2, hb2⟩
  have hgo : Going w R (.int .i64 (i : Int)) (.slice none 0 0) (.slice (some ⟨w.heap.size, 0, none⟩) n n) w2 := ⟨17, i, n, _, _, [], rfl, rfl, hs2, HI.out, by have := HN.out; omega, HN.out, by simp, OwnS.nil _ _, (fun g e => by cases e), hb2, HW.out⟩
  have HGO := Lib.hid hgo
  clear hs2 hb2 hgo
  go_wp2_with fail
  go_loopw [0, 6, 7] (fun x v r wr => Going w R x v r wr) (fun _ _ r _ => lenV r)
  case atStart => exact HGO.out
  case round =>
    obtain ⟨d, i, k, a, row, acc, rfl, rfl, hs, hik, hkd, hk, hacc, hown, hoff, hb, hR⟩ := hrel
    have HS := Lib.hid hs
    have HIK := Lib.hid hik
    have HKD := Lib.hid hkd
    have HKN := Lib.hid hk
    have HACC := Lib.hid hacc
    have HOWN := Lib.hid hown
    have HOFF := Lib.hid hoff
    have HB := Lib.hid hb
    have HRR := Lib.hid hR
    have hbs := beside_any i (by omega)
    have HBS := Lib.hid hbs
    have i0 : (0 : Int) ≤ (i : Int) := by omega
    have i1 : (i : Int) < 100000 := by omega
    have hdiv : (i : Int) / 2 = ((i / 2 : Nat) : Int) := by omega
    have HDIV := Lib.hid hdiv
    obtain ⟨va, vc, rfl, _⟩ := hown.shape
    have hab := fun (W : World) (hW : Sums W a k k row) (hkW : KsAt W) => above_any hW hkW hk
    have HAB := Lib.hid hab
    clear hs hkd hk hown hoff hb hR HGO hbs hdiv HI HN HW hab
    by_cases hk1 : k ≤ 1
    · have h1 : ¬ ((1 : Int) < (k : Int)) := by omega
      go_wp2_with fail
      go_ret2
      have e1 : i < 1 := by omega
      have e2 : row.length = 1 := by rw [HS.out.len]; omega
      have e := way_end (d := d) e2 e1
      have er := HRR.out
      rw [e, List.append_nil] at er
      subst er
      exact ⟨va, vc, rfl, HOWN.out.sums, HB.out, fun x e => by subst e; exact (HOWN.out.lt x.block rfl).1⟩
    · have h1 : (1 : Int) < (k : Int) := by omega
      obtain ⟨d, rfl⟩ : ∃ d', d = d' + 1 := by
        cases d with
        | zero => have := HKD.out; simp at this; omega
        | succ d => exact ⟨d, rfl⟩
      have hhalf := half_lt hik hk1
      have hp2 : (k + 1) / 2 ≤ 2 ^ d := by have := HKD.out; rw [Nat.pow_succ] at this; omega
      have HHALF := Lib.hid hhalf
      have HP2 := Lib.hid hp2
      have hk2 : 1 < k := by omega
      clear hhalf hp2 hik hk1
      by_cases hbn : beside i < k
      · obtain ⟨b, off, rfl, hlt, hcells⟩ := HS.out.2.2.2.2.2 (by omega)
        have hrt := hcells _ hbn
        have htl := HS.out.each hbn
        obtain ⟨t, het⟩ : ∃ t, row.getD (beside i) [] = t := ⟨_, rfl⟩
        rw [het] at hrt htl
        have hst := way_step (d := d) (row := row) (by rw [HS.out.len]; exact hbn) het
        have szt : (Tryd.prog.info? 23).map (·.size) = some (cellsOf t).length := by rw [cellsOf_len, htl]; exact Tryd.size23
        have HRT := Lib.hid hrt
        have HTL := Lib.hid htl
        have SZT := Lib.hid szt
        have HST := Lib.hid hst
        obtain ⟨B, hB⟩ : ∃ B, B = beside i := ⟨_, rfl⟩
        rw [← hB] at HBS hbn HRT
        clear hcells hrt htl het szt hst hB
        have b1 : Below wr.heap.size wr (wr.alloc (.cells (cellsOf t).toArray 23)) := (Below.refl _ _).alloc (Nat.le_refl _) _
        have hlit := own_lit (w := wr) (B := w.heap.size) [t] (by simp [HTL.out]) HB.out.size 1 rfl (by omega)
        rw [seqCells_single] at hlit
        have HL1 := Lib.hid hlit.sums
        have HO1 := Lib.hid (HOWN.out.below b1)
        have hsz : w.heap.size ≤ (wr.alloc (.cells (cellsOf t).toArray 23)).heap.size := Nat.le_trans HB.out.size b1.size
        have HSZ := Lib.hid hsz
        have HB1 := Lib.hid b1
        clear b1 hlit hsz
        go_wp2_with (first | (go_at_call 32; (with_reducible refine (HBS.out _).mono ?_); rintro e w' ⟨rfl, rfl⟩) | (refine wpList_load_mid rfl 23 _ rfl b (off + B * 32) rfl (cellsOf t) _ HRT.out Tryd.underlying23 rfl SZT.out ?_) | (refine wpList_build1 rfl _ rfl rfl HTL.out ?_) | (at_builtin; refine wpList_append_sums rfl _ _ rfl rfl w.heap.size (.slice va acc.length vc) acc acc.length rfl rfl HO1.out _ 1 1 [t] rfl HL1.out (by have := HACC.out; omega) HSZ.out ?_; intro a' c' w4 ho4 hg4) | fail)
        have hs4 := (HS.out.below HB1.out).grown hg4 (fun g e => HOFF.out g e)
        have hb4 : Below w.heap.size w w4 := (HB.out.trans (HB1.out.mono HB.out.size)).trans (HO1.out.grows hg4 HSZ.out)
        have HS4 := Lib.hid hs4
        have HB4 := Lib.hid hb4
        have HO4 := Lib.hid ho4
        clear hs4 hb4 ho4 hg4
        refine (HAB.out _ HS4.out (HK.out.below HB4.out)).mono ?_
        rintro e w5 ⟨rfl, hs5, hb5⟩
        have hgo : Going w R (.int .i64 ((i / 2 : Nat) : Int)) (.slice a' (acc.length + 1) c') (.slice (some ⟨w4.heap.size, 0, none⟩) ((k + 1) / 2) ((k + 1) / 2)) w5 := ⟨d, i / 2, (k + 1) / 2, _, up pairSum row, acc ++ [t], rfl, rfl, hs5, HHALF.out.1, HP2.out, by have := HKN.out; omega, by rw [List.length_append]; simp; have := HACC.out; omega, HO4.out.below hb5, (fun g e => off_new (HO4.out.lt g e).2), HB4.out.trans (hb5.mono HB4.out.size), by rw [List.append_assoc, ← HST.out]; exact HRR.out⟩
        have HGO := Lib.hid hgo
        clear hs5 hb5 hgo
        go_wp2_with fail
        go_roundw
        case rel => exact (by rw [HDIV.out]; exact HGO.out)
        case measure => simp [lenV]; omega
      · have hbk : ¬ beside i < row.length := by rw [HS.out.len]; exact hbn
        have hst := way_skip (d := d) hbk
        have HST := Lib.hid hst
        obtain ⟨B, hB⟩ : ∃ B, B = beside i := ⟨_, rfl⟩
        rw [← hB] at HBS hbn
        clear hst hB hbk
        go_wp2_with (first | (go_at_call 32; (with_reducible refine (HBS.out _).mono ?_); rintro e w' ⟨rfl, rfl⟩) | fail)
        refine (HAB.out _ HS.out (HK.out.below HB.out)).mono ?_
        rintro e w5 ⟨rfl, hs5, hb5⟩
        have hgo : Going w R (.int .i64 ((i / 2 : Nat) : Int)) (.slice va acc.length vc) (.slice (some ⟨wr.heap.size, 0, none⟩) ((k + 1) / 2) ((k + 1) / 2)) w5 := ⟨d, i / 2, (k + 1) / 2, _, up pairSum row, acc, rfl, rfl, hs5, HHALF.out.1, HP2.out, by have := HKN.out; omega, by have := HACC.out; omega, HOWN.out.below hb5, (fun g e => off_new (HOWN.out.lt g e).2), HB.out.trans (hb5.mono HB.out.size), by rw [← HST.out]; exact HRR.out⟩
        have HGO := Lib.hid hgo
        clear hs5 hb5 hgo
        go_wp2_with fail
        go_roundw
        case rel => exact (by rw [HDIV.out]; exact HGO.out)
        case measure => simp [lenV]; omega
theorem path_in {w : World} {a : Option Addr} {n c : Nat} {ls : List (List UInt8)} (i : Nat) (hi : i < n) (hn : n ≤ 100000) (h : Sums w a n c ls) (hk : KsAt w) :
    Calls Tryd.prog 18 #[.int .i64 (i : Int), .slice a n c] w fun e w' => PathIs w (pathOf pairSum i (ls.map leafSum)) e w' :=
  (path_new i hi hn h hk).mono fun _ _ ⟨a, c, h1, h2, h3, _⟩ => ⟨a, c, h1, h2, h3⟩
end Go.Proofs.YtlnenkmcegadmaaDoor
