/- Rows of whatever is joined in pairs: the document's rows, the halves, the path of a place and what a path leads to. No program is named. The sums that the example of chapter 3 speaks of. No program is named. A slice of sums (32 bytes each, in a row): what it reads as; how it is cut, made, stored into, joined to; a literal of one or two sums. No function of the program is named. -/
import Derived.Test.YthpkafjonelanaaDoorSha
import Derived.Test.YthpkafjonelanaaDoorMemory
import Derived.OwnWalk
import Derived.Great.BuildSlice
namespace Go.Proofs.YthpkafjonelanaaDoor
section
variable {α : Type} (f : α → α → α)

/-- The row above. -/
def up : List α → List α
  | a :: b :: l => f a b :: up l
  | l => l
theorem up_len : ∀ l : List α, (up f l).length = (l.length + 1) / 2
  | [] => by simp [up]
  | [a] => by simp [up]
  | a :: b :: l => by
    have := up_len l
    simp only [up, List.length_cons, this]; omega
theorem up_append : ∀ l m : List α, l.length % 2 = 0 → up f (l ++ m) = up f l ++ up f m
  | [], m, _ => by simp [up]
  | [a], m, h => by simp at h
  | a :: b :: l, m, h => by
    have := up_append l m (by simp at h; omega)
    simp [up, this]
/-- The k-th row above. -/
def tier : Nat → List α → List α
  | 0, l => l
  | k + 1, l => tier k (up f l)
theorem tier_up : ∀ (k : Nat) (l : List α), tier f (k + 1) l = up f (tier f k l)
  | 0, _ => rfl
  | k + 1, l => tier_up k (up f l)
theorem even_half {n k : Nat} (h : n % 2 ^ (k + 1) = 0) : n % 2 = 0 ∧ ((n + 1) / 2) % 2 ^ k = 0 := by
  obtain ⟨q, rfl⟩ := Nat.dvd_of_mod_eq_zero h
  have e : 2 ^ (k + 1) * q = 2 * (2 ^ k * q) := by rw [Nat.pow_succ, Nat.mul_comm (2 ^ k) 2, Nat.mul_assoc]
  rw [e]
  refine ⟨by omega, ?_⟩
  rw [show (2 * (2 ^ k * q) + 1) / 2 = 2 ^ k * q by omega]
  exact Nat.mul_mod_right _ _
theorem tier_append : ∀ (k : Nat) (l m : List α), l.length % 2 ^ k = 0 → tier f k (l ++ m) = tier f k l ++ tier f k m
  | 0, l, m, _ => rfl
  | k + 1, l, m, h => by
    obtain ⟨h1, h2⟩ := even_half h
    show tier f k (up f (l ++ m)) = tier f k (up f l) ++ tier f k (up f m)
    rw [up_append f l m h1]
    exact tier_append k _ _ (by rw [up_len]; exact h2)
theorem tier_short : ∀ (k : Nat) (l : List α), 0 < l.length → l.length ≤ 2 ^ k → (tier f k l).length = 1
  | 0, l, h0, h1 => by simp at h1; show l.length = 1; omega
  | k + 1, l, h0, h1 => by
    have := Nat.pow_succ 2 k
    exact tier_short k (up f l) (by rw [up_len]; omega) (by rw [up_len]; omega)
theorem tier_one (a : α) : ∀ k : Nat, tier f k [a] = [a]
  | 0 => rfl
  | k + 1 => tier_one a k
theorem tier_add (j : Nat) : ∀ (k : Nat) (l : List α), tier f (k + j) l = tier f j (tier f k l)
  | 0, l => by rw [Nat.zero_add]; rfl
  | k + 1, l => by
    rw [show k + 1 + j = (k + j) + 1 by omega]
    exact tier_add j k (up f l)
theorem tier_stable (l : List α) (h0 : 0 < l.length) (k m : Nat) (h : l.length ≤ 2 ^ k) (hkm : k ≤ m) : tier f m l = tier f k l := by
  obtain ⟨d, rfl⟩ := Nat.exists_eq_add_of_le hkm
  rw [tier_add]
  obtain ⟨x, hx⟩ := List.length_eq_one_iff.1 (tier_short f k l h0 h)
  rw [hx, tier_one]
/-- The only one of the highest row. -/
def top [Inhabited α] (l : List α) : α := (tier f l.length l).headD default
theorem tier_top [Inhabited α] (l : List α) (h0 : 0 < l.length) (k : Nat) (h : l.length ≤ 2 ^ k) : tier f k l = [top f l] := by
  have e : tier f l.length l = tier f k l := by
    rcases Nat.le_total k l.length with hk | hk
    · exact tier_stable f l h0 k _ h hk
    · exact (tier_stable f l h0 l.length k (Nat.le_of_lt Nat.lt_two_pow_self) hk).symm
  obtain ⟨x, hx⟩ := List.length_eq_one_iff.1 (tier_short f k l h0 h)
  unfold top
  rw [e, hx]
  rfl
theorem top_one [Inhabited α] (a : α) : top f [a] = a := rfl
/-- By halves: the left one is the greatest power of two below the length. -/
theorem tier_two [Inhabited α] (l : List α) (k : Nat) (h1 : 2 ^ k < l.length) (h2 : l.length ≤ 2 ^ (k + 1)) : tier f k l = [top f (l.take (2 ^ k)), top f (l.drop (2 ^ k))] := by
  have hp : 0 < 2 ^ k := Nat.two_pow_pos k
  have := Nat.pow_succ 2 k
  have lt : (l.take (2 ^ k)).length = 2 ^ k := by rw [List.length_take]; omega
  have e := tier_append f k (l.take (2 ^ k)) (l.drop (2 ^ k)) (by rw [lt]; exact Nat.mod_self _)
  rw [List.take_append_drop] at e
  rw [e, tier_top f _ (by omega) k (by omega), tier_top f (l.drop (2 ^ k)) (by rw [List.length_drop]; omega) k (by rw [List.length_drop]; omega)]
  rfl
theorem top_two [Inhabited α] (l : List α) (k : Nat) (h1 : 2 ^ k < l.length) (h2 : l.length ≤ 2 ^ (k + 1)) : top f l = f (top f (l.take (2 ^ k))) (top f (l.drop (2 ^ k))) := by
  have e := tier_top f l (by omega) (k + 1) h2
  rw [tier_up, tier_two f l k h1 h2] at e
  simpa [up] using e.symm

/-- The place beside. -/
def beside (i : Nat) : Nat := i + 1 - 2 * (i % 2)
/-- What stands beside the way, k rows up. -/
def way : Nat → Nat → List α → List α
  | 0, _, _ => []
  | k + 1, i, l => l[beside i]?.toList ++ way k (i / 2) (up f l)
theorem way_one (a : α) : ∀ k : Nat, way f k 0 [a] = []
  | 0 => rfl
  | k + 1 => way_one a k
theorem beside_lt {i n : Nat} (hn : n % 2 = 0) (h : i < n) : beside i < n := by unfold beside; omega
theorem beside_add {i n : Nat} (hn : n % 2 = 0) : beside (n + i) = n + beside i := by unfold beside; omega
theorem way_left : ∀ (k i : Nat) (l m : List α), l.length % 2 ^ k = 0 → i < l.length → way f k i (l ++ m) = way f k i l
  | 0, i, l, m, _, _ => rfl
  | k + 1, i, l, m, h, hi => by
    obtain ⟨h1, h2⟩ := even_half h
    show (l ++ m)[beside i]?.toList ++ way f k (i / 2) (up f (l ++ m)) = _
    rw [up_append f l m h1, way_left k (i / 2) (up f l) (up f m) (by rw [up_len]; exact h2) (by rw [up_len]; omega), List.getElem?_append_left (beside_lt h1 hi)]
    rfl
theorem way_right : ∀ (k i : Nat) (l m : List α), l.length % 2 ^ k = 0 → way f k (l.length + i) (l ++ m) = way f k i m
  | 0, i, l, m, _ => rfl
  | k + 1, i, l, m, h => by
    obtain ⟨h1, h2⟩ := even_half h
    show (l ++ m)[beside (l.length + i)]?.toList ++ way f k ((l.length + i) / 2) (up f (l ++ m)) = _
    rw [up_append f l m h1, beside_add h1, List.getElem?_append_right (by omega), show l.length + beside i - l.length = beside i by omega,
      show (l.length + i) / 2 = (up f l).length + i / 2 by rw [up_len]; omega, way_right k (i / 2) (up f l) (up f m) (by rw [up_len]; exact h2)]
    rfl
theorem way_up : ∀ (k i : Nat) (l : List α), way f (k + 1) i l = way f k i l ++ (tier f k l)[beside (i / 2 ^ k)]?.toList
  | 0, i, l => by simp [way, tier]
  | k + 1, i, l => by
    show l[beside i]?.toList ++ way f (k + 1) (i / 2) (up f l) = (l[beside i]?.toList ++ way f k (i / 2) (up f l)) ++ (tier f k (up f l))[beside (i / 2 ^ (k + 1))]?.toList
    rw [way_up k (i / 2) (up f l), List.append_assoc, Nat.div_div_eq_div_mul, Nat.pow_succ, Nat.mul_comm (2 ^ k) 2]
theorem way_stable (l : List α) (i k : Nat) (hi : i < l.length) (h : l.length ≤ 2 ^ k) : ∀ d : Nat, way f (k + d) i l = way f k i l
  | 0 => rfl
  | d + 1 => by
    have hk : 2 ^ k ≤ 2 ^ (k + d) := Nat.pow_le_pow_right (by omega) (by omega)
    obtain ⟨x, hx⟩ := List.length_eq_one_iff.1 (tier_short f (k + d) l (by omega) (by omega))
    rw [show k + (d + 1) = (k + d) + 1 by omega, way_up, hx, Nat.div_eq_of_lt (by omega), way_stable l i k hi h d]
    simp [beside]
/-- The path of a place. -/
def pathOf (i : Nat) (l : List α) : List α := way f l.length i l
theorem way_path (l : List α) (i k : Nat) (hi : i < l.length) (h : l.length ≤ 2 ^ k) : way f k i l = pathOf f i l := by
  unfold pathOf
  rcases Nat.le_total k l.length with hk | hk
  · obtain ⟨d, hd⟩ := Nat.exists_eq_add_of_le hk
    have := way_stable f l i k hi h d
    rw [← hd] at this
    exact this.symm
  · obtain ⟨d, hd⟩ := Nat.exists_eq_add_of_le hk
    have := way_stable f l i l.length hi (Nat.le_of_lt Nat.lt_two_pow_self) d
    rw [← hd] at this
    exact this
theorem path_one (a : α) : pathOf f 0 [a] = [] := rfl
theorem path_left [Inhabited α] (l : List α) (i k : Nat) (h1 : 2 ^ k < l.length) (h2 : l.length ≤ 2 ^ (k + 1)) (hi : i < 2 ^ k) : pathOf f i l = pathOf f i (l.take (2 ^ k)) ++ [top f (l.drop (2 ^ k))] := by
  have lt : (l.take (2 ^ k)).length = 2 ^ k := by rw [List.length_take]; omega
  have e := way_left f k i (l.take (2 ^ k)) (l.drop (2 ^ k)) (by rw [lt]; exact Nat.mod_self _) (by omega)
  rw [List.take_append_drop] at e
  rw [← way_path f l i (k + 1) (by omega) h2, way_up, tier_two f l k h1 h2, e, Nat.div_eq_of_lt hi, way_path f _ i k (by omega) (by omega)]
  rfl
theorem path_right [Inhabited α] (l : List α) (i k : Nat) (h1 : 2 ^ k < l.length) (h2 : l.length ≤ 2 ^ (k + 1)) (hi : 2 ^ k ≤ i) (hn : i < l.length) : pathOf f i l = pathOf f (i - 2 ^ k) (l.drop (2 ^ k)) ++ [top f (l.take (2 ^ k))] := by
  have hp : 0 < 2 ^ k := Nat.two_pow_pos k
  have := Nat.pow_succ 2 k
  have lt : (l.take (2 ^ k)).length = 2 ^ k := by rw [List.length_take]; omega
  have e := way_right f k (i - 2 ^ k) (l.take (2 ^ k)) (l.drop (2 ^ k)) (by rw [lt]; exact Nat.mod_self _)
  rw [List.take_append_drop, lt, show 2 ^ k + (i - 2 ^ k) = i by omega] at e
  have hd : i / 2 ^ k = 1 := by
    rw [show i = 2 ^ k + (i - 2 ^ k) by omega, Nat.add_div_left _ hp, Nat.div_eq_of_lt (by omega)]
  rw [← way_path f l i (k + 1) (by omega) h2, way_up, tier_two f l k h1 h2, e, hd, way_path f _ (i - 2 ^ k) k (by rw [List.length_drop]; omega) (by rw [List.length_drop]; omega)]
  rfl

/-- What a path leads to from a place of so many, at most d rows up: none, where it is too long or too short. -/
def ascend : Nat → α → Nat → Nat → List α → Option α
  | 0, now, _, _, p => if p.isEmpty then some now else none
  | d + 1, now, i, n, p =>
    if n ≤ 1 then (if p.isEmpty then some now else none)
    else if beside i < n then (match p with | [] => none | x :: q => ascend d (if i % 2 = 0 then f now x else f x now) (i / 2) ((n + 1) / 2) q)
    else ascend d now (i / 2) ((n + 1) / 2) p
theorem up_get [Inhabited α] : ∀ (l : List α) (i : Nat), i < l.length → (up f l).getD (i / 2) default =
    if beside i < l.length then (if i % 2 = 0 then f (l.getD i default) (l.getD (beside i) default) else f (l.getD (beside i) default) (l.getD i default)) else l.getD i default
  | [], i, h => by simp at h
  | [a], i, h => by
    have : i = 0 := by simp at h; omega
    subst this
    rfl
  | a :: b :: l, 0, h => by simp [up, beside]
  | a :: b :: l, 1, h => by simp [up, beside]
  | a :: b :: l, i + 2, h => by
    have ih := up_get l i (by simp at h; omega)
    rw [show (i + 2) / 2 = i / 2 + 1 by omega, show beside (i + 2) = beside i + 2 by unfold beside; omega, show (i + 2) % 2 = i % 2 by omega]
    simpa [up, List.getD_cons_succ] using ih
theorem ascend_way [Inhabited α] : ∀ (d : Nat) (l : List α) (i : Nat), i < l.length → l.length ≤ 2 ^ d → ascend f d (l.getD i default) i l.length (way f d i l) = some (top f l)
  | 0, l, i, hi, h => by
    obtain ⟨a, rfl⟩ := List.length_eq_one_iff.1 (show l.length = 1 by simp at h; omega)
    have : i = 0 := by simp at hi; omega
    subst this
    rfl
  | d + 1, l, i, hi, h => by
    have hp := Nat.pow_succ 2 d
    by_cases h1 : l.length ≤ 1
    · obtain ⟨a, rfl⟩ := List.length_eq_one_iff.1 (show l.length = 1 by omega)
      have : i = 0 := by simp at hi; omega
      subst this
      rw [way_one]
      rfl
    · have ih := ascend_way d (up f l) (i / 2) (by rw [up_len]; omega) (by rw [up_len]; omega)
      rw [up_get f l i hi, up_len] at ih
      have ht : top f (up f l) = top f l := by
        have e1 := tier_top f l (by omega) (d + 1) h
        have e2 := tier_top f (up f l) (by rw [up_len]; omega) d (by rw [up_len]; omega)
        have e3 : tier f (d + 1) l = tier f d (up f l) := rfl
        rw [e3, e2] at e1
        simpa using e1
      rw [ht] at ih
      unfold ascend
      rw [if_neg h1]
      by_cases hb : beside i < l.length
      · rw [if_pos hb] at ih ⊢
        have : way f (d + 1) i l = l.getD (beside i) default :: way f d (i / 2) (up f l) := by
          show l[beside i]?.toList ++ _ = _
          rw [List.getElem?_eq_getElem hb]
          simp [List.getD, hb]
        rw [this]
        exact ih
      · rw [if_neg hb] at ih ⊢
        have : way f (d + 1) i l = way f d (i / 2) (up f l) := by
          show l[beside i]?.toList ++ _ = _
          rw [List.getElem?_eq_none (by omega)]
          rfl
        rw [this]
        exact ih
/-- More rows than there are change nothing. -/
theorem ascend_more : ∀ (d e : Nat) (now : α) (i n : Nat) (p : List α), n ≤ 2 ^ d → ascend f (d + e) now i n p = ascend f d now i n p
  | 0, 0, _, _, _, _, _ => rfl
  | 0, e + 1, now, i, n, p, h => by
    rw [show 0 + (e + 1) = e + 1 by omega]
    unfold ascend
    rw [if_pos (by simpa using h)]
  | d + 1, e, now, i, n, p, h => by
    have hp := Nat.pow_succ 2 d
    rw [show d + 1 + e = (d + e) + 1 by omega]
    unfold ascend
    by_cases h1 : n ≤ 1
    · rw [if_pos h1, if_pos h1]
    · rw [if_neg h1, if_neg h1]
      by_cases hb : beside i < n
      · rw [if_pos hb, if_pos hb]
        cases p with
        | nil => rfl
        | cons x q => exact ascend_more d e _ _ _ q (by omega)
      · rw [if_neg hb, if_neg hb]
        exact ascend_more d e _ _ _ p (by omega)
/-- How many stand beside the way from a place of so many. -/
def tally : Nat → Nat → Nat → Nat
  | 0, _, _ => 0
  | d + 1, i, n => if n ≤ 1 then 0 else (if beside i < n then 1 else 0) + tally d (i / 2) ((n + 1) / 2)
/-- A path that leads somewhere is just so long. -/
theorem ascend_len : ∀ (d : Nat) (now : α) (i n : Nat) (p : List α) (r : α), ascend f d now i n p = some r → p.length = tally d i n
  | 0, now, i, n, p, r, h => by
    cases p with
    | nil => rfl
    | cons x q => simp [ascend] at h
  | d + 1, now, i, n, p, r, h => by
    unfold ascend at h
    unfold tally
    by_cases h1 : n ≤ 1
    · rw [if_pos h1] at h ⊢
      cases p with
      | nil => rfl
      | cons x q => simp at h
    · rw [if_neg h1] at h ⊢
      by_cases hb : beside i < n
      · rw [if_pos hb] at h ⊢
        cases p with
        | nil => simp at h
        | cons x q =>
          have := ascend_len d _ _ _ q r h
          rw [List.length_cons, this]; omega
      · rw [if_neg hb] at h ⊢
        have := ascend_len d _ _ _ p r h
        omega
/-- So no path of another length leads anywhere. -/
theorem ascend_other {d : Nat} {now : α} {i n : Nat} {p : List α} {r : α} (h : ascend f d now i n p = some r) (q : List α) (hq : q.length ≠ p.length) (now' : α) : ascend f d now' i n q = none := by
  cases e : ascend f d now' i n q with
  | none => rfl
  | some r' =>
    have h1 := ascend_len f d _ _ _ _ _ h
    have h2 := ascend_len f d _ _ _ _ _ e
    omega
end
end Go.Proofs.YthpkafjonelanaaDoor
namespace Go.Proofs.YthpkafjonelanaaDoor

/-- The sum of a sum's leaf, and of two sums' pair. -/
def leafSum (s : List UInt8) : List UInt8 := sumOf (partsOf 1 [s])
def pairSum (a b : List UInt8) : List UInt8 := sumOf (partsOf 2 [a, b])
theorem leafSum_len (s : List UInt8) : (leafSum s).length = 32 := sumOf_len _
theorem pairSum_len (a b : List UInt8) : (pairSum a b).length = 32 := sumOf_len _
/-- The root of so many sums. -/
def rootSum (l : List (List UInt8)) : List UInt8 := if l.isEmpty then sumOf (partsOf 3 []) else top pairSum (l.map leafSum)
theorem leafA_ne : leafSum (sumOf [97]) ≠ sumOf [97] := by decide +kernel
theorem pairA_ne : pairSum (leafSum (sumOf [97])) (leafSum (sumOf [97])) ≠ leafSum (sumOf [97]) := by decide +kernel
theorem rootA_ne : rootSum [sumOf [97]] ≠ sumOf [97] := leafA_ne
theorem rootAA_ne : rootSum [sumOf [97], sumOf [97]] ≠ leafSum (sumOf [97]) := pairA_ne
theorem top_len : ∀ (l : List (List UInt8)), l ≠ [] → (∀ s ∈ l, s.length = 32) → (top pairSum l).length = 32 := by
  intro l h0 h
  have hall : ∀ (k : Nat) (l : List (List UInt8)), (∀ s ∈ l, s.length = 32) → ∀ s ∈ tier pairSum k l, s.length = 32 := by
    have hup : ∀ l : List (List UInt8), (∀ s ∈ l, s.length = 32) → ∀ s ∈ up pairSum l, s.length = 32 := by
      intro l
      induction l using up.induct with
      | case1 a b l ih =>
        intro h s hs
        simp only [up, List.mem_cons] at hs
        rcases hs with rfl | hs
        · exact pairSum_len _ _
        · exact ih (fun q hq => h q (by simp [hq])) s hs
      | case2 l hl =>
        intro h s hs
        rw [show up pairSum l = l by cases l with
          | nil => rfl
          | cons a l => cases l with
            | nil => rfl
            | cons b l => exact absurd rfl (hl a b l)] at hs
        exact h s hs
    intro k
    induction k with
    | zero => exact fun l h => h
    | succ k ih => exact fun l h => ih (up pairSum l) (hup l h)
  have hp : 0 < l.length := List.length_pos_iff.2 h0
  have e := tier_top pairSum l hp l.length (Nat.le_of_lt Nat.lt_two_pow_self)
  exact hall l.length l h _ (by rw [e]; exact List.mem_singleton_self _)
end Go.Proofs.YthpkafjonelanaaDoor
namespace Go.Proofs.YthpkafjonelanaaDoor
open Go.RowKit

/-- A slice of sums that reads as 'ls'. -/
def Sums (w : World) (a : Option Addr) (n c : Nat) (ls : List (List UInt8)) : Prop :=
  ls.length = n ∧ n ≤ c ∧ c ≤ maxLen ∧ (a = none → c = 0) ∧ (∀ s ∈ ls, s.length = 32) ∧
  (0 < n → ∃ b off, a = some ⟨b, off, none⟩ ∧ b < w.heap.size ∧ ∀ j, j < n → w.rangeAt b (off + j * 32) (cellsOf (ls.getD j [])))
theorem Sums.below {w w' : World} {n c : Nat} {a : Option Addr} {ls : List (List UInt8)} (h : Sums w a n c ls) (hb : Below w.heap.size w w') : Sums w' a n c ls := by
  obtain ⟨h1, h2, h3, h4, h6, h5⟩ := h
  refine ⟨h1, h2, h3, h4, h6, fun h0 => ?_⟩
  obtain ⟨b, off, rfl, hlt, hc⟩ := h5 h0
  exact ⟨b, off, rfl, Nat.lt_of_lt_of_le hlt hb.size, fun j hj => rangeAt_below (hc j hj) hlt hb⟩
theorem Sums.but {w w' : World} {p n c : Nat} {a : Option Addr} {ls : List (List UInt8)} (h : Sums w a n c ls) (hb : But w.heap.size p w w') (hp : Off p a n) : Sums w' a n c ls := by
  obtain ⟨h1, h2, h3, h4, h6, h5⟩ := h
  refine ⟨h1, h2, h3, h4, h6, fun h0 => ?_⟩
  obtain ⟨b, off, rfl, hlt, hc⟩ := h5 h0
  exact ⟨b, off, rfl, Nat.lt_of_lt_of_le hlt hb.size, fun j hj => rangeAt_but (hc j hj) hlt (hp h0 b off rfl) hb⟩
theorem Sums.off {w : World} {p n c : Nat} {a : Option Addr} {ls : List (List UInt8)} (h : Sums w a n c ls) (hp : w.heap.size ≤ p) : Off p a n := by
  intro h0 b off e
  obtain ⟨b', off', e', hlt, _⟩ := h.2.2.2.2.2 h0
  rw [e] at e'
  cases e'
  omega
theorem Sums.nil (w : World) : Sums w none 0 0 [] := ⟨rfl, Nat.le_refl _, Nat.zero_le _, fun _ => rfl, (fun _ h => by cases h), fun h => by omega⟩
theorem Sums.len {w : World} {n c : Nat} {a : Option Addr} {ls : List (List UInt8)} (h : Sums w a n c ls) : ls.length = n := h.1
theorem Sums.each {w : World} {n c j : Nat} {a : Option Addr} {ls : List (List UInt8)} (h : Sums w a n c ls) (hj : j < n) : (ls.getD j []).length = 32 := by
  have hj' : j < ls.length := by rw [h.1]; exact hj
  rw [List.getD_eq_getElem?_getD, List.getElem?_eq_getElem hj']
  exact h.2.2.2.2.1 _ (List.getElem_mem hj')
theorem Sums.drop {w : World} {n c k : Nat} {a a' : Option Addr} {ls : List (List UInt8)} (h : Sums w a n c ls) (hk : k ≤ n) (ha : a' = none → c = k) (ha' : k < n → ∀ b off, a = some ⟨b, off, none⟩ → a' = some ⟨b, off + k * 32, none⟩) : Sums w a' (n - k) (c - k) (ls.drop k) := by
  obtain ⟨h1, h2, h3, h4, h6, h5⟩ := h
  refine ⟨by simp [h1], by omega, by omega, (fun e => by have := ha e; omega), fun s hs => h6 s (List.mem_of_mem_drop hs), fun h0 => ?_⟩
  obtain ⟨b, off, rfl, hlt, hc⟩ := h5 (by omega)
  refine ⟨b, off + k * 32, ha' (by omega) b off rfl, hlt, fun j hj => ?_⟩
  have := hc (k + j) (by omega)
  rw [show off + k * 32 + j * 32 = off + (k + j) * 32 by rw [Nat.add_mul]; omega]
  have e : (ls.drop k).getD j [] = ls.getD (k + j) [] := by simp [List.getD]
  rw [e]
  exact this
theorem Sums.take {w : World} {n c k : Nat} {a : Option Addr} {ls : List (List UInt8)} (h : Sums w a n c ls) (hk : k ≤ n) : Sums w a k c (ls.take k) := by
  obtain ⟨h1, h2, h3, h4, h6, h5⟩ := h
  refine ⟨by simp [h1]; omega, by omega, h3, h4, fun s hs => h6 s (List.mem_of_mem_take hs), fun h0 => ?_⟩
  obtain ⟨b, off, rfl, hlt, hc⟩ := h5 (by omega)
  refine ⟨b, off, rfl, hlt, fun j hj => ?_⟩
  have e : (ls.take k).getD j [] = ls.getD j [] := by simp [List.getD, hj]
  rw [e]
  exact hc j (by omega)

/-- The cut 's[A:]'. -/
theorem run_cut_from {a : Option Addr} {n c A : Nat} (hA : A ≤ n) (W : World) : (Instr.sliceAt 35 (.slice a n c) (some (.int .i64 (A : Int))) none none).run Tryd.prog W = .ok (.slice (if c = A then a else a.map (·.add (A * 32))) (n - A) (c - A)) W := by
  have hu : Tryd.prog.underlying 35 = some (.slice (Tryd.prog.elem 35)) := by kernel_rfl
  have hs : (sizeOf (Tryd.prog.elem 35)).run Tryd.prog W = .ok 32 W := by kernel_rfl
  rw [run_sliceAt_slice W _ _ _ _ _ hu, run_slice_l W _ a n c hu .i64 (A : Int) (by omega) (by omega), hs]
  simp [Result.andThen, sliced]
theorem Sums.from {w : World} {a : Option Addr} {n c A : Nat} {ls : List (List UInt8)} (h : Sums w a n c ls) (hA : A ≤ n) : Sums w (if c = A then a else a.map (·.add (A * 32))) (n - A) (c - A) (ls.drop A) := by
  have hnc := h.2.1
  refine h.drop hA (fun e => ?_) (fun hlt b off e => ?_)
  · split at e
    · assumption
    · have : a = none := by cases a with
        | none => rfl
        | some x => cases e
      have := h.2.2.2.1 this
      omega
  · rw [if_neg (by omega), e]
    simp [Addr.add]
/-- The cut 's[:A]'. -/
theorem run_cut_to {a : Option Addr} {n c A : Nat} (hA : A ≤ c) (W : World) : (Instr.sliceAt 35 (.slice a n c) none (some (.int .i64 (A : Int))) none).run Tryd.prog W = .ok (.slice a A c) W := by
  have hu : Tryd.prog.underlying 35 = some (.slice (Tryd.prog.elem 35)) := by kernel_rfl
  have hs : (sizeOf (Tryd.prog.elem 35)).run Tryd.prog W = .ok 32 W := by kernel_rfl
  rw [run_sliceAt_slice W _ _ _ _ _ hu, run_slice_h W _ a n c hu .i64 (A : Int) (by omega) (by omega), hs]
  simp [Result.andThen, sliced]
  intro _
  cases a with
  | none => rfl
  | some x => obtain ⟨b, o, sp⟩ := x; cases sp <;> simp [Addr.add]

/-! ### Rows of the call's own -/
def seqCells (ls : List (List UInt8)) : List Value := ls.flatMap cellsOf
theorem seqCells_append (l m : List (List UInt8)) : seqCells (l ++ m) = seqCells l ++ seqCells m := by simp [seqCells]
theorem seqCells_len : ∀ {ls : List (List UInt8)}, (∀ s ∈ ls, s.length = 32) → (seqCells ls).length = ls.length * 32
  | [], _ => rfl
  | s :: ls, h => by
    have ih := seqCells_len (ls := ls) (fun t ht => h t (by simp [ht]))
    have hs := h s (by simp)
    show (cellsOf s ++ seqCells ls).length = _
    rw [List.length_append, ih, cellsOf_len, hs, List.length_cons, Nat.add_mul]
    omega
theorem seqCells_get : ∀ {ls : List (List UInt8)}, (∀ s ∈ ls, s.length = 32) → ∀ {j i : Nat}, i < 32 → (seqCells ls)[j * 32 + i]? = (cellsOf (ls.getD j []))[i]?
  | [], _, j, i, hi => by simp [seqCells, cellsOf]
  | s :: ls, h, 0, i, hi => by
    have hs := h s (by simp)
    show (cellsOf s ++ seqCells ls)[0 * 32 + i]? = (cellsOf s)[i]?
    rw [Nat.zero_mul, Nat.zero_add, List.getElem?_append_left (by rw [cellsOf_len, hs]; exact hi)]
  | s :: ls, h, j + 1, i, hi => by
    have ih := seqCells_get (ls := ls) (fun t ht => h t (by simp [ht])) (j := j) hi
    have hs := h s (by simp)
    show (cellsOf s ++ seqCells ls)[(j + 1) * 32 + i]? = (cellsOf (ls.getD j []))[i]?
    rw [List.getElem?_append_right (by rw [cellsOf_len, hs]; omega), cellsOf_len, hs, ← ih]
    congr 1
    omega
theorem seqCells_one {ls : List (List UInt8)} : ∀ v ∈ seqCells ls, v.oneCell' = true := by
  intro v hv
  obtain ⟨s, _, hs⟩ := List.mem_flatMap.1 hv
  exact cellsOf_one s v hs
theorem seqCells_single (s : List UInt8) : seqCells [s] = cellsOf s := by simp [seqCells]
/-- A slice of sums of the call's own. -/
def OwnS (w : World) (B : Nat) (v : Value) (ls : List (List UInt8)) : Prop := w.ownsRow B 23 32 v ls.length (seqCells ls) ∧ ∀ s ∈ ls, s.length = 32
theorem OwnS.shape {w : World} {B : Nat} {v : Value} {ls : List (List UInt8)} (h : OwnS w B v ls) : ∃ a c, v = .slice a ls.length c ∧ (∀ x, a = some x → B ≤ x.block) := by
  rcases h.1.2 with ⟨rfl, h0⟩ | ⟨g, cap, cur, rfl, hB, _⟩
  · exact ⟨none, 0, by rw [h0], fun x e => by cases e⟩
  · exact ⟨_, _, rfl, fun x e => by cases e; exact hB⟩
theorem OwnS.sums {w : World} {B : Nat} {a : Option Addr} {n c : Nat} {ls : List (List UInt8)} (h : OwnS w B (.slice a n c) ls) : Sums w a n c ls := by
  rcases h.1.2 with ⟨hv, h0⟩ | ⟨g, cap, cur, hv, hB, hh, h1, h2, h3, h4⟩
  · cases hv
    obtain rfl : ls = [] := List.eq_nil_of_length_eq_zero h0
    exact Sums.nil w
  · cases hv
    refine ⟨rfl, h1, h2, (fun e => by cases e), h.2, fun _ => ⟨g, 0, rfl, lt_of_block hh, fun j hj i v hv => ?_⟩⟩
    have hi : i < 32 := by
      have h5 := (List.getElem?_eq_some_iff.1 hv).1
      rw [cellsOf_len] at h5
      have h6 : (ls.getD j []).length = 32 := by
        rw [List.getD_eq_getElem?_getD, List.getElem?_eq_getElem hj]
        exact h.2 _ (List.getElem_mem hj)
      omega
    rw [Nat.zero_add, cell_of_row w g _ _ _ _ hh, ← hv, ← seqCells_get h.2 hi, ← h4, List.getElem?_take, if_pos (by omega)]
    simp
theorem OwnS.below {w w' : World} {B : Nat} {v : Value} {ls : List (List UInt8)} (h : OwnS w B v ls) (hb : Below w.heap.size w w') : OwnS w' B v ls :=
  ⟨World.ownsRow.kept h.1 (row := none) ⟨hb.os, hb.tape, hb.output, hb.size, fun k hk _ => hb.block k hk⟩ (by cases h' : v.ownBlock <;> simp), h.2⟩
theorem OwnS.lt {w : World} {B : Nat} {v : Value} {ls : List (List UInt8)} (h : OwnS w B v ls) : ∀ k, v.ownBlock = some k → B ≤ k ∧ k < w.heap.size := fun k e => World.ownsRow.lt h.1 k e
theorem OwnS.nil (w : World) (B : Nat) : OwnS w B (.slice none 0 0) [] := ⟨World.ownsRow_nil w B _ _, fun _ h => by cases h⟩
theorem OwnS.base {w : World} {B B' : Nat} {v : Value} {ls : List (List UInt8)} (h : OwnS w B v ls) (hB : B' ≤ B) : OwnS w B' v ls := by
  refine ⟨⟨h.1.1, ?_⟩, h.2⟩
  rcases h.1.2 with h0 | ⟨g, cap, cur, hv, hb, r⟩
  · exact .inl h0
  · exact .inr ⟨g, cap, cur, hv, by omega, r⟩

/-- What a store of a sum leaves. -/
theorem setCells_own {e : TypeId} {sz B g n c : Nat} : ∀ (vs : List Value) (o : Nat) (w : World) (xs : List Value), w.ownsRow B e sz (.slice (some ⟨g, 0, none⟩) n c) n xs →
    ∃ ys, (w.setCells g o vs).ownsRow B e sz (.slice (some ⟨g, 0, none⟩) n c) n ys ∧ ys.length = xs.length ∧ But w.heap.size g w (w.setCells g o vs) ∧ ∀ i, ys[i]? = if o ≤ i ∧ i < o + vs.length ∧ i < xs.length then vs[i - o]? else xs[i]?
  | [], o, w, xs, h => ⟨xs, h, rfl, But.refl _ _ _, fun i => by rw [if_neg (by simp; omega)]⟩
  | v :: vs, o, w, xs, h => by
    obtain ⟨ys, h1, h2, h3, h4⟩ := setCells_own vs (o + 1) (w.setCell ⟨g, o, none⟩ v) (xs.set o v) (h.stored o v).1
    refine ⟨ys, h1, by simpa using h2, ?_, fun i => ?_⟩
    · have b1 : But w.heap.size g w (w.setCell ⟨g, o, none⟩ v) := (But.refl w.heap.size g w).setCell ⟨g, o, none⟩ (.inl rfl) v
      exact b1.trans (h3.mono (by simp))
    · rw [h4 i, List.length_set, List.length_cons]
      by_cases c1 : o + 1 ≤ i ∧ i < o + 1 + vs.length ∧ i < xs.length
      · rw [if_pos c1, if_pos (by omega), show i - o = (i - (o + 1)) + 1 by omega]
        rfl
      · rw [if_neg c1]
        by_cases c2 : i = o
        · subst c2
          by_cases c3 : i < xs.length
          · rw [if_pos (by omega), List.getElem?_set_self (by omega)]
            simp
          · rw [if_neg (by omega), List.getElem?_eq_none (by simp; omega), List.getElem?_eq_none (by omega)]
        · rw [List.getElem?_set_ne (by omega)]
          by_cases c3 : o ≤ i ∧ i < o + (vs.length + 1) ∧ i < xs.length
          · omega
          · rw [if_neg c3]
theorem seqCells_set {ls : List (List UInt8)} (h : ∀ s ∈ ls, s.length = 32) {j : Nat} (hj : j < ls.length) {s : List UInt8} (hs : s.length = 32) (i : Nat) :
    (seqCells (ls.set j s))[i]? = if j * 32 ≤ i ∧ i < j * 32 + 32 ∧ i < ls.length * 32 then (cellsOf s)[i - j * 32]? else (seqCells ls)[i]? := by
  have h' : ∀ t ∈ ls.set j s, t.length = 32 := fun t ht => by
    rcases List.mem_or_eq_of_mem_set ht with ht | rfl
    · exact h t ht
    · exact hs
  have e : i = i / 32 * 32 + i % 32 := by omega
  have e1 := seqCells_get h' (j := i / 32) (i := i % 32) (by omega)
  have e2 := seqCells_get h (j := i / 32) (i := i % 32) (by omega)
  rw [← e] at e1 e2
  rw [e1]
  by_cases c : j * 32 ≤ i ∧ i < j * 32 + 32 ∧ i < ls.length * 32
  · have c1 : i / 32 = j := by omega
    have c2 : i - j * 32 = i % 32 := by omega
    rw [if_pos c, c1, c2]
    simp [List.getD, hj]
  · have c1 : i / 32 ≠ j := by
      intro c1
      apply c
      refine ⟨by omega, by omega, ?_⟩
      have := Nat.mul_le_mul_right 32 (show j + 1 ≤ ls.length by omega)
      omega
    rw [if_neg c, e2]
    simp [List.getD, Ne.symm c1]
theorem OwnS.store {w : World} {B g n c j : Nat} {ls : List (List UInt8)} {s : List UInt8} (h : OwnS w B (.slice (some ⟨g, 0, none⟩) n c) ls) (hj : j < n) (hs : s.length = 32) :
    OwnS (w.setCells g (j * 32) (cellsOf s)) B (.slice (some ⟨g, 0, none⟩) n c) (ls.set j s) ∧ But w.heap.size g w (w.setCells g (j * 32) (cellsOf s)) := by
  obtain ⟨a, c', e, _⟩ := h.shape
  have hn : ls.length = n := by cases e; rfl
  have h1 := h.1
  rw [hn] at h1
  obtain ⟨ys, r1, r2, r3, r4⟩ := setCells_own (cellsOf s) (j * 32) w _ h1
  have e : ys = seqCells (ls.set j s) := by
    apply List.ext_getElem?
    intro i
    rw [r4 i, seqCells_set h.2 (by omega) hs i, cellsOf_len, hs, seqCells_len h.2]
  rw [e] at r1
  refine ⟨⟨by rw [List.length_set, hn]; exact r1, fun t ht => ?_⟩, r3⟩
  rcases List.mem_or_eq_of_mem_set ht with ht | rfl
  · exact h.2 t ht
  · exact hs
theorem OwnS.there {w : World} {B g n c j : Nat} {ls : List (List UInt8)} (h : OwnS w B (.slice (some ⟨g, 0, none⟩) n c) ls) (hj : j < n) : w.there g (j * 32) 32 := by
  obtain ⟨a, c', e, _⟩ := h.shape
  have hn : ls.length = n := by cases e; rfl
  have h1 := h.1
  rw [hn] at h1
  intro i hi
  refine ⟨?_, h1.frozenAt _⟩
  have := Nat.mul_le_mul_right 32 (show j + 1 ≤ n by omega)
  rw [h1.cellAt _ (by omega), List.getElem?_eq_getElem (by rw [seqCells_len h.2, hn]; omega)]
  rfl

/-- What 'make([]api.Sum, n)' holds. -/
theorem made_cells (n : Nat) : (madeCells (cellsOf zero32).toArray (n * 32)).toList = seqCells (List.replicate n zero32) := by
  apply List.ext_getElem?
  intro i
  have hall : ∀ s ∈ List.replicate n zero32, s.length = 32 := fun s hs => by rw [(List.mem_replicate.1 hs).2]; rfl
  by_cases hi : i < n * 32
  · have e : i = i / 32 * 32 + i % 32 := by omega
    have e1 := seqCells_get hall (j := i / 32) (i := i % 32) (by omega)
    rw [← e] at e1
    rw [e1]
    have hd : i / 32 < n := by omega
    have hz : (cellsOf zero32).length = 32 := rfl
    have e2 : (List.replicate n zero32).getD (i / 32) [] = zero32 := by simp [List.getD, hd]
    rw [e2, madeCells, Array.toList_map, Array.toList_range, List.getElem?_map, List.getElem?_range hi]
    simp only [Option.map_some, List.size_toArray, hz]
    rw [List.getElem?_eq_getElem (by rw [hz]; omega)]
    rw [getElem!_pos _ _ (by simp [hz]; omega)]
    simp
  · rw [List.getElem?_eq_none (by simp [madeCells]; omega), List.getElem?_eq_none (by rw [seqCells_len hall, List.length_replicate]; omega)]
theorem sum_zero : (Tryd.prog.info? 23).map (fun i => (i.zero, i.size, i.bytes)) = some (some (.agg (cellsOf zero32).toArray), 32, 32) := by kernel_rfl
theorem made_own {w : World} {B : Nat} {n : Nat} {v : Value} (h : w.ownsRow B 23 32 v n (madeCells (Value.cells (.agg (cellsOf zero32).toArray)) (n * 32)).toList) : OwnS w B v (List.replicate n zero32) := by
  have hall : ∀ s ∈ List.replicate n zero32, s.length = 32 := fun s hs => by rw [(List.mem_replicate.1 hs).2]; rfl
  refine ⟨?_, hall⟩
  rw [List.length_replicate, ← made_cells]
  exact h

/-- A literal of so many sums. -/
theorem fill_sums (ls : List (List UInt8)) (h : ∀ s ∈ ls, s.length = 32) (init : Array Value) (hi : init.size = ls.length * 32) :
    Instr.fill (fun i => some (i * 32, 32)) init (((ls.map fun s => Value.agg (cellsOf s).toArray).zipIdx 0).map fun x => (x.2, x.1)) = some (seqCells ls).toArray := by
  obtain ⟨r, h1, h2, h3⟩ := Great.fill_dense (s := 32) (by omega) (ls.map fun s => Value.agg (cellsOf s).toArray) 0 init (fun v hv => by
    obtain ⟨s, hs, rfl⟩ := List.mem_map.1 hv
    show (cellsOf s).toArray.size = 32
    rw [List.size_toArray, cellsOf_len]
    exact h s hs) (by rw [List.length_map, hi]; omega)
  rw [h1]
  congr 1
  apply Array.ext_getElem?
  intro k
  rw [h3 k, List.length_map, show (seqCells ls).toArray[k]? = (seqCells ls)[k]? by simp]
  by_cases hk : k < ls.length * 32
  · rw [if_pos (by omega)]
    have e : k = k / 32 * 32 + k % 32 := by omega
    have e1 := seqCells_get h (j := k / 32) (i := k % 32) (by omega)
    rw [← e] at e1
    rw [e1]
    have hd : k / 32 < ls.length := by omega
    simp [List.getD, hd, Value.cells]
  · rw [if_neg (by omega), Array.getElem?_eq_none (by omega), List.getElem?_eq_none (by rw [seqCells_len h]; omega)]
theorem run_build1 (w : World) (s : List UInt8) (hs : s.length = 32) : (Instr.buildSlice 35 1 #[(0, .agg (cellsOf s).toArray)]).run Tryd.prog w = .ok (.slice (some ⟨w.heap.size, 0, none⟩) 1 1) (w.alloc (.cells (cellsOf s).toArray 23)) := by
  obtain ⟨ie, h1, h2, h3, _⟩ := info_parts sum_zero
  have hf := fill_sums [s] (by simp [hs]) ((Array.range (1 * 32)).map ((Value.cells (.agg (cellsOf zero32).toArray))[· % (Value.cells (.agg (cellsOf zero32).toArray)).size]!)) (by simp)
  rw [seqCells_single] at hf
  exact run_buildSlice w 35 23 1 _ _ ie _ Tryd.underlying35 h1 h2 (by rw [h3]; omega) (by rw [h3]; omega) (by rw [h3]; exact hf)
theorem run_build2 (w : World) (s t : List UInt8) (hs : s.length = 32) (ht : t.length = 32) : (Instr.buildSlice 35 2 #[(0, .agg (cellsOf s).toArray), (1, .agg (cellsOf t).toArray)]).run Tryd.prog w = .ok (.slice (some ⟨w.heap.size, 0, none⟩) 2 2) (w.alloc (.cells (seqCells [s, t]).toArray 23)) := by
  obtain ⟨ie, h1, h2, h3, _⟩ := info_parts sum_zero
  have hf := fill_sums [s, t] (by simp [hs, ht]) ((Array.range (2 * 32)).map ((Value.cells (.agg (cellsOf zero32).toArray))[· % (Value.cells (.agg (cellsOf zero32).toArray)).size]!)) (by simp)
  exact run_buildSlice w 35 23 2 _ _ ie _ Tryd.underlying35 h1 h2 (by rw [h3]; omega) (by rw [h3]; omega) (by rw [h3]; exact hf)
theorem own_lit {w : World} {B : Nat} (ls : List (List UInt8)) (h : ∀ s ∈ ls, s.length = 32) (hB : B ≤ w.heap.size) (n : Nat) (hn : ls.length = n) (h1 : n ≤ 1000) : OwnS (w.alloc (.cells (seqCells ls).toArray 23)) B (.slice (some ⟨w.heap.size, 0, none⟩) n n) ls := by
  subst hn
  exact ⟨World.ownsRow_lit w _ _ hB (by unfold maxLen; omega) (by rw [List.size_toArray, seqCells_len h]), h⟩
/-- A join of two slices of sums, the first of the call's own. -/
theorem append_sums (w : World) (B : Nat) (v : Value) (ls : List (List UInt8)) (h : OwnS w B v ls) (a : Option Addr) (m c : Nat) (q : List (List UInt8)) (hq : Sums w a m c q) (hb : ls.length + m ≤ 1000000) (hbase : B ≤ w.heap.size) :
    ∃ a' c' w', (Builtin.append_ #[35, 35] 35 #[v, .slice a m c]).run Tryd.prog w = .ok (.slice a' (ls.length + m) c') w' ∧ OwnS w' B (.slice a' (ls.length + m) c') (ls ++ q) ∧ w.grownBy w' v.ownBlock := by
  obtain ⟨ie, i1, i2, i3, i4⟩ := info_parts sum_zero
  have hql := hq.1
  have hall : ∀ s ∈ ls ++ q, s.length = 32 := fun s hs => by
    rcases List.mem_append.1 hs with hs | hs
    · exact h.2 s hs
    · exact hq.2.2.2.2.1 s hs
  have key : ∃ v' w', (Builtin.append_ #[35, 35] 35 #[v, .slice a m c]).run Tryd.prog w = .ok v' w' ∧ OwnS w' B v' (ls ++ q) ∧ w.grownBy w' v.ownBlock := by
    cases a with
    | some ad =>
      obtain ⟨v', w', h1, h2, h3, _⟩ := run_append_own (P := Tryd.prog) w B 35 35 23 ie _ 32 32 Tryd.underlying35 i1 i2 i3 i4 rfl (by decide) v ls.length (seqCells ls) h.1 ad m c (seqCells q) (by rw [seqCells_len hq.2.2.2.2.1, hql])
        (fun j u hj => by
          have hjm : j < m * 32 := by
            have := (List.getElem?_eq_some_iff.1 hj).1
            rw [seqCells_len hq.2.2.2.2.1, hql] at this
            exact this
          obtain ⟨b, off, he, _, hc⟩ := hq.2.2.2.2.2 (by omega)
          cases he
          have e1 : (⟨b, off, none⟩ : Addr).add j = ⟨b, off + j, none⟩ := by simp [Addr.add]
          have ej : j = j / 32 * 32 + j % 32 := by omega
          have e2 := seqCells_get hq.2.2.2.2.1 (j := j / 32) (i := j % 32) (by omega)
          rw [← ej] at e2
          rw [e2] at hj
          have := hc (j / 32) (by omega) (j % 32) u hj
          rw [e1, show off + j = off + j / 32 * 32 + j % 32 by omega]
          exact this)
        seqCells_one (by unfold maxLen; omega) (by omega) hbase
      exact ⟨v', w', h1, ⟨by rw [List.length_append, hql, seqCells_append]; exact h2, hall⟩, h3⟩
    | none =>
      have hc0 := hq.2.2.2.1 rfl
      have hm0 : m = 0 := by have := hq.2.1; omega
      subst hm0
      subst hc0
      obtain rfl : q = [] := List.eq_nil_of_length_eq_zero hql
      exact ⟨v, w, run_append_owned_none (P := Tryd.prog) w B 35 35 23 ie 32 Tryd.underlying35 i1 v ls.length (seqCells ls) h.1, by rw [List.append_nil]; exact h, World.grownBy.refl _ _⟩
  obtain ⟨v', w', h1, h2, h3⟩ := key
  obtain ⟨a', c', rfl, _⟩ := h2.shape
  have e : (ls ++ q).length = ls.length + m := by rw [List.length_append, hql]
  rw [e] at h1 h2
  exact ⟨a', c', w', h1, h2, h3⟩
theorem grown_but {w w' : World} {B : Nat} {a : Option Addr} {n c : Nat} {ls : List (List UInt8)} (h : OwnS w B (.slice a n c) ls) (hg : w.grownBy w' (Value.ownBlock (.slice a n c))) (hB : B ≤ w.heap.size) : Below B w w' :=
  ⟨hg.os, hg.tape, hg.output, hg.size, fun k hk => hg.block k (by omega) (fun e => by have := (h.lt k e.symm).1; omega)⟩
end Go.Proofs.YthpkafjonelanaaDoor
