/- Rows of whatever is joined in pairs: the document's rows, the halves, the path of a place and what a path leads to. No program is named. -/
import Derived.Test.YtmbfpopfabjodaaDoorSpec
namespace Go.Proofs.YtmbfpopfabjodaaDoor
section
variable {α : Type} (f : α → α → α)

/-- The row above. -/
def up : List α → List α
  | a :: b :: l => f a b :: up l
  | l => l
theorem up_len : ∀ l : List α, (up f l).length = (l.length + 1) / 2
  | [] => by simp [up]
  | [a] => by simp [up]
  | a :: b :: l => by
    have := up_len l
    simp only [up, List.length_cons, this]; omega
theorem up_append : ∀ l m : List α, l.length % 2 = 0 → up f (l ++ m) = up f l ++ up f m
  | [], m, _ => by simp [up]
  | [a], m, h => by simp at h
  | a :: b :: l, m, h => by
    have := up_append l m (by simp at h; omega)
    simp [up, this]
/-- The k-th row above. -/
def tier : Nat → List α → List α
  | 0, l => l
  | k + 1, l => tier k (up f l)
theorem tier_up : ∀ (k : Nat) (l : List α), tier f (k + 1) l = up f (tier f k l)
  | 0, _ => rfl
  | k + 1, l => tier_up k (up f l)
theorem even_half {n k : Nat} (h : n % 2 ^ (k + 1) = 0) : n % 2 = 0 ∧ ((n + 1) / 2) % 2 ^ k = 0 := by
  obtain ⟨q, rfl⟩ := Nat.dvd_of_mod_eq_zero h
  have e : 2 ^ (k + 1) * q = 2 * (2 ^ k * q) := by rw [Nat.pow_succ, Nat.mul_comm (2 ^ k) 2, Nat.mul_assoc]
  rw [e]
  refine ⟨by omega, ?_⟩
  rw [show (2 * (2 ^ k * q) + 1) / 2 = 2 ^ k * q by omega]
  exact Nat.mul_mod_right _ _
theorem tier_append : ∀ (k : Nat) (l m : List α), l.length % 2 ^ k = 0 → tier f k (l ++ m) = tier f k l ++ tier f k m
  | 0, l, m, _ => rfl
  | k + 1, l, m, h => by
    obtain ⟨h1, h2⟩ := even_half h
    show tier f k (up f (l ++ m)) = tier f k (up f l) ++ tier f k (up f m)
    rw [up_append f l m h1]
    exact tier_append k _ _ (by rw [up_len]; exact h2)
theorem tier_short : ∀ (k : Nat) (l : List α), 0 < l.length → l.length ≤ 2 ^ k → (tier f k l).length = 1
  | 0, l, h0, h1 => by simp at h1; show l.length = 1; omega
  | k + 1, l, h0, h1 => by
    have := Nat.pow_succ 2 k
    exact tier_short k (up f l) (by rw [up_len]; omega) (by rw [up_len]; omega)
theorem tier_one (a : α) : ∀ k : Nat, tier f k [a] = [a]
  | 0 => rfl
  | k + 1 => tier_one a k
theorem tier_add (j : Nat) : ∀ (k : Nat) (l : List α), tier f (k + j) l = tier f j (tier f k l)
  | 0, l => by rw [Nat.zero_add]; rfl
  | k + 1, l => by
    rw [show k + 1 + j = (k + j) + 1 by omega]
    exact tier_add j k (up f l)
theorem tier_stable (l : List α) (h0 : 0 < l.length) (k m : Nat) (h : l.length ≤ 2 ^ k) (hkm : k ≤ m) : tier f m l = tier f k l := by
  obtain ⟨d, rfl⟩ := Nat.exists_eq_add_of_le hkm
  rw [tier_add]
  obtain ⟨x, hx⟩ := List.length_eq_one_iff.1 (tier_short f k l h0 h)
  rw [hx, tier_one]
/-- The only one of the highest row. -/
def top [Inhabited α] (l : List α) : α := (tier f l.length l).headD default
theorem tier_top [Inhabited α] (l : List α) (h0 : 0 < l.length) (k : Nat) (h : l.length ≤ 2 ^ k) : tier f k l = [top f l] := by
  have e : tier f l.length l = tier f k l := by
    rcases Nat.le_total k l.length with hk | hk
    · exact tier_stable f l h0 k _ h hk
    · exact (tier_stable f l h0 l.length k (Nat.le_of_lt Nat.lt_two_pow_self) hk).symm
  obtain ⟨x, hx⟩ := List.length_eq_one_iff.1 (tier_short f k l h0 h)
  unfold top
  rw [e, hx]
  rfl
theorem top_one [Inhabited α] (a : α) : top f [a] = a := rfl
/-- By halves: the left one is the greatest power of two below the length. -/
theorem tier_two [Inhabited α] (l : List α) (k : Nat) (h1 : 2 ^ k < l.length) (h2 : l.length ≤ 2 ^ (k + 1)) : tier f k l = [top f (l.take (2 ^ k)), top f (l.drop (2 ^ k))] := by
  have hp : 0 < 2 ^ k := Nat.two_pow_pos k
  have := Nat.pow_succ 2 k
  have lt : (l.take (2 ^ k)).length = 2 ^ k := by rw [List.length_take]; omega
  have e := tier_append f k (l.take (2 ^ k)) (l.drop (2 ^ k)) (by rw [lt]; exact Nat.mod_self _)
  rw [List.take_append_drop] at e
  rw [e, tier_top f _ (by omega) k (by omega), tier_top f (l.drop (2 ^ k)) (by rw [List.length_drop]; omega) k (by rw [List.length_drop]; omega)]
  rfl
theorem top_two [Inhabited α] (l : List α) (k : Nat) (h1 : 2 ^ k < l.length) (h2 : l.length ≤ 2 ^ (k + 1)) : top f l = f (top f (l.take (2 ^ k))) (top f (l.drop (2 ^ k))) := by
  have e := tier_top f l (by omega) (k + 1) h2
  rw [tier_up, tier_two f l k h1 h2] at e
  simpa [up] using e.symm

/-- The place beside. -/
def beside (i : Nat) : Nat := i + 1 - 2 * (i % 2)
/-- What stands beside the way, k rows up. -/
def way : Nat → Nat → List α → List α
  | 0, _, _ => []
  | k + 1, i, l => l[beside i]?.toList ++ way k (i / 2) (up f l)
theorem way_one (a : α) : ∀ k : Nat, way f k 0 [a] = []
  | 0 => rfl
  | k + 1 => way_one a k
theorem beside_lt {i n : Nat} (hn : n % 2 = 0) (h : i < n) : beside i < n := by unfold beside; omega
theorem beside_add {i n : Nat} (hn : n % 2 = 0) : beside (n + i) = n + beside i := by unfold beside; omega
theorem way_left : ∀ (k i : Nat) (l m : List α), l.length % 2 ^ k = 0 → i < l.length → way f k i (l ++ m) = way f k i l
  | 0, i, l, m, _, _ => rfl
  | k + 1, i, l, m, h, hi => by
    obtain ⟨h1, h2⟩ := even_half h
    show (l ++ m)[beside i]?.toList ++ way f k (i / 2) (up f (l ++ m)) = _
    rw [up_append f l m h1, way_left k (i / 2) (up f l) (up f m) (by rw [up_len]; exact h2) (by rw [up_len]; omega), List.getElem?_append_left (beside_lt h1 hi)]
    rfl
theorem way_right : ∀ (k i : Nat) (l m : List α), l.length % 2 ^ k = 0 → way f k (l.length + i) (l ++ m) = way f k i m
  | 0, i, l, m, _ => rfl
  | k + 1, i, l, m, h => by
    obtain ⟨h1, h2⟩ := even_half h
    show (l ++ m)[beside (l.length + i)]?.toList ++ way f k ((l.length + i) / 2) (up f (l ++ m)) = _
    rw [up_append f l m h1, beside_add h1, List.getElem?_append_right (by omega), show l.length + beside i - l.length = beside i by omega,
      show (l.length + i) / 2 = (up f l).length + i / 2 by rw [up_len]; omega, way_right k (i / 2) (up f l) (up f m) (by rw [up_len]; exact h2)]
    rfl
theorem way_up : ∀ (k i : Nat) (l : List α), way f (k + 1) i l = way f k i l ++ (tier f k l)[beside (i / 2 ^ k)]?.toList
  | 0, i, l => by simp [way, tier]
  | k + 1, i, l => by
    show l[beside i]?.toList ++ way f (k + 1) (i / 2) (up f l) = (l[beside i]?.toList ++ way f k (i / 2) (up f l)) ++ (tier f k (up f l))[beside (i / 2 ^ (k + 1))]?.toList
    rw [way_up k (i / 2) (up f l), List.append_assoc, Nat.div_div_eq_div_mul, Nat.pow_succ, Nat.mul_comm (2 ^ k) 2]
theorem way_stable (l : List α) (i k : Nat) (hi : i < l.length) (h : l.length ≤ 2 ^ k) : ∀ d : Nat, way f (k + d) i l = way f k i l
  | 0 => rfl
  | d + 1 => by
    have hk : 2 ^ k ≤ 2 ^ (k + d) := Nat.pow_le_pow_right (by omega) (by omega)
    obtain ⟨x, hx⟩ := List.length_eq_one_iff.1 (tier_short f (k + d) l (by omega) (by omega))
    rw [show k + (d + 1) = (k + d) + 1 by omega, way_up, hx, Nat.div_eq_of_lt (by omega), way_stable l i k hi h d]
    simp [beside]
/-- The path of a place. -/
def pathOf (i : Nat) (l : List α) : List α := way f l.length i l
theorem way_path (l : List α) (i k : Nat) (hi : i < l.length) (h : l.length ≤ 2 ^ k) : way f k i l = pathOf f i l := by
  unfold pathOf
  rcases Nat.le_total k l.length with hk | hk
  · obtain ⟨d, hd⟩ := Nat.exists_eq_add_of_le hk
    have := way_stable f l i k hi h d
    rw [← hd] at this
    exact this.symm
  · obtain ⟨d, hd⟩ := Nat.exists_eq_add_of_le hk
    have := way_stable f l i l.length hi (Nat.le_of_lt Nat.lt_two_pow_self) d
    rw [← hd] at this
    exact this
theorem path_one (a : α) : pathOf f 0 [a] = [] := rfl
theorem path_left [Inhabited α] (l : List α) (i k : Nat) (h1 : 2 ^ k < l.length) (h2 : l.length ≤ 2 ^ (k + 1)) (hi : i < 2 ^ k) : pathOf f i l = pathOf f i (l.take (2 ^ k)) ++ [top f (l.drop (2 ^ k))] := by
  have lt : (l.take (2 ^ k)).length = 2 ^ k := by rw [List.length_take]; omega
  have e := way_left f k i (l.take (2 ^ k)) (l.drop (2 ^ k)) (by rw [lt]; exact Nat.mod_self _) (by omega)
  rw [List.take_append_drop] at e
  rw [← way_path f l i (k + 1) (by omega) h2, way_up, tier_two f l k h1 h2, e, Nat.div_eq_of_lt hi, way_path f _ i k (by omega) (by omega)]
  rfl
theorem path_right [Inhabited α] (l : List α) (i k : Nat) (h1 : 2 ^ k < l.length) (h2 : l.length ≤ 2 ^ (k + 1)) (hi : 2 ^ k ≤ i) (hn : i < l.length) : pathOf f i l = pathOf f (i - 2 ^ k) (l.drop (2 ^ k)) ++ [top f (l.take (2 ^ k))] := by
  have hp : 0 < 2 ^ k := Nat.two_pow_pos k
  have := Nat.pow_succ 2 k
  have lt : (l.take (2 ^ k)).length = 2 ^ k := by rw [List.length_take]; omega
  have e := way_right f k (i - 2 ^ k) (l.take (2 ^ k)) (l.drop (2 ^ k)) (by rw [lt]; exact Nat.mod_self _)
  rw [List.take_append_drop, lt, show 2 ^ k + (i - 2 ^ k) = i by omega] at e
  have hd : i / 2 ^ k = 1 := by
    rw [show i = 2 ^ k + (i - 2 ^ k) by omega, Nat.add_div_left _ hp, Nat.div_eq_of_lt (by omega)]
  rw [← way_path f l i (k + 1) (by omega) h2, way_up, tier_two f l k h1 h2, e, hd, way_path f _ (i - 2 ^ k) k (by rw [List.length_drop]; omega) (by rw [List.length_drop]; omega)]
  rfl

/-- What a path leads to from a place of so many, at most d rows up: none, where it is too long or too short. -/
def ascend : Nat → α → Nat → Nat → List α → Option α
  | 0, now, _, _, p => if p.isEmpty then some now else none
  | d + 1, now, i, n, p =>
    if n ≤ 1 then (if p.isEmpty then some now else none)
    else if beside i < n then (match p with | [] => none | x :: q => ascend d (if i % 2 = 0 then f now x else f x now) (i / 2) ((n + 1) / 2) q)
    else ascend d now (i / 2) ((n + 1) / 2) p
theorem up_get [Inhabited α] : ∀ (l : List α) (i : Nat), i < l.length → (up f l).getD (i / 2) default =
    if beside i < l.length then (if i % 2 = 0 then f (l.getD i default) (l.getD (beside i) default) else f (l.getD (beside i) default) (l.getD i default)) else l.getD i default
  | [], i, h => by simp at h
  | [a], i, h => by
    have : i = 0 := by simp at h; omega
    subst this
    rfl
  | a :: b :: l, 0, h => by simp [up, beside]
  | a :: b :: l, 1, h => by simp [up, beside]
  | a :: b :: l, i + 2, h => by
    have ih := up_get l i (by simp at h; omega)
    rw [show (i + 2) / 2 = i / 2 + 1 by omega, show beside (i + 2) = beside i + 2 by unfold beside; omega, show (i + 2) % 2 = i % 2 by omega]
    simpa [up, List.getD_cons_succ] using ih
theorem ascend_way [Inhabited α] : ∀ (d : Nat) (l : List α) (i : Nat), i < l.length → l.length ≤ 2 ^ d → ascend f d (l.getD i default) i l.length (way f d i l) = some (top f l)
  | 0, l, i, hi, h => by
    obtain ⟨a, rfl⟩ := List.length_eq_one_iff.1 (show l.length = 1 by simp at h; omega)
    have : i = 0 := by simp at hi; omega
    subst this
    rfl
  | d + 1, l, i, hi, h => by
    have hp := Nat.pow_succ 2 d
    by_cases h1 : l.length ≤ 1
    · obtain ⟨a, rfl⟩ := List.length_eq_one_iff.1 (show l.length = 1 by omega)
      have : i = 0 := by simp at hi; omega
      subst this
      rw [way_one]
      rfl
    · have ih := ascend_way d (up f l) (i / 2) (by rw [up_len]; omega) (by rw [up_len]; omega)
      rw [up_get f l i hi, up_len] at ih
      have ht : top f (up f l) = top f l := by
        have e1 := tier_top f l (by omega) (d + 1) h
        have e2 := tier_top f (up f l) (by rw [up_len]; omega) d (by rw [up_len]; omega)
        have e3 : tier f (d + 1) l = tier f d (up f l) := rfl
        rw [e3, e2] at e1
        simpa using e1
      rw [ht] at ih
      unfold ascend
      rw [if_neg h1]
      by_cases hb : beside i < l.length
      · rw [if_pos hb] at ih ⊢
        have : way f (d + 1) i l = l.getD (beside i) default :: way f d (i / 2) (up f l) := by
          show l[beside i]?.toList ++ _ = _
          rw [List.getElem?_eq_getElem hb]
          simp [List.getD, hb]
        rw [this]
        exact ih
      · rw [if_neg hb] at ih ⊢
        have : way f (d + 1) i l = way f d (i / 2) (up f l) := by
          show l[beside i]?.toList ++ _ = _
          rw [List.getElem?_eq_none (by omega)]
          rfl
        rw [this]
        exact ih
/-- More rows than there are change nothing. -/
theorem ascend_more : ∀ (d e : Nat) (now : α) (i n : Nat) (p : List α), n ≤ 2 ^ d → ascend f (d + e) now i n p = ascend f d now i n p
  | 0, 0, _, _, _, _, _ => rfl
  | 0, e + 1, now, i, n, p, h => by
    rw [show 0 + (e + 1) = e + 1 by omega]
    unfold ascend
    rw [if_pos (by simpa using h)]
  | d + 1, e, now, i, n, p, h => by
    have hp := Nat.pow_succ 2 d
    rw [show d + 1 + e = (d + e) + 1 by omega]
    unfold ascend
    by_cases h1 : n ≤ 1
    · rw [if_pos h1, if_pos h1]
    · rw [if_neg h1, if_neg h1]
      by_cases hb : beside i < n
      · rw [if_pos hb, if_pos hb]
        cases p with
        | nil => rfl
        | cons x q => exact ascend_more d e _ _ _ q (by omega)
      · rw [if_neg hb, if_neg hb]
        exact ascend_more d e _ _ _ p (by omega)
/-- How many stand beside the way from a place of so many. -/
def tally : Nat → Nat → Nat → Nat
  | 0, _, _ => 0
  | d + 1, i, n => if n ≤ 1 then 0 else (if beside i < n then 1 else 0) + tally d (i / 2) ((n + 1) / 2)
/-- A path that leads somewhere is just so long. -/
theorem ascend_len : ∀ (d : Nat) (now : α) (i n : Nat) (p : List α) (r : α), ascend f d now i n p = some r → p.length = tally d i n
  | 0, now, i, n, p, r, h => by
    cases p with
    | nil => rfl
    | cons x q => simp [ascend] at h
  | d + 1, now, i, n, p, r, h => by
    unfold ascend at h
    unfold tally
    by_cases h1 : n ≤ 1
    · rw [if_pos h1] at h ⊢
      cases p with
      | nil => rfl
      | cons x q => simp at h
    · rw [if_neg h1] at h ⊢
      by_cases hb : beside i < n
      · rw [if_pos hb] at h ⊢
        cases p with
        | nil => simp at h
        | cons x q =>
          have := ascend_len d _ _ _ q r h
          rw [List.length_cons, this]; omega
      · rw [if_neg hb] at h ⊢
        have := ascend_len d _ _ _ p r h
        omega
/-- So no path of another length leads anywhere. -/
theorem ascend_other {d : Nat} {now : α} {i n : Nat} {p : List α} {r : α} (h : ascend f d now i n p = some r) (q : List α) (hq : q.length ≠ p.length) (now' : α) : ascend f d now' i n q = none := by
  cases e : ascend f d now' i n q with
  | none => rfl
  | some r' =>
    have h1 := ascend_len f d _ _ _ _ _ h
    have h2 := ascend_len f d _ _ _ _ _ e
    omega
end
end Go.Proofs.YtmbfpopfabjodaaDoor
