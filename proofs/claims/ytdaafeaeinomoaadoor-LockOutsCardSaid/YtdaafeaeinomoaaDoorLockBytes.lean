/- An out's bytes, and the out that is read of bytes: plainly; each is the other's. -/
import Derived.Test.YtdaafeaeinomoaaDoorReads
import Derived.Test.YtdaafeaeinomoaaDoorLockOut
namespace Go.Proofs.YtdaafeaeinomoaaDoor
open Go.RowKit

/-- What a way says, without where it lies. -/
def PWay.strip (x : PWay) : PWay := ⟨none, 0, 0, x.ks, x.h, x.after, x.wait⟩
theorem alikeW_strip {x y : PWay} : alikeW x y = true ↔ x.strip = y.strip := by
  unfold alikeW PWay.strip
  simp
theorem alikeWs_strip : ∀ {xs ys : List PWay}, alikeWs xs ys = true ↔ xs.map PWay.strip = ys.map PWay.strip
  | [], [] => by simp [alikeWs]
  | [], y :: ys => by simp [alikeWs]
  | x :: xs, [] => by simp [alikeWs]
  | x :: xs, y :: ys => by simp only [alikeWs, Bool.and_eq_true, alikeW_strip, alikeWs_strip (xs := xs) (ys := ys), List.map_cons, List.cons.injEq]
theorem wayOk_strip (x : PWay) : wayOk x.strip = wayOk x := rfl
theorem outOk_strip (m : Int) (xs : List PWay) : outOk m (xs.map PWay.strip) = outOk m xs := by
  unfold outOk
  rw [List.length_map, List.all_map]
  rfl
/-- The bytes. -/
def wayB (x : PWay) : List UInt8 := numB (x.ks.length : Nat) ++ (numsB x.ks ++ (x.h ++ numsB [x.after, x.wait]))
def waysB : List PWay → List UInt8
  | [] => []
  | x :: xs => wayB x ++ waysB xs
def outB (m : Int) (xs : List PWay) : List UInt8 := numsB [m, (xs.length : Nat)] ++ waysB xs
theorem waysB_snoc : ∀ (xs : List PWay) (x : PWay), waysB (xs ++ [x]) = waysB xs ++ wayB x
  | [], x => by simp [waysB]
  | y :: xs, x => by simp [waysB, waysB_snoc xs x]
theorem waysB_take (xs : List PWay) (k : Nat) (h : k < xs.length) : waysB (xs.take (k + 1)) = waysB (xs.take k) ++ wayB (xs.getD k noWay) := by
  rw [List.take_succ_eq_append_getElem h, waysB_snoc]
  simp [List.getD, h]
theorem waysB_drop (xs : List PWay) (k : Nat) (h : k < xs.length) : waysB (xs.drop k) = wayB (xs.getD k noWay) ++ waysB (xs.drop (k + 1)) := by
  rw [List.drop_eq_getElem_cons h]
  simp [waysB, List.getD, h]
theorem wayB_strip (x : PWay) : wayB x.strip = wayB x := rfl
theorem waysB_strip : ∀ xs : List PWay, waysB (xs.map PWay.strip) = waysB xs
  | [] => rfl
  | x :: xs => by simp [waysB, waysB_strip xs, wayB_strip]
theorem outB_strip (m : Int) (xs : List PWay) : outB m (xs.map PWay.strip) = outB m xs := by
  unfold outB
  rw [waysB_strip, List.length_map]
theorem wayB_len {x : PWay} (h : x.h.length = 32) : (wayB x).length ≤ 59 + 9 * x.ks.length := by
  have h1 := (numB_len (x.ks.length : Nat)).2
  have h2 := numsB_len x.ks
  have h3 := numsB_len [x.after, x.wait]
  simp only [List.length_cons, List.length_nil] at h3
  unfold wayB
  simp only [List.length_append, h]
  omega
theorem waysB_len {K : Nat} : ∀ {xs : List PWay}, (∀ x ∈ xs, x.h.length = 32 ∧ x.ks.length ≤ K) → (waysB xs).length ≤ xs.length * (59 + 9 * K)
  | [], _ => by simp [waysB]
  | x :: xs, h => by
    have ih := waysB_len (xs := xs) (fun y hy => h y (by simp [hy]))
    obtain ⟨h1, h2⟩ := h x (by simp)
    have h3 := wayB_len h1
    simp only [waysB, List.length_append, List.length_cons, Nat.add_mul]
    omega
/-- A way, ways, an out are read. -/
def wayR (s : List UInt8 × Int) : PWay × (List UInt8 × Int) :=
  (⟨none, 0, 0, (numsR 255 (upR s 16).1.toNat (upR s 16).2).1, (sumR (numsR 255 (upR s 16).1.toNat (upR s 16).2).2).1,
    (upR (sumR (numsR 255 (upR s 16).1.toNat (upR s 16).2).2).2 1073741824).1,
    (upR (upR (sumR (numsR 255 (upR s 16).1.toNat (upR s 16).2).2).2 1073741824).2 1073741824).1⟩,
   (upR (upR (sumR (numsR 255 (upR s 16).1.toNat (upR s 16).2).2).2 1073741824).2 1073741824).2)
theorem wayR_is {s s1 s2 s3 s4 s5 : List UInt8 × Int} {n a b : Int} {ks : List Int} {h : List UInt8} (e1 : upR s 16 = (n, s1)) (e2 : numsR 255 n.toNat s1 = (ks, s2)) (e3 : sumR s2 = (h, s3)) (e4 : upR s3 1073741824 = (a, s4)) (e5 : upR s4 1073741824 = (b, s5)) : wayR s = (⟨none, 0, 0, ks, h, a, b⟩, s5) := by
  unfold wayR
  rw [e1]
  dsimp only
  rw [e2]
  dsimp only
  rw [e3]
  dsimp only
  rw [e4]
  dsimp only
  rw [e5]
theorem wayR_parts (s : List UInt8 × Int) : ∃ (s1 s2 s3 s4 s5 : List UInt8 × Int) (n a b : Int) (ks : List Int) (h : List UInt8), upR s 16 = (n, s1) ∧ numsR 255 n.toNat s1 = (ks, s2) ∧ sumR s2 = (h, s3) ∧ upR s3 1073741824 = (a, s4) ∧ upR s4 1073741824 = (b, s5) ∧ wayR s = (⟨none, 0, 0, ks, h, a, b⟩, s5) :=
  ⟨_, _, _, _, _, _, _, _, _, _, rfl, rfl, rfl, rfl, rfl, rfl⟩
theorem wayR_ok {s : List UInt8 × Int} (h : (wayR s).2.2 = 0) : s.2 = 0 ∧ s.1 = wayB (wayR s).1 ++ (wayR s).2.1 := by
  obtain ⟨s1, s2, s3, s4, s5, n, a, b, ks, g, e1, e2, e3, e4, e5, e⟩ := wayR_parts s
  rw [e] at h ⊢
  replace h : s5.2 = 0 := h
  obtain ⟨h4, g5⟩ := upR_ok (s := s4) (m := 1073741824) (by rw [e5]; exact h)
  obtain ⟨h3, g4⟩ := upR_ok (s := s3) (m := 1073741824) (by rw [e4]; exact h4)
  obtain ⟨h2, g3⟩ := sumR_ok (s := s2) (by rw [e3]; exact h3)
  obtain ⟨h1, g2⟩ := numsR_ok (s := s1) (m := 255) (k := n.toNat) (by rw [e2]; exact h2)
  obtain ⟨h0, g1⟩ := upR_ok (s := s) (m := 16) (by rw [e1]; exact h1)
  have hl := numsR_len 255 s1 n.toNat
  have hr := (upR_range s (m := 16) (by omega)).1
  rw [e5] at g5
  rw [e4] at g4
  rw [e3] at g3
  rw [e2] at g2 hl
  rw [e1] at g1 hr
  dsimp only at g1 g2 g3 g4 g5 hl hr
  refine ⟨h0, ?_⟩
  have hn : ((ks.length : Nat) : Int) = n := by omega
  show s.1 = (numB (ks.length : Nat) ++ (numsB ks ++ (g ++ numsB [a, b]))) ++ s5.1
  rw [hn, g1, g2, g3, g4, g5]
  simp [numsB]
theorem rises_range : ∀ {l : List Int} {s : Int}, 0 ≤ s → rises s l = true → ∀ z ∈ l, 0 ≤ z ∧ z ≤ 255
  | [], _, _, _, z, hz => by cases hz
  | k :: l, s, hs, h, z, hz => by
    by_cases h1 : k < s
    · rw [rises_low h1] at h; cases h
    by_cases h2 : 255 < k
    · rw [rises_high h1 h2] at h; cases h
    rw [rises_more h1 h2] at h
    rcases List.mem_cons.1 hz with rfl | hz
    · omega
    · exact rises_range (s := k + 1) (by omega) h z hz
theorem wayOk_parts {x : PWay} (h : wayOk x = true) : x.ks.length ≤ 16 ∧ (∀ z ∈ x.ks, 0 ≤ z ∧ z ≤ 255) ∧ 0 ≤ x.after ∧ x.after ≤ 1073741824 ∧ 0 ≤ x.wait ∧ x.wait ≤ 1073741824 := by
  unfold wayOk okHeight at h
  simp only [Bool.and_eq_true, decide_eq_true_eq] at h
  obtain ⟨h1, h2, h3, h4⟩ := h
  exact ⟨h1, rises_range (Int.le_refl _) h2, h3.1, h3.2, h4.1, h4.2⟩
theorem wayR_put {x : PWay} (t : List UInt8) (h : wayOk x = true) (hs : x.h.length = 32) : wayR (wayB x ++ t, 0) = (x.strip, (t, 0)) := by
  obtain ⟨h1, h2, h3, h4, h5, h6⟩ := wayOk_parts h
  have e : wayB x ++ t = numB (x.ks.length : Nat) ++ (numsB x.ks ++ (x.h ++ (numB x.after ++ (numB x.wait ++ t)))) := by
    unfold wayB
    simp [numsB]
  rw [e]
  refine wayR_is (upR_put _ (by omega) (by omega) (by omega)) ?_ (sumR_put _ hs) (upR_put _ h3 h4 (by omega)) (upR_put _ h5 h6 (by omega))
  rw [Int.toNat_natCast, numsR_put _ (by omega) h2 _ (Nat.le_refl _), List.take_of_length_le (Nat.le_refl _), List.drop_of_length_le (Nat.le_refl _)]
  rfl
theorem wayR_sum (s : List UInt8 × Int) : (wayR s).1.h.length = 32 := sumR_len _
theorem wayR_le (s : List UInt8 × Int) : (wayR s).2.1.length ≤ s.1.length :=
  Nat.le_trans (upR_le _ _) (Nat.le_trans (upR_le _ _) (Nat.le_trans (sumR_le _) (Nat.le_trans (numsR_le _ _ _) (upR_le _ _))))
def waysR : Nat → List UInt8 × Int → List PWay × (List UInt8 × Int)
  | 0, s => ([], s)
  | k + 1, s => ((waysR k s).1 ++ [(wayR (waysR k s).2).1], (wayR (waysR k s).2).2)
theorem waysR_len (s : List UInt8 × Int) : ∀ k, (waysR k s).1.length = k
  | 0 => rfl
  | k + 1 => by simp [waysR, waysR_len s k]
theorem waysR_sum (s : List UInt8 × Int) : ∀ k, ∀ x ∈ (waysR k s).1, x.h.length = 32
  | 0, x, hx => by cases hx
  | k + 1, x, hx => by
    rcases List.mem_append.1 hx with hx | hx
    · exact waysR_sum s k x hx
    · simp at hx
      subst hx
      exact wayR_sum _
theorem waysR_ok {s : List UInt8 × Int} : ∀ {k : Nat}, (waysR k s).2.2 = 0 → s.2 = 0 ∧ s.1 = waysB (waysR k s).1 ++ (waysR k s).2.1
  | 0, h => ⟨h, by simp [waysR, waysB]⟩
  | k + 1, h => by
    obtain ⟨h1, h2⟩ := wayR_ok h
    obtain ⟨h3, h4⟩ := waysR_ok (k := k) h1
    refine ⟨h3, ?_⟩
    show s.1 = waysB ((waysR k s).1 ++ [(wayR (waysR k s).2).1]) ++ (wayR (waysR k s).2).2.1
    rw [waysB_snoc, List.append_assoc, ← h2]
    exact h4
theorem waysR_put {xs : List PWay} (t : List UInt8) (h : ∀ x ∈ xs, wayOk x = true ∧ x.h.length = 32) : ∀ k, k ≤ xs.length → waysR k (waysB xs ++ t, 0) = ((xs.take k).map PWay.strip, (waysB (xs.drop k) ++ t, 0))
  | 0, _ => by simp [waysR]
  | k + 1, hk => by
    have hz := h _ (List.getElem_mem (show k < xs.length by omega))
    have e : xs.getD k noWay = xs[k] := by simp [List.getD, show k < xs.length by omega]
    rw [waysR, waysR_put t h k (by omega), waysB_drop xs k (by omega), List.append_assoc, wayR_put _ (by rw [e]; exact hz.1) (by rw [e]; exact hz.2), List.take_succ_eq_append_getElem (by omega), e, List.map_append]
    rfl
theorem waysR_le (s : List UInt8 × Int) : ∀ k, (waysR k s).2.1.length ≤ s.1.length
  | 0 => Nat.le_refl _
  | k + 1 => Nat.le_trans (wayR_le _) (waysR_le s k)
/-- What is left, and the error, behind an out; the out. -/
def outEnd (s : List UInt8 × Int) : List UInt8 × Int :=
  if outOk (upR s 1125899906842624).1 (waysR (upR (upR s 1125899906842624).2 16).1.toNat (upR (upR s 1125899906842624).2 16).2).1 = true then (waysR (upR (upR s 1125899906842624).2 16).1.toNat (upR (upR s 1125899906842624).2 16).2).2
  else failR (waysR (upR (upR s 1125899906842624).2 16).1.toNat (upR (upR s 1125899906842624).2 16).2).2 4
def outR (s : List UInt8 × Int) : (Int × List PWay) × (List UInt8 × Int) :=
  if (outEnd s).2 = 0 then (((upR s 1125899906842624).1, (waysR (upR (upR s 1125899906842624).2 16).1.toNat (upR (upR s 1125899906842624).2 16).2).1), outEnd s) else ((0, []), outEnd s)
theorem outR_parts (s : List UInt8 × Int) : ∃ (s1 s2 s3 s4 : List UInt8 × Int) (m n : Int) (xs : List PWay), upR s 1125899906842624 = (m, s1) ∧ upR s1 16 = (n, s2) ∧ waysR n.toNat s2 = (xs, s3) ∧ s4 = (if outOk m xs = true then s3 else failR s3 4) ∧ outR s = (if s4.2 = 0 then ((m, xs), s4) else ((0, []), s4)) :=
  ⟨_, _, _, _, _, _, _, rfl, rfl, rfl, rfl, rfl⟩
theorem outR_ok {s : List UInt8 × Int} (h : (outR s).2.2 = 0) : outOk (outR s).1.1 (outR s).1.2 = true ∧ s.2 = 0 ∧ s.1 = outB (outR s).1.1 (outR s).1.2 ++ (outR s).2.1 := by
  obtain ⟨s1, s2, s3, s4, m, n, xs, e1, e2, e3, e4, e⟩ := outR_parts s
  have h4 : s4.2 = 0 := by
    rw [e] at h
    split at h
    · assumption
    · exact h
  rw [e, if_pos h4]
  have hok : outOk m xs = true ∧ s4 = s3 := by
    by_cases ho : outOk m xs = true
    · rw [if_pos ho] at e4
      exact ⟨ho, e4⟩
    · rw [if_neg ho] at e4
      unfold failR at e4
      by_cases h3 : s3.2 = 0
      · rw [if_pos h3] at e4
        rw [e4] at h4
        exact absurd h4 (show ¬ (4 : Int) = 0 by decide)
      · rw [if_neg h3] at e4
        rw [e4] at h4
        exact absurd h4 h3
  obtain ⟨ho, rfl⟩ := hok
  obtain ⟨h2, g3⟩ := waysR_ok (s := s2) (k := n.toNat) (by rw [e3]; exact h4)
  obtain ⟨h1, g2⟩ := upR_ok (s := s1) (m := 16) (by rw [e2]; exact h2)
  obtain ⟨h0, g1⟩ := upR_ok (s := s) (m := 1125899906842624) (by rw [e1]; exact h1)
  have hl := waysR_len s2 n.toNat
  have hr := (upR_range s1 (m := 16) (by omega)).1
  rw [e3] at g3 hl
  rw [e2] at g2 hr
  rw [e1] at g1
  dsimp only at g1 g2 g3 hl hr
  refine ⟨ho, h0, ?_⟩
  have hn : ((xs.length : Nat) : Int) = n := by omega
  show s.1 = (numsB [m, (xs.length : Nat)] ++ waysB xs) ++ s4.1
  rw [hn, g1, g2, g3]
  simp [numsB]
theorem outOk_parts {m : Int} {xs : List PWay} (h : outOk m xs = true) : 0 ≤ m ∧ m ≤ 1125899906842624 ∧ 1 ≤ xs.length ∧ xs.length ≤ 16 ∧ ∀ x ∈ xs, wayOk x = true := by
  unfold outOk at h
  simp only [Bool.and_eq_true, decide_eq_true_eq, List.all_eq_true] at h
  obtain ⟨⟨h1, h2⟩, ⟨h3, h4⟩, h5⟩ := h
  exact ⟨h1, h2, h3, h4, h5⟩
theorem outR_put {m : Int} {xs : List PWay} (t : List UInt8) (h : outOk m xs = true) (hs : ∀ x ∈ xs, x.h.length = 32) : outR (outB m xs ++ t, 0) = ((m, xs.map PWay.strip), (t, 0)) := by
  obtain ⟨s1, s2, s3, s4, m', n, ys, e1, e2, e3, e4, e⟩ := outR_parts (outB m xs ++ t, 0)
  obtain ⟨h1, h2, h3, h4, h5⟩ := outOk_parts h
  have eb : outB m xs ++ t = numB m ++ (numB (xs.length : Nat) ++ (waysB xs ++ t)) := by
    unfold outB
    simp [numsB]
  rw [eb, upR_put _ h1 h2 (by omega)] at e1
  cases e1
  rw [upR_put _ (by omega) (by omega) (by omega)] at e2
  cases e2
  rw [Int.toNat_natCast, waysR_put t (fun x hx => ⟨h5 x hx, hs x hx⟩) _ (Nat.le_refl _), List.take_of_length_le (Nat.le_refl _), List.drop_of_length_le (Nat.le_refl _)] at e3
  cases e3
  rw [outOk_strip, if_pos h] at e4
  rw [e, e4]
  rfl
theorem outR_le (s : List UInt8 × Int) : (outR s).2.1.length ≤ s.1.length := by
  have h : (outEnd s).1.length ≤ s.1.length := by
    unfold outEnd failR
    split
    · exact Nat.le_trans (waysR_le _ _) (Nat.le_trans (upR_le _ _) (upR_le _ _))
    · split <;> exact Nat.le_trans (waysR_le _ _) (Nat.le_trans (upR_le _ _) (upR_le _ _))
  unfold outR
  split <;> exact h
end Go.Proofs.YtdaafeaeinomoaaDoor
