/- The sums that the example of chapter 3 speaks of. No program is named. -/
import Derived.Test.YtmbfpopfabjodaaDoorTree
namespace Go.Proofs.YtmbfpopfabjodaaDoor

/-- The sum of a sum's leaf, and of two sums' pair. -/
def leafSum (s : List UInt8) : List UInt8 := sumOf (partsOf 1 [s])
def pairSum (a b : List UInt8) : List UInt8 := sumOf (partsOf 2 [a, b])
theorem leafSum_len (s : List UInt8) : (leafSum s).length = 32 := sumOf_len _
theorem pairSum_len (a b : List UInt8) : (pairSum a b).length = 32 := sumOf_len _
/-- The root of so many sums. -/
def rootSum (l : List (List UInt8)) : List UInt8 := if l.isEmpty then sumOf (partsOf 3 []) else top pairSum (l.map leafSum)
theorem leafA_ne : leafSum (sumOf [97]) ≠ sumOf [97] := by decide +kernel
theorem pairA_ne : pairSum (leafSum (sumOf [97])) (leafSum (sumOf [97])) ≠ leafSum (sumOf [97]) := by decide +kernel
theorem rootA_ne : rootSum [sumOf [97]] ≠ sumOf [97] := leafA_ne
theorem rootAA_ne : rootSum [sumOf [97], sumOf [97]] ≠ leafSum (sumOf [97]) := pairA_ne
theorem top_len : ∀ (l : List (List UInt8)), l ≠ [] → (∀ s ∈ l, s.length = 32) → (top pairSum l).length = 32 := by
  intro l h0 h
  have hall : ∀ (k : Nat) (l : List (List UInt8)), (∀ s ∈ l, s.length = 32) → ∀ s ∈ tier pairSum k l, s.length = 32 := by
    have hup : ∀ l : List (List UInt8), (∀ s ∈ l, s.length = 32) → ∀ s ∈ up pairSum l, s.length = 32 := by
      intro l
      induction l using up.induct with
      | case1 a b l ih =>
        intro h s hs
        simp only [up, List.mem_cons] at hs
        rcases hs with rfl | hs
        · exact pairSum_len _ _
        · exact ih (fun q hq => h q (by simp [hq])) s hs
      | case2 l hl =>
        intro h s hs
        rw [show up pairSum l = l by cases l with
          | nil => rfl
          | cons a l => cases l with
            | nil => rfl
            | cons b l => exact absurd rfl (hl a b l)] at hs
        exact h s hs
    intro k
    induction k with
    | zero => exact fun l h => h
    | succ k ih => exact fun l h => ih (up pairSum l) (hup l h)
  have hp : 0 < l.length := List.length_pos_iff.2 h0
  have e := tier_top pairSum l hp l.length (Nat.le_of_lt Nat.lt_two_pow_self)
  exact hall l.length l h _ (by rw [e]; exact List.mem_singleton_self _)
end Go.Proofs.YtmbfpopfabjodaaDoor
