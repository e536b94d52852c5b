/- The statement's own cut answers the first 200 bytes of a slice. -/
import Derived.Test.YtjfkhclcjggoeaaDoorSha
namespace Go.Proofs.YtjfkhclcjggoeaaDoor
open Go.RowKit


theorem cut_any {w : World} {a : Option Addr} {n c : Nat} {l : List UInt8} (h : Row w a n c l) : Calls Tryd.prog 6 #[.slice a n c] w fun e w' => e = .returned (.slice a (min n 200) c) ∧ Row w a (min n 200) c (l.take 200) ∧ w = w' := by
  have hr : Row w a (min n 200) c (l.take 200) := by
    rw [show l.take 200 = l.take (min n 200) by rw [← h.1, List.take_eq_take_iff]; omega]
    exact h.take (by omega)
  have HR := Lib.hid hr
  have h1 := h.2.1
  have h2 := h.2.2.1
  unfold maxLen at h2
  clear h hr
  by_cases h40 : 200 < n
  · rw [Nat.min_eq_right (by omega)] at HR ⊢
    go_enter Tryd.func6, Tryd.ntmps6
    go_wp2
    go_ret
    exact ⟨rfl, HR.out, rfl⟩
  · rw [Nat.min_eq_left (by omega)] at HR ⊢
    go_enter Tryd.func6, Tryd.ntmps6
    go_wp2
    go_ret
    exact ⟨rfl, HR.out, rfl⟩

end Go.Proofs.YtjfkhclcjggoeaaDoor
