/- Law 9's step. -/
import Derived.Test.YtdeilkpcmgcbaaaStepTakeNo
import Derived.Test.YtdeilkpcmgcbaaaStepTake
import Derived.Test.YtdeilkpcmgcbaaaStepBad
import Derived.Test.YtdeilkpcmgcbaaaStepPut
namespace Go.Proofs.Ytdeilkpcmgcbaaa
open Go.RowKit Go.Maps

theorem step_law {w0 w : World} {pv lv : Value} {b N : Nat} {rs : List PRow} {o : PCall} (hL : LSt w0 w pv b N lv rs) (hN1 : N + 1 ≤ 100) (ho0 : CallIn w0 o) :
    Calls Try.prog 8 #[pv, lv, .agg o.cells.toArray] w fun e w' => StepOut w0 w pv b N e w' := by
  have ho := ho0.below hL.below
  have hf := findIx_cases o.row.tx o.row.place rs 0
  by_cases hk : o.kind = 2
  · rcases hf with ⟨j, hj, e, h1, h2⟩ | ⟨e, h⟩
    · exact step_take hL ho hk hj (by rw [e, Nat.zero_add]) h1 h2
    · exact step_takeNo hL ho hk e h
  · by_cases hb : outOk o.row.out.m o.row.out.ws = false ∨ o.row.height < 0 ∨ 1073741824 < o.row.height
    · exact step_bad hL ho hk hb
    · have h1 : outOk o.row.out.m o.row.out.ws = true := by
        cases h9 : outOk o.row.out.m o.row.out.ws with
        | true => rfl
        | false => exact absurd (.inl h9) hb
      have h2 : ¬ o.row.height < 0 := fun h9 => hb (.inr (.inl h9))
      have h3 : ¬ o.row.height > 1073741824 := fun h9 => hb (.inr (.inr h9))
      rcases hf with ⟨j, hj, e, h4, h5⟩ | ⟨e, h⟩
      · exact step_twice hL ho hk h1 h2 h3 hj (by rw [e, Nat.zero_add]) h4 h5
      · exact step_put hL hN1 ho ho0.row hk h1 h2 h3 e h
end Go.Proofs.Ytdeilkpcmgcbaaa
