/- A view that has no map: view.All, view.Of. -/
import Derived.Test.YtdeilkpcmgcbaaaViewOf
namespace Go.Proofs.Ytdeilkpcmgcbaaa
open Go.RowKit Go.Maps

theorem keys_none {ss : List RefD} (h : SortedKeys (fun _ _ => none) ss) : ss = [] := by
  cases ss with
  | nil => rfl
  | cons x l => exact absurd rfl ((h.2 x).1 (by simp))
set_option linter.unusedSimpArgs false in
set_option maxRecDepth 100000 in
set_option maxHeartbeats 25600000 in
theorem all_nil {w : World} {pv : Value} (h : Has w pv none) :
    Calls Try.prog 19 #[pv] w fun e w' => e = .returned (.slice none 0 0) ∧ Below w.heap.size w w' := by
  have HPL := Lib.hid (places_any h (.inl ⟨rfl, rfl⟩))
  clear h
  go_enter Try.func19, Try.ntmps19
  go_upto_region 3 with (go_big_may; first | (go_at_call 27; refine HPL.out.mono ?_; rintro e w3 ⟨v3, ss, rfl, hk3, ho3, hb3⟩; obtain rfl := keys_none hk3; obtain ⟨as9, cs, rfl, _⟩ := ho3.shape; have HB3 := Lib.hid hb3; clear hk3 ho3 hb3 HPL) | fail)
  go_loopw [3, 9] (fun v i wr => i = .int .i64 0 ∧ v = .slice none 0 0 ∧ wr = w3) (fun _ _ _ => 0)
  case atStart => exact ⟨rfl, rfl, rfl⟩
  case round =>
    obtain ⟨rfl, rfl, rfl⟩ := hrel
    go_wp2_with fail
    go_ret
    exact ⟨rfl, HB3.out⟩
set_option linter.unusedSimpArgs false in
set_option maxRecDepth 100000 in
set_option maxHeartbeats 25600000 in
theorem of_nil {w : World} {pv : Value} {key : Int} (h : Has w pv none) :
    Calls Try.prog 13 #[pv, .int .i64 key] w fun e w' => e = .returned (.int .i64 0) ∧ Below w.heap.size w w' := by
  have HPL := Lib.hid (places_any h (.inl ⟨rfl, rfl⟩))
  clear h
  go_enter Try.func13, Try.ntmps13
  go_upto_region 3 with (go_big_may; first | (go_at_call 27; refine HPL.out.mono ?_; rintro e w3 ⟨v3, ss, rfl, hk3, ho3, hb3⟩; obtain rfl := keys_none hk3; obtain ⟨as9, cs, rfl, _⟩ := ho3.shape; have HB3 := Lib.hid hb3; clear hk3 ho3 hb3 HPL) | fail)
  go_loopw [5, 14] (fun v i wr => i = .int .i64 0 ∧ v = .int .i64 0 ∧ wr = w3) (fun _ _ _ => 0)
  case atStart => exact ⟨rfl, rfl, rfl⟩
  case round =>
    obtain ⟨rfl, rfl, rfl⟩ := hrel
    go_wp2_with fail
    go_ret
    exact ⟨rfl, HB3.out⟩
end Go.Proofs.Ytdeilkpcmgcbaaa
