/- What chapter 11's example comes to: true. -/
import Derived.Test.YtjfkhclcjggoeaaDoorVeilOpen
import Derived.Lib.SlBytesConst
namespace Go.Proofs.YtjfkhclcjggoeaaDoor
open Go.RowKit

set_option linter.unusedSimpArgs false in
set_option maxRecDepth 100000 in
set_option maxHeartbeats 3200000 in
theorem awake11_any {w : World} (hk : KsAt w) : Calls Tryd.prog 11 #[] w fun e w' => e = .returned (.bool true) ∧ Below w.heap.size w w' := by
  obtain ⟨z, hz, hzl⟩ : ∃ z, zero32 = z ∧ z.length = 32 := ⟨_, rfl, rfl⟩
  have kc := fun (w : World) (C : Array Value) (n c : Nat) => Lib.run_convert_bytes_const (P := Tryd.prog) w 24 5 C n c Tryd.underlying24 Tryd.underlying5
  have HC : Hid (∃ l : List UInt8, ∀ W : World, KsAt W → Calls Tryd.prog 9 #[.agg (cellsOf z).toArray, .slice none 0 0] W fun e w' => ∃ a' c', e = .returned (.tuple #[.slice a' (16 + 0) c', .int .i64 0]) ∧ Row w' a' (16 + 0) c' l ∧ Below W.heap.size W w') := Lib.hid ⟨_, fun W hW => close_any hzl (Row.nil W) (by omega) hW⟩
  have HO : Hid (∀ (W : World) (g : Nat), Calls Tryd.prog 10 #[.agg (cellsOf z).toArray, .slice (some ⟨g, 0, none⟩) 5 5] W fun e w' => e = .returned (.tuple #[.slice none 0 0, .int .i64 2]) ∧ Below W.heap.size W w') := Lib.hid (fun W g => open_short (by omega))
  obtain ⟨l, hc⟩ := HC.out
  have HCL := Lib.hid hc
  have HZ := Lib.hid hz
  have HK := Lib.hid hk
  clear hz hzl hk hc HC
  go_enter Tryd.func11, Tryd.ntmps11
  go_wp2_with fail
  rw [← zero32_is, HZ.out]
  refine (HCL.out _ HK.out).mono ?_
  rintro e w1 ⟨a1, c1, rfl, _, hb1⟩
  have HB1 := Lib.hid hb1
  clear hb1
  go_wp2_with fail
  rw [← zero32_is, HZ.out]
  refine (HO.out _ _).mono ?_
  rintro e w2 ⟨rfl, hb2⟩
  have HB2 := Lib.hid (bthen HB1.out (bthen ((Below.refl _ _).alloc (Nat.le_refl _) _) hb2))
  clear hb2
  go_wp2_with fail
  go_ret
  exact ⟨rfl, HB2.out⟩
end Go.Proofs.YtjfkhclcjggoeaaDoor
