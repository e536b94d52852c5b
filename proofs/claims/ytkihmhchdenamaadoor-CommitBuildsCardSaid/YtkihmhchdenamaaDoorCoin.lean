/- What Right, Add and Sub come to. -/
import Derived.Test.YtkihmhchdenamaaDoorAmounts
namespace Go.Proofs.YtkihmhchdenamaaDoor
open Go.RowKit

theorem right_any (z : Int) (w : World) : Calls Tryd.prog 22 #[.int .i64 z] w fun e w' => e = .returned (.bool (okAmount z)) ∧ w = w' := by
  by_cases h1 : 0 ≤ z
  · by_cases h2 : z ≤ 1125899906842624
    · rw [okAmount_yes h1 h2]
      go_enter Tryd.func22, Tryd.ntmps22
      go_wp2
      go_ret
      exact ⟨rfl, rfl⟩
    · rw [okAmount_no (by omega)]
      go_enter Tryd.func22, Tryd.ntmps22
      go_wp2
      go_ret
      exact ⟨rfl, rfl⟩
  · rw [okAmount_no (by omega)]
    go_enter Tryd.func22, Tryd.ntmps22
    go_wp2
    go_ret
    exact ⟨rfl, rfl⟩
set_option linter.unusedSimpArgs false in
set_option maxRecDepth 100000 in
set_option maxHeartbeats 1600000 in
theorem add_any {w : World} {a : Option Addr} {n c : Nat} {zs : List Int} (h : Numbers w a n c zs) : Calls Tryd.prog 32 #[.slice a n c] w fun e w' => e = .returned (.tuple #[.int .i64 (addFrom 0 zs).1, .int .i64 (addFrom 0 zs).2]) ∧ Below w.heap.size w w' := by
  obtain ⟨R, hR⟩ : ∃ R, R = addFrom 0 zs := ⟨_, rfl⟩
  rw [← hR]
  have hlen := h.1
  have hn63 : (n : Int) ≤ 9223372036854775807 := by have h1 := h.2.1; have h2 := h.2.2.1; unfold maxLen at h2; omega
  have H := Lib.hid h
  have HR := Lib.hid hR
  have HL := Lib.hid hlen
  clear h hR hlen
  go_enter Tryd.func32, Tryd.ntmps32
  go_wp2
  go_loop [4, 9] (fun s i => ∃ (k : Nat) (S : Int), k ≤ n ∧ i = .int .i64 k ∧ s = .int .i64 S ∧ 0 ≤ S ∧ S ≤ 1125899906842624 ∧ R = addFrom S (zs.drop k)) (fun _ i => n - (intOf i).toNat)
  case atStart => exact ⟨0, 0, Nat.zero_le _, rfl, rfl, Int.le_refl _, by omega, HR.out⟩
  case round =>
    obtain ⟨k, S, hk, rfl, rfl, hS0, hS1, hRk⟩ := hrel
    by_cases hkn : k < n
    · have f1 : (k : Int) < (n : Int) := by omega
      have f0 : (0 : Int) ≤ (k : Int) := by omega
      have ft : ((k : Int)).toNat = k := by omega
      obtain ⟨b, off, rfl, _, hcells⟩ := H.out.2.2.2.2.2 (by omega)
      have hc := hcells k hkn
      obtain ⟨z1, z2⟩ := H.out.fits hkn
      rw [drop_cons (by rw [HL.out]; exact hkn)] at hRk
      obtain ⟨z, hz⟩ : ∃ z, z = zs.getD k 0 := ⟨_, rfl⟩
      rw [← hz] at hc z1 z2 hRk
      have HRK := Lib.hid hRk
      have hri : ∀ (W : World) (u : Int) (B : Bool), okAmount u = B → Calls Tryd.prog 22 #[.int .i64 u] W fun e w' => e = .returned (.bool B) ∧ W = w' := fun W u B hB => by rw [← hB]; exact right_any u W
      have HRI := Lib.hid hri
      clear hRk hz hcells hri HR
      by_cases h1 : z < 0 ∨ 1125899906842624 < z
      · have hR5 := HRK.out
        rw [addFrom_bad h1] at hR5
        have HN := Lib.hid (okAmount_no h1)
        clear h1
        subst hR5
        go_wp2_with (go_at_call 22; (with_reducible refine (HRI.out _ _ false HN.out).mono ?_); rintro e w' ⟨rfl, rfl⟩)
        go_ret2
        exact ⟨rfl, Below.refl _ _⟩
      · have HY := Lib.hid (okAmount_yes (z := z) (by omega) (by omega))
        have iw : IntKind.i64.wrap (S + z) = S + z := IntWalk.i64_in _ (by omega)
        by_cases h2 : 1125899906842624 < S + z
        · have hR10 := HRK.out
          rw [addFrom_over (by omega) (by omega) h2] at hR10
          have HN := Lib.hid (okAmount_no (z := S + z) (.inr h2))
          clear h1 h2
          subst hR10
          go_wp2_with (go_at_call 22; first | ((with_reducible refine (HRI.out _ _ true HY.out).mono ?_); rintro e w' ⟨rfl, rfl⟩) | ((with_reducible refine (HRI.out _ _ false HN.out).mono ?_); rintro e w' ⟨rfl, rfl⟩))
          go_ret2
          exact ⟨rfl, Below.refl _ _⟩
        · have hR2 := HRK.out
          rw [addFrom_more (by omega) (by omega) (by omega)] at hR2
          have HN := Lib.hid (okAmount_yes (z := S + z) (by omega) (by omega))
          have HR2 := Lib.hid hR2
          have g0 : 0 ≤ S + z := by omega
          have g1 : S + z ≤ 1125899906842624 := by omega
          clear h1 h2 hR2
          go_wp2_with (go_at_call 22; first | ((with_reducible refine (HRI.out _ _ true HY.out).mono ?_); rintro e w' ⟨rfl, rfl⟩) | ((with_reducible refine (HRI.out _ _ true HN.out).mono ?_); rintro e w' ⟨rfl, rfl⟩))
          go_round
          case rel => exact ⟨k + 1, S + z, by omega, by go_num, rfl, g0, g1, HR2.out⟩
          case measure => simp [intOf]; omega
    · have f1 : ¬ ((k : Int) < (n : Int)) := by omega
      have hd : zs.drop k = [] := List.drop_of_length_le (by rw [HL.out]; omega)
      rw [hd] at hRk
      have hRk : R = (S, 0) := hRk
      subst hRk
      clear HR
      go_wp2
      go_ret2
      exact ⟨rfl, Below.refl _ _⟩
/-- What is left of an amount without others, and the error. -/
def subOf (n : Int) (l : List Int) : Int × Int := if okAmount n then (if (addFrom 0 l).2 = 0 then (if n < (addFrom 0 l).1 then (0, 14) else (n - (addFrom 0 l).1, 0)) else (0, (addFrom 0 l).2)) else (0, 5)
end Go.Proofs.YtkihmhchdenamaaDoor
