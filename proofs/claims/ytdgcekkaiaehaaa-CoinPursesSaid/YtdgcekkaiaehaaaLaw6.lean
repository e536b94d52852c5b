/- Law 6's own words: right, add, few, plainly and as what the statement's functions come to. -/
import Derived.Test.YtdgcekkaiaehaaaNumbers
namespace Go.Proofs.Ytdgcekkaiaehaaa
open Go.RowKit

/-- An amount may be. -/
def okAmount (z : Int) : Bool := decide (0 ≤ z ∧ z ≤ 1125899906842624)
theorem okAmount_yes {z : Int} (h : 0 ≤ z) (h' : z ≤ 1125899906842624) : okAmount z = true := decide_eq_true ⟨h, h'⟩
theorem okAmount_no {z : Int} (h : z < 0 ∨ 1125899906842624 < z) : okAmount z = false := decide_eq_false (by omega)
/-- All together, one by one, behind a sum; and the error. -/
def addFrom (sum : Int) : List Int → Int × Int
  | [] => (sum, 0)
  | z :: l => if okAmount z then (if 1125899906842624 < sum + z then (0, 10) else addFrom (sum + z) l) else (0, 5)
theorem addFrom_bad {s z : Int} {l : List Int} (h : z < 0 ∨ 1125899906842624 < z) : addFrom s (z :: l) = (0, 5) := by unfold addFrom; rw [okAmount_no h]; rfl
theorem addFrom_over {s z : Int} {l : List Int} (h : 0 ≤ z) (h' : z ≤ 1125899906842624) (h2 : 1125899906842624 < s + z) : addFrom s (z :: l) = (0, 10) := by unfold addFrom; rw [okAmount_yes h h', if_pos rfl, if_pos h2]
theorem addFrom_more {s z : Int} {l : List Int} (h : 0 ≤ z) (h' : z ≤ 1125899906842624) (h2 : s + z ≤ 1125899906842624) : addFrom s (z :: l) = addFrom (s + z) l := by
  rw [addFrom, okAmount_yes h h', if_pos rfl, if_neg (by omega)]
theorem addFrom_range : ∀ (l : List Int) (s : Int), 0 ≤ s → s ≤ 1125899906842624 → 0 ≤ (addFrom s l).1 ∧ (addFrom s l).1 ≤ 1125899906842624
  | [], s, h, h' => ⟨h, h'⟩
  | z :: l, s, h, h' => by
    by_cases h1 : z < 0 ∨ 1125899906842624 < z
    · rw [addFrom_bad h1]; exact ⟨Int.le_refl _, by show (0 : Int) ≤ _; omega⟩
    · by_cases h2 : 1125899906842624 < s + z
      · rw [addFrom_over (by omega) (by omega) h2]; exact ⟨Int.le_refl _, by show (0 : Int) ≤ _; omega⟩
      · rw [addFrom_more (by omega) (by omega) (by omega)]
        exact addFrom_range l (s + z) (by omega) (by omega)
/-- So many thousandths of an amount. -/
def partOf (n k : Int) : Int := if okAmount n ∧ 0 ≤ k then n * (if k < 1000 then k else 1000) / 1000 else 0
/-- An amount in so many parts. -/
def splitOf (n : Int) (p : Nat) : List Int := (List.range p).map fun (j : Nat) => n / (p : Int) + (if (j : Int) < n % (p : Int) then 1 else 0)
theorem splitOf_len (n : Int) (p : Nat) : (splitOf n p).length = p := by simp [splitOf]
theorem splitOf_get (n : Int) (p j : Nat) (h : j < p) : (splitOf n p).getD j 0 = n / (p : Int) + (if (j : Int) < n % (p : Int) then 1 else 0) := by simp [splitOf, List.getD, h]
theorem right_law (z : Int) (w : World) : Calls Try.prog 11 #[.int .i64 z] w fun e w' => e = .returned (.bool (okAmount z)) ∧ w = w' := by
  by_cases h1 : 0 ≤ z
  · by_cases h2 : z ≤ 1125899906842624
    · rw [okAmount_yes h1 h2]
      go_enter Try.func11, Try.ntmps11
      go_wp2
      go_ret
      exact ⟨rfl, rfl⟩
    · rw [okAmount_no (by omega)]
      go_enter Try.func11, Try.ntmps11
      go_wp2
      go_ret
      exact ⟨rfl, rfl⟩
  · rw [okAmount_no (by omega)]
    go_enter Try.func11, Try.ntmps11
    go_wp2
    go_ret
    exact ⟨rfl, rfl⟩
set_option linter.unusedSimpArgs false in
set_option maxRecDepth 100000 in
set_option maxHeartbeats 1600000 in
theorem add_law {w : World} {a : Option Addr} {n c : Nat} {zs : List Int} (h : Numbers w a n c zs) : Calls Try.prog 9 #[.slice a n c] w fun e w' => e = .returned (.tuple #[.int .i64 (addFrom 0 zs).1, .int .i64 (addFrom 0 zs).2]) ∧ w = w' := by
  obtain ⟨R, hR⟩ : ∃ R, R = addFrom 0 zs := ⟨_, rfl⟩
  rw [← hR]
  have hlen := h.1
  have hn63 : (n : Int) ≤ 9223372036854775807 := by have h1 := h.2.1; have h2 := h.2.2.1; unfold maxLen at h2; omega
  have H := Lib.hid h
  have HR := Lib.hid hR
  have HL := Lib.hid hlen
  clear h hR hlen
  go_enter Try.func9, Try.ntmps9
  go_wp2
  go_loop [4, 5] (fun s i => ∃ (k : Nat) (S : Int), k ≤ n ∧ i = .int .i64 k ∧ s = .int .i64 S ∧ 0 ≤ S ∧ S ≤ 1125899906842624 ∧ R = addFrom S (zs.drop k)) (fun _ i => n - (intOf i).toNat)
  case atStart => exact ⟨0, 0, Nat.zero_le _, rfl, rfl, Int.le_refl _, by omega, HR.out⟩
  case round =>
    obtain ⟨k, S, hk, rfl, rfl, hS0, hS1, hRk⟩ := hrel
    by_cases hkn : k < n
    · have f1 : (k : Int) < (n : Int) := by omega
      have f0 : (0 : Int) ≤ (k : Int) := by omega
      have ft : ((k : Int)).toNat = k := by omega
      obtain ⟨b, off, rfl, _, hcells⟩ := H.out.2.2.2.2.2 (by omega)
      have hc := hcells k hkn
      obtain ⟨z1, z2⟩ := H.out.fits hkn
      rw [drop_cons (by rw [HL.out]; exact hkn)] at hRk
      obtain ⟨z, hz⟩ : ∃ z, z = zs.getD k 0 := ⟨_, rfl⟩
      rw [← hz] at hc z1 z2 hRk
      have HRK := Lib.hid hRk
      have hri : ∀ (W : World) (u : Int) (B : Bool), okAmount u = B → Calls Try.prog 11 #[.int .i64 u] W fun e w' => e = .returned (.bool B) ∧ W = w' := fun W u B hB => by rw [← hB]; exact right_law u W
      have HRI := Lib.hid hri
      clear hRk hz hcells hri HR
      by_cases h1 : z < 0 ∨ 1125899906842624 < z
      · have hR5 := HRK.out
        rw [addFrom_bad h1] at hR5
        have HN := Lib.hid (okAmount_no h1)
        clear h1
        subst hR5
        go_wp2_with (go_at_call 11; (with_reducible refine (HRI.out _ _ false HN.out).mono ?_); rintro e w' ⟨rfl, rfl⟩)
        go_ret2
        exact ⟨rfl, rfl⟩
      · have HY := Lib.hid (okAmount_yes (z := z) (by omega) (by omega))
        have iw : IntKind.i64.wrap (S + z) = S + z := IntWalk.i64_in _ (by omega)
        by_cases h2 : 1125899906842624 < S + z
        · have hR10 := HRK.out
          rw [addFrom_over (by omega) (by omega) h2] at hR10
          have HN := Lib.hid (okAmount_no (z := S + z) (.inr h2))
          clear h1 h2
          subst hR10
          go_wp2_with (go_at_call 11; first | ((with_reducible refine (HRI.out _ _ true HY.out).mono ?_); rintro e w' ⟨rfl, rfl⟩) | ((with_reducible refine (HRI.out _ _ false HN.out).mono ?_); rintro e w' ⟨rfl, rfl⟩))
          go_ret2
          exact ⟨rfl, rfl⟩
        · have hR2 := HRK.out
          rw [addFrom_more (by omega) (by omega) (by omega)] at hR2
          have HN := Lib.hid (okAmount_yes (z := S + z) (by omega) (by omega))
          have HR2 := Lib.hid hR2
          have g0 : 0 ≤ S + z := by omega
          have g1 : S + z ≤ 1125899906842624 := by omega
          clear h1 h2 hR2
          go_wp2_with (go_at_call 11; first | ((with_reducible refine (HRI.out _ _ true HY.out).mono ?_); rintro e w' ⟨rfl, rfl⟩) | ((with_reducible refine (HRI.out _ _ true HN.out).mono ?_); rintro e w' ⟨rfl, rfl⟩))
          go_round
          case rel => exact ⟨k + 1, S + z, by omega, by go_num, rfl, g0, g1, HR2.out⟩
          case measure => simp [intOf]; omega
    · have f1 : ¬ ((k : Int) < (n : Int)) := by omega
      have hd : zs.drop k = [] := List.drop_of_length_le (by rw [HL.out]; omega)
      rw [hd] at hRk
      have hRk : R = (S, 0) := hRk
      subst hRk
      clear HR
      go_wp2
      go_ret2
      exact ⟨rfl, rfl⟩
theorem few_law {w : World} {a : Option Addr} {n c : Nat} {zs : List Int} (h : Numbers w a n c zs) : Calls Try.prog 6 #[.slice a n c] w fun e w' => e = .returned (.slice a (min n 40) c) ∧ Numbers w a (min n 40) c (zs.take (min n 40)) ∧ w = w' := by
  have hr : Numbers w a (min n 40) c (zs.take (min n 40)) := h.take (by omega)
  have HR := Lib.hid hr
  have h1 := h.2.1
  have h2 := h.2.2.1
  unfold maxLen at h2
  clear h hr
  by_cases h40 : 40 < n
  · rw [Nat.min_eq_right (by omega)] at HR ⊢
    go_enter Try.func6, Try.ntmps6
    go_wp2
    go_ret
    exact ⟨rfl, HR.out, rfl⟩
  · rw [Nat.min_eq_left (by omega)] at HR ⊢
    go_enter Try.func6, Try.ntmps6
    go_wp2
    go_ret
    exact ⟨rfl, HR.out, rfl⟩
end Go.Proofs.Ytdgcekkaiaehaaa
