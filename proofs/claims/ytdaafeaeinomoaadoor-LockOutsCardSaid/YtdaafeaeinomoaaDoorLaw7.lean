/- Law 7's own words: has, small, right, rightOut, as what the statement's functions come to. -/
import Derived.Test.YtdaafeaeinomoaaDoorLockOut
import Derived.Test.YtdaafeaeinomoaaDoorTakeAt
import Derived.Deep.CutRange
namespace Go.Proofs.YtdaafeaeinomoaaDoor
open Go.RowKit

set_option linter.unusedSimpArgs false in
set_option maxRecDepth 100000 in
set_option maxHeartbeats 3200000 in
theorem has_law {w : World} {a : Option Addr} {n c : Nat} {zs : List Int} (k : Int) (h : Numbers w a n c zs) : Calls Tryd.prog 10 #[.slice a n c, .int .i64 k] w fun e w' => e = .returned (.bool (decide (k ∈ zs))) ∧ w = w' := by
  obtain ⟨R, hR⟩ : ∃ R, R = decide (k ∈ zs) := ⟨_, rfl⟩
  rw [← hR]
  have hlen := h.1
  have hn63 : (n : Int) ≤ 9223372036854775807 := by have h1 := h.2.1; have h2 := h.2.2.1; unfold maxLen at h2; omega
  have H := Lib.hid h
  have HR := Lib.hid hR
  have HL := Lib.hid hlen
  clear h hR hlen
  go_enter Tryd.func10, Tryd.ntmps10
  go_wp2
  go_loop [5] (fun i => ∃ (j : Nat), j ≤ n ∧ i = .int .i64 j ∧ R = decide (k ∈ zs.drop j)) (fun i => n - (intOf i).toNat)
  case atStart => exact ⟨0, Nat.zero_le _, rfl, HR.out⟩
  case round =>
    obtain ⟨j, hj, rfl, hRj⟩ := hrel
    by_cases hjn : j < n
    · have f1 : (j : Int) < (n : Int) := by omega
      have f0 : (0 : Int) ≤ (j : Int) := by omega
      have ft : ((j : Int)).toNat = j := by omega
      obtain ⟨b, off, rfl, _, hcells⟩ := H.out.2.2.2.2.2 (by omega)
      have hc := hcells j hjn
      rw [drop_cons (by rw [HL.out]; exact hjn)] at hRj
      obtain ⟨z, hz⟩ : ∃ z, z = zs.getD j 0 := ⟨_, rfl⟩
      rw [← hz] at hc hRj
      have HRK := Lib.hid hRj
      clear hRj hz hcells HR
      by_cases h1 : z = k
      · have hR5 := HRK.out
        rw [decide_eq_true (by simp [h1])] at hR5
        subst hR5
        have h1' : (z == k) = true := by simpa using h1
        clear h1 HRK
        go_wp2
        go_ret
        exact ⟨rfl, rfl⟩
      · have hR5 := HRK.out
        have e5 : decide (k ∈ z :: zs.drop (j + 1)) = decide (k ∈ zs.drop (j + 1)) := by
          rw [decide_eq_decide, List.mem_cons]
          exact ⟨fun h => h.resolve_left (fun e => h1 e.symm), .inr⟩
        rw [e5] at hR5
        have HR5 := Lib.hid hR5
        have h1' : (z == k) = false := by simpa using h1
        clear hR5 HRK e5
        go_wp2
        go_round
        case rel => exact ⟨j + 1, by omega, by go_num, HR5.out⟩
        case measure => simp [intOf]; omega
    · have f1 : ¬ ((j : Int) < (n : Int)) := by omega
      have hd : zs.drop j = [] := List.drop_of_length_le (by rw [HL.out]; omega)
      rw [hd] at hRj
      replace hRj : R = false := hRj
      subst hRj
      clear hd
      clear HR
      go_wp2
      go_ret
      exact ⟨rfl, rfl⟩
/-- Few ways, with few keys each. -/
def fewW (xs : List PWay) : Bool := decide (xs.length ≤ 20) && xs.all fun x => decide (x.ks.length ≤ 20)
set_option linter.unusedSimpArgs false in
set_option maxRecDepth 100000 in
set_option maxHeartbeats 3200000 in
theorem small_law {w : World} {m : Int} {a : Option Addr} {n c : Nat} {xs : List PWay} (h : Ways w a n c xs) : Calls Tryd.prog 14 #[.agg #[.int .i64 m, .slice a n c]] w fun e w' => e = .returned (.bool (fewW xs)) ∧ Below w.heap.size w w' := by
  unfold fewW
  rw [h.1]
  have hn63 : (n : Int) ≤ 9223372036854775807 := by have h1 := h.2.1; have h2 := h.2.2.1; unfold maxLen at h2; omega
  have b1 : Below w.heap.size w (w.alloc (.cells #[.int .i64 m, .slice a n c] 38)) := (Below.refl _ _).alloc (Nat.le_refl _) _
  have h1 := heap_alloc_new w (.cells #[.int .i64 m, .slice a n c] 38)
  have hw1 := h.below b1
  by_cases h20 : n ≤ 20
  · rw [decide_eq_true h20, Bool.true_and]
    have f20 : ¬ (20 < (n : Int)) := by omega
    obtain ⟨R, hR⟩ : ∃ R, R = xs.all fun x => decide (x.ks.length ≤ 20) := ⟨_, rfl⟩
    rw [← hR]
    have HR := Lib.hid hR
    have HW1 := Lib.hid hw1
    have HB1 := Lib.hid b1
    have c0 : (w.alloc (.cells #[.int .i64 m, .slice a n c] 38)).cell? ⟨w.heap.size, 1, none⟩ = some (.slice a n c) := by rw [cell_of_row _ _ _ _ _ _ h1]; rfl
    clear hR hw1 b1 h1 h
    go_enter Tryd.func14, Tryd.ntmps14
    go_upto_region 4 with (fail)
    revert HW1 HB1 c0
    generalize (w.alloc (.cells #[.int .i64 m, .slice a n c] 38)) = w1
    obtain ⟨g, hg⟩ : ∃ g, g = w.heap.size := ⟨_, rfl⟩
    rw [← hg]
    intro HW1 HB1 c0
    rw [hg] at HB1
    clear hg
    go_loop [3] (fun i => ∃ (j : Nat), j ≤ n ∧ i = .int .i64 j ∧ R = (xs.drop j).all fun x => decide (x.ks.length ≤ 20)) (fun i => n - (intOf i).toNat)
    case atStart => exact ⟨0, Nat.zero_le _, rfl, HR.out⟩
    case round =>
      obtain ⟨j, hj, rfl, hRj⟩ := hrel
      by_cases hjn : j < n
      · have f1 : (j : Int) < (n : Int) := by omega
        have f0 : (0 : Int) ≤ (j : Int) := by omega
        have ft : ((j : Int)).toNat = j := by omega
        obtain ⟨b, off, rfl, _, hcells⟩ := HW1.out.2.2.2.2.2 (by omega)
        have hc := way_keys (hcells j hjn)
        have hk1 := (HW1.out.way hjn).keys.1
        have hk63 : ((xs.getD j noWay).n : Int) ≤ 9223372036854775807 := by have h1 := (HW1.out.way hjn).keys.2.1; have h2 := (HW1.out.way hjn).keys.2.2.1; unfold maxLen at h2; omega
        rw [ways_drop (xs := xs) (by rw [HW1.out.1]; exact hjn)] at hRj
        revert hc hk1 hk63 hRj
        generalize xs.getD j noWay = x
        intro hRj hc hk1 hk63
        replace hRj : R = (decide (x.ks.length ≤ 20) && (xs.drop (j + 1)).all fun x => decide (x.ks.length ≤ 20)) := hRj
        rw [hk1] at hRj
        clear hcells HR hk1
        by_cases hx : x.n ≤ 20
        · rw [decide_eq_true hx, Bool.true_and] at hRj
          have HRJ := Lib.hid hRj
          have f2 : ¬ (20 < (x.n : Int)) := by omega
          clear hRj
          go_wp2
          go_round
          case rel => exact ⟨j + 1, by omega, by go_num, HRJ.out⟩
          case measure => simp [intOf]; omega
        · rw [decide_eq_false hx, Bool.false_and] at hRj
          have f2 : 20 < (x.n : Int) := by omega
          subst hRj
          go_wp2
          go_ret
          exact ⟨rfl, HB1.out⟩
      · have f1 : ¬ ((j : Int) < (n : Int)) := by omega
        have hd : xs.drop j = [] := List.drop_of_length_le (by rw [HW1.out.1]; omega)
        rw [hd] at hRj
        replace hRj : R = true := hRj
        subst hRj
        clear hd
        clear HR
        go_wp2
        go_ret
        exact ⟨rfl, HB1.out⟩
  · rw [decide_eq_false h20, Bool.false_and]
    have f20 : 20 < (n : Int) := by omega
    clear h hw1 h1
    go_enter Tryd.func14, Tryd.ntmps14
    go_wp2
    go_ret
    exact ⟨rfl, b1⟩
end Go.Proofs.YtdaafeaeinomoaaDoor
