/- The walk of VeilLong. -/
import Derived.Test.YtjfkhclcjggoeaaDoorCloses11
namespace Go.Proofs.YtjfkhclcjggoeaaDoor
open Go.RowKit

set_option linter.unusedSimpArgs false in
set_option maxRecDepth 100000 in
set_option maxHeartbeats 6400000 in
theorem long_out {w : World} (z : Int) (h : z < 65530 ∨ 65560 < z) (hk : KsAt w) : Calls Tryd.prog 5 #[.int .i64 z] w fun e w' => e = .returned (.bool true) ∧ Below w.heap.size w w' := by
  have HK := Lib.hid hk
  have hh : z < 65530 ∨ (¬ z < 65530 ∧ 65560 < z) := by omega
  clear hk h
  rcases hh with f1 | ⟨f1, f2⟩
  all_goals
    go_enter Tryd.func5, Tryd.ntmps5
    go_wp2_with (first | (go_at_call 11; (with_reducible refine (awake11_any HK.out).mono ?_); rintro e wz ⟨rfl, hbz⟩; have HBZ := Lib.hid hbz; clear hbz) | fail)
    go_ret
    exact ⟨rfl, HBZ.out⟩
set_option linter.unusedSimpArgs false in
set_option maxRecDepth 100000 in
set_option maxHeartbeats 6400000 in
theorem long_in {w : World} (n : Nat) (h1 : 65530 ≤ n) (h2 : n ≤ 65560) (hk : KsAt w) : Calls Tryd.prog 5 #[.int .i64 (n : Int)] w fun e w' => e = .returned (.bool true) ∧ Below w.heap.size w w' := by
  obtain ⟨i0, hi, hz0, hz1, hz2⟩ := info_parts Tryd.info5
  obtain ⟨z, hz, hzl⟩ : ∃ z, zero32 = z ∧ z.length = 32 := ⟨_, rfl, rfl⟩
  have f1 : ¬ (n : Int) < 65530 := by omega
  have f2 : ¬ 65560 < (n : Int) := by omega
  have HI := Lib.hid hi
  have HZ := Lib.hid hz
  have HZL := Lib.hid hzl
  have HK := Lib.hid hk
  clear hi hz hzl hk
  go_enter Tryd.func5, Tryd.ntmps5
  go_upto_region 4 with (at_make; refine wpList_make_full _ rfl _ _ 24 rfl w.heap.size 5 i0 _ 1 Tryd.underlying24 HI.out hz0 hz1 _ _ _ _ n rfl rfl rfl rfl (by rw [hz2]; omega) (by unfold maxLen; omega) (Nat.le_refl _) ?_; intro w2 hown hgrow)
  have hkey := Keying.begun (s := []) hown hgrow
  obtain ⟨⟨L, hL, hh⟩, hg0, hb2⟩ := hkey
  obtain ⟨g, hg⟩ : ∃ g, g = w.heap.size := ⟨_, rfl⟩
  rw [← hg] at hh ⊢
  have HL := Lib.hid hL.1
  have HB2 := Lib.hid hb2
  have HR2 : Hid (Row w2 (some ⟨g, 0, none⟩) n n L) := Lib.hid (row_block hh hL.1 (by omega))
  have HK2 := Lib.hid (HK.out.below hb2)
  clear hown hgrow hL hh hg0 hb2 hg hz0 hz1 hz2 HK
  have hclose : ∃ (m : Nat) (e0 : Int), (65536 < n → m = 0 ∧ e0 = 3) ∧ (n ≤ 65536 → m = 16 + n ∧ e0 = 0) ∧ ∀ W : World, Below w2.heap.size w2 W → Calls Tryd.prog 9 #[.agg (cellsOf z).toArray, .slice (some ⟨g, 0, none⟩) n n] W fun e w' => ∃ a c, e = .returned (.tuple #[.slice a m c, .int .i64 e0]) ∧ Below W.heap.size W w' := by
    by_cases h : n ≤ 65536
    · exact ⟨16 + n, 0, fun h3 => absurd h (by omega), fun _ => ⟨rfl, rfl⟩, fun W hW => (close_any HZL.out (HR2.out.below hW) h (HK2.out.below hW)).mono fun e w' ⟨a, c, e1, _, e3⟩ => ⟨a, c, e1, e3⟩⟩
    · exact ⟨0, 3, fun _ => ⟨rfl, rfl⟩, fun h3 => absurd h3 h, fun W hW => (close_long (by omega) (by omega)).mono fun e w' ⟨e1, e3⟩ => ⟨none, 0, e1, e3⟩⟩
  obtain ⟨m, e0, hm1, hm2, hclose⟩ := hclose
  have hopen : ∀ W : World, Below w2.heap.size w2 W → Calls Tryd.prog 10 #[.agg (cellsOf z).toArray, .slice (some ⟨g, 0, none⟩) n n] W fun e w' => ∃ (a : Option Addr) (k c : Nat) (e1 : Int), e = .returned (.tuple #[.slice a k c, .int .i64 e1]) ∧ Below W.heap.size W w' ∧ (65552 < n → k = 0 ∧ e1 = 3) ∧ (n ≤ 65552 → (e1 != 3) = true ∧ (e1 != 2) = true) := fun W hW => by
    by_cases h : n ≤ 65552
    · refine (open_any HZL.out (HR2.out.below hW) (by omega) h (HK2.out.below hW)).mono ?_
      rintro e w' ⟨hb, ⟨_, a2, c2, e2, _⟩ | ⟨_, e2⟩⟩
      · exact ⟨a2, n - 16, c2, 0, e2, hb, fun h3 => absurd h (by omega), fun _ => by decide⟩
      · exact ⟨none, 0, 0, 4, e2, hb, fun h3 => absurd h (by omega), fun _ => by decide⟩
    · refine (open_long (by omega) (by omega)).mono ?_
      rintro e w' ⟨e2, hb⟩
      exact ⟨none, 0, 0, 3, e2, hb, fun _ => ⟨rfl, rfl⟩, fun h3 => absurd h3 h⟩
  have HCL := Lib.hid hclose
  have HOP := Lib.hid hopen
  have HM1 := Lib.hid hm1
  have HM2 := Lib.hid hm2
  clear hclose hopen hm1 hm2 HZL HR2 HL
  go_wp2_with fail
  rw [← zero32_is, HZ.out]
  refine (HCL.out _ (Below.refl _ _)).mono ?_
  rintro e w3 ⟨a3, c3, rfl, hb3⟩
  have HB3 := Lib.hid hb3
  clear hb3
  go_wp2_with fail
  rw [← zero32_is, HZ.out]
  refine (HOP.out _ HB3.out).mono ?_
  rintro e w4 ⟨a4, k4, c4, e4, rfl, hb4, hk1, hk2⟩
  have HB4 := Lib.hid (bthen HB3.out hb4)
  have HK4 := Lib.hid (HK2.out.below HB4.out)
  have HBW := Lib.hid (bthen HB2.out HB4.out)
  clear hb4 HCL HOP HB3 HB4 HK2 HB2 HZ
  by_cases h36 : 65536 < n
  · have g1 : (65536 : Int) < (n : Int) := by omega
    obtain ⟨rfl, rfl⟩ := HM1.out h36
    clear HM1 HM2
    by_cases h52 : 65552 < n
    · have g2 : (65552 : Int) < (n : Int) := by omega
      obtain ⟨rfl, rfl⟩ := hk1 h52
      clear hk1 hk2
      go_wp2_with (first | (go_at_call 11; (with_reducible refine (awake11_any HK4.out).mono ?_); rintro e wz ⟨rfl, hbz⟩; have HBZ := Lib.hid hbz; clear hbz) | fail)
      go_ret
      exact ⟨rfl, bthen HBW.out HBZ.out⟩
    · have g2 : ¬ (65552 : Int) < (n : Int) := by omega
      obtain ⟨k1, k2⟩ := hk2 (by omega)
      clear hk1 hk2
      go_wp2_with (first | (go_at_call 11; (with_reducible refine (awake11_any HK4.out).mono ?_); rintro e wz ⟨rfl, hbz⟩; have HBZ := Lib.hid hbz; clear hbz) | fail)
      go_ret
      exact ⟨rfl, bthen HBW.out HBZ.out⟩
  · have g1 : ¬ (65536 : Int) < (n : Int) := by omega
    have g2 : ¬ (65552 : Int) < (n : Int) := by omega
    have g3 : (n : Int) ≤ 65536 := by omega
    obtain ⟨rfl, rfl⟩ := HM2.out (by omega)
    obtain ⟨k1, k2⟩ := hk2 (by omega)
    clear hk1 hk2 HM1 HM2
    go_wp2_with (first | (go_at_call 11; (with_reducible refine (awake11_any HK4.out).mono ?_); rintro e wz ⟨rfl, hbz⟩; have HBZ := Lib.hid hbz; clear hbz) | fail)
    go_ret
    exact ⟨rfl, bthen HBW.out HBZ.out⟩
theorem longLaw_walk {w : World} (z : Int) (hk : KsAt w) : Calls Tryd.prog 5 #[.int .i64 z] w fun e w' => e = .returned (.bool true) ∧ Below w.heap.size w w' := by
  by_cases h : 65530 ≤ z ∧ z ≤ 65560
  · have := long_in (w := w) z.toNat (by omega) (by omega) hk
    rwa [show ((z.toNat : Nat) : Int) = z by omega] at this
  · exact long_out z (by omega) hk
end Go.Proofs.YtjfkhclcjggoeaaDoor
