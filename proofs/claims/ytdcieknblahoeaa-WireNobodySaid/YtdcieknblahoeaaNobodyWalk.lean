/- WireNobody: the walk of the law (function 6): it returns true, and nothing that was there is written. -/
import Derived.Test.YtdcieknblahoeaaMore
import Derived.Deep.RegionWith
import Derived.Deep.RegionHeld3
import Derived.Deep.Cut
import Derived.Deep.CutRange
import Derived.Deep.Light
namespace Go.Proofs.Ytdcieknblahoeaa
open Go.RowKit

theorem ints_two (w : World) (z : Int) (hz : z ≤ 9223372036854775807) : Ints (w.alloc (.cells #[.int .i64 z, .int .i64 z] 3)) (some ⟨w.heap.size, 0, none⟩) 2 2 [z, z] := by
  refine ⟨rfl, Nat.le_refl _, by unfold maxLen; omega, fun y hy => ?_, fun _ => ⟨_, _, rfl, by simp, fun j hj => ?_⟩⟩
  · simp at hy; rw [hy]; exact hz
  · rw [cell_of_row _ _ _ _ 3 (0, 0) (heap_alloc_new w _)]
    match j, hj with
    | 0, _ => rfl
    | 1, _ => rfl

set_option maxRecDepth 100000 in
set_option maxHeartbeats 1600000 in
theorem nobody_walk {a : Option Addr} {n c : Nat} {l : List UInt8} (w : World) (h : Row w a n c l) (z : Int) (hz1 : z ≤ 9223372036854775807) (hz0 : -9223372036854775808 ≤ z) :
    Calls Try.prog 6 #[.slice a n c, .int .i64 z] w fun e w' => e = .returned (.bool true) ∧ Below w.heap.size w w' := by
  have H := Lib.hid h
  clear h
  go_enter Try.func6, Try.ntmps6
  go_wp2_with fail
  refine (cut_any H.out).mono ?_
  rintro r w' ⟨rfl, hr0, rfl⟩
  obtain ⟨N, hN⟩ : ∃ N, N = min n 200 := ⟨_, rfl⟩
  rw [← hN] at hr0 ⊢
  have hN200 : N ≤ 200 := by omega
  obtain ⟨L, hL⟩ : ∃ L, L = l.take 200 := ⟨_, rfl⟩
  rw [← hL] at hr0
  have HR0 := Lib.hid hr0
  clear hr0 hN hL H
  go_wp2_with fail
  refine (fail_nil _ _).mono ?_
  rintro r w' ⟨rfl, rfl⟩
  go_wp2_with fail
  refine (pnum_nil _ _ hz1).mono ?_
  rintro r w1 ⟨rfl, hb1⟩
  have HB1 := Lib.hid hb1
  clear hb1
  go_wp2_with fail
  refine (ptext_nil _ (by omega)).mono ?_
  rintro r w2 ⟨rfl, hb2⟩
  have HB2 : Hid (Below w.heap.size w w2) := HB1.out.trans (hb2.mono HB1.out.size)
  clear hb2 HB1
  go_wp2_with fail
  refine (psum_nil _ _).mono ?_
  rintro r w3 ⟨rfl, hb3⟩
  have HB3 : Hid (Below w.heap.size w w3) := HB2.out.trans (hb3.mono HB2.out.size)
  clear hb3 HB2
  go_wp2_with fail
  refine (pnums_nil (l := [z, z]) _ (ints_two w3 z hz1)).mono ?_
  rintro r w4 ⟨rfl, hb4⟩
  have HB4 : Hid (Below w.heap.size w w4) := (HB3.out.alloc HB3.out.size _).trans (hb4.mono (by have := HB3.out.size; simp; omega))
  clear hb4 HB3
  go_wp2_with fail
  refine (bytes_nil _).mono ?_
  rintro r w' ⟨rfl, rfl⟩
  go_wp2_with fail
  refine (err_nil _).mono ?_
  rintro r w' ⟨rfl, rfl⟩
  go_wp2_with fail
  refine (num_nil _).mono ?_
  rintro r w' ⟨rfl, rfl⟩
  go_wp2_with fail
  refine (upto_nil _ _).mono ?_
  rintro r w' ⟨rfl, rfl⟩
  go_wp2_with fail
  refine (raw_nil _ _).mono ?_
  rintro r w' ⟨rfl, rfl⟩
  go_wp2_with fail
  refine (text_nil _ _).mono ?_
  rintro r w' ⟨rfl, rfl⟩
  go_wp2_with fail
  refine (done_nil _).mono ?_
  rintro r w' ⟨rfl, rfl⟩
  go_wp2_with fail
  refine (look_any (HR0.out.below (HB4.out.mono (Nat.le_refl _))) (by omega)).mono ?_
  rintro r w5 ⟨yb, rfl, hyb, hy, hb5⟩
  have HR5 : Hid (Row w5 a N c L) := (HR0.out.below HB4.out).below hb5
  have hz4 := HB4.out.size
  have HB5 : Hid (Below w.heap.size w w5) := HB4.out.trans (hb5.mono hz4)
  have HY5 := Lib.hid hy
  have hyw : w.heap.size ≤ yb := by omega
  clear hb5 HB4 hy hyb
  go_wp2_with fail
  have hz5 := HB5.out.size
  have hLN : L.length = N := HR0.out.1
  have HLN := Lib.hid hLN
  clear hLN
  by_cases hbad : z < 0 ∨ (L.length : Int) < z
  · refine (raw_bad z hbad HY5.out).mono ?_
    rintro r w6 ⟨rfl, hy6, hb6⟩
    have HB6 : Hid (Below w.heap.size w w6) := HB5.out.trans ((hb6.mono hz5).below hyw)
    have HY6 := Lib.hid hy6
    clear hb6 hy6
    rw [HLN.out] at hbad
    by_cases hneg : z < 0
    · have hd : decide (z < 0) = true := by simpa using hneg
      clear hbad hneg
      go_wp2_with (first | (go_at_call 20; refine (err_at HY6.out).mono ?_; rintro r w' ⟨rfl, rfl⟩) | (go_at_call 18; refine (awake_true _).mono ?_; rintro r w7 ⟨rfl, hb7⟩; have HB7 := Lib.hid hb7; clear hb7))
      go_ret
      exact ⟨rfl, HB6.out.trans (HB7.out.mono HB6.out.size)⟩
    · have hd : decide (z < 0) = false := by simpa using hneg
      have hd2 : decide ((N : Int) < z) = true := by simp; omega
      clear hbad hneg
      go_wp2_with (first | (go_at_call 20; refine (err_at HY6.out).mono ?_; rintro r w' ⟨rfl, rfl⟩) | (go_at_call 18; refine (awake_true _).mono ?_; rintro r w7 ⟨rfl, hb7⟩; have HB7 := Lib.hid hb7; clear hb7))
      go_ret
      exact ⟨rfl, HB6.out.trans (HB7.out.mono HB6.out.size)⟩
  · obtain ⟨k, rfl⟩ := Int.eq_ofNat_of_zero_le (show 0 ≤ z by omega)
    have hkN : k ≤ N := by have := HLN.out; omega
    clear hbad
    refine (raw_good HY5.out (by rw [HLN.out]; exact hkN) (by rw [HLN.out]; omega)).mono ?_
    rintro r w6 ⟨rfl, hr6, hy6, hb6⟩
    have HN5 := Lib.hid HY5.out.noBytes
    have HRB : Hid (Row w6 a N c L) := HR5.out.but hb6 HN5.out
    have HB6 : Hid (Below w.heap.size w w6) := HB5.out.trans ((hb6.mono hz5).below hyw)
    have HY6 := Lib.hid hy6
    have HR6 := Lib.hid hr6
    clear hb6 hy6 hr6
    have hd : decide ((k : Int) < 0) = false := by simp
    have hd2 : decide (N < k) = false := by simp; omega
    go_wp2_with fail
    obtain ⟨S, hS⟩ : ∃ S : ByteArray, S = ⟨(L.take k).toArray⟩ := ⟨_, rfl⟩
    have hx : ∀ w' : World, Row w' (some ⟨w5.heap.size, 0, none⟩) k k (L.take k) → Row w' a N c L → (convert 23 9 (.slice (some ⟨w5.heap.size, 0, none⟩) k k)).run Try.prog w' = .ok (.string S) w' ∧ (convert 23 9 (.slice a k c)).run Try.prog w' = .ok (.string S) w' := by
      intro w' h1 h2
      rw [hS]
      exact ⟨conv_row h1, conv_row (h2.take hkN)⟩
    have HX := Lib.hid hx
    have hNc : N ≤ c := HRB.out.2.1
    have hcm : c ≤ 9223372036854775807 := by have := HRB.out.2.2.1; unfold maxLen at this; omega
    have hkc : k ≤ c := by omega
    clear hS hz0 hz1 hd hd2 hx
    have hs0 := HX.out w6.drew HR6.out HRB.out
    go_cut [4] from 92 to 111 (fun s w' => s = .bool true ∧ Below w.heap.size w w')
    case first =>
      by_cases hkk : k = N
      · subst hkk
        have hnil : L.drop k = [] := List.drop_eq_nil_of_le (by rw [HLN.out]; exact Nat.le_refl _)
        have HD : Hid (EyeAt w6.drew yb [] 0) := by show EyeAt w6.drew yb [] 0; rw [← hnil]; exact HY6.out
        clear hnil
        go_region_held3 (fun w' => (convert 23 9 (.slice (some ⟨w5.heap.size, 0, none⟩) k k)).run Try.prog w' = .ok (.string S) w' ∧ (convert 23 9 (.slice a k c)).run Try.prog w' = .ok (.string S) w')
          (first | exact hs0 | exact hs7)
          ((first | (go_at_call 17; refine (done_all HD.out).mono ?_; rintro r w' ⟨rfl, rfl⟩) | (go_at_call 18; refine (awake_true _).mono ?_; rintro r w7 ⟨rfl, hb7⟩; have hs7 := HX.out w7 (Row.below (w := w6.drew) HR6.out hb7) (Row.below (w := w6.drew) HRB.out hb7); have HB7 := Lib.hid hb7; clear hb7)))
        go_wp2_with fail
        go_meet
        exact ⟨rfl, HB6.out.drew.trans (HB7.out.mono HB6.out.size)⟩
      · have hkn : ((k : Int) == (N : Int)) = false := by simp; omega
        have hne : L.drop k ≠ [] := by
          intro e
          have := congrArg List.length e
          simp at this
          have := HLN.out
          omega
        have HNE := Lib.hid hne
        have HYD : Hid (EyeAt w6.drew yb (L.drop k) 0) := HY6.out
        have HN6 : Hid (NoBytes w6.drew yb) := HY6.out.noBytes
        clear hne hkk
        go_region_held3 (fun w' => (convert 23 9 (.slice (some ⟨w5.heap.size, 0, none⟩) k k)).run Try.prog w' = .ok (.string S) w' ∧ (convert 23 9 (.slice a k c)).run Try.prog w' = .ok (.string S) w')
          (first | exact hs0 | exact hs7 | exact hs8)
          ((first | (go_at_call 17; refine (done_left HNE.out HYD.out).mono ?_; rintro r w7 ⟨rfl, hy7, hb7⟩; have hs7 := HX.out w7 (Row.but (w := w6.drew) HR6.out hb7 HN6.out) (Row.but (w := w6.drew) HRB.out hb7 HN6.out); have HB7 := Lib.hid hb7; clear hb7 hy7) | (go_at_call 18; refine (awake_true _).mono ?_; rintro r w8 ⟨rfl, hb8⟩; have hs8 := HX.out w8 (Row.below (Row.but (w := w6.drew) HR6.out HB7.out HN6.out) hb8) (Row.below (Row.but (w := w6.drew) HRB.out HB7.out HN6.out) hb8); have HB8 := Lib.hid hb8; clear hb8)))
        go_wp2_with fail
        go_meet
        have hb7' : Below w.heap.size w w7 := HB6.out.drew.trans ((HB7.out.mono HB6.out.size).below hyw)
        exact ⟨rfl, hb7'.trans (HB8.out.mono hb7'.size)⟩
    case rest =>
      obtain ⟨rfl, hb⟩ := hcut
      have HB := Lib.hid hb
      clear hb
      go_wp2
      go_ret
      exact ⟨rfl, HB.out⟩
end Go.Proofs.Ytdcieknblahoeaa
