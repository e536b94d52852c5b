/- WireNums: the walk of the law (function 4): it returns true, and nothing that was there is written. -/
import Derived.Test.YtdcieknblahoeaaMore
import Derived.Test.YtdcieknblahoeaaNumsMath
import Derived.Deep.RegionHeld3
import Derived.Deep.Cut
import Derived.Deep.CutRange
import Derived.Deep.CutBlock
import Derived.Deep.RegionHeld
namespace Go.Proofs.Ytdcieknblahoeaa
open Go.RowKit

theorem raw_goodI {yb : Nat} {l : List UInt8} {w : World} {z : Int} (n : Nat) (h : EyeAt w yb l 0) (hn : n ≤ l.length) (hm : l.length ≤ 140737488355328) (hz : z = (n : Int)) : Calls Try.prog 21 #[.pointer (some ⟨yb, 0, none⟩), .int .i64 z] w fun r w' =>
    r = .returned (.slice (some ⟨w.heap.size, 0, none⟩) n n) ∧ Row w' (some ⟨w.heap.size, 0, none⟩) n n (l.take n) ∧ EyeAt w' yb (l.drop n) 0 ∧ But w.heap.size yb w w' := by
  subst hz
  exact raw_good h hn hm
theorem upto_err {l : List UInt8} {m : Int} {v k x : Nat} (hv : numOf l = (v, k, x)) (hx : x ≠ 0) : uptoOf l m = (0, 0, (x : Int)) := by unfold uptoOf; rw [hv]; simp [hx]
theorem upto_over {l : List UInt8} {m : Int} {v k : Nat} (hv : numOf l = (v, k, 0)) (hm : m < (v : Int)) : uptoOf l m = (0, k, 5) := by unfold uptoOf; rw [hv]; simp [hm]
theorem upto_good {l : List UInt8} {m : Int} {v k : Nat} (hv : numOf l = (v, k, 0)) (hm : ¬ m < (v : Int)) : uptoOf l m = ((v : Int), k, 0) := by unfold uptoOf; rw [hv]; simp [hm]

set_option maxRecDepth 100000 in
set_option maxHeartbeats 3200000 in
theorem nums_walk {a : Option Addr} {n c : Nat} {l : List UInt8} (w : World) (h : Row w a n c l) (z : Int) :
    Calls Try.prog 4 #[.slice a n c, .int .i64 z] w fun e w' => e = .returned (.bool true) ∧ Below w.heap.size w w' := by
  have H := Lib.hid h
  clear h
  go_enter Try.func4, Try.ntmps4
  go_wp2_with fail
  refine (cut_any H.out).mono ?_
  rintro r w' ⟨rfl, hr0, rfl⟩
  obtain ⟨N, hN⟩ : ∃ N, N = min n 200 := ⟨_, rfl⟩
  rw [← hN] at hr0 ⊢
  have hN200 : N ≤ 200 := by omega
  obtain ⟨L, hL⟩ : ∃ L, L = l.take 200 := ⟨_, rfl⟩
  rw [← hL] at hr0
  have HR0 := Lib.hid hr0
  clear hr0 hN hL H
  go_wp2_with fail
  refine (look_any HR0.out (by omega)).mono ?_
  rintro r w1 ⟨yb, rfl, hyb, hy1, hb1⟩
  have HR1 : Hid (Row w1 a N c L) := HR0.out.below hb1
  have HY1 := Lib.hid hy1
  have HB1 := Lib.hid hb1
  clear hy1 hb1
  go_wp2_with fail
  refine (look_any HR1.out (by omega)).mono ?_
  rintro r w2 ⟨zb, rfl, hzb, hz2, hb2⟩
  have HR2 : Hid (Row w2 a N c L) := HR1.out.below hb2
  have HY2 : Hid (EyeAt w2 yb L 0) := HY1.out.below hb2
  have hyz : yb < zb := by have := HY1.out.lt; omega
  have HB2 : Hid (Below w.heap.size w w2) := HB1.out.trans (hb2.mono HB1.out.size)
  have HZ2 := Lib.hid hz2
  clear hz2 hb2 HR1 HY1
  go_wp2_with fail
  obtain ⟨v, k, x, hv, h1, h2, h3, h4, h5⟩ := num_facts L
  have HV := Lib.hid hv
  refine (num_is HY2.out hv).mono ?_
  rintro r w3 ⟨rfl, hy3, hb3⟩
  have hny2 := HY2.out.noBytes
  have HR3 : Hid (Row w3 a N c L) := HR2.out.but hb3 hny2
  have HZ3 : Hid (EyeAt w3 zb L 0) := HZ2.out.but hb3 hny2 (by omega)
  have HY3 := Lib.hid hy3
  have HB3 : Hid (Below w.heap.size w w3) := HB2.out.trans ((hb3.mono HB2.out.size).below hyb)
  clear hy3 hb3 hny2 HR2 HY2 HZ2 hv
  go_wp2_with fail
  refine (upto_first z HZ3.out).mono ?_
  rintro r w4 ⟨rfl, hz4, hb4⟩
  have hnz3 := HZ3.out.noBytes
  have HR4 : Hid (Row w4 a N c L) := HR3.out.but hb4 hnz3
  have HY4 : Hid (EyeAt w4 yb (L.drop k) x) := HY3.out.but hb4 hnz3 (by omega)
  have HZ4 := Lib.hid hz4
  have hzw : w.heap.size ≤ zb := by have := HB1.out.size; omega
  have HB4 : Hid (Below w.heap.size w w4) := HB3.out.trans ((hb4.mono HB3.out.size).below hzw)
  clear hz4 hb4 hnz3 HR3 HY3 HZ3 HB1 HB2 HB3 HR0
  obtain ⟨m, kz, ez, hu⟩ : ∃ (m : Int) (kz : Nat) (ez : Int), uptoOf L z = (m, kz, ez) := ⟨_, _, _, rfl⟩
  have HU := Lib.hid hu
  have hz4' := HZ4.out
  rw [hu] at hz4' ⊢
  have HZ : Hid (EyeAt w4 zb (L.drop kz) ez) := hz4'
  clear hz4' hu HZ4
  go_upto_block 0 with (fail)
  have hl : L.length = N := HR4.out.1
  have hnc : N ≤ c := HR4.out.2.1
  have hcm : c ≤ 9223372036854775807 := by have := HR4.out.2.2.1; unfold maxLen at this; omega
  have hcell : 0 < N → ∃ b off, a = some ⟨b, off, none⟩ ∧ ∀ j, j < N → w4.cell? ⟨b, off + j, none⟩ = some (.int .u8 (((L.getD j 0).toNat : Nat) : Int)) := by
    intro h0
    obtain ⟨b, off, e, _, hc⟩ := HR4.out.2.2.2.2 h0
    exact ⟨b, off, e, hc⟩
  have HCELL := Lib.hid hcell
  have HL := Lib.hid hl
  have H3 := Lib.hid h3
  have H4 := Lib.hid h4
  clear hcell hl h3 h4 h2
  go_cut [9, 10, 11] from 12 to 53 (fun s9 s10 s11 w' => Looped L v k x s9 s10 s11 ∧ w4 = w')
  case first =>
    go_wp2_with fail
    go_loop [9, 10, 11, 12] (fun s e t i => ∃ j : Nat, j ≤ 9 ∧ j ≤ N ∧ (∀ q, q < j → 128 ≤ (L.getD q 0).toNat) ∧ i = .int .i64 j ∧ s = .int .i64 (val L j) ∧ e = .int .i64 (if j = 9 then 5 else 2) ∧ t = .int .i64 0) (fun _ _ _ i => 9 - (intOf i).toNat)
    case atStart => exact ⟨0, by omega, by omega, fun q h => by omega, rfl, rfl, rfl, rfl⟩
    case round =>
      obtain ⟨j, hj9, hjn, hall, rfl, rfl, rfl, rfl⟩ := hrel
      have HALL := Lib.hid hall
      clear hall
      by_cases hc1 : j < 9
      · have e9 : (if j = 9 then (5 : Int) else 2) = 2 := if_neg (by omega)
        rw [e9]
        clear e9
        by_cases hc2 : j < N
        · obtain ⟨b, off, rfl, hcell⟩ := HCELL.out (by omega)
          have hcc := hcell j hc2
          clear hcell
          obtain ⟨c0, hc0⟩ : ∃ c0 : Nat, c0 = (L.getD j 0).toNat := ⟨_, rfl⟩
          have hlt : c0 < 256 := by rw [hc0]; exact UInt8.toNat_lt _
          rw [← hc0] at hcc
          have HC0 := Lib.hid hc0
          clear hc0
          go_wp2
          · go_meet
            exact ⟨looped_break HV.out j (by rw [HL.out]; exact hc2) hc1 HALL.out (by rw [← HC0.out]; omega) _ _ (val_wrap L j c0 hc1 HC0.out) (by omega), rfl⟩
          · have h128 : 128 ≤ c0 := by
              have h' : (128 : Int) ≤ (c0 : Int) := by assumption
              omega
            have hj8 : j = 8 := by
              have h' : ((j : Int) == 8) = true := by assumption
              simp at h'
              omega
            go_round
            case rel =>
              refine ⟨j + 1, by omega, by omega, fun q hq => ?_, by go_num, by rw [val_wrap L j c0 hc1 HC0.out], by rw [if_pos (by omega)], rfl⟩
              by_cases e : q = j
              · rw [e, ← HC0.out]; exact h128
              · exact HALL.out q (by omega)
            case measure => simp [intOf]; omega
          · have h128 : 128 ≤ c0 := by
              have h' : (128 : Int) ≤ (c0 : Int) := by assumption
              omega
            have hj8 : j ≠ 8 := by
              have h' : ((j : Int) == 8) = false := by assumption
              simp at h'
              omega
            go_round
            case rel =>
              refine ⟨j + 1, by omega, by omega, fun q hq => ?_, by go_num, by rw [val_wrap L j c0 hc1 HC0.out], by rw [if_neg (by omega)], rfl⟩
              by_cases e : q = j
              · rw [e, ← HC0.out]; exact h128
              · exact HALL.out q (by omega)
            case measure => simp [intOf]; omega
        · obtain rfl : j = N := by omega
          go_wp2
          go_meet
          exact ⟨looped_end HV.out j (.inr ⟨HL.out.symm, hc1⟩) (by rw [HL.out]; exact Nat.le_refl _) HALL.out _ 2 (by rw [if_neg (by omega)]), rfl⟩
      · obtain rfl : j = 9 := by omega
        rw [if_pos rfl]
        go_wp2
        go_meet
        exact ⟨looped_end HV.out 9 (.inl rfl) (by rw [HL.out]; exact hjn) HALL.out _ 5 (by rw [if_pos rfl]), rfl⟩
  case rest =>
    obtain ⟨⟨W, E, Z, rfl, rfl, rfl, hcase⟩, rfl⟩ := hcut
    have hcell := HCELL.out
    rcases hcase with ⟨rfl, rfl, rfl, rfl, hk0, hkl, hnumb, hlast⟩ | ⟨rfl, rfl, hZ1, hZl, hZ0⟩ | ⟨rfl, hE, rfl⟩
    · rw [HL.out] at hkl
      obtain ⟨b, off, rfl, hc⟩ := hcell (by omega)
      clear hcell
      have HC := Lib.hid hc
      have HNB := Lib.hid hnumb
      have hv63 : ((W : Nat) : Int) ≤ 9223372036854775807 := by omega
      obtain ⟨S, hS⟩ : ∃ S : ByteArray, S = ⟨(L.take Z).toArray⟩ := ⟨_, rfl⟩
      have HS := Lib.hid hS
      have hx : ∀ w' : World, Row w' (some ⟨b, off, none⟩) N c L → (convert 23 9 (.slice (some ⟨b, off, none⟩) Z c)).run Try.prog w' = .ok (.string S) w' := by
        intro w' h
        rw [hS]
        exact conv_row (h.take hkl)
      have HX := Lib.hid hx
      clear hnumb hS hx
      have hlz : w4.cell? ⟨b, off + (Z - 1), none⟩ = some (.int .u8 (((L.getD (Z - 1) 0).toNat : Nat) : Int)) := hc (Z - 1) (by omega)
      obtain ⟨c1, hc1⟩ : ∃ c1 : Nat, c1 = (L.getD (Z - 1) 0).toNat := ⟨_, rfl⟩
      rw [← hc1] at hlz hlast
      have hbz : (1 : Int) < (Z : Int) → (((c1 : Nat) : Int) == 0) = false := fun h => by have := hlast (by omega); simpa using this
      clear hc hlast hc1
      have hzc : Z ≤ c := by omega
      go_upto_region 15 with (fail)
      go_cut [63] from 54 to 63 (fun s w' => s = .bool false ∧ w4 = w')
      case first =>
        go_wp2_with fail
        all_goals go_meet
        all_goals exact ⟨rfl, rfl⟩
      case rest =>
        obtain ⟨rfl, rfl⟩ := hcut
        clear hlz hbz
        have hyd : EyeAt w4.drew yb (L.drop Z) 0 := HY4.out
        have HYD := Lib.hid hyd
        have hrd : Row w4.drew (some ⟨b, off, none⟩) N c L := HR4.out
        have HRD := Lib.hid hrd
        have hs4 := HX.out w4.drew HR4.out
        clear hyd hrd
        go_upto_region 19 with (fail)
        go_cut [104] from 87 to 104 (fun s w' => s = .bool false ∧ Below w4.heap.size w4 w')
        case first =>
          go_region_held (fun w' => (convert 23 9 (.slice (some ⟨b, off, none⟩) Z c)).run Try.prog w' = .ok (.string S) w')
            (first | exact hs4 | exact hs5)
            ((first | (go_at_call 20; refine (err_at HYD.out).mono ?_; rintro r w' ⟨rfl, rfl⟩) | (go_at_call 8; refine (lawnumber_any _ _ hv63).mono ?_; rintro r w5 ⟨a5, k5, c5, rfl, ho5, _, hb5⟩; have hs5 := HX.out w5 (HRD.out.below hb5); have hr5 := ho5.row; rw [HNB.out] at hr5; have hs6 := conv_row hr5; rw [← HS.out] at hs6; have HB5 := Lib.hid hb5; clear hb5 ho5 hr5)))
          all_goals go_wp2_with fail
          all_goals go_meet
          all_goals exact ⟨rfl, ((Below.refl _ w4).drew).trans HB5.out⟩
        case rest =>
          obtain ⟨rfl, hb5⟩ := hcut
          clear hs4
          have HRC : Hid (Row wc (some ⟨b, off, none⟩) N c L) := HR4.out.below hb5
          have HZC : Hid (EyeAt wc zb (L.drop kz) ez) := HZ.out.below hb5
          have HBC : Hid (Below w.heap.size w wc) := HB4.out.trans (hb5.mono HB4.out.size)
          have hu := HU.out
          have hz4s := HB4.out.size
          clear hb5
          by_cases hm : z < (W : Int)
          · rw [upto_over HV.out hm] at hu
            cases hu
            go_wp2_with fail
            refine (err_at HZC.out).mono ?_
            rintro r w' ⟨rfl, rfl⟩
            go_wp2_with fail
            refine (awake_true _).mono ?_
            rintro r w5 ⟨rfl, hb5⟩
            have HB5 := Lib.hid hb5
            clear hb5
            go_wp2_with fail
            go_ret
            exact ⟨rfl, HBC.out.trans (HB5.out.mono HBC.out.size)⟩
          · rw [upto_good HV.out hm] at hu
            cases hu
            have hm' : (W : Int) ≤ z := by omega
            clear hm
            have hzd : EyeAt wc.drew zb (L.drop kz) 0 := HZC.out
            have HZD := Lib.hid hzd
            have HRD2 : Hid (Row wc.drew (some ⟨b, off, none⟩) N c L) := HRC.out
            have hsz : w.heap.size ≤ wc.heap.size := HBC.out.size
            clear hzd hk0
            obtain ⟨S2, hS2⟩ : ∃ S2 : ByteArray, S2 = ⟨(L.drop kz).toArray⟩ := ⟨_, rfl⟩
            have hdl : (L.drop kz).length = N - kz := by rw [List.length_drop, HL.out]
            have HDL := Lib.hid hdl
            have hN2 : Hid ((N - kz) ≤ (L.drop kz).length) := by show _ ≤ _; rw [hdl]; exact Nat.le_refl _
            have hN3 : Hid ((L.drop kz).length ≤ 140737488355328) := by show _ ≤ _; rw [hdl]; omega
            have HS2 := Lib.hid hS2
            have htk : (L.drop kz).take (N - kz) = L.drop kz := List.take_of_length_le (by rw [hdl]; exact Nat.le_refl _)
            have HTK := Lib.hid htk
            clear hS2 hdl htk
            go_upto_region 23 with (fail)
            go_cut [4] from 118 to 142 (fun s w' => s = .bool true ∧ Below w.heap.size w w')
            case first =>
              by_cases hck : c = kz
              · subst hck
                obtain rfl : N = c := by omega
                have HW : Hid (IntKind.i64.wrap 0 = ((0 : Nat) : Int)) := by show IntKind.i64.wrap 0 = _; decide
                have HT0 : Hid ((L.drop N).take 0 = L.drop N) := by
                  have e := HTK.out
                  rw [Nat.sub_self] at e
                  exact e
                have hx2 : ∀ w' : World, Row w' (some ⟨b, off, none⟩) N N L → (convert 23 9 (.slice (some ⟨b, off, none⟩) 0 0)).run Try.prog w' = .ok (.string S2) w' := by
                  intro w' h
                  rw [HS2.out]
                  exact conv_row (by simpa using h.drop (k := N) (a' := some ⟨b, off, none⟩) (Nat.le_refl _) (fun e => by cases e) (fun h => by omega))
                have HX2 := Lib.hid hx2
                have hs4 := HX2.out wc.drew HRC.out
                clear hx2
                go_region_held (fun w' => (convert 23 9 (.slice (some ⟨b, off, none⟩) 0 0)).run Try.prog w' = .ok (.string S2) w')
                  (first | exact hs4 | exact hs5 | exact hs6)
                  ((first | (go_at_call 20; refine (err_at HZD.out).mono ?_; rintro r w' ⟨rfl, rfl⟩) | (go_at_call 21; refine (raw_goodI 0 HZD.out (Nat.zero_le _) hN3.out HW.out).mono ?_; rintro r w5 ⟨rfl, hr5, hz5, hb5⟩; have hs5 := HX2.out w5 (HRD2.out.but hb5 HZD.out.noBytes); rw [HT0.out] at hr5; have hs7 : (convert 23 9 (.slice (some ⟨wc.heap.size, 0, none⟩) 0 0)).run Try.prog w5 = .ok (.string S2) w5 := (by rw [HS2.out]; exact conv_row hr5); have HB5 := Lib.hid hb5; have HR5 : Hid (Row w5 (some ⟨b, off, none⟩) N N L) := HRD2.out.but hb5 HZD.out.noBytes; clear hb5 hz5 hr5) | (go_at_call 18; refine (awake_true _).mono ?_; rintro r w6 ⟨rfl, hb6⟩; have hs6 := HX2.out w6 (HR5.out.below hb6); have HB6 := Lib.hid hb6; clear hb6)))
                all_goals go_wp2_with fail
                all_goals go_meet
                all_goals
                  have hb5' : Below w.heap.size w w5 := HBC.out.drew.trans ((HB5.out.mono hsz).below hzw)
                  exact ⟨rfl, hb5'.trans (HB6.out.mono hb5'.size)⟩
              · have HW : Hid (IntKind.i64.wrap ((N : Int) - (kz : Int)) = ((N - kz : Nat) : Int)) := by
                  show IntKind.i64.wrap _ = _
                  rw [IntWalk.i64_in _ (by omega)]
                  omega
                have hx2 : ∀ w' : World, Row w' (some ⟨b, off, none⟩) N c L → (convert 23 9 (.slice (some ⟨b, off + kz, none⟩) (N - kz) (c - kz))).run Try.prog w' = .ok (.string S2) w' := by
                  intro w' h
                  rw [HS2.out]
                  exact conv_row (h.drop (k := kz) (a' := some ⟨b, off + kz, none⟩) hkl (fun e => by cases e) (fun _ b' off' e => by cases e; rfl))
                have HX2 := Lib.hid hx2
                have hs4 := HX2.out wc.drew HRC.out
                clear hx2
                go_region_held (fun w' => (convert 23 9 (.slice (some ⟨b, off + kz, none⟩) (N - kz) (c - kz))).run Try.prog w' = .ok (.string S2) w')
                  (first | exact hs4 | exact hs5 | exact hs6)
                  ((first | (go_at_call 20; refine (err_at HZD.out).mono ?_; rintro r w' ⟨rfl, rfl⟩) | (go_at_call 21; refine (raw_goodI (N - kz) HZD.out hN2.out hN3.out HW.out).mono ?_; rintro r w5 ⟨rfl, hr5, hz5, hb5⟩; have hs5 := HX2.out w5 (HRD2.out.but hb5 HZD.out.noBytes); rw [HTK.out] at hr5; have hs7 : (convert 23 9 (.slice (some ⟨wc.heap.size, 0, none⟩) (N - kz) (N - kz))).run Try.prog w5 = .ok (.string S2) w5 := (by rw [HS2.out]; exact conv_row hr5); have HB5 := Lib.hid hb5; have HR5 : Hid (Row w5 (some ⟨b, off, none⟩) N c L) := HRD2.out.but hb5 HZD.out.noBytes; clear hb5 hz5 hr5) | (go_at_call 18; refine (awake_true _).mono ?_; rintro r w6 ⟨rfl, hb6⟩; have hs6 := HX2.out w6 (HR5.out.below hb6); have HB6 := Lib.hid hb6; clear hb6)))
                all_goals go_wp2_with fail
                all_goals go_meet
                all_goals
                  have hb5' : Below w.heap.size w w5 := HBC.out.drew.trans ((HB5.out.mono hsz).below hzw)
                  exact ⟨rfl, hb5'.trans (HB6.out.mono hb5'.size)⟩
            case rest =>
              obtain ⟨rfl, hb⟩ := hcut
              have HB := Lib.hid hb
              clear hb
              go_wp2
              go_ret
              exact ⟨rfl, HB.out⟩
    · obtain ⟨rfl, rfl⟩ := H4.out (by omega)
      have hu := HU.out
      rw [upto_err HV.out (by omega)] at hu
      cases hu
      rw [HL.out] at hZl
      obtain ⟨b, off, rfl, hc⟩ := hcell (by omega)
      have hz := hc (Z - 1) (by omega)
      rw [hZ0] at hz
      clear hcell hc hZ0
      go_wp2_with fail
      refine (err_at HY4.out).mono ?_
      rintro r w' ⟨rfl, rfl⟩
      go_wp2_with fail
      refine (err_at HZ.out).mono ?_
      rintro r w' ⟨rfl, rfl⟩
      go_wp2_with fail
      refine (awake_true _).mono ?_
      rintro r w5 ⟨rfl, hb5⟩
      have HB5 := Lib.hid hb5
      clear hb5
      go_wp2_with fail
      go_ret
      exact ⟨rfl, HB4.out.trans (HB5.out.mono HB4.out.size)⟩
    · obtain ⟨rfl, rfl⟩ := H4.out hE
      have hu := HU.out
      rw [upto_err HV.out hE] at hu
      cases hu
      have hE1 : ((x : Int) == 0) = false := by simpa using hE
      have hE2 : ((x : Int) != 0) = true := by simpa using hE
      clear hcell
      go_wp2_with fail
      refine (err_at HY4.out).mono ?_
      rintro r w' ⟨rfl, rfl⟩
      go_wp2_with fail
      refine (err_at HZ.out).mono ?_
      rintro r w' ⟨rfl, rfl⟩
      go_wp2_with fail
      refine (awake_true _).mono ?_
      rintro r w5 ⟨rfl, hb5⟩
      have HB5 := Lib.hid hb5
      clear hb5
      go_wp2_with fail
      go_ret
      exact ⟨rfl, HB4.out.trans (HB5.out.mono HB4.out.size)⟩
end Go.Proofs.Ytdcieknblahoeaa
