/- WireStays: the walk of the law (function 5): it returns true, and nothing that was there is written. -/
import Derived.Test.YtdcieknblahoeaaStep
import Derived.Deep.Cut
import Derived.Deep.CutRange
import Derived.Deep.CutBlock
namespace Go.Proofs.Ytdcieknblahoeaa
open Go.RowKit

/-- A slice of calls that reads as the kinds Ks and the numbers Ns. -/
def Script (w : World) (a : Option Addr) (n c : Nat) (Ks Ns : Nat → Int) : Prop :=
  n ≤ c ∧ c ≤ maxLen ∧ (0 < n → ∃ b off, a = some ⟨b, off, none⟩ ∧ b < w.heap.size ∧ ∀ i, i < n → w.cell? ⟨b, off + i * 2, none⟩ = some (.int .i64 (Ks i)) ∧ w.cell? ⟨b, off + i * 2 + 1, none⟩ = some (.int .i64 (Ns i)))

set_option maxRecDepth 100000 in
set_option maxHeartbeats 3200000 in
theorem stays_walk {a sa : Option Addr} {n c sn sc : Nat} {l : List UInt8} {Ks Ns : Nat → Int} (w : World) (h : Row w a n c l) (hs : Script w sa sn sc Ks Ns) :
    Calls Try.prog 5 #[.slice a n c, .slice sa sn sc] w fun e w' => e = .returned (.bool true) ∧ Below w.heap.size w w' := by
  have H := Lib.hid h
  have HS := Lib.hid hs
  have hsn : sn ≤ 9223372036854775807 := by have := hs.1; have := hs.2.1; unfold maxLen at this; omega
  clear h hs
  go_enter Try.func5, Try.ntmps5
  go_wp2_with fail
  refine (cut_any H.out).mono ?_
  rintro r w' ⟨rfl, hr0, rfl⟩
  obtain ⟨N, hN⟩ : ∃ N, N = min n 200 := ⟨_, rfl⟩
  rw [← hN] at hr0 ⊢
  have hN200 : N ≤ 200 := by omega
  obtain ⟨L, hL⟩ : ∃ L, L = l.take 200 := ⟨_, rfl⟩
  rw [← hL] at hr0
  have HR0 := Lib.hid hr0
  have HLN : Hid (L.length ≤ 200) := by show L.length ≤ 200; rw [hr0.1]; exact hN200
  clear hr0 hN hL H
  go_wp2_with fail
  refine (look_any HR0.out (by omega)).mono ?_
  rintro r w1 ⟨yb, rfl, hyb, hy1, hb1⟩
  have HY1 := Lib.hid hy1
  have HB1 := Lib.hid hb1
  clear hy1 hb1
  go_wp2_with fail
  go_loopw [6] (fun s wr => ∃ (i : Nat) (l : List UInt8) (e : Int), i ≤ sn ∧ i ≤ 30 ∧ s = .int .i64 i ∧ EyeAt wr yb l e ∧ l.length ≤ 200 ∧ Below w.heap.size w wr) (fun s _ => 30 - (intOf s).toNat)
  case atStart => exact ⟨0, L, 0, by omega, by omega, rfl, HY1.out, HLN.out, HB1.out⟩
  case round =>
    obtain ⟨i, l, e, hi, hi30, rfl, hy, hl, hb⟩ := hrel
    have HY := Lib.hid hy
    have HB := Lib.hid hb
    have HLL := Lib.hid hl
    have hzr := hb.size
    clear hy hb hl
    by_cases hrun : i < sn ∧ i < 30
    · obtain ⟨hin, hi30'⟩ := hrun
      obtain ⟨sb, off, rfl, hsb, hcell⟩ := HS.out.2.2 (by omega)
      obtain ⟨hk, hn⟩ := hcell i hin
      clear hcell
      obtain ⟨K, hK⟩ : ∃ K, K = Ks i := ⟨_, rfl⟩
      obtain ⟨M, hM⟩ : ∃ M, M = Ns i := ⟨_, rfl⟩
      rw [← hK] at hk
      rw [← hM] at hn
      clear hK hM
      have hkr : wr.cell? ⟨sb, off + i * 2, none⟩ = some (.int .i64 K) := (HB.out.cell (p := ⟨sb, off + i * 2, none⟩) hsb).trans hk
      have hnr : wr.cell? ⟨sb, off + i * 2 + 1, none⟩ = some (.int .i64 M) := (HB.out.cell (p := ⟨sb, off + i * 2 + 1, none⟩) hsb).trans hn
      go_wp2_with fail
      refine (err_at HY.out).mono ?_
      rintro r w' ⟨rfl, rfl⟩
      go_wp2_with fail
      by_cases he : e = 0
      · subst he
        refine (step_first _ K M HY.out (by have := HLL.out; omega)).mono ?_
        rintro r w2 ⟨v, a2, k2, c2, l', e', rfl, hy2, hl2, hk2, hb2⟩
        have hb2' : Below w.heap.size w w2 := HB.out.trans ((hb2.mono hzr).below (by have := HB1.out.size; omega))
        have hkr2 : w2.cell? ⟨sb, off + i * 2, none⟩ = some (.int .i64 K) := (hb2'.cell (p := ⟨sb, off + i * 2, none⟩) hsb).trans hk
        have hnr2 : w2.cell? ⟨sb, off + i * 2 + 1, none⟩ = some (.int .i64 M) := (hb2'.cell (p := ⟨sb, off + i * 2 + 1, none⟩) hsb).trans hn
        have HY2 := Lib.hid hy2
        have HB2 := Lib.hid hb2'
        have HL2 : Hid (l'.length ≤ 200) := by show _ ≤ _; have := HLL.out; omega
        clear hy2 hl2 hb2 hb2' hkr hnr
        by_cases h4 : 4 < K
        · obtain rfl := hk2 h4
          go_wp2_with (go_at_call 20; refine (err_at HY2.out).mono ?_; rintro r w' ⟨rfl, rfl⟩)
          go_roundw
          case rel => exact ⟨i + 1, l', _, by omega, by omega, by go_num, HY2.out, HL2.out, HB2.out⟩
          case measure => simp [intOf]; omega
        · clear hk2
          go_wp2_with (go_at_call 20; refine (err_at HY2.out).mono ?_; rintro r w' ⟨rfl, rfl⟩)
          go_roundw
          case rel => exact ⟨i + 1, l', _, by omega, by omega, by go_num, HY2.out, HL2.out, HB2.out⟩
          case measure => simp [intOf]; omega
      · have he1 : (e == 0) = false := by simpa using he
        refine (step_later _ K M he HY.out).mono ?_
        rintro r w2 ⟨a2, k2, c2, z, rfl, hrow2, hz2, hy2, hb2⟩
        have hb2' : Below w.heap.size w w2 := HB.out.trans ((hb2.mono hzr).below (by have := HB1.out.size; omega))
        have HY2 := Lib.hid hy2
        have HB2 := Lib.hid hb2'
        have HROW2 := Lib.hid hrow2
        have HZ2 := Lib.hid hz2
        have hk63 : k2 ≤ 9223372036854775807 := by have := hrow2.2.1; have := hrow2.2.2.1; unfold maxLen at this; omega
        clear hy2 hb2 hb2' hkr hnr hrow2 hz2 he
        go_wp2_with (go_at_call 20; refine (err_at HY2.out).mono ?_; rintro r w' ⟨rfl, rfl⟩)
        go_loop [11] (fun t => ∃ j : Nat, j ≤ k2 ∧ t = .int .i64 j) (fun t => k2 - (intOf t).toNat)
        case atStart => exact ⟨0, Nat.zero_le _, rfl⟩
        case round =>
          obtain ⟨j, hj, rfl⟩ := hrel
          by_cases hjk : j < k2
          · obtain ⟨xb, xo, rfl, _, hxc⟩ := HROW2.out.2.2.2.2 (by omega)
            have hx := hxc j hjk
            have hz0 : z.getD j 0 = 0 := by
              have hjz : j < z.length := by have := HROW2.out.1; omega
              have e0 : z.getD j 0 = z[j] := by simp [List.getD, hjz]
              rw [e0]
              exact HZ2.out _ (List.getElem_mem hjz)
            rw [hz0] at hx
            have hx0 : w2.cell? ⟨xb, xo + j, none⟩ = some (.int .u8 0) := hx
            clear hxc hz0 hx
            go_wp2
            go_round
            case rel => exact ⟨j + 1, by omega, by go_num⟩
            case measure => simp [intOf]; omega
          · obtain rfl : j = k2 := by omega
            go_wp2
            go_roundw
            case rel => exact ⟨i + 1, l, e, by omega, by omega, by go_num, HY2.out, HLL.out, HB2.out⟩
            case measure => simp [intOf]; omega
    · have hrun' : ¬ (i < sn) ∨ ¬ (i < 30) := by omega
      clear hrun
      by_cases hc1 : i < sn
      case' pos => have hc2 : ¬ i < 30 := by omega
      all_goals
        go_wp2_with fail
        refine (err_at HY.out).mono ?_
        rintro r w' ⟨rfl, rfl⟩
        go_wp2_with fail
        by_cases he : e = 0
        · subst he
          by_cases hl0 : l = []
          · subst hl0
            go_wp2_with (first | (go_at_call 17; refine (done_all HY.out).mono ?_; rintro r w' ⟨rfl, rfl⟩) | (go_at_call 20; refine (err_at HY.out).mono ?_; rintro r w' ⟨rfl, rfl⟩) | (go_at_call 18; refine (awake_true _).mono ?_; rintro r w7 ⟨rfl, hb7⟩; have HB7 := Lib.hid hb7; clear hb7))
            go_ret
            exact ⟨rfl, HB.out.trans (HB7.out.mono HB.out.size)⟩
          · have HL0 := Lib.hid hl0
            clear hl0
            refine (done_left HL0.out HY.out).mono ?_
            rintro r w2 ⟨rfl, hy2, hb2⟩
            have hb2' : Below w.heap.size w w2 := HB.out.trans ((hb2.mono hzr).below (by have := HB1.out.size; omega))
            have HY2 := Lib.hid hy2
            have HB2 := Lib.hid hb2'
            clear hy2 hb2 hb2'
            go_wp2_with (first | (go_at_call 17; refine (done_later 3 (by decide) HY2.out).mono ?_; rintro r w' ⟨rfl, rfl⟩) | (go_at_call 20; refine (err_at HY2.out).mono ?_; rintro r w' ⟨rfl, rfl⟩) | (go_at_call 18; refine (awake_true _).mono ?_; rintro r w7 ⟨rfl, hb7⟩; have HB7 := Lib.hid hb7; clear hb7))
            go_ret
            exact ⟨rfl, HB2.out.trans (HB7.out.mono HB2.out.size)⟩
        · have he1 : (e == 0) = false := by simpa using he
          have he2 : (e != 0) = true := by simpa using he
          have HE := Lib.hid he
          clear he
          go_wp2_with (first | (go_at_call 17; refine (done_later e HE.out HY.out).mono ?_; rintro r w' ⟨rfl, rfl⟩) | (go_at_call 18; refine (awake_true _).mono ?_; rintro r w7 ⟨rfl, hb7⟩; have HB7 := Lib.hid hb7; clear hb7))
          go_ret
          exact ⟨rfl, HB.out.trans (HB7.out.mono HB.out.size)⟩
end Go.Proofs.Ytdcieknblahoeaa
