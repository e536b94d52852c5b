/- Law 9: ViewSums. -/
import Derived.Test.YtdeilkpcmgcbaaaStep9
import Derived.Test.YtdeilkpcmgcbaaaAwake9
import Derived.Test.YtdeilkpcmgcbaaaViewOf
import Derived.Test.YtdeilkpcmgcbaaaPlays9
namespace Go.Proofs.Ytdeilkpcmgcbaaa
open Go.RowKit Go.Maps

theorem own_step (key Q : Int) {rs : List PRow} {j : Nat} (hj : j < rs.length) : ownFrom key Q (rs.drop j) = ownFrom key (if soleW key (rs.getD j noRow).out.ws = true ∧ Q + (rs.getD j noRow).out.m ≤ 1125899906842624 then Q + (rs.getD j noRow).out.m else Q) (rs.drop (j + 1)) := by
  rw [drop_getD (d := noRow) hj, ownFrom]
theorem sum_step {rs : List PRow} {j : Nat} (hj : j < rs.length) : ((rs.take (j + 1)).map fun r => r.out.m).sum = ((rs.take j).map fun r => r.out.m).sum + (rs.getD j noRow).out.m := by
  have e1 : rs.take (j + 1) = rs.take j ++ [rs.getD j noRow] := by
    rw [List.take_succ_eq_append_getElem hj, List.getD_eq_getElem?_getD, List.getElem?_eq_getElem hj]
    rfl
  rw [e1, List.map_append, List.sum_append]
  simp
set_option linter.unusedSimpArgs false in
set_option maxRecDepth 100000 in
set_option maxHeartbeats 25600000 in
theorem sums9_walk {w0 : World} {a : Option Addr} {n c : Nat} {os : List PCall} {key : Int} (h : SliceOf callK w0 a n c os) (hkey : Fits key) :
    Calls Try.prog 4 #[.slice a n c, .int .i64 key] w0 fun e w' => e = .returned (.bool true) ∧ Below w0.heap.size w0 w' := by
  have hn63 := h.len63
  have hnc : (n : Int) ≤ (c : Int) := by have h2 := h.2.1; omega
  have hc63 : (c : Int) ≤ 9223372036854775807 := by have h2 := h.2.2.1; unfold maxLen at h2; omega
  have HNEW := Lib.hid (new_any w0)
  have HS := Lib.hid h
  have HKF := Lib.hid hkey
  clear h hkey
  go_enter Try.func4, Try.ntmps4
  go_wp2_with (first
    | (go_at_call 6; refine HNEW.out.mono ?_; rintro e w1 ⟨vb, rfl, hv1, _, hb1⟩; have HV1 := Lib.hid hv1; have HB1 := Lib.hid hb1; clear hv1 hb1 HNEW)
    | fail)
  obtain ⟨b, hb⟩ : ∃ b, b = w0.heap.size := ⟨_, rfl⟩
  have HB := Lib.hid hb
  have hL1 : LSt w0 w1 (.pointer (some ⟨vb, 0, none⟩)) b 0 (.slice none 0 0) [] := ⟨by rw [hb]; exact HV1.out, ListAt.nil _ _, HB1.out, by omega⟩
  have HL1 := Lib.hid hL1
  clear hb hL1 HV1 HB1
  go_loopw [6, 7] (fun lv i wr => ∃ (j N : Nat) (rs : List PRow), j ≤ n ∧ j ≤ 40 ∧ i = .int .i64 j ∧ LSt w0 wr (.pointer (some ⟨vb, 0, none⟩)) b N lv rs ∧ N ≤ j) (fun _ i _ => n - (intOf i).toNat)
  case atStart => exact ⟨0, 0, [], Nat.zero_le _, by omega, rfl, HL1.out, by omega⟩
  case round =>
    obtain ⟨j, N, rs, hj, hj40, rfl, hL, hNj⟩ := hrel
    have HL := Lib.hid hL
    clear hL
    by_cases hjn : j < n ∧ j < 40
    · have f1 : (j : Int) < (n : Int) := by omega
      have f4 : (j : Int) < 40 := by omega
      have f0 : (0 : Int) ≤ (j : Int) := by omega
      have ft : ((j : Int)).toNat = j := by omega
      have hN1 : N + 1 ≤ 100 := by omega
      obtain ⟨b2, o2, e2, hlt2, hc2⟩ := HS.out.2.2.2.2.2 (by omega)
      have rx : w0.rangeAt b2 (o2 + j * 37) (os.getD j noCall).cells := hc2 j hjn.1
      have ix : CallIn w0 (os.getD j noCall) := HS.out.get hjn.1
      revert rx ix
      generalize os.getD j noCall = o
      intro rx ix
      subst e2
      have RX : Hid (∀ W : World, Below w0.heap.size w0 W → W.rangeAt b2 (o2 + j * 37) o.cells) := Lib.hid (fun W hW => rangeAt_below rx hlt2 hW)
      have cw : wr.cell? ⟨b2, o2 + j * 37 + 35, none⟩ = some (.slice o.row.out.a o.row.out.n o.row.out.c) := call_ways ix.row.tx (RX.out wr HL.out.below)
      have hsz63 : (o.row.out.n : Int) ≤ 9223372036854775807 := by have h2 := ix.row.out.ws.2.1; have h3 := ix.row.out.ws.2.2.1; unfold maxLen at h3; omega
      have SX := Lib.hid (call_size ix.row.tx)
      have HIX := Lib.hid ix
      clear rx ix hc2 hlt2
      by_cases hbig : (o.row.out.n : Int) > 20
      · go_wp2_with fail
        go_roundw
        case rel => exact ⟨j + 1, N, rs, by omega, by omega, by go_num, HL.out, by omega⟩
        case measure => simp [intOf]; omega
      · go_wp2_with (first
          | (refine wpList_load_mid rfl 34 _ rfl b2 (o2 + j * 37) rfl o.cells _ (RX.out wr HL.out.below) Try.underlying34 rfl SX.out ?_)
          | (go_at_call 8; refine (step_law HL.out hN1 HIX.out).mono ?_; rintro e ws ⟨a5, c5, rs5, N5, rfl, hL5, hN5, _⟩; have HL5 := Lib.hid hL5; clear hL5)
          | fail)
        go_roundw
        case rel => exact ⟨j + 1, N5, rs5, by omega, by omega, by go_num, HL5.out, by omega⟩
        case measure => simp [intOf]; omega
    · by_cases hj1 : j < n
      · have f1 : (j : Int) < (n : Int) := by omega
        have f4 : ¬ ((j : Int) < 40) := by omega
        clear hjn hj1 hj hj40 hNj
        obtain ⟨wq, rfl⟩ : ∃ q, q = wr := ⟨_, rfl⟩
        obtain ⟨aL, cL, eL, hs, _⟩ := HL.out.list.it
        subst eL
        obtain ⟨len, hlen⟩ : ∃ l, l = rs.length := ⟨_, rfl⟩
        rw [← hlen] at hs ⊢
        have hl100 : len ≤ 100 := by
          obtain ⟨F, hm, _⟩ := HL.out.view.map
          have h1 := hm.few
          have h2 := HL.out.view.few
          omega
        have hl63 : (len : Int) ≤ 9223372036854775807 := by omega
        have hlc : (len : Int) ≤ (cL : Int) := by have h2 := hs.2.1; omega
        have hcL63 : (cL : Int) ≤ 9223372036854775807 := by have h2 := hs.2.2.1; unfold maxLen at h2; omega
        have HSL := Lib.hid hs
        have HLEN := Lib.hid hlen
        have HAM : Hid (∀ r ∈ rs, 0 ≤ r.out.m ∧ r.out.m ≤ 1125899906842624) := Lib.hid (fun r hr => rowOk_amount (HL.out.view.ok r hr))
        have HTOT : Hid (∀ W : World, Below wq.heap.size wq W → Calls Try.prog 12 #[.pointer (some ⟨vb, 0, none⟩)] W fun e w' => e = .returned (.tuple #[.int .i64 (if 1125899906842624 < (rs.map fun r => r.out.m).sum then (0, 10) else ((rs.map fun r => r.out.m).sum, 0) : Int × Int).1, .int .i64 (if 1125899906842624 < (rs.map fun r => r.out.m).sum then (0, 10) else ((rs.map fun r => r.out.m).sum, 0) : Int × Int).2]) ∧ Below W.heap.size W w') := Lib.hid (fun W hW => by
          have h1 := total_any (HL.out.view.below hW)
          rw [addFrom_sum _ 0 (Int.le_refl _) (by omega) (fun z hz => by
            obtain ⟨r, hr, rfl⟩ := List.mem_map.1 hz
            exact HAM.out r hr), Int.zero_add] at h1
          exact h1)
        have HOF : Hid (∀ W : World, Below wq.heap.size wq W → Calls Try.prog 13 #[.pointer (some ⟨vb, 0, none⟩), .int .i64 key] W fun e w' => e = .returned (.int .i64 (ownFrom key 0 rs)) ∧ Below W.heap.size W w') := Lib.hid (fun W hW => of_any (HL.out.view.below hW) HKF.out)
        obtain ⟨R, hR⟩ : ∃ R, R = ownFrom key 0 rs := ⟨_, rfl⟩
        rw [← hR] at HOF
        have HR := Lib.hid hR
        clear hs hlen hR
        go_wp2_with fail
        go_loopw [10, 11, 12, 13] (fun t q v i w2 => ∃ (k : Nat) (S Q : Int), k ≤ len ∧ i = .int .i64 k ∧ t = .int .i64 S ∧ q = .int .i64 Q ∧ v = .bool (decide (1125899906842624 < S)) ∧ 0 ≤ Q ∧ Q ≤ 1125899906842624 ∧ S = ((rs.take k).map fun r => r.out.m).sum ∧ 0 ≤ S ∧ S ≤ k * 1125899906842624 ∧ ownFrom key Q (rs.drop k) = R ∧ Below wq.heap.size wq w2) (fun _ _ _ i _ => len - (intOf i).toNat)
        case atStart => exact ⟨0, 0, 0, Nat.zero_le _, rfl, rfl, rfl, rfl, Int.le_refl _, by omega, rfl, Int.le_refl _, by omega, HR.out.symm, Below.refl _ _⟩
        case round =>
          obtain ⟨k, S, Q, hk, rfl, rfl, rfl, rfl, q0, q1, hS, s0, s1, hQ, hbr⟩ := hrel
          have HSS := Lib.hid hS
          have HQQ := Lib.hid hQ
          have HBR := Lib.hid hbr
          clear hS hQ hbr
          by_cases hkn : k < len
          · have g1 : (k : Int) < (len : Int) := by omega
            have g0 : (0 : Int) ≤ (k : Int) := by omega
            have gt : ((k : Int)).toNat = k := by omega
            have hkl : k < rs.length := by rw [← HLEN.out]; exact hkn
            have hst := sum_step hkl
            have hos := own_step key Q hkl
            rw [HQQ.out] at hos
            rw [← HSS.out] at hst
            have ham := HAM.out _ (row_mem hkl)
            have hsr := HSL.out.below HBR.out
            obtain ⟨bL, oL, eL, hltL, hcL⟩ := hsr.2.2.2.2.2 (by omega)
            have rx : wr.rangeAt bL (oL + k * 36) (rs.getD k noRow).cells := hcL k hkn
            have ix : RowIn wr (rs.getD k noRow) := hsr.get hkn
            revert rx ix hst hos ham
            generalize rs.getD k noRow = x
            obtain ⟨s6, p6, ⟨m, a6, n6, c6, ws6⟩, h6⟩ := x
            intro hst hos ham rx ix
            dsimp only at hst hos ham
            subst eL
            have ox := row_out ix.tx rx
            have cm : wr.cell? ⟨bL, oL + k * 36 + 33, none⟩ = some (.int .i64 m) := ox 0 (.int .i64 m) rfl
            have OX := Lib.hid ox
            have HSO : Hid (Calls Try.prog 11 #[.agg #[.int .i64 m, .slice a6 n6 c6], .int .i64 key] wr fun e w' => e = .returned (.bool (soleW key ws6)) ∧ Below wr.heap.size wr w') := Lib.hid (lockSole_any ix.out.ws HKF.out)
            have HST := Lib.hid hst
            have m0 := ham.1
            have m1 := ham.2
            have s2 : S ≤ 112589990684262400 := by omega
            have s3 : S + m ≤ ((k + 1 : Nat) : Int) * 1125899906842624 := by omega
            have HS3 := Lib.hid s3
            clear rx ix hst ham hsr hcL hltL ox s1 s3
            obtain ⟨so, hso⟩ : ∃ s, s = soleW key ws6 := ⟨_, rfl⟩
            rw [← hso] at hos HSO
            clear hso
            by_cases hov : 1125899906842624 < S
            · have fd : decide (1125899906842624 < S) = true := decide_eq_true hov
              have fd2 : decide (1125899906842624 < S + m) = true := decide_eq_true (by omega)
              rw [fd]
              cases so
              · rw [if_neg (by simp)] at hos
                go_wp2_with (first
                  | (refine wpList_load_mid rfl 28 _ rfl bL (oL + k * 36 + 33) rfl [.int .i64 m, .slice a6 n6 c6] _ OX.out Try.underlying28 rfl (by kernel_rfl) ?_)
                  | (go_at_call 11; refine HSO.out.mono ?_; rintro e w7 ⟨rfl, hb7⟩; have HB7 := Lib.hid (HBR.out.trans (hb7.mono HBR.out.size)); clear hb7)
                  | fail)
                go_roundw
                case rel => exact ⟨k + 1, S + m, Q, by omega, by go_num, rfl, rfl, by rw [fd2], by omega, by omega, HST.out.symm, by omega, HS3.out, hos.symm, HB7.out⟩
                case measure => simp [intOf]; omega
              · by_cases hq : Q + m ≤ 1125899906842624
                · rw [if_pos ⟨rfl, hq⟩] at hos
                  go_wp2_with (first
                    | (refine wpList_load_mid rfl 28 _ rfl bL (oL + k * 36 + 33) rfl [.int .i64 m, .slice a6 n6 c6] _ OX.out Try.underlying28 rfl (by kernel_rfl) ?_)
                    | (go_at_call 11; refine HSO.out.mono ?_; rintro e w7 ⟨rfl, hb7⟩; have HB7 := Lib.hid (HBR.out.trans (hb7.mono HBR.out.size)); clear hb7)
                    | fail)
                  go_roundw
                  case rel => exact ⟨k + 1, S + m, Q + m, by omega, by go_num, rfl, rfl, by rw [fd2], by omega, by omega, HST.out.symm, by omega, HS3.out, hos.symm, HB7.out⟩
                  case measure => simp [intOf]; omega
                · rw [if_neg (fun e => hq e.2)] at hos
                  go_wp2_with (first
                    | (refine wpList_load_mid rfl 28 _ rfl bL (oL + k * 36 + 33) rfl [.int .i64 m, .slice a6 n6 c6] _ OX.out Try.underlying28 rfl (by kernel_rfl) ?_)
                    | (go_at_call 11; refine HSO.out.mono ?_; rintro e w7 ⟨rfl, hb7⟩; have HB7 := Lib.hid (HBR.out.trans (hb7.mono HBR.out.size)); clear hb7)
                    | fail)
                  go_roundw
                  case rel => exact ⟨k + 1, S + m, Q, by omega, by go_num, rfl, rfl, by rw [fd2], by omega, by omega, HST.out.symm, by omega, HS3.out, hos.symm, HB7.out⟩
                  case measure => simp [intOf]; omega
            · have fd : decide (1125899906842624 < S) = false := decide_eq_false hov
              rw [fd]
              cases so
              · rw [if_neg (by simp)] at hos
                go_wp2_with (first
                  | (refine wpList_load_mid rfl 28 _ rfl bL (oL + k * 36 + 33) rfl [.int .i64 m, .slice a6 n6 c6] _ OX.out Try.underlying28 rfl (by kernel_rfl) ?_)
                  | (go_at_call 11; refine HSO.out.mono ?_; rintro e w7 ⟨rfl, hb7⟩; have HB7 := Lib.hid (HBR.out.trans (hb7.mono HBR.out.size)); clear hb7)
                  | fail)
                go_roundw
                case rel => exact ⟨k + 1, S + m, Q, by omega, by go_num, rfl, rfl, rfl, by omega, by omega, HST.out.symm, by omega, HS3.out, hos.symm, HB7.out⟩
                case measure => simp [intOf]; omega
              · by_cases hq : Q + m ≤ 1125899906842624
                · rw [if_pos ⟨rfl, hq⟩] at hos
                  go_wp2_with (first
                    | (refine wpList_load_mid rfl 28 _ rfl bL (oL + k * 36 + 33) rfl [.int .i64 m, .slice a6 n6 c6] _ OX.out Try.underlying28 rfl (by kernel_rfl) ?_)
                    | (go_at_call 11; refine HSO.out.mono ?_; rintro e w7 ⟨rfl, hb7⟩; have HB7 := Lib.hid (HBR.out.trans (hb7.mono HBR.out.size)); clear hb7)
                    | fail)
                  go_roundw
                  case rel => exact ⟨k + 1, S + m, Q + m, by omega, by go_num, rfl, rfl, rfl, by omega, by omega, HST.out.symm, by omega, HS3.out, hos.symm, HB7.out⟩
                  case measure => simp [intOf]; omega
                · rw [if_neg (fun e => hq e.2)] at hos
                  go_wp2_with (first
                    | (refine wpList_load_mid rfl 28 _ rfl bL (oL + k * 36 + 33) rfl [.int .i64 m, .slice a6 n6 c6] _ OX.out Try.underlying28 rfl (by kernel_rfl) ?_)
                    | (go_at_call 11; refine HSO.out.mono ?_; rintro e w7 ⟨rfl, hb7⟩; have HB7 := Lib.hid (HBR.out.trans (hb7.mono HBR.out.size)); clear hb7)
                    | fail)
                  go_roundw
                  case rel => exact ⟨k + 1, S + m, Q, by omega, by go_num, rfl, rfl, rfl, by omega, by omega, HST.out.symm, by omega, HS3.out, hos.symm, HB7.out⟩
                  case measure => simp [intOf]; omega
          · have hkl : k = len := by omega
            have g1 : ¬ ((k : Int) < (len : Int)) := by omega
            have hS2 : S = (rs.map fun r => r.out.m).sum := by rw [HSS.out, hkl, HLEN.out, List.take_length]
            have hQ2 : Q = R := by rw [← HQQ.out, hkl, HLEN.out, List.drop_length]; rfl
            subst hQ2
            rw [← hS2] at HTOT
            by_cases hov : 1125899906842624 < S
            · rw [if_pos hov] at HTOT
              have fd : decide (1125899906842624 < S) = true := decide_eq_true hov
              rw [fd]
              go_wp2_with (first
                | (go_at_call 12; refine (HTOT.out wr HBR.out).mono ?_; rintro e w5 ⟨rfl, hb5⟩; have HB5 := Lib.hid (HBR.out.trans (hb5.mono HBR.out.size)); clear hb5)
                | (go_at_call 13; refine (HOF.out w5 HB5.out).mono ?_; rintro e w6 ⟨rfl, hb6⟩; have HB6 := Lib.hid (HB5.out.trans (hb6.mono HB5.out.size)); clear hb6)
                | (go_at_call 10; refine (awake9_any w6).mono ?_; rintro e w8 ⟨rfl, hb8⟩; have HB8 := Lib.hid (HB6.out.trans (hb8.mono HB6.out.size)); clear hb8)
                | fail)
              go_ret
              exact ⟨rfl, HL.out.below.trans (HB8.out.mono HL.out.below.size)⟩
            · rw [if_neg hov] at HTOT
              have fd : decide (1125899906842624 < S) = false := decide_eq_false hov
              rw [fd]
              go_wp2_with (first
                | (go_at_call 12; refine (HTOT.out wr HBR.out).mono ?_; rintro e w5 ⟨rfl, hb5⟩; have HB5 := Lib.hid (HBR.out.trans (hb5.mono HBR.out.size)); clear hb5)
                | (go_at_call 13; refine (HOF.out w5 HB5.out).mono ?_; rintro e w6 ⟨rfl, hb6⟩; have HB6 := Lib.hid (HB5.out.trans (hb6.mono HB5.out.size)); clear hb6)
                | (go_at_call 10; refine (awake9_any w6).mono ?_; rintro e w8 ⟨rfl, hb8⟩; have HB8 := Lib.hid (HB6.out.trans (hb8.mono HB6.out.size)); clear hb8)
                | fail)
              go_ret
              exact ⟨rfl, HL.out.below.trans (HB8.out.mono HL.out.below.size)⟩
      · have f1 : ¬ ((j : Int) < (n : Int)) := by omega
        clear hjn hj1 hj hj40 hNj
        obtain ⟨wq, rfl⟩ : ∃ q, q = wr := ⟨_, rfl⟩
        obtain ⟨aL, cL, eL, hs, _⟩ := HL.out.list.it
        subst eL
        obtain ⟨len, hlen⟩ : ∃ l, l = rs.length := ⟨_, rfl⟩
        rw [← hlen] at hs ⊢
        have hl100 : len ≤ 100 := by
          obtain ⟨F, hm, _⟩ := HL.out.view.map
          have h1 := hm.few
          have h2 := HL.out.view.few
          omega
        have hl63 : (len : Int) ≤ 9223372036854775807 := by omega
        have hlc : (len : Int) ≤ (cL : Int) := by have h2 := hs.2.1; omega
        have hcL63 : (cL : Int) ≤ 9223372036854775807 := by have h2 := hs.2.2.1; unfold maxLen at h2; omega
        have HSL := Lib.hid hs
        have HLEN := Lib.hid hlen
        have HAM : Hid (∀ r ∈ rs, 0 ≤ r.out.m ∧ r.out.m ≤ 1125899906842624) := Lib.hid (fun r hr => rowOk_amount (HL.out.view.ok r hr))
        have HTOT : Hid (∀ W : World, Below wq.heap.size wq W → Calls Try.prog 12 #[.pointer (some ⟨vb, 0, none⟩)] W fun e w' => e = .returned (.tuple #[.int .i64 (if 1125899906842624 < (rs.map fun r => r.out.m).sum then (0, 10) else ((rs.map fun r => r.out.m).sum, 0) : Int × Int).1, .int .i64 (if 1125899906842624 < (rs.map fun r => r.out.m).sum then (0, 10) else ((rs.map fun r => r.out.m).sum, 0) : Int × Int).2]) ∧ Below W.heap.size W w') := Lib.hid (fun W hW => by
          have h1 := total_any (HL.out.view.below hW)
          rw [addFrom_sum _ 0 (Int.le_refl _) (by omega) (fun z hz => by
            obtain ⟨r, hr, rfl⟩ := List.mem_map.1 hz
            exact HAM.out r hr), Int.zero_add] at h1
          exact h1)
        have HOF : Hid (∀ W : World, Below wq.heap.size wq W → Calls Try.prog 13 #[.pointer (some ⟨vb, 0, none⟩), .int .i64 key] W fun e w' => e = .returned (.int .i64 (ownFrom key 0 rs)) ∧ Below W.heap.size W w') := Lib.hid (fun W hW => of_any (HL.out.view.below hW) HKF.out)
        obtain ⟨R, hR⟩ : ∃ R, R = ownFrom key 0 rs := ⟨_, rfl⟩
        rw [← hR] at HOF
        have HR := Lib.hid hR
        clear hs hlen hR
        go_wp2_with fail
        go_loopw [10, 11, 12, 13] (fun t q v i w2 => ∃ (k : Nat) (S Q : Int), k ≤ len ∧ i = .int .i64 k ∧ t = .int .i64 S ∧ q = .int .i64 Q ∧ v = .bool (decide (1125899906842624 < S)) ∧ 0 ≤ Q ∧ Q ≤ 1125899906842624 ∧ S = ((rs.take k).map fun r => r.out.m).sum ∧ 0 ≤ S ∧ S ≤ k * 1125899906842624 ∧ ownFrom key Q (rs.drop k) = R ∧ Below wq.heap.size wq w2) (fun _ _ _ i _ => len - (intOf i).toNat)
        case atStart => exact ⟨0, 0, 0, Nat.zero_le _, rfl, rfl, rfl, rfl, Int.le_refl _, by omega, rfl, Int.le_refl _, by omega, HR.out.symm, Below.refl _ _⟩
        case round =>
          obtain ⟨k, S, Q, hk, rfl, rfl, rfl, rfl, q0, q1, hS, s0, s1, hQ, hbr⟩ := hrel
          have HSS := Lib.hid hS
          have HQQ := Lib.hid hQ
          have HBR := Lib.hid hbr
          clear hS hQ hbr
          by_cases hkn : k < len
          · have g1 : (k : Int) < (len : Int) := by omega
            have g0 : (0 : Int) ≤ (k : Int) := by omega
            have gt : ((k : Int)).toNat = k := by omega
            have hkl : k < rs.length := by rw [← HLEN.out]; exact hkn
            have hst := sum_step hkl
            have hos := own_step key Q hkl
            rw [HQQ.out] at hos
            rw [← HSS.out] at hst
            have ham := HAM.out _ (row_mem hkl)
            have hsr := HSL.out.below HBR.out
            obtain ⟨bL, oL, eL, hltL, hcL⟩ := hsr.2.2.2.2.2 (by omega)
            have rx : wr.rangeAt bL (oL + k * 36) (rs.getD k noRow).cells := hcL k hkn
            have ix : RowIn wr (rs.getD k noRow) := hsr.get hkn
            revert rx ix hst hos ham
            generalize rs.getD k noRow = x
            obtain ⟨s6, p6, ⟨m, a6, n6, c6, ws6⟩, h6⟩ := x
            intro hst hos ham rx ix
            dsimp only at hst hos ham
            subst eL
            have ox := row_out ix.tx rx
            have cm : wr.cell? ⟨bL, oL + k * 36 + 33, none⟩ = some (.int .i64 m) := ox 0 (.int .i64 m) rfl
            have OX := Lib.hid ox
            have HSO : Hid (Calls Try.prog 11 #[.agg #[.int .i64 m, .slice a6 n6 c6], .int .i64 key] wr fun e w' => e = .returned (.bool (soleW key ws6)) ∧ Below wr.heap.size wr w') := Lib.hid (lockSole_any ix.out.ws HKF.out)
            have HST := Lib.hid hst
            have m0 := ham.1
            have m1 := ham.2
            have s2 : S ≤ 112589990684262400 := by omega
            have s3 : S + m ≤ ((k + 1 : Nat) : Int) * 1125899906842624 := by omega
            have HS3 := Lib.hid s3
            clear rx ix hst ham hsr hcL hltL ox s1 s3
            obtain ⟨so, hso⟩ : ∃ s, s = soleW key ws6 := ⟨_, rfl⟩
            rw [← hso] at hos HSO
            clear hso
            by_cases hov : 1125899906842624 < S
            · have fd : decide (1125899906842624 < S) = true := decide_eq_true hov
              have fd2 : decide (1125899906842624 < S + m) = true := decide_eq_true (by omega)
              rw [fd]
              cases so
              · rw [if_neg (by simp)] at hos
                go_wp2_with (first
                  | (refine wpList_load_mid rfl 28 _ rfl bL (oL + k * 36 + 33) rfl [.int .i64 m, .slice a6 n6 c6] _ OX.out Try.underlying28 rfl (by kernel_rfl) ?_)
                  | (go_at_call 11; refine HSO.out.mono ?_; rintro e w7 ⟨rfl, hb7⟩; have HB7 := Lib.hid (HBR.out.trans (hb7.mono HBR.out.size)); clear hb7)
                  | fail)
                go_roundw
                case rel => exact ⟨k + 1, S + m, Q, by omega, by go_num, rfl, rfl, by rw [fd2], by omega, by omega, HST.out.symm, by omega, HS3.out, hos.symm, HB7.out⟩
                case measure => simp [intOf]; omega
              · by_cases hq : Q + m ≤ 1125899906842624
                · rw [if_pos ⟨rfl, hq⟩] at hos
                  go_wp2_with (first
                    | (refine wpList_load_mid rfl 28 _ rfl bL (oL + k * 36 + 33) rfl [.int .i64 m, .slice a6 n6 c6] _ OX.out Try.underlying28 rfl (by kernel_rfl) ?_)
                    | (go_at_call 11; refine HSO.out.mono ?_; rintro e w7 ⟨rfl, hb7⟩; have HB7 := Lib.hid (HBR.out.trans (hb7.mono HBR.out.size)); clear hb7)
                    | fail)
                  go_roundw
                  case rel => exact ⟨k + 1, S + m, Q + m, by omega, by go_num, rfl, rfl, by rw [fd2], by omega, by omega, HST.out.symm, by omega, HS3.out, hos.symm, HB7.out⟩
                  case measure => simp [intOf]; omega
                · rw [if_neg (fun e => hq e.2)] at hos
                  go_wp2_with (first
                    | (refine wpList_load_mid rfl 28 _ rfl bL (oL + k * 36 + 33) rfl [.int .i64 m, .slice a6 n6 c6] _ OX.out Try.underlying28 rfl (by kernel_rfl) ?_)
                    | (go_at_call 11; refine HSO.out.mono ?_; rintro e w7 ⟨rfl, hb7⟩; have HB7 := Lib.hid (HBR.out.trans (hb7.mono HBR.out.size)); clear hb7)
                    | fail)
                  go_roundw
                  case rel => exact ⟨k + 1, S + m, Q, by omega, by go_num, rfl, rfl, by rw [fd2], by omega, by omega, HST.out.symm, by omega, HS3.out, hos.symm, HB7.out⟩
                  case measure => simp [intOf]; omega
            · have fd : decide (1125899906842624 < S) = false := decide_eq_false hov
              rw [fd]
              cases so
              · rw [if_neg (by simp)] at hos
                go_wp2_with (first
                  | (refine wpList_load_mid rfl 28 _ rfl bL (oL + k * 36 + 33) rfl [.int .i64 m, .slice a6 n6 c6] _ OX.out Try.underlying28 rfl (by kernel_rfl) ?_)
                  | (go_at_call 11; refine HSO.out.mono ?_; rintro e w7 ⟨rfl, hb7⟩; have HB7 := Lib.hid (HBR.out.trans (hb7.mono HBR.out.size)); clear hb7)
                  | fail)
                go_roundw
                case rel => exact ⟨k + 1, S + m, Q, by omega, by go_num, rfl, rfl, rfl, by omega, by omega, HST.out.symm, by omega, HS3.out, hos.symm, HB7.out⟩
                case measure => simp [intOf]; omega
              · by_cases hq : Q + m ≤ 1125899906842624
                · rw [if_pos ⟨rfl, hq⟩] at hos
                  go_wp2_with (first
                    | (refine wpList_load_mid rfl 28 _ rfl bL (oL + k * 36 + 33) rfl [.int .i64 m, .slice a6 n6 c6] _ OX.out Try.underlying28 rfl (by kernel_rfl) ?_)
                    | (go_at_call 11; refine HSO.out.mono ?_; rintro e w7 ⟨rfl, hb7⟩; have HB7 := Lib.hid (HBR.out.trans (hb7.mono HBR.out.size)); clear hb7)
                    | fail)
                  go_roundw
                  case rel => exact ⟨k + 1, S + m, Q + m, by omega, by go_num, rfl, rfl, rfl, by omega, by omega, HST.out.symm, by omega, HS3.out, hos.symm, HB7.out⟩
                  case measure => simp [intOf]; omega
                · rw [if_neg (fun e => hq e.2)] at hos
                  go_wp2_with (first
                    | (refine wpList_load_mid rfl 28 _ rfl bL (oL + k * 36 + 33) rfl [.int .i64 m, .slice a6 n6 c6] _ OX.out Try.underlying28 rfl (by kernel_rfl) ?_)
                    | (go_at_call 11; refine HSO.out.mono ?_; rintro e w7 ⟨rfl, hb7⟩; have HB7 := Lib.hid (HBR.out.trans (hb7.mono HBR.out.size)); clear hb7)
                    | fail)
                  go_roundw
                  case rel => exact ⟨k + 1, S + m, Q, by omega, by go_num, rfl, rfl, rfl, by omega, by omega, HST.out.symm, by omega, HS3.out, hos.symm, HB7.out⟩
                  case measure => simp [intOf]; omega
          · have hkl : k = len := by omega
            have g1 : ¬ ((k : Int) < (len : Int)) := by omega
            have hS2 : S = (rs.map fun r => r.out.m).sum := by rw [HSS.out, hkl, HLEN.out, List.take_length]
            have hQ2 : Q = R := by rw [← HQQ.out, hkl, HLEN.out, List.drop_length]; rfl
            subst hQ2
            rw [← hS2] at HTOT
            by_cases hov : 1125899906842624 < S
            · rw [if_pos hov] at HTOT
              have fd : decide (1125899906842624 < S) = true := decide_eq_true hov
              rw [fd]
              go_wp2_with (first
                | (go_at_call 12; refine (HTOT.out wr HBR.out).mono ?_; rintro e w5 ⟨rfl, hb5⟩; have HB5 := Lib.hid (HBR.out.trans (hb5.mono HBR.out.size)); clear hb5)
                | (go_at_call 13; refine (HOF.out w5 HB5.out).mono ?_; rintro e w6 ⟨rfl, hb6⟩; have HB6 := Lib.hid (HB5.out.trans (hb6.mono HB5.out.size)); clear hb6)
                | (go_at_call 10; refine (awake9_any w6).mono ?_; rintro e w8 ⟨rfl, hb8⟩; have HB8 := Lib.hid (HB6.out.trans (hb8.mono HB6.out.size)); clear hb8)
                | fail)
              go_ret
              exact ⟨rfl, HL.out.below.trans (HB8.out.mono HL.out.below.size)⟩
            · rw [if_neg hov] at HTOT
              have fd : decide (1125899906842624 < S) = false := decide_eq_false hov
              rw [fd]
              go_wp2_with (first
                | (go_at_call 12; refine (HTOT.out wr HBR.out).mono ?_; rintro e w5 ⟨rfl, hb5⟩; have HB5 := Lib.hid (HBR.out.trans (hb5.mono HBR.out.size)); clear hb5)
                | (go_at_call 13; refine (HOF.out w5 HB5.out).mono ?_; rintro e w6 ⟨rfl, hb6⟩; have HB6 := Lib.hid (HB5.out.trans (hb6.mono HB5.out.size)); clear hb6)
                | (go_at_call 10; refine (awake9_any w6).mono ?_; rintro e w8 ⟨rfl, hb8⟩; have HB8 := Lib.hid (HB6.out.trans (hb8.mono HB6.out.size)); clear hb8)
                | fail)
              go_ret
              exact ⟨rfl, HL.out.below.trans (HB8.out.mono HL.out.below.size)⟩
end Go.Proofs.Ytdeilkpcmgcbaaa
