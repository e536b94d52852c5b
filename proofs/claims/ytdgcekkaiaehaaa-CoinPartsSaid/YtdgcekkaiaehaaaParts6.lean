/- The walk of CoinParts. -/
import Derived.Test.YtdgcekkaiaehaaaSays6
import Derived.Deep.QuietTactic
import Derived.BigQuiet
import Derived.Deep.CutRange
import Derived.Outline
namespace Go.Proofs.Ytdgcekkaiaehaaa
open Go.RowKit

/-- What the parts of an amount are, and what the first ones are together. -/
theorem split_facts (n : Int) (p : Nat) (h0 : 0 ≤ n) (hp : 1 ≤ p) : ∃ (L f : Nat → Int), (∀ j, j < p → (splitOf n p).getD j 0 = L j) ∧ f 0 = 0 ∧ (∀ k, f (k + 1) = f k + L k) ∧ f p = n ∧ (∀ k, k ≤ p → 0 ≤ f k ∧ f k ≤ n) ∧
    (∀ j, j < p → L j ≤ L 0 ∧ L (p - 1) ≤ L j ∧ L 0 - L j ≤ 1 ∧ 0 ≤ L j ∧ L j ≤ n) := by
  obtain ⟨Q, hQ⟩ : ∃ Q, Q = n / (p : Int) := ⟨_, rfl⟩
  obtain ⟨R, hR⟩ : ∃ R, R = n % (p : Int) := ⟨_, rfl⟩
  have hp0 : (0 : Int) < (p : Int) := by omega
  have e : n = (p : Int) * Q + R := by rw [hQ, hR]; exact (Int.mul_ediv_add_emod n p).symm
  have r0 : 0 ≤ R := by rw [hR]; exact Int.emod_nonneg _ (by omega)
  have r1 : R < (p : Int) := by rw [hR]; exact Int.emod_lt_of_pos _ hp0
  have q0 : 0 ≤ Q := by rw [hQ]; exact Int.ediv_nonneg h0 (by omega)
  have hpq : Q ≤ (p : Int) * Q := by
    have := Int.mul_le_mul_of_nonneg_right (show (1 : Int) ≤ (p : Int) by omega) q0
    omega
  refine ⟨fun j => Q + (if (j : Int) < R then 1 else 0), fun k => (k : Int) * Q + (if (k : Int) < R then (k : Int) else R), fun j hj => by rw [splitOf_get n p j hj, ← hQ, ← hR], ?_, fun k => ?_, ?_, fun k hk => ?_, fun j hj => ?_⟩
  · simp; omega
  · have : ((k + 1 : Nat) : Int) * Q = (k : Int) * Q + Q := by rw [Int.natCast_add, Int.add_mul]; simp
    show ((k + 1 : Nat) : Int) * Q + (if ((k + 1 : Nat) : Int) < R then ((k + 1 : Nat) : Int) else R) = ((k : Int) * Q + (if (k : Int) < R then (k : Int) else R)) + (Q + (if (k : Int) < R then 1 else 0))
    rw [this]
    by_cases h1 : (k : Int) < R
    · rw [if_pos h1, if_pos h1]
      split <;> omega
    · rw [if_neg h1, if_neg h1, if_neg (by omega)]
      omega
  · show (p : Int) * Q + (if (p : Int) < R then (p : Int) else R) = n
    rw [if_neg (by omega)]
    exact e.symm
  · have h1 : 0 ≤ (k : Int) * Q := Int.mul_nonneg (by omega) q0
    have h2 : (k : Int) * Q ≤ (p : Int) * Q := Int.mul_le_mul_of_nonneg_right (by omega) q0
    show 0 ≤ (k : Int) * Q + (if (k : Int) < R then (k : Int) else R) ∧ (k : Int) * Q + (if (k : Int) < R then (k : Int) else R) ≤ n
    split <;> omega
  · show Q + (if (j : Int) < R then 1 else 0) ≤ Q + (if ((0 : Nat) : Int) < R then 1 else 0) ∧ Q + (if ((p - 1 : Nat) : Int) < R then 1 else 0) ≤ Q + (if (j : Int) < R then 1 else 0) ∧ Q + (if ((0 : Nat) : Int) < R then 1 else 0) - (Q + (if (j : Int) < R then 1 else 0)) ≤ 1 ∧ 0 ≤ Q + (if (j : Int) < R then 1 else 0) ∧ Q + (if (j : Int) < R then 1 else 0) ≤ n
    split <;> split <;> split <;> omega
theorem below_drewN' {B : Nat} {w w' : World} (h : Below B w w') (n : Nat) : Below B w (w'.drewN n) := ⟨h.os, h.tape, h.output, h.size, h.block⟩
set_option linter.unusedSimpArgs false in
set_option maxRecDepth 100000 in
set_option maxHeartbeats 3200000 in
theorem parts6_walk (hc : CoinSays) {w : World} (n : Int) (hn : Fits n) (p : Int) (hp : Fits p) (k : Int) (hk : Fits k) :
    Calls Try.prog 4 #[.int .i64 n, .int .i64 p, .int .i64 k] w fun e w' => e = .returned (.bool true) ∧ Below w.heap.size w w' := by
  obtain ⟨V, hV⟩ : ∃ V, V = partOf n k := ⟨_, rfl⟩
  have hpart : ∀ W : World, Calls Try.prog 13 #[.int .i64 n, .int .i64 k] W fun e w' => e = .returned (.int .i64 V) ∧ Below W.heap.size W w' := fun W => by rw [hV]; exact hc.part W n k hk
  have hrl : ∀ (W : World) (B : Bool), okAmount n = B → Calls Try.prog 11 #[.int .i64 n] W fun e w' => e = .returned (.bool B) ∧ W = w' := fun W B hB => by rw [← hB]; exact right_law n W
  have haw : ∀ W : World, Calls Try.prog 12 #[] W fun e w' => e = .returned (.bool true) ∧ Below W.heap.size W w' := awake6_any hc
  obtain ⟨n1, n2⟩ := hn
  obtain ⟨p1, p2⟩ := hp
  obtain ⟨k1, k2⟩ := hk
  have hno : ∀ W : World, okAmount n = false ∨ p < 1 ∨ 65536 < p → Calls Try.prog 14 #[.int .i64 n, .int .i64 p] W fun e w' => ∃ a c, e = .returned (.slice a 0 c) ∧ Below W.heap.size W w' := fun W h => hc.splitNo W n p h
  have hyes : ∀ (W : World) (P : Nat), 0 ≤ n → n ≤ 1125899906842624 → 1 ≤ P → P ≤ 65536 → Calls Try.prog 14 #[.int .i64 n, .int .i64 (P : Int)] W fun e w' => ∃ a c, e = .returned (.slice a P c) ∧ Numbers w' a P c (splitOf n P) ∧ Below W.heap.size W w' := fun W P => hc.splitYes W n P
  have HPART := Lib.hid hpart
  have HRL := Lib.hid hrl
  have HAW := Lib.hid haw
  have HNO := Lib.hid hno
  have HYES := Lib.hid hyes
  have HV := Lib.hid hV
  clear hc hpart hrl haw hno hyes hV
  obtain ⟨B, hB⟩ : ∃ B, okAmount n = B := ⟨_, rfl⟩
  have hB2 : B = true → 0 ≤ n ∧ n ≤ 1125899906842624 := fun e => of_decide_eq_true (hB.trans e)
  have cases : (B = false ∧ V = 0) ∨ (B = true ∧ ¬ 0 ≤ k ∧ V = 0) ∨ (B = true ∧ 0 ≤ k ∧ k < 1000 ∧ IntKind.i64.wrap (n * k) = n * k ∧ (n * k / 1000 != wrap64 ((n * k).tdiv 1000)) = false ∧ V = n * k / 1000) ∨ (B = true ∧ 0 ≤ k ∧ ¬ k < 1000 ∧ IntKind.i64.wrap (n * 1000) = n * 1000 ∧ (n != wrap64 ((n * 1000).tdiv 1000)) = false ∧ n = V) := by
    have hv := HV.out
    unfold partOf at hv
    rw [hB] at hv
    cases B with
    | false => exact .inl ⟨rfl, by rw [hv]; simp⟩
    | true =>
      obtain ⟨g0, g1⟩ := hB2 rfl
      by_cases h2 : 0 ≤ k
      · rw [if_pos ⟨rfl, h2⟩] at hv
        by_cases h3 : k < 1000
        · rw [if_pos h3] at hv
          have m1 : n * k ≤ 1125899906842624 * 1000 := Int.mul_le_mul g1 (by omega) h2 (by omega)
          have m0 : 0 ≤ n * k := Int.mul_nonneg g0 h2
          exact .inr (.inr (.inl ⟨rfl, h2, h3, IntWalk.i64_in _ (by omega), by rw [Int.tdiv_eq_ediv_of_nonneg m0, show wrap64 (n * k / 1000) = n * k / 1000 by unfold wrap64; omega]; simp, hv⟩))
        · rw [if_neg h3] at hv
          exact .inr (.inr (.inr ⟨rfl, h2, h3, IntWalk.i64_in _ (by omega), by rw [Int.tdiv_eq_ediv_of_nonneg (by omega), show n * 1000 / 1000 = n by omega, show wrap64 n = n by unfold wrap64; omega]; simp, by omega⟩))
      · rw [if_neg (by simp [h2])] at hv
        exact .inr (.inl ⟨rfl, h2, hv⟩)
  have hrl := fun W => HRL.out W B hB
  have hno' : ∀ W : World, (B = false ∨ p < 1 ∨ 65536 < p) → Calls Try.prog 14 #[.int .i64 n, .int .i64 p] W fun e w' => ∃ a c, e = .returned (.slice a 0 c) ∧ Below W.heap.size W w' := fun W h => HNO.out W (by rw [hB]; exact h)
  have HRL := Lib.hid hrl
  have HNO := Lib.hid hno'
  have HB2 := Lib.hid hB2
  clear HV hrl hno' hB2 hB
  rcases cases with ⟨rfl, rfl⟩ | ⟨rfl, d1, rfl⟩ | ⟨rfl, d1, d2, iw, d3, rfl⟩ | ⟨rfl, d1, d2, iw, d3, rfl⟩
  · go_enter Try.func4, Try.ntmps4
    go_wp2_with (go_at_call 11; (with_reducible refine (HRL.out _).mono ?_); rintro e w' ⟨rfl, rfl⟩)
    refine (HPART.out _).mono ?_
    rintro e w1 ⟨rfl, hb1⟩
    have HB1 := Lib.hid hb1
    clear hb1
    have pcases : (1000 < p ∧ p ≤ 65536) ∨ (p < 1 ∧ ¬ 1000 < p) ∨ (¬ p < 1 ∧ 65536 < p ∧ 1000 < p ∧ ¬ p ≤ 65536) ∨ (¬ p < 1 ∧ ¬ 1000 < p ∧ ¬ 65536 < p) := by omega
    rcases pcases with ⟨e1, e2⟩ | ⟨e1, e2⟩ | ⟨e1, e2, e3, e4⟩ | ⟨e1, e2, e3⟩
    · go_wp2_with fail
      refine (HAW.out _).mono ?_
      rintro e w9 ⟨rfl, hb9⟩
      have HB9 := Lib.hid (HB1.out.trans (hb9.mono HB1.out.size))
      clear hb9
      go_wp2_with fail
      go_ret
      exact ⟨rfl, HB9.out⟩
    · have HP1 := Lib.hid e1
      go_wp2_with fail
      refine (HNO.out _ (.inr (.inl HP1.out))).mono ?_
      rintro e w2 ⟨a, c, rfl, hb2⟩
      have HB2' := Lib.hid (HB1.out.trans (hb2.mono HB1.out.size))
      clear hb2
      go_wp2_with (go_at_call 11; (with_reducible refine (HRL.out _).mono ?_); rintro e w' ⟨rfl, rfl⟩)
      refine (HAW.out _).mono ?_
      rintro e w9 ⟨rfl, hb9⟩
      have HB9 := Lib.hid (HB2'.out.trans (hb9.mono HB2'.out.size))
      clear hb9
      go_wp2_with fail
      go_ret
      exact ⟨rfl, HB9.out⟩
    · have HP1 := Lib.hid e2
      go_wp2_with fail
      refine (HNO.out _ (.inr (.inr HP1.out))).mono ?_
      rintro e w2 ⟨a, c, rfl, hb2⟩
      have HB2' := Lib.hid (HB1.out.trans (hb2.mono HB1.out.size))
      clear hb2
      go_wp2_with (go_at_call 11; (with_reducible refine (HRL.out _).mono ?_); rintro e w' ⟨rfl, rfl⟩)
      refine (HAW.out _).mono ?_
      rintro e w9 ⟨rfl, hb9⟩
      have HB9 := Lib.hid (HB2'.out.trans (hb9.mono HB2'.out.size))
      clear hb9
      go_wp2_with fail
      go_ret
      exact ⟨rfl, HB9.out⟩
    · go_wp2_with fail
      refine (HNO.out _ (by first | exact .inl rfl | exact .inl trivial)).mono ?_
      rintro e w2 ⟨a, c, rfl, hb2⟩
      have HB2' := Lib.hid (HB1.out.trans (hb2.mono HB1.out.size))
      clear hb2
      go_wp2_with (go_at_call 11; (with_reducible refine (HRL.out _).mono ?_); rintro e w' ⟨rfl, rfl⟩)
      refine (HAW.out _).mono ?_
      rintro e w9 ⟨rfl, hb9⟩
      have HB9 := Lib.hid (HB2'.out.trans (hb9.mono HB2'.out.size))
      clear hb9
      go_wp2_with fail
      go_ret
      exact ⟨rfl, HB9.out⟩
  · go_enter Try.func4, Try.ntmps4
    go_wp2_with (go_at_call 11; (with_reducible refine (HRL.out _).mono ?_); rintro e w' ⟨rfl, rfl⟩)
    refine (HPART.out _).mono ?_
    rintro e w1 ⟨rfl, hb1⟩
    have HB1 := Lib.hid hb1
    clear hb1
    have pcases : (1000 < p ∧ p ≤ 65536) ∨ (p < 1 ∧ ¬ 1000 < p) ∨ (¬ p < 1 ∧ 65536 < p ∧ 1000 < p ∧ ¬ p ≤ 65536) ∨ (¬ p < 1 ∧ ¬ 1000 < p ∧ ¬ 65536 < p) := by omega
    rcases pcases with ⟨e1, e2⟩ | ⟨e1, e2⟩ | ⟨e1, e2, e3, e4⟩ | ⟨e1, e2, e3⟩
    · go_wp2_with fail
      refine (HAW.out _).mono ?_
      rintro e w9 ⟨rfl, hb9⟩
      have HB9 := Lib.hid (HB1.out.trans (hb9.mono HB1.out.size))
      clear hb9
      go_wp2_with fail
      go_ret
      exact ⟨rfl, HB9.out⟩
    · have HP1 := Lib.hid e1
      go_wp2_with fail
      refine (HNO.out _ (.inr (.inl HP1.out))).mono ?_
      rintro e w2 ⟨a, c, rfl, hb2⟩
      have HB2' := Lib.hid (HB1.out.trans (hb2.mono HB1.out.size))
      clear hb2
      go_wp2_with (go_at_call 11; (with_reducible refine (HRL.out _).mono ?_); rintro e w' ⟨rfl, rfl⟩)
      refine (HAW.out _).mono ?_
      rintro e w9 ⟨rfl, hb9⟩
      have HB9 := Lib.hid (HB2'.out.trans (hb9.mono HB2'.out.size))
      clear hb9
      go_wp2_with fail
      go_ret
      exact ⟨rfl, HB9.out⟩
    · have HP1 := Lib.hid e2
      go_wp2_with fail
      refine (HNO.out _ (.inr (.inr HP1.out))).mono ?_
      rintro e w2 ⟨a, c, rfl, hb2⟩
      have HB2' := Lib.hid (HB1.out.trans (hb2.mono HB1.out.size))
      clear hb2
      go_wp2_with (go_at_call 11; (with_reducible refine (HRL.out _).mono ?_); rintro e w' ⟨rfl, rfl⟩)
      refine (HAW.out _).mono ?_
      rintro e w9 ⟨rfl, hb9⟩
      have HB9 := Lib.hid (HB2'.out.trans (hb9.mono HB2'.out.size))
      clear hb9
      go_wp2_with fail
      go_ret
      exact ⟨rfl, HB9.out⟩
    · obtain ⟨g0, g1⟩ := HB2.out (by first | rfl | trivial)
      obtain ⟨P, rfl⟩ : ∃ P : Nat, p = P := ⟨p.toNat, by omega⟩
      have hP1 : 1 ≤ P := by omega
      have hP2 : P ≤ 1000 := by omega
      obtain ⟨L, f, hL, hf0, hfs, hfp, hfr, hLs⟩ := split_facts n P g0 hP1
      have HL := Lib.hid hL
      have HF0 := Lib.hid hf0
      have HFS := Lib.hid hfs
      have HFP := Lib.hid hfp
      have HFR := Lib.hid hfr
      have HLS := Lib.hid hLs
      have HSP := Lib.hid (fun W => HYES.out W P g0 g1 hP1 (by omega))
      clear hL hf0 hfs hfp hfr hLs
      go_wp2_with fail
      refine (HSP.out _).mono ?_
      rintro e w2 ⟨a, c, rfl, hl, hb2⟩
      have HB2' := Lib.hid (HB1.out.trans (hb2.mono HB1.out.size))
      obtain ⟨b, off, rfl, hlt, hcells⟩ := hl.2.2.2.2.2 (by omega)
      have HC := Lib.hid (show ∀ j, j < P → w2.cell? ⟨b, off + j, none⟩ = some (.int .i64 (L j)) from fun j hj => by rw [← HL.out j hj]; exact hcells j hj)
      clear hb2 hl hcells
      go_wp2_with (go_at_call 11; (with_reducible refine (HRL.out _).mono ?_); rintro e w' ⟨rfl, rfl⟩)
      go_loopw [10, 11] (fun s i wr => ∃ j : Nat, j ≤ P ∧ i = .int .i64 j ∧ s = .int .i64 (f j) ∧ Below w2.heap.size w2 wr) (fun _ i _ => P - (intOf i).toNat)
      case atStart => exact ⟨0, Nat.zero_le _, rfl, by rw [HF0.out], Below.refl _ _⟩
      case round =>
        obtain ⟨j, hj, rfl, rfl, hbr⟩ := hrel
        have HBR := Lib.hid hbr
        by_cases hjP : j < P
        · have f1 : (j : Int) < (P : Int) := by omega
          have f0 : (0 : Int) ≤ (j : Int) := by omega
          have ft : ((j : Int)).toNat = j := by omega
          have fp : (0 : Int) < (P : Int) := by omega
          have k0 : wr.cell? ⟨b, off, none⟩ = some (.int .i64 (L 0)) := (hbr.cell (p := ⟨b, off + 0, none⟩) hlt).trans (HC.out 0 (by omega))
          have kj : wr.cell? ⟨b, off + j, none⟩ = some (.int .i64 (L j)) := (hbr.cell (p := ⟨b, off + j, none⟩) hlt).trans (HC.out j hjP)
          have kp : wr.cell? ⟨b, off + (P - 1), none⟩ = some (.int .i64 (L (P - 1))) := (hbr.cell (p := ⟨b, off + (P - 1), none⟩) hlt).trans (HC.out (P - 1) (by omega))
          obtain ⟨q1, q2, q3, q4, q5⟩ := HLS.out j hjP
          obtain ⟨q6, q7, q8, q9, q10⟩ := HLS.out 0 (by omega)
          have fs := HFS.out j
          obtain ⟨r1, r2⟩ := HFR.out j (by omega)
          obtain ⟨r3, r4⟩ := HFR.out (j + 1) (by omega)
          rw [fs] at r3 r4
          have HFSJ := Lib.hid fs
          obtain ⟨Z, hZ⟩ : ∃ Z, Z = P - 1 := ⟨_, rfl⟩
          rw [← hZ] at kp q2
          have hZi : (P : Int) - 1 = (Z : Int) := by omega
          have z0 : (0 : Int) ≤ (Z : Int) := by omega
          have z1 : (Z : Int) < (P : Int) := by omega
          have zt : ((Z : Int)).toNat = Z := by omega
          obtain ⟨x, hx⟩ : ∃ x, x = L j := ⟨_, rfl⟩
          obtain ⟨y, hy⟩ : ∃ y, y = L 0 := ⟨_, rfl⟩
          obtain ⟨v, hv⟩ : ∃ v, v = L Z := ⟨_, rfl⟩
          obtain ⟨F, hF⟩ : ∃ F, F = f j := ⟨_, rfl⟩
          rw [← hx] at kj q1 q2 q3 q4 q5 r3 r4 HFSJ
          rw [← hy] at k0 q1 q3 q6 q7 q8 q9 q10
          rw [← hv] at kp q2
          rw [← hF] at r1 r2 r3 r4 HFSJ
          rw [← hF]
          have iw1 : IntKind.i64.wrap (F + x) = F + x := IntWalk.i64_in _ (by omega)
          have s1 : ¬ y < x := by omega
          have s2 : ¬ x < v := by omega
          have s3 : ¬ 1 < y - x := by omega
          clear fs hZ hx hy hv hF q6 q7 q8 hbr
          go_upto_region 21 with (fail)
          go_quiet (fail)
          go_wp2
          go_roundw
          case rel => exact ⟨j + 1, by omega, by go_num, by rw [HFSJ.out], below_drewN' HBR.out _⟩
          case measure => simp [intOf]; omega
        · have f1 : ¬ ((j : Int) < (P : Int)) := by omega
          obtain rfl : j = P := by omega
          rw [HFP.out]
          go_wp2_with fail
          refine (HAW.out _).mono ?_
          rintro e w9 ⟨rfl, hb9⟩
          have HB8 := Lib.hid (HB2'.out.trans (HBR.out.mono HB2'.out.size))
          have HB9 := Lib.hid (HB8.out.trans (hb9.mono HB8.out.size))
          clear hb9
          go_wp2_with fail
          go_ret
          exact ⟨rfl, HB9.out⟩
  · go_enter Try.func4, Try.ntmps4
    go_wp2_with (go_at_call 11; (with_reducible refine (HRL.out _).mono ?_); rintro e w' ⟨rfl, rfl⟩)
    refine (HPART.out _).mono ?_
    rintro e w1 ⟨rfl, hb1⟩
    have HB1 := Lib.hid hb1
    clear hb1
    have pcases : (1000 < p ∧ p ≤ 65536) ∨ (p < 1 ∧ ¬ 1000 < p) ∨ (¬ p < 1 ∧ 65536 < p ∧ 1000 < p ∧ ¬ p ≤ 65536) ∨ (¬ p < 1 ∧ ¬ 1000 < p ∧ ¬ 65536 < p) := by omega
    rcases pcases with ⟨e1, e2⟩ | ⟨e1, e2⟩ | ⟨e1, e2, e3, e4⟩ | ⟨e1, e2, e3⟩
    · go_wp2_with fail
      refine (HAW.out _).mono ?_
      rintro e w9 ⟨rfl, hb9⟩
      have HB9 := Lib.hid (HB1.out.trans (hb9.mono HB1.out.size))
      clear hb9
      go_wp2_with fail
      go_ret
      exact ⟨rfl, HB9.out⟩
    · have HP1 := Lib.hid e1
      go_wp2_with fail
      refine (HNO.out _ (.inr (.inl HP1.out))).mono ?_
      rintro e w2 ⟨a, c, rfl, hb2⟩
      have HB2' := Lib.hid (HB1.out.trans (hb2.mono HB1.out.size))
      clear hb2
      go_wp2_with (go_at_call 11; (with_reducible refine (HRL.out _).mono ?_); rintro e w' ⟨rfl, rfl⟩)
      refine (HAW.out _).mono ?_
      rintro e w9 ⟨rfl, hb9⟩
      have HB9 := Lib.hid (HB2'.out.trans (hb9.mono HB2'.out.size))
      clear hb9
      go_wp2_with fail
      go_ret
      exact ⟨rfl, HB9.out⟩
    · have HP1 := Lib.hid e2
      go_wp2_with fail
      refine (HNO.out _ (.inr (.inr HP1.out))).mono ?_
      rintro e w2 ⟨a, c, rfl, hb2⟩
      have HB2' := Lib.hid (HB1.out.trans (hb2.mono HB1.out.size))
      clear hb2
      go_wp2_with (go_at_call 11; (with_reducible refine (HRL.out _).mono ?_); rintro e w' ⟨rfl, rfl⟩)
      refine (HAW.out _).mono ?_
      rintro e w9 ⟨rfl, hb9⟩
      have HB9 := Lib.hid (HB2'.out.trans (hb9.mono HB2'.out.size))
      clear hb9
      go_wp2_with fail
      go_ret
      exact ⟨rfl, HB9.out⟩
    · obtain ⟨g0, g1⟩ := HB2.out (by first | rfl | trivial)
      obtain ⟨P, rfl⟩ : ∃ P : Nat, p = P := ⟨p.toNat, by omega⟩
      have hP1 : 1 ≤ P := by omega
      have hP2 : P ≤ 1000 := by omega
      obtain ⟨L, f, hL, hf0, hfs, hfp, hfr, hLs⟩ := split_facts n P g0 hP1
      have HL := Lib.hid hL
      have HF0 := Lib.hid hf0
      have HFS := Lib.hid hfs
      have HFP := Lib.hid hfp
      have HFR := Lib.hid hfr
      have HLS := Lib.hid hLs
      have HSP := Lib.hid (fun W => HYES.out W P g0 g1 hP1 (by omega))
      clear hL hf0 hfs hfp hfr hLs
      go_wp2_with fail
      refine (HSP.out _).mono ?_
      rintro e w2 ⟨a, c, rfl, hl, hb2⟩
      have HB2' := Lib.hid (HB1.out.trans (hb2.mono HB1.out.size))
      obtain ⟨b, off, rfl, hlt, hcells⟩ := hl.2.2.2.2.2 (by omega)
      have HC := Lib.hid (show ∀ j, j < P → w2.cell? ⟨b, off + j, none⟩ = some (.int .i64 (L j)) from fun j hj => by rw [← HL.out j hj]; exact hcells j hj)
      clear hb2 hl hcells
      go_wp2_with (go_at_call 11; (with_reducible refine (HRL.out _).mono ?_); rintro e w' ⟨rfl, rfl⟩)
      go_loopw [10, 11] (fun s i wr => ∃ j : Nat, j ≤ P ∧ i = .int .i64 j ∧ s = .int .i64 (f j) ∧ Below w2.heap.size w2 wr) (fun _ i _ => P - (intOf i).toNat)
      case atStart => exact ⟨0, Nat.zero_le _, rfl, by rw [HF0.out], Below.refl _ _⟩
      case round =>
        obtain ⟨j, hj, rfl, rfl, hbr⟩ := hrel
        have HBR := Lib.hid hbr
        by_cases hjP : j < P
        · have f1 : (j : Int) < (P : Int) := by omega
          have f0 : (0 : Int) ≤ (j : Int) := by omega
          have ft : ((j : Int)).toNat = j := by omega
          have fp : (0 : Int) < (P : Int) := by omega
          have k0 : wr.cell? ⟨b, off, none⟩ = some (.int .i64 (L 0)) := (hbr.cell (p := ⟨b, off + 0, none⟩) hlt).trans (HC.out 0 (by omega))
          have kj : wr.cell? ⟨b, off + j, none⟩ = some (.int .i64 (L j)) := (hbr.cell (p := ⟨b, off + j, none⟩) hlt).trans (HC.out j hjP)
          have kp : wr.cell? ⟨b, off + (P - 1), none⟩ = some (.int .i64 (L (P - 1))) := (hbr.cell (p := ⟨b, off + (P - 1), none⟩) hlt).trans (HC.out (P - 1) (by omega))
          obtain ⟨q1, q2, q3, q4, q5⟩ := HLS.out j hjP
          obtain ⟨q6, q7, q8, q9, q10⟩ := HLS.out 0 (by omega)
          have fs := HFS.out j
          obtain ⟨r1, r2⟩ := HFR.out j (by omega)
          obtain ⟨r3, r4⟩ := HFR.out (j + 1) (by omega)
          rw [fs] at r3 r4
          have HFSJ := Lib.hid fs
          obtain ⟨Z, hZ⟩ : ∃ Z, Z = P - 1 := ⟨_, rfl⟩
          rw [← hZ] at kp q2
          have hZi : (P : Int) - 1 = (Z : Int) := by omega
          have z0 : (0 : Int) ≤ (Z : Int) := by omega
          have z1 : (Z : Int) < (P : Int) := by omega
          have zt : ((Z : Int)).toNat = Z := by omega
          obtain ⟨x, hx⟩ : ∃ x, x = L j := ⟨_, rfl⟩
          obtain ⟨y, hy⟩ : ∃ y, y = L 0 := ⟨_, rfl⟩
          obtain ⟨v, hv⟩ : ∃ v, v = L Z := ⟨_, rfl⟩
          obtain ⟨F, hF⟩ : ∃ F, F = f j := ⟨_, rfl⟩
          rw [← hx] at kj q1 q2 q3 q4 q5 r3 r4 HFSJ
          rw [← hy] at k0 q1 q3 q6 q7 q8 q9 q10
          rw [← hv] at kp q2
          rw [← hF] at r1 r2 r3 r4 HFSJ
          rw [← hF]
          have iw1 : IntKind.i64.wrap (F + x) = F + x := IntWalk.i64_in _ (by omega)
          have s1 : ¬ y < x := by omega
          have s2 : ¬ x < v := by omega
          have s3 : ¬ 1 < y - x := by omega
          clear fs hZ hx hy hv hF q6 q7 q8 hbr
          go_upto_region 21 with (fail)
          go_quiet (fail)
          go_wp2
          go_roundw
          case rel => exact ⟨j + 1, by omega, by go_num, by rw [HFSJ.out], below_drewN' HBR.out _⟩
          case measure => simp [intOf]; omega
        · have f1 : ¬ ((j : Int) < (P : Int)) := by omega
          obtain rfl : j = P := by omega
          rw [HFP.out]
          go_wp2_with fail
          refine (HAW.out _).mono ?_
          rintro e w9 ⟨rfl, hb9⟩
          have HB8 := Lib.hid (HB2'.out.trans (HBR.out.mono HB2'.out.size))
          have HB9 := Lib.hid (HB8.out.trans (hb9.mono HB8.out.size))
          clear hb9
          go_wp2_with fail
          go_ret
          exact ⟨rfl, HB9.out⟩
  · go_enter Try.func4, Try.ntmps4
    go_wp2_with (go_at_call 11; (with_reducible refine (HRL.out _).mono ?_); rintro e w' ⟨rfl, rfl⟩)
    refine (HPART.out _).mono ?_
    rintro e w1 ⟨rfl, hb1⟩
    have HB1 := Lib.hid hb1
    clear hb1
    have pcases : (1000 < p ∧ p ≤ 65536) ∨ (p < 1 ∧ ¬ 1000 < p) ∨ (¬ p < 1 ∧ 65536 < p ∧ 1000 < p ∧ ¬ p ≤ 65536) ∨ (¬ p < 1 ∧ ¬ 1000 < p ∧ ¬ 65536 < p) := by omega
    rcases pcases with ⟨e1, e2⟩ | ⟨e1, e2⟩ | ⟨e1, e2, e3, e4⟩ | ⟨e1, e2, e3⟩
    · go_wp2_with fail
      refine (HAW.out _).mono ?_
      rintro e w9 ⟨rfl, hb9⟩
      have HB9 := Lib.hid (HB1.out.trans (hb9.mono HB1.out.size))
      clear hb9
      go_wp2_with fail
      go_ret
      exact ⟨rfl, HB9.out⟩
    · have HP1 := Lib.hid e1
      go_wp2_with fail
      refine (HNO.out _ (.inr (.inl HP1.out))).mono ?_
      rintro e w2 ⟨a, c, rfl, hb2⟩
      have HB2' := Lib.hid (HB1.out.trans (hb2.mono HB1.out.size))
      clear hb2
      go_wp2_with (go_at_call 11; (with_reducible refine (HRL.out _).mono ?_); rintro e w' ⟨rfl, rfl⟩)
      refine (HAW.out _).mono ?_
      rintro e w9 ⟨rfl, hb9⟩
      have HB9 := Lib.hid (HB2'.out.trans (hb9.mono HB2'.out.size))
      clear hb9
      go_wp2_with fail
      go_ret
      exact ⟨rfl, HB9.out⟩
    · have HP1 := Lib.hid e2
      go_wp2_with fail
      refine (HNO.out _ (.inr (.inr HP1.out))).mono ?_
      rintro e w2 ⟨a, c, rfl, hb2⟩
      have HB2' := Lib.hid (HB1.out.trans (hb2.mono HB1.out.size))
      clear hb2
      go_wp2_with (go_at_call 11; (with_reducible refine (HRL.out _).mono ?_); rintro e w' ⟨rfl, rfl⟩)
      refine (HAW.out _).mono ?_
      rintro e w9 ⟨rfl, hb9⟩
      have HB9 := Lib.hid (HB2'.out.trans (hb9.mono HB2'.out.size))
      clear hb9
      go_wp2_with fail
      go_ret
      exact ⟨rfl, HB9.out⟩
    · obtain ⟨g0, g1⟩ := HB2.out (by first | rfl | trivial)
      obtain ⟨P, rfl⟩ : ∃ P : Nat, p = P := ⟨p.toNat, by omega⟩
      have hP1 : 1 ≤ P := by omega
      have hP2 : P ≤ 1000 := by omega
      obtain ⟨L, f, hL, hf0, hfs, hfp, hfr, hLs⟩ := split_facts n P g0 hP1
      have HL := Lib.hid hL
      have HF0 := Lib.hid hf0
      have HFS := Lib.hid hfs
      have HFP := Lib.hid hfp
      have HFR := Lib.hid hfr
      have HLS := Lib.hid hLs
      have HSP := Lib.hid (fun W => HYES.out W P g0 g1 hP1 (by omega))
      clear hL hf0 hfs hfp hfr hLs
      go_wp2_with fail
      refine (HSP.out _).mono ?_
      rintro e w2 ⟨a, c, rfl, hl, hb2⟩
      have HB2' := Lib.hid (HB1.out.trans (hb2.mono HB1.out.size))
      obtain ⟨b, off, rfl, hlt, hcells⟩ := hl.2.2.2.2.2 (by omega)
      have HC := Lib.hid (show ∀ j, j < P → w2.cell? ⟨b, off + j, none⟩ = some (.int .i64 (L j)) from fun j hj => by rw [← HL.out j hj]; exact hcells j hj)
      clear hb2 hl hcells
      go_wp2_with (go_at_call 11; (with_reducible refine (HRL.out _).mono ?_); rintro e w' ⟨rfl, rfl⟩)
      go_loopw [10, 11] (fun s i wr => ∃ j : Nat, j ≤ P ∧ i = .int .i64 j ∧ s = .int .i64 (f j) ∧ Below w2.heap.size w2 wr) (fun _ i _ => P - (intOf i).toNat)
      case atStart => exact ⟨0, Nat.zero_le _, rfl, by rw [HF0.out], Below.refl _ _⟩
      case round =>
        obtain ⟨j, hj, rfl, rfl, hbr⟩ := hrel
        have HBR := Lib.hid hbr
        by_cases hjP : j < P
        · have f1 : (j : Int) < (P : Int) := by omega
          have f0 : (0 : Int) ≤ (j : Int) := by omega
          have ft : ((j : Int)).toNat = j := by omega
          have fp : (0 : Int) < (P : Int) := by omega
          have k0 : wr.cell? ⟨b, off, none⟩ = some (.int .i64 (L 0)) := (hbr.cell (p := ⟨b, off + 0, none⟩) hlt).trans (HC.out 0 (by omega))
          have kj : wr.cell? ⟨b, off + j, none⟩ = some (.int .i64 (L j)) := (hbr.cell (p := ⟨b, off + j, none⟩) hlt).trans (HC.out j hjP)
          have kp : wr.cell? ⟨b, off + (P - 1), none⟩ = some (.int .i64 (L (P - 1))) := (hbr.cell (p := ⟨b, off + (P - 1), none⟩) hlt).trans (HC.out (P - 1) (by omega))
          obtain ⟨q1, q2, q3, q4, q5⟩ := HLS.out j hjP
          obtain ⟨q6, q7, q8, q9, q10⟩ := HLS.out 0 (by omega)
          have fs := HFS.out j
          obtain ⟨r1, r2⟩ := HFR.out j (by omega)
          obtain ⟨r3, r4⟩ := HFR.out (j + 1) (by omega)
          rw [fs] at r3 r4
          have HFSJ := Lib.hid fs
          obtain ⟨Z, hZ⟩ : ∃ Z, Z = P - 1 := ⟨_, rfl⟩
          rw [← hZ] at kp q2
          have hZi : (P : Int) - 1 = (Z : Int) := by omega
          have z0 : (0 : Int) ≤ (Z : Int) := by omega
          have z1 : (Z : Int) < (P : Int) := by omega
          have zt : ((Z : Int)).toNat = Z := by omega
          obtain ⟨x, hx⟩ : ∃ x, x = L j := ⟨_, rfl⟩
          obtain ⟨y, hy⟩ : ∃ y, y = L 0 := ⟨_, rfl⟩
          obtain ⟨v, hv⟩ : ∃ v, v = L Z := ⟨_, rfl⟩
          obtain ⟨F, hF⟩ : ∃ F, F = f j := ⟨_, rfl⟩
          rw [← hx] at kj q1 q2 q3 q4 q5 r3 r4 HFSJ
          rw [← hy] at k0 q1 q3 q6 q7 q8 q9 q10
          rw [← hv] at kp q2
          rw [← hF] at r1 r2 r3 r4 HFSJ
          rw [← hF]
          have iw1 : IntKind.i64.wrap (F + x) = F + x := IntWalk.i64_in _ (by omega)
          have s1 : ¬ y < x := by omega
          have s2 : ¬ x < v := by omega
          have s3 : ¬ 1 < y - x := by omega
          clear fs hZ hx hy hv hF q6 q7 q8 hbr
          go_upto_region 21 with (fail)
          go_quiet (fail)
          go_wp2
          go_roundw
          case rel => exact ⟨j + 1, by omega, by go_num, by rw [HFSJ.out], below_drewN' HBR.out _⟩
          case measure => simp [intOf]; omega
        · have f1 : ¬ ((j : Int) < (P : Int)) := by omega
          obtain rfl : j = P := by omega
          rw [HFP.out]
          go_wp2_with fail
          refine (HAW.out _).mono ?_
          rintro e w9 ⟨rfl, hb9⟩
          have HB8 := Lib.hid (HB2'.out.trans (HBR.out.mono HB2'.out.size))
          have HB9 := Lib.hid (HB8.out.trans (hb9.mono HB8.out.size))
          clear hb9
          go_wp2_with fail
          go_ret
          exact ⟨rfl, HB9.out⟩
end Go.Proofs.Ytdgcekkaiaehaaa
