/- What the walks of law 6 want of package coin, said in one place (a condition of the walks; it is proved, for the code that landed, apart). -/
import Derived.Test.YtdgcekkaiaehaaaLaw6
namespace Go.Proofs.Ytdgcekkaiaehaaa
open Go.RowKit

/-- What is left of an amount without others, and the error. -/
def subFrom (n : Int) (l : List Int) : Int × Int := if okAmount n then (if (addFrom 0 l).2 = 0 then (if n < (addFrom 0 l).1 then (0, 14) else (n - (addFrom 0 l).1, 0)) else (0, (addFrom 0 l).2)) else (0, 5)
structure CoinSays : Prop where
  right : ∀ (W : World) (z : Int), Calls Try.prog 10 #[.int .i64 z] W fun e w' => e = .returned (.bool (okAmount z)) ∧ Below W.heap.size W w'
  add : ∀ (W : World) (a : Option Addr) (n c : Nat) (zs : List Int), Numbers W a n c zs → Calls Try.prog 7 #[.slice a n c] W fun e w' => e = .returned (.tuple #[.int .i64 (addFrom 0 zs).1, .int .i64 (addFrom 0 zs).2]) ∧ Below W.heap.size W w'
  sub : ∀ (W : World) (z : Int) (a : Option Addr) (n c : Nat) (zs : List Int), Numbers W a n c zs → Calls Try.prog 8 #[.int .i64 z, .slice a n c] W fun e w' => e = .returned (.tuple #[.int .i64 (subFrom z zs).1, .int .i64 (subFrom z zs).2]) ∧ Below W.heap.size W w'
  part : ∀ (W : World) (n k : Int), Fits k → Calls Try.prog 13 #[.int .i64 n, .int .i64 k] W fun e w' => e = .returned (.int .i64 (partOf n k)) ∧ Below W.heap.size W w'
  splitNo : ∀ (W : World) (n p : Int), okAmount n = false ∨ p < 1 ∨ 65536 < p → Calls Try.prog 14 #[.int .i64 n, .int .i64 p] W fun e w' => ∃ a c, e = .returned (.slice a 0 c) ∧ Below W.heap.size W w'
  splitYes : ∀ (W : World) (n : Int) (p : Nat), 0 ≤ n → n ≤ 1125899906842624 → 1 ≤ p → p ≤ 65536 → Calls Try.prog 14 #[.int .i64 n, .int .i64 (p : Int)] W fun e w' => ∃ a c, e = .returned (.slice a p c) ∧ Numbers w' a p c (splitOf n p) ∧ Below W.heap.size W w'
theorem addFrom_err : ∀ (l : List Int) (s : Int), (addFrom s l).2 = 0 ∨ ((addFrom s l).1 = 0 ∧ (addFrom s l).2 ≠ 0)
  | [], s => .inl rfl
  | z :: l, s => by
    by_cases h1 : z < 0 ∨ 1125899906842624 < z
    · rw [addFrom_bad h1]; exact .inr ⟨rfl, by show (5 : Int) ≠ 0; omega⟩
    · by_cases h2 : 1125899906842624 < s + z
      · rw [addFrom_over (by omega) (by omega) h2]; exact .inr ⟨rfl, by show (10 : Int) ≠ 0; omega⟩
      · rw [addFrom_more (by omega) (by omega) (by omega)]
        exact addFrom_err l (s + z)
theorem awake6_any (hc : CoinSays) (w : World) : Calls Try.prog 12 #[] w fun e w' => e = .returned (.bool true) ∧ Below w.heap.size w w' := by
  have hsplit := hc.splitYes w 10 3 (by omega) (by omega) (by omega) (by omega)
  have HSP := Lib.hid hsplit
  clear hsplit hc
  go_enter Try.func12, Try.ntmps12
  go_wp2_with fail
  refine HSP.out.mono ?_
  rintro e w1 ⟨a, c, rfl, hl, hb1⟩
  obtain ⟨b, off, rfl, _, hc⟩ := hl.2.2.2.2.2 (by omega)
  have k0 : w1.cell? ⟨b, off + 0, none⟩ = some (.int .i64 4) := by rw [hc 0 (by omega)]; rfl
  have k1 : w1.cell? ⟨b, off + 1, none⟩ = some (.int .i64 3) := by rw [hc 1 (by omega)]; rfl
  have k2 : w1.cell? ⟨b, off + 2, none⟩ = some (.int .i64 3) := by rw [hc 2 (by omega)]; rfl
  have HB1 := Lib.hid hb1
  rw [Nat.add_zero] at k0
  clear hc hl hb1
  go_wp2_with fail
  go_ret
  exact ⟨rfl, HB1.out⟩
set_option linter.unusedSimpArgs false in
set_option maxRecDepth 100000 in
set_option maxHeartbeats 1600000 in
theorem sums6_walk (hc : CoinSays) {w : World} {a : Option Addr} {m c : Nat} {zs : List Int} (n : Int) (hn : Fits n) (h : Numbers w a m c zs) :
    Calls Try.prog 3 #[.int .i64 n, .slice a m c] w fun e w' => e = .returned (.bool true) ∧ Below w.heap.size w w' := by
  obtain ⟨T, hT⟩ : ∃ T, T = zs.take (min m 40) := ⟨_, rfl⟩
  obtain ⟨M, hM⟩ : ∃ M, M = min m 40 := ⟨_, rfl⟩
  have hfew := few_law h
  rw [← hT, ← hM] at hfew
  obtain ⟨S, hS⟩ : ∃ S, S = (addFrom 0 T).1 := ⟨_, rfl⟩
  obtain ⟨E, hE⟩ : ∃ E, E = (addFrom 0 T).2 := ⟨_, rfl⟩
  obtain ⟨X, hX⟩ : ∃ X, X = (subFrom n T).1 := ⟨_, rfl⟩
  obtain ⟨Y, hY⟩ : ∃ Y, Y = (subFrom n T).2 := ⟨_, rfl⟩
  have hr := addFrom_range T 0 (Int.le_refl _) (by omega)
  have her := addFrom_err T 0
  rw [← hS] at hr
  rw [← hS, ← hE] at her
  have hadd : ∀ W : World, Numbers W a M c T → Calls Try.prog 7 #[.slice a M c] W fun e w' => e = .returned (.tuple #[.int .i64 S, .int .i64 E]) ∧ Below W.heap.size W w' := fun W hW => by rw [hS, hE]; exact hc.add W a M c T hW
  have hlaw : ∀ W : World, Numbers W a M c T → Calls Try.prog 9 #[.slice a M c] W fun e w' => e = .returned (.tuple #[.int .i64 S, .int .i64 E]) ∧ W = w' := fun W hW => by rw [hS, hE]; exact add_law hW
  have hsub : ∀ W : World, Numbers W a M c T → Calls Try.prog 8 #[.int .i64 n, .slice a M c] W fun e w' => e = .returned (.tuple #[.int .i64 X, .int .i64 Y]) ∧ Below W.heap.size W w' := fun W hW => by rw [hX, hY]; exact hc.sub W n a M c T hW
  have hXY : ∀ B, okAmount n = B → (X, Y) = if B then (if E = 0 then (if n < S then (0, 14) else (n - S, 0)) else (0, E)) else (0, 5) := fun B hB => by
    rw [hX, hY, hS, hE, ← hB]; unfold subFrom; rfl
  have hri : ∀ (W : World) (B : Bool), okAmount n = B → Calls Try.prog 10 #[.int .i64 n] W fun e w' => e = .returned (.bool B) ∧ Below W.heap.size W w' := fun W B hB => by rw [← hB]; exact hc.right W n
  have hrl : ∀ (W : World) (B : Bool), okAmount n = B → Calls Try.prog 11 #[.int .i64 n] W fun e w' => e = .returned (.bool B) ∧ W = w' := fun W B hB => by rw [← hB]; exact right_law n W
  have haw : ∀ W : World, Calls Try.prog 12 #[] W fun e w' => e = .returned (.bool true) ∧ Below W.heap.size W w' := awake6_any hc
  obtain ⟨n1, n2⟩ := hn
  obtain ⟨B, hB⟩ : ∃ B, okAmount n = B := ⟨_, rfl⟩
  have hB2 : B = true → 0 ≤ n ∧ n ≤ 1125899906842624 := fun e => of_decide_eq_true (hB.trans e)
  have hxy := hXY B hB
  have hri := fun W => hri W B hB
  have hrl := fun W => hrl W B hB
  have HFEW := Lib.hid hfew
  have HADD := Lib.hid hadd
  have HLAW := Lib.hid hlaw
  have HSUB := Lib.hid hsub
  have HRI := Lib.hid hri
  have HRL := Lib.hid hrl
  have HAW := Lib.hid haw
  obtain ⟨s0, s1⟩ := hr
  clear hc h hT hM hfew hS hE hX hY hadd hlaw hsub hXY hri hrl haw hB
  have cases : (B = false ∧ X = 0 ∧ Y = 5) ∨ (B = true ∧ E ≠ 0 ∧ X = 0 ∧ Y = E) ∨ (B = true ∧ E = 0 ∧ n < S ∧ X = 0 ∧ Y = 14) ∨ (B = true ∧ E = 0 ∧ ¬ n < S ∧ X = n - S ∧ Y = 0) := by
    cases B with
    | false => simp at hxy; exact .inl ⟨rfl, hxy.1, hxy.2⟩
    | true =>
      by_cases he : E = 0
      · by_cases hl : n < S
        · simp [he, hl] at hxy; exact .inr (.inr (.inl ⟨rfl, he, hl, hxy.1, hxy.2⟩))
        · simp [he, hl] at hxy; exact .inr (.inr (.inr ⟨rfl, he, hl, hxy.1, hxy.2⟩))
      · simp [he] at hxy; exact .inr (.inl ⟨rfl, he, hxy.1, hxy.2⟩)
  clear hxy
  rcases cases with ⟨rfl, rfl, rfl⟩ | ⟨rfl, he, rfl, rfl⟩ | ⟨rfl, rfl, hl, rfl, rfl⟩ | ⟨rfl, rfl, hl, rfl, rfl⟩
  case' inr.inl => have he' : (Y == 0) = false := by simpa using he
  case' inr.inr.inr => have iw : IntKind.i64.wrap (n - S) = n - S := IntWalk.i64_in _ (by have := hB2 rfl; omega)
  all_goals
    clear hB2 her
    go_enter Try.func3, Try.ntmps3
    go_wp2_with (go_at_call 6; (with_reducible refine HFEW.out.mono ?_); rintro e w' ⟨rfl, hnum, rfl⟩; have HN := Lib.hid hnum; clear hnum)
    refine (HADD.out _ HN.out).mono ?_
    rintro e w1 ⟨rfl, hb1⟩
    have HN1 := Lib.hid (HN.out.below hb1)
    have HB1 := Lib.hid hb1
    clear hb1
    go_wp2_with fail
    refine (HSUB.out _ HN1.out).mono ?_
    rintro e w2 ⟨rfl, hb2⟩
    have HN2 := Lib.hid (HN1.out.below hb2)
    have HB2 := Lib.hid (HB1.out.trans (hb2.mono HB1.out.size))
    clear hb2
    go_wp2_with (go_at_call 9; (with_reducible refine (HLAW.out _ HN2.out).mono ?_); rintro e w' ⟨rfl, rfl⟩)
    refine (HRI.out _).mono ?_
    rintro e w3 ⟨rfl, hb3⟩
    have HB3 := Lib.hid (HB2.out.trans (hb3.mono HB2.out.size))
    clear hb3
    go_wp2_with (go_at_call 11; (with_reducible refine (HRL.out _).mono ?_); rintro e w' ⟨rfl, rfl⟩)
    refine (HAW.out _).mono ?_
    rintro e w4 ⟨rfl, hb4⟩
    have HB4 := Lib.hid (HB3.out.trans (hb4.mono HB3.out.size))
    clear hb4
    go_wp2_with fail
    go_ret
    exact ⟨rfl, HB4.out⟩
end Go.Proofs.Ytdgcekkaiaehaaa
