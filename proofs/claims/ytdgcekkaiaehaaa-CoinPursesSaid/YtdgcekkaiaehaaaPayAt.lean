/- A purse in memory: what Put and Pay come to. -/
import Derived.Test.YtdgcekkaiaehaaaPurseAt
namespace Go.Proofs.Ytdgcekkaiaehaaa
open Go.RowKit Go.Maps

/-- What Put and Pay leave. -/
def PayLeaves (w : World) (B p N : Nat) (F : Int → Int) (r : Int) (e : Ending) (w' : World) : Prop :=
  e = .returned (.int .i64 r) ∧ PurseAt w' B p N F ∧ Apart 39 w w' ∧ Below B w w'
set_option linter.unusedSimpArgs false in
set_option maxRecDepth 100000 in
set_option maxHeartbeats 1600000 in
theorem purse_put {w : World} {B p N : Nat} {F : Int → Int} (key n : Int) (hkey : Fits key) (hn : Fits n) (hF : 0 ≤ F key ∧ F key ≤ 1125899906842624) (hN : N ≤ 1000) (hB : B ≤ w.heap.size) (h : PurseAt w B p N F) :
    Calls Try.prog 16 #[.pointer (some ⟨p, 0, none⟩), .int .i64 key, .int .i64 n] w fun e w' =>
      PayLeaves w B p (N + 1) (if (addFrom 0 [F key, n]).2 = 0 then upd F key (addFrom 0 [F key, n]).1 else F) (addFrom 0 [F key, n]).2 e w' := by
  have hhas := purse_has key hkey h
  obtain ⟨X, hX⟩ : ∃ X, X = F key := ⟨_, rfl⟩
  rw [← hX] at hF hhas
  rw [← hX]
  have hFx : Fits X := ⟨by omega, by omega⟩
  obtain ⟨S, E, hSE⟩ : ∃ S E : Int, addFrom 0 [X, n] = (S, E) := ⟨_, _, rfl⟩
  have hr := addFrom_range [X, n] 0 (Int.le_refl _) (by omega)
  have hadd : ∀ (W : World) (g : Nat), W.heap[g]? = some (.cells #[.int .i64 X, .int .i64 n] 2 (0, 0)) → Calls Try.prog 7 #[.slice (some ⟨g, 0, none⟩) 2 2] W fun e w' => e = .returned (.tuple #[.int .i64 S, .int .i64 E]) ∧ Below W.heap.size W w' := fun W g hg => by
    have := add_any (numbers_two hg hFx hn)
    rw [hSE] at this
    exact this
  rw [hSE] at hr ⊢
  obtain ⟨s0, s1⟩ : 0 ≤ S ∧ S ≤ 1125899906842624 := hr
  have hset : ∀ (W : World), B ≤ W.heap.size → PurseAt W B p N F → Calls Try.prog 20 #[.pointer (some ⟨p, 0, none⟩), .int .i64 key, .int .i64 S] W fun e w' => SetLeaves W B p (N + 1) (upd F key S) e w' := fun W hW hp => purse_set key S hkey ⟨by omega, by omega⟩ hN hW hp
  have HSET := Lib.hid hset
  have HADD := Lib.hid hadd
  have HHAS := Lib.hid hhas
  have HP := Lib.hid h
  clear hadd hhas hset hkey hn hFx hX hSE h s0 s1
  go_enter Try.func16, Try.ntmps16
  go_upto_region 4 with (first | (go_at_call 19; (with_reducible refine HHAS.out.mono ?_); rintro e w' ⟨rfl, rfl⟩) | (go_at_call 7; (with_reducible refine (HADD.out _ _ (heap_alloc_new _ _)).mono ?_); rintro e w2 ⟨rfl, hb2⟩; have HB2' := Lib.hid hb2; clear hb2) | fail)
  have b1 : Below w.heap.size w (w.alloc (.cells #[.int .i64 X, .int .i64 n] 2)) := (Below.refl _ _).alloc (Nat.le_refl _) _
  have HB2 := Lib.hid (b1.trans (HB2'.out.mono b1.size))
  have HP2 := Lib.hid (HP.out.below HB2.out)
  clear b1 HB2'
  by_cases hE : E = 0
  · subst hE
    go_wp2_with fail
    refine (HSET.out w2 (Nat.le_trans hB HB2.out.size) HP2.out).mono ?_
    rintro e w3 ⟨rfl, hp3, ha3, hb3⟩
    have HQ := Lib.hid (And.intro hp3 (And.intro ((Apart.of (T := 39) HB2.out).trans ha3) ((HB2.out.mono hB).trans hb3)))
    clear hp3 ha3 hb3
    go_wp2_with fail
    go_ret
    exact ⟨rfl, HQ.out⟩
  · have hE' : (E == 0) = false := by simpa using hE
    have HQ := Lib.hid (And.intro (HP2.out.more (Nat.le_succ N)) (And.intro (Apart.of (T := 39) HB2.out) (HB2.out.mono hB)))
    clear HSET HADD HHAS HP HP2 HB2
    go_wp2_with fail
    go_ret
    exact ⟨rfl, HQ.out⟩
theorem subOf_range (n : Int) (l : List Int) : 0 ≤ (subOf n l).1 ∧ (subOf n l).1 ≤ 1125899906842624 := by
  have hr := addFrom_range l 0 (Int.le_refl _) (by omega)
  unfold subOf
  by_cases h1 : n < 0 ∨ 1125899906842624 < n
  · rw [okAmount_no h1]; simp
  · rw [okAmount_yes (by omega) (by omega)]
    by_cases h2 : (addFrom 0 l).2 = 0
    · by_cases h3 : n < (addFrom 0 l).1
      · simp [h2, h3]
      · simp only [h2, h3, if_true, if_false]; omega
    · simp [h2]
/-- What Pay comes to: the answer, what the purse has then. -/
def payOf (F : Int → Int) (f t n : Int) : Int × (Int → Int) :=
  if (subOf (F f) [n]).2 = 0 then (if f = t then (0, F) else if (addFrom 0 [F t, n]).2 = 0 then (0, upd (upd F t (addFrom 0 [F t, n]).1) f (subOf (F f) [n]).1) else ((addFrom 0 [F t, n]).2, F)) else ((subOf (F f) [n]).2, F)
set_option linter.unusedSimpArgs false in
set_option maxRecDepth 100000 in
set_option maxHeartbeats 1600000 in
theorem purse_pay {w : World} {B p N : Nat} {F : Int → Int} (f t n : Int) (hf : Fits f) (ht : Fits t) (hn : Fits n) (hF : ∀ k, 0 ≤ F k ∧ F k ≤ 1125899906842624) (hN : N ≤ 900) (hB : B ≤ w.heap.size) (h : PurseAt w B p N F) :
    Calls Try.prog 18 #[.pointer (some ⟨p, 0, none⟩), .int .i64 f, .int .i64 t, .int .i64 n] w fun e w' =>
      PayLeaves w B p (N + 2) (payOf F f t n).2 (payOf F f t n).1 e w' := by
  have hhas := purse_has f hf h
  obtain ⟨X, hX⟩ : ∃ X, X = F f := ⟨_, rfl⟩
  rw [← hX] at hhas
  obtain ⟨L, E, hSE⟩ : ∃ S E : Int, subOf X [n] = (S, E) := ⟨_, _, rfl⟩
  obtain ⟨S, D, hSD⟩ : ∃ S E : Int, addFrom 0 [F t, n] = (S, E) := ⟨_, _, rfl⟩
  have hr := subOf_range X [n]
  have hsub : ∀ (W : World) (g : Nat), W.heap[g]? = some (.cells #[.int .i64 n] 2 (0, 0)) → Calls Try.prog 8 #[.int .i64 X, .slice (some ⟨g, 0, none⟩) 1 1] W fun e w' => e = .returned (.tuple #[.int .i64 L, .int .i64 E]) ∧ Below W.heap.size W w' := fun W g hg => by
    have := sub_any X (numbers_one hg hn)
    rw [hSE] at this
    exact this
  have hput : ∀ (W : World), B ≤ W.heap.size → PurseAt W B p N F → Calls Try.prog 16 #[.pointer (some ⟨p, 0, none⟩), .int .i64 t, .int .i64 n] W fun e w' => PayLeaves W B p (N + 1) (if D = 0 then upd F t S else F) D e w' := fun W hW hp => by
    have := purse_put t n ht hn (hF t) (by omega) hW hp
    rw [hSD] at this
    exact this
  unfold payOf
  rw [hSD, ← hX, hSE]
  rw [hSE] at hr
  obtain ⟨R, G, hRG⟩ : ∃ R G, (if E = 0 then (if f = t then ((0 : Int), F) else if D = 0 then (0, upd (upd F t S) f L) else (D, F)) else (E, F)) = (R, G) := ⟨_, _, rfl⟩
  simp only [hRG]
  have HRG := Lib.hid hRG
  clear hRG
  have hfl : Fits L := ⟨by have : 0 ≤ L := hr.1; omega, by have : L ≤ 1125899906842624 := hr.2; omega⟩
  have hset : ∀ (W : World) (M : Nat) (G : Int → Int), M ≤ 1000 → B ≤ W.heap.size → PurseAt W B p M G → Calls Try.prog 20 #[.pointer (some ⟨p, 0, none⟩), .int .i64 f, .int .i64 L] W fun e w' => SetLeaves W B p (M + 1) (upd G f L) e w' := fun W M G hM hW hp => purse_set f L hf hfl hM hW hp
  have HHAS := Lib.hid hhas
  have HSUB := Lib.hid hsub
  have HPUT := Lib.hid hput
  have HSET := Lib.hid hset
  have HP := Lib.hid h
  clear hhas hsub hput hset hfl hX h hf hr hSE hSD hF ht hn
  go_enter Try.func18, Try.ntmps18
  go_upto_region 4 with (first | (go_at_call 19; (with_reducible refine HHAS.out.mono ?_); rintro e w' ⟨rfl, rfl⟩) | (go_at_call 8; (with_reducible refine (HSUB.out _ _ (heap_alloc_new _ _)).mono ?_); rintro e w2 ⟨rfl, hb2⟩; have HB2' := Lib.hid hb2; clear hb2) | fail)
  have b1 : Below w.heap.size w (w.alloc (.cells #[.int .i64 n] 2)) := (Below.refl _ _).alloc (Nat.le_refl _) _
  have HB2 := Lib.hid (b1.trans (HB2'.out.mono b1.size))
  have HP2 := Lib.hid (HP.out.below HB2.out)
  clear b1 HB2'
  by_cases hE : E = 0
  · subst hE
    by_cases hft : f = t
    · subst hft
      have HQ := Lib.hid (And.intro (HP2.out.more (Nat.le_add_right N 2)) (And.intro (Apart.of (T := 39) HB2.out) (HB2.out.mono hB)))
      clear HP2 HB2
      go_wp2_with fail
      go_ret
      have e := HRG.out
      simp at e
      obtain ⟨rfl, rfl⟩ := e
      exact ⟨rfl, HQ.out⟩
    · have hft' : ((f : Int) == t) = false := by simpa using hft
      have hB2 : B ≤ w2.heap.size := Nat.le_trans hB HB2.out.size
      by_cases hD : D = 0
      · subst hD
        go_wp2_with fail
        refine (HPUT.out w2 hB2 HP2.out).mono ?_
        rintro e w3 ⟨rfl, hp3, ha3, hb3⟩
        rw [if_pos trivial] at hp3
        have HP3 := Lib.hid hp3
        have HA3 := Lib.hid ((Apart.of (T := 39) HB2.out).trans ha3)
        have HB3 := Lib.hid ((HB2.out.mono hB).trans hb3)
        clear hp3 ha3 hb3 HP2 HB2 HSUB HPUT HP HHAS
        go_wp2_with fail
        refine (HSET.out w3 _ _ (by omega) (Nat.le_trans hB HB3.out.size) HP3.out).mono ?_
        rintro e w4 ⟨rfl, hp4, ha4, hb4⟩
        have HQ := Lib.hid (And.intro hp4 (And.intro (HA3.out.trans ha4) (HB3.out.trans hb4)))
        clear hp4 ha4 hb4 HP3 HA3 HB3
        go_wp2_with fail
        go_ret
        have e := HRG.out
        simp [hft] at e
        obtain ⟨rfl, rfl⟩ := e
        exact ⟨rfl, HQ.out⟩
      · have hD' : ((D : Int) == 0) = false := by simpa using hD
        go_wp2_with fail
        refine (HPUT.out w2 hB2 HP2.out).mono ?_
        rintro e w3 ⟨rfl, hp3, ha3, hb3⟩
        rw [if_neg hD] at hp3
        have HQ := Lib.hid (And.intro (hp3.more (Nat.le_succ (N + 1))) (And.intro ((Apart.of (T := 39) HB2.out).trans ha3) ((HB2.out.mono hB).trans hb3)))
        clear hp3 ha3 hb3 HP2 HB2 HSUB HPUT HP HHAS HSET
        go_wp2
        go_ret
        have e := HRG.out
        simp [hft, hD] at e
        obtain ⟨rfl, rfl⟩ := e
        exact ⟨rfl, HQ.out⟩
  · have hE' : (E == 0) = false := by simpa using hE
    have HQ := Lib.hid (And.intro (HP2.out.more (Nat.le_add_right N 2)) (And.intro (Apart.of (T := 39) HB2.out) (HB2.out.mono hB)))
    clear HP2 HB2 HSUB HPUT HP HHAS HSET
    go_wp2
    go_ret
    have e := HRG.out
    simp [hE] at e
    obtain ⟨rfl, rfl⟩ := e
    exact ⟨rfl, HQ.out⟩
end Go.Proofs.Ytdgcekkaiaehaaa
