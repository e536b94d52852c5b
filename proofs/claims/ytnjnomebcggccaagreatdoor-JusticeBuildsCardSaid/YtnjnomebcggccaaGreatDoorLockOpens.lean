/- What Opens comes to; and the statement's own example. -/
import Derived.Test.YtnjnomebcggccaaGreatDoorLock
import Derived.Test.YtnjnomebcggccaaGreatDoorLockAmong
import Derived.Test.YtnjnomebcggccaaGreatDoorLockHash
namespace Go.Proofs.YtnjnomebcggccaaGreatDoor
open Go.RowKit

/-- A way is open to a try. -/
def opensW (x : PWay) (ts : List Int) (l : List UInt8) (H A : Int) : Bool := decide (x.after ≤ H) && (decide (x.wait ≤ A) && ((x.ks.all fun k => decide (k ∈ ts)) && (decide (x.h = zero32) || decide (x.h = shownSum l))))
set_option linter.unusedSimpArgs false in
set_option maxRecDepth 100000 in
set_option maxHeartbeats 3200000 in
theorem opens_any {w : World} {x : PWay} {a b : Option Addr} {n c m d : Nat} {ts : List Int} {l : List UInt8} {H A : Int} (h : WayIn w x) (ht : Numbers w a n c ts) (hl : Row w b m d l) (hk : KsAt w) (hn : n ≤ 100000) (hm : m ≤ 1000000) :
    Calls Tryz.prog 39 #[.agg x.cells.toArray, .agg #[.slice a n c, .slice b m d, .int .i64 H, .int .i64 A]] w fun e w' => e = .returned (.bool (opensW x ts l H A)) ∧ Below w.heap.size w w' := by
  unfold opensW
  obtain ⟨r1, hr1⟩ : ∃ r, (x.ks.all fun k => decide (k ∈ ts)) = r := ⟨_, rfl⟩
  obtain ⟨r2, hr2⟩ : ∃ r, (decide (x.h = zero32) || decide (x.h = shownSum l)) = r := ⟨_, rfl⟩
  rw [hr1, hr2]
  have ha : ∀ W : World, Below w.heap.size w W → Calls Tryz.prog 71 #[.slice x.a x.n x.c, .slice a n c] W fun e w' => e = .returned (.bool r1) ∧ Below W.heap.size W w' := fun W hW => by rw [← hr1]; exact among_any (h.keys.below hW) (ht.below hW) hn
  have hs : ∀ W : World, Below w.heap.size w W → Calls Tryz.prog 72 #[.agg (cellsOf x.h).toArray, .slice b m d] W fun e w' => e = .returned (.bool r2) ∧ Below W.heap.size W w' := fun W hW => by rw [← hr2]; exact shows_any h.sum (hl.below hW) (hk.below hW) hm
  have HA := Lib.hid ha
  have HS := Lib.hid hs
  have SX := Lib.hid (sumLen h.sum)
  obtain ⟨p, hp⟩ : ∃ p, p = x.after := ⟨_, rfl⟩
  obtain ⟨q, hq⟩ : ∃ q, q = x.wait := ⟨_, rfl⟩
  rw [← hp, ← hq]
  obtain ⟨t1, ht1⟩ : ∃ r, decide (p ≤ H) = r := ⟨_, rfl⟩
  obtain ⟨t2, ht2⟩ : ∃ r, decide (q ≤ A) = r := ⟨_, rfl⟩
  rw [ht1, ht2]
  clear ha hs hr1 hr2 ht hl hk
  go_enter Tryz.func39, Tryz.ntmps39
  go_upto_region 1 with (fail)
  obtain ⟨v, hv, hb, hlt, hx, hrg⟩ := way_boxed h 49
  rw [hv]
  obtain ⟨g, hg⟩ : ∃ g, g = w.heap.size := ⟨_, rfl⟩
  rw [← hg] at hrg hlt ⊢
  have hgs : v.heap.size = g + 1 := by rw [← hv, hg]; simp
  have b1 : Below v.heap.size v (v.alloc (.cells #[.slice a n c, .slice b m d, .int .i64 H, .int .i64 A] 97)) := (Below.refl _ _).alloc (Nat.le_refl _) _
  have h1 := heap_alloc_new v (.cells #[.slice a n c, .slice b m d, .int .i64 H, .int .i64 A] 97)
  revert b1 h1
  generalize (v.alloc (.cells #[.slice a n c, .slice b m d, .int .i64 H, .int .i64 A] 97)) = v1
  rw [hgs]
  intro b1 h1
  rw [← hgs] at b1
  have hr0 := rangeAt_below hrg hlt b1
  have HB := Lib.hid (hb.trans (b1.mono hb.size))
  have c0 := way_keys hr0
  have c1 := way_after h.sum hr0
  have c2 := way_wait h.sum hr0
  have d0 : v1.cell? ⟨g + 1, 0, none⟩ = some (.slice a n c) := by rw [cell_of_row _ _ _ _ _ _ h1]; rfl
  have d1 : v1.cell? ⟨g + 1, 1, none⟩ = some (.slice b m d) := by rw [cell_of_row _ _ _ _ _ _ h1]; rfl
  have d2 : v1.cell? ⟨g + 1, 2, none⟩ = some (.int .i64 H) := by rw [cell_of_row _ _ _ _ _ _ h1]; rfl
  have d3 : v1.cell? ⟨g + 1, 3, none⟩ = some (.int .i64 A) := by rw [cell_of_row _ _ _ _ _ _ h1]; rfl
  have RX := Lib.hid (way_sum h.sum hr0)
  rw [Nat.zero_add] at c1 c2 RX
  rw [← hp] at c1
  rw [← hq] at c2
  have hltv := lt_of_block h1
  clear hrg hr0 hv hx hb hp hq h hg hgs h1 b1 hlt
  cases t1
  · have h1 : ¬ p ≤ H := of_decide_eq_false ht1
    clear ht1 ht2
    go_wp2
    go_ret
    exact ⟨rfl, HB.out⟩
  · have h1 : p ≤ H := of_decide_eq_true ht1
    cases t2
    · have h2 : ¬ q ≤ A := of_decide_eq_false ht2
      clear ht1 ht2
      go_wp2
      go_ret
      exact ⟨rfl, HB.out⟩
    · have h2 : q ≤ A := of_decide_eq_true ht2
      clear ht1 ht2
      cases r1
      · go_wp2_with (first | (go_at_call 71; (with_reducible refine (HA.out _ HB.out).mono ?_); rintro e w2 ⟨rfl, hb2⟩; have HB2 := Lib.hid hb2; clear hb2) | fail)
        go_ret
        exact ⟨rfl, HB.out.trans (HB2.out.mono HB.out.size)⟩
      · go_wp2_with fail
        refine (HA.out _ HB.out).mono ?_
        rintro e w2 ⟨rfl, hb2⟩
        have HB2 := Lib.hid (HB.out.trans (hb2.mono HB.out.size))
        have hltg : g < v1.heap.size := by omega
        have e1 := (hb2.cell (p := ⟨g + 1, 1, none⟩) hltv).trans d1
        have RX2 := Lib.hid (rangeAt_below RX.out hltg hb2)
        clear c0 c1 c2 d0 d1 d2 d3 RX hb2 hltv hltg
        go_wp2_with (first | (refine wpList_mid_wanted (by rfl) 23 _ rfl g 1 rfl (cellsOf x.h) _ RX2.out Tryz.underlying23 rfl SX.out ?_) | (go_at_call 72; (with_reducible refine (HS.out _ HB2.out).mono ?_); rintro e w8 ⟨rfl, hb8⟩; have HB8 := Lib.hid hb8; clear hb8) | fail)
        go_ret
        exact ⟨rfl, HB2.out.trans (HB8.out.mono HB2.out.size)⟩
end Go.Proofs.YtnjnomebcggccaaGreatDoor
