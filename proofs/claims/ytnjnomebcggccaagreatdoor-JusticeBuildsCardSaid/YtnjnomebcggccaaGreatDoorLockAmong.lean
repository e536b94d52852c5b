/- What 'among' comes to: the closure that looks a key up, IndexFunc and ContainsFunc at []int. -/
import Derived.Test.YtnjnomebcggccaaGreatDoorSign
namespace Go.Proofs.YtnjnomebcggccaaGreatDoor
open Go.RowKit

/-- A closure's list, in order, behind its box. -/
def ListAt (w : World) (p : Nat) (zs : List Int) : Prop := ∃ a n c, w.cell? ⟨p, 0, none⟩ = some (.slice a n c) ∧ p < w.heap.size ∧ Numbers w a n c zs ∧ zs.Pairwise (· ≤ ·) ∧ n ≤ 100000
theorem ListAt.below {w w' : World} {p : Nat} {zs : List Int} (h : ListAt w p zs) (hb : Below w.heap.size w w') : ListAt w' p zs := by
  obtain ⟨a, n, c, h1, h2, h3, h4, h5⟩ := h
  exact ⟨a, n, c, (hb.cell (p := ⟨p, 0, none⟩) h2).trans h1, Nat.lt_of_lt_of_le h2 hb.size, h3.below hb, h4, h5⟩
set_option linter.unusedSimpArgs false in
set_option maxRecDepth 100000 in
set_option maxHeartbeats 1600000 in
theorem among1_any {w : World} {p : Nat} {zs : List Int} (x : Int) (h : ListAt w p zs) :
    Calls Tryz.prog 100 #[.int .i64 x, .pointer (some ⟨p, 0, none⟩)] w fun e w' => e = .returned (.bool (!decide (x ∈ zs))) ∧ Below w.heap.size w w' := by
  obtain ⟨a, n, c, c0, _, h3, h4, h5⟩ := h
  have HS := Lib.hid (fun (W : World) (hW : Below w.heap.size w W) => search_any x (h3.below hW) h4 h5)
  generalize decide (x ∈ zs) = r at *
  clear h3 h4 h5
  go_enter Tryz.func100, Tryz.ntmps100
  go_wp2_with (first | (go_at_call 32; (with_reducible refine (HS.out _ (Below.refl _ _)).mono ?_); rintro e w7 ⟨z, rfl, hb7⟩; have HB7 := Lib.hid hb7; clear hb7) | fail)
  go_ret
  exact ⟨rfl, HB7.out⟩
set_option linter.unusedSimpArgs false in
set_option maxRecDepth 100000 in
set_option maxHeartbeats 3200000 in
theorem indexKey_any {w : World} {p : Nat} {zs ks : List Int} {a : Option Addr} {n c : Nat} (h : Numbers w a n c ks) (hl : ListAt w p zs) :
    Calls Tryz.prog 115 #[.slice a n c, .func (.func 100) #[] #[.pointer (some ⟨p, 0, none⟩)]] w fun e w' => (∃ z : Int, e = .returned (.int .i64 z) ∧ -1 ≤ z ∧ decide (0 ≤ z) = !ks.all fun k => decide (k ∈ zs)) ∧ Below w.heap.size w w' := by
  have hn63 : (n : Int) ≤ 9223372036854775807 := by have h1 := h.2.1; have h2 := h.2.2.1; unfold maxLen at h2; omega
  obtain ⟨R, hR⟩ : ∃ R, R = ks.all fun k => decide (k ∈ zs) := ⟨_, rfl⟩
  rw [← hR]
  have H := Lib.hid h
  have HL := Lib.hid hl
  have HR := Lib.hid hR
  clear h hR hl
  go_enter Tryz.func115, Tryz.ntmps115
  go_upto_region 2 with (fail)
  go_loopw [8] (fun x wr => ∃ j : Nat, j ≤ n ∧ x = .int .i64 j ∧ Below w.heap.size w wr ∧ R = (ks.drop j).all fun k => decide (k ∈ zs)) (fun x _ => n - (intOf x).toNat)
  case atStart => exact ⟨0, Nat.zero_le _, rfl, Below.refl _ _, HR.out⟩
  case round =>
    obtain ⟨j, hj, rfl, hb, hRj⟩ := hrel
    have HB := Lib.hid hb
    have HRJ := Lib.hid hRj
    clear hb hRj HR
    by_cases hjn : j < n
    · have f1 : (j : Int) < (n : Int) := by omega
      have f0 : (0 : Int) ≤ (j : Int) := by omega
      have ft : ((j : Int)).toNat = j := by omega
      obtain ⟨b1, o1, e1, hlt1, hc1⟩ := (H.out.below HB.out).2.2.2.2.2 (by omega)
      have c0 := hc1 j hjn
      have hRj := HRJ.out
      rw [drop_cons (zs := ks) (by rw [H.out.1]; exact hjn)] at hRj
      revert c0 hRj
      generalize ks.getD j 0 = x
      intro c0 hRj
      replace hRj : R = (decide (x ∈ zs) && (ks.drop (j + 1)).all fun k => decide (k ∈ zs)) := hRj
      subst e1
      have HRJ := Lib.hid hRj
      have HC := Lib.hid (among1_any x (HL.out.below HB.out))
      clear hc1 hRj H
      generalize decide (x ∈ zs) = r at *
      cases r
      · have hRf : R = false := HRJ.out
        subst hRf
        go_wp2_with (first | (go_at_call 100; (with_reducible refine HC.out.mono ?_); rintro e w7 ⟨rfl, hb7⟩; have HB7 := Lib.hid hb7; clear hb7) | fail)
        go_ret
        exact ⟨⟨j, rfl, by omega, by simp⟩, HB.out.trans (HB7.out.mono HB.out.size)⟩
      · have hRt : R = (ks.drop (j + 1)).all fun k => decide (k ∈ zs) := HRJ.out
        have HRN := Lib.hid hRt
        clear hRt HRJ
        go_wp2_with (first | (go_at_call 100; (with_reducible refine HC.out.mono ?_); rintro e w7 ⟨rfl, hb7⟩; have HB7 := Lib.hid hb7; clear hb7) | fail)
        go_roundw
        case rel => exact ⟨j + 1, by omega, by go_num, HB.out.trans (HB7.out.mono HB.out.size), HRN.out⟩
        case measure => simp [intOf]; omega
    · have f1 : ¬ ((j : Int) < (n : Int)) := by omega
      have e1 : ks.drop j = [] := List.drop_of_length_le (by rw [H.out.1]; omega)
      have hRt : R = true := by rw [HRJ.out, e1]; rfl
      subst hRt
      clear e1 HRJ
      go_wp2
      go_ret
      exact ⟨⟨-1, rfl, by omega, by decide⟩, HB.out⟩
theorem containsKey_any {w : World} {p : Nat} {zs ks : List Int} {a : Option Addr} {n c : Nat} (h : Numbers w a n c ks) (hl : ListAt w p zs) :
    Calls Tryz.prog 99 #[.slice a n c, .func (.func 100) #[] #[.pointer (some ⟨p, 0, none⟩)]] w fun e w' => e = .returned (.bool (!ks.all fun k => decide (k ∈ zs))) ∧ Below w.heap.size w w' := by
  have HC := Lib.hid (indexKey_any h hl)
  generalize (!ks.all fun k => decide (k ∈ zs)) = r at *
  clear h hl
  go_enter Tryz.func99, Tryz.ntmps99
  go_wp2_with fail
  refine HC.out.mono ?_
  rintro e w7 ⟨⟨z, rfl, hz, hzr⟩, hb7⟩
  have HB7 := Lib.hid hb7
  subst hzr
  clear hb7
  go_wp2_with fail
  go_ret
  exact ⟨rfl, HB7.out⟩
set_option linter.unusedSimpArgs false in
set_option maxRecDepth 100000 in
set_option maxHeartbeats 1600000 in
theorem among_any {w : World} {ks ts : List Int} {a b : Option Addr} {n c m d : Nat} (h : Numbers w a n c ks) (k : Numbers w b m d ts) (hm : m ≤ 100000) :
    Calls Tryz.prog 71 #[.slice a n c, .slice b m d] w fun e w' => e = .returned (.bool (ks.all fun k => decide (k ∈ ts))) ∧ Below w.heap.size w w' := by
  have HC := Lib.hid (clone_any k hm)
  have hmt := k.1
  have H := Lib.hid h
  clear h k
  go_enter Tryz.func71, Tryz.ntmps71
  go_wp2_with fail
  refine HC.out.mono ?_
  rintro e w2 ⟨v, rfl, hv, hb2⟩
  obtain ⟨a2, c2, rfl, _⟩ := hv.shape
  rw [hmt] at hv ⊢
  have HV := Lib.hid hv
  have HB2 := Lib.hid hb2
  clear hv hb2
  go_upto_region 2 with (fail)
  have b3 : Below w2.heap.size w2 (w2.alloc (.cells #[.slice a2 m c2] 47)) := (Below.refl _ _).alloc (Nat.le_refl _) _
  have h3 := heap_alloc_new w2 (.cells #[.slice a2 m c2] 47)
  revert b3 h3
  generalize (w2.alloc (.cells #[.slice a2 m c2] 47)) = w3
  obtain ⟨p, hp⟩ : ∃ p, p = w2.heap.size := ⟨_, rfl⟩
  rw [← hp]
  intro b3 h3
  rw [hp] at b3
  have hv3 := HV.out.below b3
  have c0 : w3.cell? ⟨p, 0, none⟩ = some (.slice a2 m c2) := by rw [cell_of_row _ _ _ _ _ _ h3]; rfl
  have hlp := lt_of_block h3
  have HB3 := Lib.hid (HB2.out.trans (b3.mono HB2.out.size))
  have hne : (Value.slice a2 m c2).ownBlock ≠ some p := fun e => by
    have := (HV.out.lt p e).2
    omega
  have HS := Lib.hid (sort_any hv3 HB3.out.size (by omega))
  have HNE := Lib.hid hne
  have HLP := Lib.hid hlp
  clear hv3 b3 h3 hp hne hlp HV HC
  try simp only [Act.put]
  go_wp2_with fail
  refine HS.out.mono ?_
  rintro e w4 ⟨rfl, hv4, hg4, hb4⟩
  have c4 : w4.cell? ⟨p, 0, none⟩ = some (.slice a2 m c2) := by
    have := hg4.block p HLP.out HNE.out.symm
    exact (World.cell?_of_block this).trans c0
  have hs : (sortedZ ts).length = m := by rw [sortedZ_len, hmt]
  have hl4 : ListAt w4 p (sortedZ ts) := ⟨a2, m, c2, c4, Nat.lt_of_lt_of_le HLP.out hg4.size, by have := hv4.numbers; exact this, sortedZ_up ts, hm⟩
  have HB4 := Lib.hid (HB3.out.trans hb4)
  have e4 : (ks.all fun k => decide (k ∈ ts)) = ks.all fun k => decide (k ∈ sortedZ ts) := by
    congr 1
    funext k
    rw [decide_eq_decide]
    exact (sortedZ_mem ts k).symm
  have HK := Lib.hid (containsKey_any (H.out.below (HB4.out.mono (Nat.le_refl _))) hl4)
  have E4 := Lib.hid e4
  clear c0 hl4 hv4 hg4 hb4 c4 hs e4 HS
  go_wp2_with (first | (go_at_call 99; (with_reducible refine HK.out.mono ?_); rintro e w7 ⟨rfl, hb7⟩; have HB7 := Lib.hid hb7; clear hb7) | fail)
  go_ret
  exact ⟨by rw [E4.out]; simp, HB4.out.trans (HB7.out.mono HB4.out.size)⟩
end Go.Proofs.YtnjnomebcggccaaGreatDoor
