/- Which ways and outs are alike: plainly, and what slices.Equal, sameWay, EqualFunc, Same come to. -/
import Derived.Test.YtdaafeaeinomoaaDoorLockWay
import Derived.Test.YtdaafeaeinomoaaDoorMemory
import Derived.Test.YtdaafeaeinomoaaDoorShelf
namespace Go.Proofs.YtdaafeaeinomoaaDoor
open Go.RowKit

def alikeW (x y : PWay) : Bool := decide (x.ks = y.ks) && (decide (x.h = y.h) && (decide (x.after = y.after) && decide (x.wait = y.wait)))
/-- Two slices of numbers are equal. -/
theorem equal_any {w : World} {a b : Option Addr} {n c m d : Nat} {xs ys : List Int} (h : Numbers w a n c xs) (k : Numbers w b m d ys) :
    Calls Tryd.prog 53 #[.slice a n c, .slice b m d] w fun e w' => e = .returned (.bool (decide (xs = ys))) ∧ Below w.heap.size w w' := by
  have hn : n ≤ 9223372036854775807 := by have h1 := h.2.1; have h2 := h.2.2.1; unfold maxLen at h2; omega
  have hm : m ≤ 9223372036854775807 := by have h1 := k.2.1; have h2 := k.2.2.1; unfold maxLen at h2; omega
  by_cases hnm : n = m
  · subst hnm
    by_cases h0 : n = 0
    · subst h0
      obtain rfl : xs = [] := List.eq_nil_of_length_eq_zero h.1
      obtain rfl : ys = [] := List.eq_nil_of_length_eq_zero k.1
      exact (Tryd.slices_Equal_int_empty a b c 0 d w hm).mono fun e w' ⟨he, hw⟩ => ⟨by rw [he]; rfl, by rw [hw]; exact Below.refl _ _⟩
    · obtain ⟨b1, o1, rfl, _, hc1⟩ := h.2.2.2.2.2 (by omega)
      obtain ⟨b2, o2, rfl, _, hc2⟩ := k.2.2.2.2.2 (by omega)
      refine (Tryd.slices_Equal_int b1 o1 n c b2 o2 n d xs ys w (by rw [h.1]; exact Nat.le_refl _) (by rw [k.1]; exact Nat.le_refl _) hn hm (fun j hj => hc1 j (by rw [← h.1]; exact hj)) (fun j hj => hc2 j (by rw [← k.1]; exact hj))).mono ?_
      rintro e w' ⟨he, q, hw⟩
      have e1 : xs.take n = xs := List.take_of_length_le (by rw [h.1]; exact Nat.le_refl _)
      have e2 : ys.take n = ys := List.take_of_length_le (by rw [k.1]; exact Nat.le_refl _)
      rw [e1, e2] at he
      refine ⟨by rw [he]; congr 2; rw [Bool.eq_iff_iff]; simp, by rw [hw]; exact ⟨rfl, rfl, rfl, Nat.le_refl _, fun _ _ => rfl⟩⟩
  · refine (Tryd.slices_Equal_int_lens a b n c m d w hnm).mono fun e w' ⟨he, hw⟩ => ⟨?_, by rw [hw]; exact Below.refl _ _⟩
    rw [he]
    have : xs ≠ ys := fun e => hnm (by rw [← h.1, ← k.1, e])
    rw [decide_eq_false this]
/-- A load of a whole row in the midst of a block, guarded, in a plain region. -/
theorem wpList_mid_wanted {P : Program} {ops : Array Oper} {rest : List Oper} {o : Oper} {a : Act} {w : World} {Q : Exit → Act → World → Prop} (hw : Region.wanted o (yielded ops a.tmps) = true) (ty : TypeId) (x : Operand) (ho : o.op = .load ty x)
    (b off : Nat) (hx : a.eval x = .pointer (some ⟨b, off, none⟩)) (cs : List Value) (d : TypeDesc) (hc : w.rangeAt b off cs)
    (hu : P.underlying ty = some d) (hd : d.isRow = true) (hi : (P.info? ty).map (·.size) = some cs.length)
    (h : wpList P ops Q rest (a.put o.dst (.agg cs.toArray)) w) : wpList P ops Q (o :: rest) a w :=
  wpList_step fun K hK => by
    simp only [hw, if_true]
    exact wp_load_mid ty x ho b off hx cs d hc hu hd hi (hK _ _ h)
theorem sumLen {s : List UInt8} (h : s.length = 32) : (Tryd.prog.info? 24).map (·.size) = some (cellsOf s).length := by rw [cellsOf_len, h]; exact Tryd.size24
set_option linter.unusedSimpArgs false in
set_option maxRecDepth 100000 in
set_option maxHeartbeats 3200000 in
theorem sameWay_any {w : World} {x y : PWay} (h : WayIn w x) (k : WayIn w y) : Calls Tryd.prog 41 #[.agg x.cells.toArray, .agg y.cells.toArray] w fun e w' => e = .returned (.bool (alikeW x y)) ∧ Below w.heap.size w w' := by
  obtain ⟨r1, hr1⟩ : ∃ r, decide (x.ks = y.ks) = r := ⟨_, rfl⟩
  obtain ⟨r2, hr2⟩ : ∃ r, decide (x.h = y.h) = r := ⟨_, rfl⟩
  unfold alikeW
  rw [hr1, hr2]
  have heq : ∀ W : World, Below w.heap.size w W → Calls Tryd.prog 53 #[.slice x.a x.n x.c, .slice y.a y.n y.c] W fun e w' => e = .returned (.bool r1) ∧ Below W.heap.size W w' := fun W hW => by rw [← hr1]; exact equal_any (h.keys.below hW) (k.keys.below hW)
  have q2 : ∀ W : World, (Op.equalIn 10000 24 (.agg (cellsOf x.h).toArray) (.agg (cellsOf y.h).toArray)).run Tryd.prog W = .ok r2 W := fun W => by rw [← hr2]; exact run_eqSums _ _ h.sum k.sum W
  have HEQ := Lib.hid heq
  have SX := Lib.hid (sumLen h.sum)
  have SY := Lib.hid (sumLen k.sum)
  obtain ⟨p, hp⟩ : ∃ p, p = x.after := ⟨_, rfl⟩
  obtain ⟨q, hq⟩ : ∃ q, q = y.after := ⟨_, rfl⟩
  obtain ⟨p', hp'⟩ : ∃ p, p = x.wait := ⟨_, rfl⟩
  obtain ⟨q', hq'⟩ : ∃ q, q = y.wait := ⟨_, rfl⟩
  rw [← hp, ← hq, ← hp', ← hq']
  obtain ⟨t1, ht1⟩ : ∃ r, decide (p = q) = r := ⟨_, rfl⟩
  obtain ⟨t2, ht2⟩ : ∃ r, decide (p' = q') = r := ⟨_, rfl⟩
  rw [ht1, ht2]
  have hu1 : (p == q) = t1 := by rw [← ht1]; rfl
  have hu2 : (p' == q') = t2 := by rw [← ht2]; rfl
  clear heq hr1 hr2
  go_enter Tryd.func41, Tryd.ntmps41
  go_upto_region 1 with (fail)
  obtain ⟨v, hv, hb, hlt, hx, hrg⟩ := way_boxed h 26
  rw [hv]
  obtain ⟨g, hg⟩ : ∃ g, g = w.heap.size := ⟨_, rfl⟩
  rw [← hg] at hrg hlt ⊢
  obtain ⟨v1, hv1, hb1, hlt1, hy1, hrg1⟩ := way_boxed (k.below hb) 26
  have hgs : v.heap.size = g + 1 := by rw [← hv, hg]; simp
  rw [hv1]
  rw [hgs] at hrg1 hlt1
  have hr0 := rangeAt_below hrg hlt hb1
  have HB := Lib.hid (hb.trans (hb1.mono hb.size))
  have c0 := way_keys hr0
  have c1 := way_after h.sum hr0
  have c2 := way_wait h.sum hr0
  have d0 := way_keys hrg1
  have d1 := way_after k.sum hrg1
  have d2 := way_wait k.sum hrg1
  have RX := Lib.hid (way_sum h.sum hr0)
  have RY := Lib.hid (way_sum k.sum hrg1)
  rw [Nat.zero_add] at c1 c2 d1 d2 RX RY
  rw [← hp] at c1
  rw [← hq] at d1
  rw [← hp'] at c2
  rw [← hq'] at d2
  clear hv1 hb1 hrg1 hr0 hrg hv hx hy1 hb hp hq hp' hq' h k hg hgs
  cases r1
  · go_wp2_with (first | (go_at_call 53; (with_reducible refine (HEQ.out _ HB.out).mono ?_); rintro e w' ⟨rfl, hb2⟩; have HB2 := Lib.hid hb2; clear hb2) | fail)
    go_ret
    exact ⟨rfl, HB.out.trans (HB2.out.mono HB.out.size)⟩
  · go_wp2_with fail
    refine (HEQ.out _ HB.out).mono ?_
    rintro e w2 ⟨rfl, hb2⟩
    have HB2 := Lib.hid (HB.out.trans (hb2.mono HB.out.size))
    have hltg : g < v1.heap.size := by omega
    have e1 := (hb2.cell (p := ⟨g, 33, none⟩) hltg).trans c1
    have e2 := (hb2.cell (p := ⟨g, 34, none⟩) hltg).trans c2
    have f1 := (hb2.cell (p := ⟨g + 1, 33, none⟩) hlt1).trans d1
    have f2 := (hb2.cell (p := ⟨g + 1, 34, none⟩) hlt1).trans d2
    have RX2 := Lib.hid (rangeAt_below RX.out hltg hb2)
    have RY2 := Lib.hid (rangeAt_below RY.out hlt1 hb2)
    clear c0 c1 c2 d0 d1 d2 RX RY hb2 hlt hlt1 hltg
    cases r2
    · go_wp2_with (first | (refine wpList_mid_wanted (by rfl) 24 _ rfl g 1 rfl (cellsOf x.h) _ RX2.out Tryd.underlying24 rfl SX.out ?_) | (refine wpList_mid_wanted (by rfl) 24 _ rfl (g + 1) 1 rfl (cellsOf y.h) _ RY2.out Tryd.underlying24 rfl SY.out ?_) | fail)
      go_ret
      exact ⟨rfl, HB2.out⟩
    · cases t1
      · go_wp2_with (first | (refine wpList_mid_wanted (by rfl) 24 _ rfl g 1 rfl (cellsOf x.h) _ RX2.out Tryd.underlying24 rfl SX.out ?_) | (refine wpList_mid_wanted (by rfl) 24 _ rfl (g + 1) 1 rfl (cellsOf y.h) _ RY2.out Tryd.underlying24 rfl SY.out ?_) | fail)
        go_ret
        exact ⟨rfl, HB2.out⟩
      · go_wp2_with (first | (refine wpList_mid_wanted (by rfl) 24 _ rfl g 1 rfl (cellsOf x.h) _ RX2.out Tryd.underlying24 rfl SX.out ?_) | (refine wpList_mid_wanted (by rfl) 24 _ rfl (g + 1) 1 rfl (cellsOf y.h) _ RY2.out Tryd.underlying24 rfl SY.out ?_) | fail)
        go_ret
        exact ⟨rfl, HB2.out⟩
end Go.Proofs.YtdaafeaeinomoaaDoor
