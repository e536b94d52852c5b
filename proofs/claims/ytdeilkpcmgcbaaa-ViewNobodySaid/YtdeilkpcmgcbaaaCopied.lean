/- view.copied: a coin that is alike, in memory of its own. -/
import Derived.Test.YtdeilkpcmgcbaaaCloneWays
import Derived.Test.YtdeilkpcmgcbaaaPlaces
namespace Go.Proofs.Ytdeilkpcmgcbaaa
open Go.RowKit

theorem heap_setCell_ne {w : World} {g o k : Nat} (h : k ≠ g) (v : Value) : (w.setCell ⟨g, o, none⟩ v).heap[k]? = w.heap[k]? := Below.heap_setCell _ _ _ k (fun e => h e)
theorem heap_setCell_eq {w : World} {g : Nat} {cur : Array Value} {t : TypeId} (h : w.heap[g]? = some (.cells cur t (0, 0))) (o : Nat) (v : Value) : (w.setCell ⟨g, o, none⟩ v).heap[g]? = some (.cells (cur.setIfInBounds o v) t (0, 0)) := by
  obtain ⟨hlt, hk⟩ := Array.getElem?_eq_some_iff.1 h
  show (w.heap.modify g _)[g]? = _
  rw [Array.getElem?_eq_getElem (by rw [Array.size_modify]; exact hlt), Array.getElem_modify_self, hk]
  rfl
theorem below_setCell9 {B : Nat} {w0 w : World} (h : Below B w0 w) {g : Nat} (hg : B ≤ g) (o : Nat) (v : Value) : Below B w0 (w.setCell ⟨g, o, none⟩ v) := h.setCell (p := ⟨g, o, none⟩) hg v
theorem ways_setCell {w : World} {a : Option Addr} {n c : Nat} {xs : List PWay} {g o : Nat} {u v : Value} (h : Ways w a n c xs) (hu : w.cell? ⟨g, o, none⟩ = some u) (hnz : ∀ z, u ≠ .int .i64 z) (hne : 0 < n → ∀ x, a = some x → x.block ≠ g) : Ways (w.setCell ⟨g, o, none⟩ v) a n c xs := by
  obtain ⟨h1, h2, h3, h4, h6, h5⟩ := h
  refine ⟨h1, h2, h3, h4, fun x hx => ⟨numbers_setCell (h6 x hx).keys hu hnz, (h6 x hx).sum, (h6 x hx).after, (h6 x hx).wait⟩, fun h0 => ?_⟩
  obtain ⟨b, off, rfl, hlt, hc⟩ := h5 h0
  refine ⟨b, off, rfl, by simpa using hlt, fun j hj k v hv => ?_⟩
  rw [cell_set_other (fun e => hne h0 _ rfl (congrArg Addr.block e).symm)]
  exact hc j hj k v hv
theorem cloneZ_any {w : World} {a : Option Addr} {n c : Nat} {zs : List Int} (h : Numbers w a n c zs) (hn : n ≤ 100000) :
    Calls Try.prog 40 #[.slice a n c] w fun e w' => ∃ (a' : Option Addr) (c' : Nat), e = .returned (.slice a' n c') ∧ Numbers w' a' n c' zs ∧ (∀ x, a' = some x → ∃ cs fr, w'.heap[x.block]? = some (.cells cs 3 fr)) ∧ Below w.heap.size w w' := by
  refine (clone_any h hn).mono ?_
  rintro e w' ⟨v, rfl, ho, hb⟩
  obtain ⟨a', c', rfl, _⟩ := ho.shape
  have hf : ∀ x, a' = some x → ∃ cs fr, w'.heap[x.block]? = some (.cells cs 3 fr) := fun x e => by
    subst e
    rcases ho.1.2 with ⟨hv, _⟩ | ⟨g, cap, cur, hv, _, hh, _⟩
    · cases hv
    · cases hv
      exact ⟨_, _, hh⟩
  have h9 := ho.numbers
  rw [h.1] at h9
  exact ⟨a', c', by rw [h.1], h9, hf, hb⟩
/-- A way's keys lie in a block of numbers. -/
def TypedKey (w : World) (y : PWay) : Prop := 0 < y.n → ∀ x, y.a = some x → ∃ cs fr, w.heap[x.block]? = some (.cells cs 3 fr)
/-- Ways lie in a block of ways, their keys in blocks of numbers. -/
def TypedW (w : World) (a : Option Addr) (n : Nat) (ys : List PWay) : Prop := (0 < n → ∀ x, a = some x → ∃ cs fr, w.heap[x.block]? = some (.cells cs 74 fr)) ∧ ∀ y ∈ ys, TypedKey w y
theorem TypedKey.but {w w' : World} {y : PWay} {p : Nat} (h : TypedKey w y) (hb : But w.heap.size p w w') (hp : ∀ cs fr, w.heap[p]? ≠ some (.cells cs 3 fr)) : TypedKey w' y := fun h0 x e => by
  obtain ⟨cs, fr, hh⟩ := h h0 x e
  exact ⟨cs, fr, hb.heap hh (lt_of_block hh) (fun e2 => hp cs fr (by rw [← e2]; exact hh))⟩
theorem TypedKey.below {w w' : World} {y : PWay} (h : TypedKey w y) (hb : Below w.heap.size w w') : TypedKey w' y := fun h0 x e => by
  obtain ⟨cs, fr, hh⟩ := h h0 x e
  exact ⟨cs, fr, (hb.block _ (lt_of_block hh)).trans hh⟩
theorem TypedW.below {w w' : World} {a : Option Addr} {n : Nat} {ys : List PWay} (h : TypedW w a n ys) (hb : Below w.heap.size w w') : TypedW w' a n ys :=
  ⟨fun h0 x e => by
    obtain ⟨cs, fr, hh⟩ := h.1 h0 x e
    exact ⟨cs, fr, (hb.block _ (lt_of_block hh)).trans hh⟩, fun y hy => (h.2 y hy).below hb⟩
theorem ways_typed {w w' : World} {a : Option Addr} {n c p : Nat} {ys : List PWay} (h : Ways w a n c ys) (ht : TypedW w a n ys) (hb : But w.heap.size p w w') (hp : ∀ cs fr, w.heap[p]? ≠ some (.cells cs 74 fr) ∧ w.heap[p]? ≠ some (.cells cs 3 fr)) : Ways w' a n c ys ∧ TypedW w' a n ys := by
  refine ⟨?_, ⟨fun h0 x e => ?_, fun y hy => (ht.2 y hy).but hb (fun cs fr => (hp cs fr).2)⟩⟩
  · obtain ⟨h1, h2, h3, h4, h6, h5⟩ := h
    refine ⟨h1, h2, h3, h4, fun y hy => ⟨?_, (h6 y hy).sum, (h6 y hy).after, (h6 y hy).wait⟩, fun h0 => ?_⟩
    · obtain ⟨k1, k2, k3, k4, k6, k5⟩ := (h6 y hy).keys
      refine ⟨k1, k2, k3, k4, k6, fun h0 => ?_⟩
      obtain ⟨b, off, e, hlt, hc⟩ := k5 h0
      obtain ⟨cs, fr, hh⟩ := ht.2 y hy h0 _ e
      have hne : b ≠ p := fun e2 => (hp cs fr).2 (by rw [← e2]; exact hh)
      exact ⟨b, off, e, Nat.lt_of_lt_of_le hlt hb.size, fun j hj => (hb.cell (a := ⟨b, off + j, none⟩) hlt hne).trans (hc j hj)⟩
    · obtain ⟨b, off, e, hlt, hc⟩ := h5 h0
      obtain ⟨cs, fr, hh⟩ := ht.1 h0 _ e
      have hne : b ≠ p := fun e2 => (hp cs fr).1 (by rw [← e2]; exact hh)
      exact ⟨b, off, e, Nat.lt_of_lt_of_le hlt hb.size, fun j hj i v hv => (hb.cell (a := ⟨b, off + j * 35 + i, none⟩) hlt hne).trans (hc j hj i v hv)⟩
  · obtain ⟨cs, fr, hh⟩ := ht.1 h0 x e
    exact ⟨cs, fr, hb.heap hh (lt_of_block hh) (fun e2 => (hp cs fr).1 (by rw [← e2]; exact hh))⟩
theorem typed_set {ys : List PWay} {j : Nat} {w : World} {y : PWay} (h : ∀ i, i < j → TypedKey w (ys.getD i noWay)) (hj : j < ys.length) (hy : TypedKey w y) : ∀ i, i < j + 1 → TypedKey w ((ys.set j y).getD i noWay) := fun i hi => by
  by_cases e : i = j
  · subst e
    rw [List.getD_eq_getElem?_getD, List.getElem?_set_self hj]
    exact hy
  · rw [List.getD_eq_getElem?_getD, List.getElem?_set_ne (fun e2 => e e2.symm), ← List.getD_eq_getElem?_getD]
    exact h i (by omega)
theorem But.below9 {B B' p : Nat} {w w' : World} (h : But B p w w') (hp : B' ≤ p) (hB : B' ≤ B) : Below B' w w' := ⟨h.os, h.tape, h.output, h.size, fun k hk => h.block k (by omega) (by omega)⟩
theorem but_setCell9 (w : World) (g o : Nat) (v : Value) : But w.heap.size g w (w.setCell ⟨g, o, none⟩ v) := (But.refl w.heap.size g w).setCell ⟨g, o, none⟩ (.inl rfl) v
theorem coin_one9 (m h : Int) (a : Option Addr) (n c : Nat) : (#[Value.int .i64 m, .slice a n c, .int .i64 h]).all (·.oneCell') = true := by simp [Value.oneCell']
theorem coin_size9 (m h : Int) (a : Option Addr) (n c : Nat) : (Try.prog.info? 41).map (·.size) = some (#[Value.int .i64 m, .slice a n c, .int .i64 h]).size := by kernel_rfl
/-- Ways whose keys are few. -/
def FewKeys (xs : List PWay) : Prop := ∀ x ∈ xs, x.ks.length ≤ 1000
theorem fewKeys_strip {xs ys : List PWay} (h : ys.map PWay.strip = xs.map PWay.strip) (hx : FewKeys xs) : FewKeys ys := fun y hy => by
  have h1 : y.strip ∈ xs.map PWay.strip := by rw [← h]; exact List.mem_map.2 ⟨y, hy, rfl⟩
  obtain ⟨x, hx1, hx2⟩ := List.mem_map.1 h1
  have h2 : y.ks = x.ks := (congrArg PWay.ks hx2).symm
  rw [h2]
  exact hx x hx1
set_option linter.unusedSimpArgs false in
set_option maxRecDepth 100000 in
set_option maxHeartbeats 12800000 in
theorem copied_any {w : World} {m ht : Int} {a : Option Addr} {n c : Nat} {xs : List PWay} (hw : Ways w a n c xs) (hn0 : a = none ∨ 1 ≤ n) (hn : n ≤ 1000) (hk : FewKeys xs) :
    Calls Try.prog 28 #[.agg #[.int .i64 m, .slice a n c, .int .i64 ht]] w fun e w' => ∃ (a' : Option Addr) (c' : Nat) (ys : List PWay), e = .returned (.agg #[.int .i64 m, .slice a' n c', .int .i64 ht]) ∧ Ways w' a' n c' ys ∧ ys.map PWay.strip = xs.map PWay.strip ∧ (a' = none ∨ 1 ≤ n) ∧ TypedW w' a' n ys ∧ Below w.heap.size w w' := by
  have b2 : Below w.heap.size w ((w.alloc (.cells #[.int .i64 m, .slice a n c, .int .i64 ht] 41)).alloc (.cells #[.int .i64 0, .slice none 0 0, .int .i64 0] 41)) := ((Below.refl _ _).alloc (Nat.le_refl _) _).alloc (by simp) _
  have h1 : ((w.alloc (.cells #[.int .i64 m, .slice a n c, .int .i64 ht] 41)).alloc (.cells #[.int .i64 0, .slice none 0 0, .int .i64 0] 41)).heap[w.heap.size]? = some (.cells #[.int .i64 m, .slice a n c, .int .i64 ht] 41 (0, 0)) := by
    rw [heap_alloc_old _ _ (by simp), heap_alloc_new]
  have h2 : ((w.alloc (.cells #[.int .i64 m, .slice a n c, .int .i64 ht] 41)).alloc (.cells #[.int .i64 0, .slice none 0 0, .int .i64 0] 41)).heap[w.heap.size + 1]? = some (.cells #[.int .i64 0, .slice none 0 0, .int .i64 0] 41 (0, 0)) := heap_alloc_at _ _ _ (by simp)
  have hs2 : ((w.alloc (.cells #[.int .i64 m, .slice a n c, .int .i64 ht] 41)).alloc (.cells #[.int .i64 0, .slice none 0 0, .int .i64 0] 41)).heap.size = w.heap.size + 2 := by simp
  have HK := Lib.hid hk
  have HW := Lib.hid hw
  clear hk hw
  go_enter Try.func28, Try.ntmps28
  go_upto_region 1 with (fail)
  revert b2 h1 h2 hs2
  generalize ((w.alloc (.cells #[.int .i64 m, .slice a n c, .int .i64 ht] 41)).alloc (.cells #[.int .i64 0, .slice none 0 0, .int .i64 0] 41)) = w2
  obtain ⟨g1, hg1⟩ : ∃ g, g = w.heap.size := ⟨_, rfl⟩
  obtain ⟨g2, hg2⟩ : ∃ g, g = w.heap.size + 1 := ⟨_, rfl⟩
  rw [← hg2, ← hg1]
  intro b2 h1 h2 hs2
  have HB2 := Lib.hid b2
  have HC2 := Lib.hid (cloneWays_any (HW.out.below (by rw [hg1] at b2; exact b2)) hn0 hn)
  have H1 := Lib.hid h1
  have H2 := Lib.hid h2
  have l1 := lt_of_block h1
  have l2 := lt_of_block h2
  have c11 : w2.cell? ⟨g1, 1, none⟩ = some (.slice a n c) := cell_of_row w2 g1 1 _ _ _ h1
  have hne12 : g2 ≠ g1 := by omega
  have HG1 := Lib.hid hg1
  have HG2 := Lib.hid hg2
  clear b2 h1 h2 hg1 hg2
  go_upto_region 2 with (first | (go_at_call 39; refine HC2.out.mono ?_; rintro e w3 ⟨a3, c3, rfl, hw3, hn3, hg3, hb3⟩; have HW3 := Lib.hid hw3; have HN3 := Lib.hid hn3; have HG3 := Lib.hid hg3; have HB3 := Lib.hid hb3; have hx31 := (hb3.block _ l1).trans H1.out; have HX1 := Lib.hid hx31; have c31 := cell_of_row w3 g1 1 _ _ _ hx31; have f31 : w3.frozen? ⟨g1, 1, none⟩ = false := (by simp [World.frozen?, hx31]); clear hw3 hn3 hg3 hb3 HC2 hx31) | fail)
  clear f31
  have HW4 : Hid (Ways (w3.setCell ⟨g1, 1, none⟩ (.slice a3 n c3)) a3 n c3 xs) := Lib.hid (ways_setCell HW3.out c31 (fun _ e => by cases e) (fun h0 x e => by
    obtain ⟨g, cur, rfl, hg, _⟩ := HG3.out h0
    cases e
    show g ≠ g1
    omega))
  have HB4 : Hid (Below g1 w (w3.setCell ⟨g1, 1, none⟩ (.slice a3 n c3))) := Lib.hid (below_setCell9 (HB2.out.trans (HB3.out.mono (by omega))) (Nat.le_refl _) _ _)
  have HX14 : Hid ((w3.setCell ⟨g1, 1, none⟩ (.slice a3 n c3)).heap[g1]? = some (.cells #[.int .i64 m, .slice a3 n c3, .int .i64 ht] 41 (0, 0))) := Lib.hid (heap_setCell_eq HX1.out 1 _)
  have HX24 : Hid ((w3.setCell ⟨g1, 1, none⟩ (.slice a3 n c3)).heap[g2]? = some (.cells #[.int .i64 0, .slice none 0 0, .int .i64 0] 41 (0, 0))) := Lib.hid ((heap_setCell_ne (by omega) _).trans ((HB3.out.block _ l2).trans H2.out))
  have HG4 : Hid (1 ≤ n → ∃ g cur, a3 = some ⟨g, 0, none⟩ ∧ w2.heap.size ≤ g ∧ (w3.setCell ⟨g1, 1, none⟩ (.slice a3 n c3)).heap[g]? = some (.cells cur 74 (0, 0))) := Lib.hid (fun h0 => by
    obtain ⟨g, cur, e, hg, hh⟩ := HG3.out h0
    exact ⟨g, cur, e, hg, (heap_setCell_ne (by omega) _).trans hh⟩)
  revert HW4 HB4 HX14 HX24 HG4
  generalize (w3.setCell ⟨g1, 1, none⟩ (.slice a3 n c3)) = w4
  intro HW4 HB4 HX14 HX24 HG4
  have hn63 : (n : Int) ≤ 9223372036854775807 := by omega
  have hnc : (n : Int) ≤ (c3 : Int) := by have := HW4.out.2.1; omega
  have hc63 : (c3 : Int) ≤ 9223372036854775807 := by have h2 := HW4.out.2.2.1; unfold maxLen at h2; omega
  have c41 : w4.cell? ⟨g1, 1, none⟩ = some (.slice a3 n c3) := cell_of_row w4 g1 1 _ _ _ HX14.out
  clear c31 HX1 HW3 HB3 HG3 H1 H2
  try simp only [Act.put]
  go_upto_region 3 with (fail)
  clear c41
  go_loopw [15] (fun i wr => ∃ (j : Nat) (ys : List PWay), j ≤ n ∧ i = .int .i64 j ∧ Ways wr a3 n c3 ys ∧ ys.map PWay.strip = xs.map PWay.strip ∧ wr.heap[g1]? = some (.cells #[.int .i64 m, .slice a3 n c3, .int .i64 ht] 41 (0, 0)) ∧ wr.heap[g2]? = some (.cells #[.int .i64 0, .slice none 0 0, .int .i64 0] 41 (0, 0)) ∧ Below g1 w wr ∧ (∀ i, i < j → TypedKey wr (ys.getD i noWay)) ∧ (1 ≤ n → ∃ g cur, a3 = some ⟨g, 0, none⟩ ∧ w2.heap.size ≤ g ∧ wr.heap[g]? = some (.cells cur 74 (0, 0)))) (fun i _ => n - (intOf i).toNat)
  case atStart => exact ⟨0, xs, Nat.zero_le _, rfl, HW4.out, rfl, HX14.out, HX24.out, HB4.out, fun i hi => by omega, HG4.out⟩
  case round =>
    obtain ⟨j, ys, hj, rfl, hwy, hst, hx1, hx2, hbr, hok, hgr⟩ := hrel
    have HWY := Lib.hid hwy
    have HST := Lib.hid hst
    have HX1 := Lib.hid hx1
    have HX2 := Lib.hid hx2
    have HBR := Lib.hid hbr
    have HOK := Lib.hid hok
    have HGR := Lib.hid hgr
    clear hok hwy hst hx1 hx2 hbr hgr HW4 HX14 HX24 HB4 HG4
    by_cases hjn : j < n
    · have f1 : (j : Int) < (n : Int) := by omega
      have f0 : (0 : Int) ≤ (j : Int) := by omega
      have ft : ((j : Int)).toNat = j := by omega
      obtain ⟨g, cur, rfl, hgge, hxg⟩ := HGR.out (by omega)
      obtain ⟨b9, o9, e9, _, hcc⟩ := HWY.out.2.2.2.2.2 (by omega)
      cases e9
      have hrx := hcc j hjn
      rw [Nat.zero_add] at hrx
      have hwx := HWY.out.way hjn
      have hyl : j < ys.length := by rw [HWY.out.1]; exact hjn
      have hfew : (ys.getD j noWay).n ≤ 100000 := by
        have h8 := fewKeys_strip HST.out HK.out (ys.getD j noWay) (by rw [List.getD_eq_getElem?_getD, List.getElem?_eq_getElem hyl]; exact List.getElem_mem hyl)
        rw [hwx.keys.1] at h8
        omega
      obtain ⟨y, hy⟩ : ∃ y, y = ys.getD j noWay := ⟨_, rfl⟩
      rw [← hy] at hrx hwx hfew
      have RX := Lib.hid hrx
      have HX := Lib.hid hwx
      have HY := Lib.hid hy
      have SX := Lib.hid (way_size hwx.sum)
      have AX := Lib.hid (way_sizeA hwx.sum)
      have ZX := Lib.hid (way_zero hwx.sum)
      have HXG := Lib.hid hxg
      have HGB : Hid (g1 ≤ g) := Lib.hid (by omega)
      have lg1 := lt_of_block HX1.out
      have lg2 := lt_of_block HX2.out
      have lg := lt_of_block HXG.out
      clear hcc hrx hwx hy hxg HGR
      go_upto_region 5 with (first | (refine wpList_load_mid rfl 74 _ rfl g (j * 35) rfl y.cells _ RX.out Try.underlying74 rfl SX.out ?_) | (refine wpList_store_row rfl 74 _ _ rfl wr.heap.size y.cells.toArray rfl rfl 74 noWay.cells.toArray (heap_alloc_new _ _) AX.out ZX.out (all_oneCell_toArray y.cells_one) ?_) | fail)
      rw [← noWay_is, layWay_is]
      have h5 := layWay_heap wr y
      have b5 := layWay_self wr y
      revert h5 b5
      generalize layWay wr y = w5
      obtain ⟨g5, hg5⟩ : ∃ g, g = wr.heap.size := ⟨_, rfl⟩
      rw [← hg5]
      intro h5 b5
      rw [hg5] at b5
      have HB5 := Lib.hid (HBR.out.trans (b5.mono (by have h8 := HBR.out.size; rw [← HG1.out] at h8; exact h8)))
      have HX15 := Lib.hid ((b5.block _ lg1).trans HX1.out)
      have HX25 := Lib.hid ((b5.block _ lg2).trans HX2.out)
      have HXG5 := Lib.hid ((b5.block _ lg).trans HXG.out)
      have HWY5 := Lib.hid (HWY.out.below b5)
      have HOK5 : Hid (∀ i, i < j → TypedKey w5 (ys.getD i noWay)) := Lib.hid (fun i hi => (HOK.out i hi).below b5)
      have hyl5 : j < ys.length := hyl
      have hk5 := HX.out.keys.below b5
      have HC : Hid (∀ W : World, Below w5.heap.size w5 W → Calls Try.prog 40 #[.slice y.a y.n y.c] W fun e w' => ∃ (a' : Option Addr) (c' : Nat), e = .returned (.slice a' y.n c') ∧ Numbers w' a' y.n c' y.ks ∧ (∀ x, a' = some x → ∃ cs fr, w'.heap[x.block]? = some (.cells cs 3 fr)) ∧ Below W.heap.size W w') := Lib.hid (fun W hW => cloneZ_any (hk5.below hW) hfew)
      have C1 : Hid (∀ W : World, But w5.heap.size g w5 W → W.cell? ⟨g1, 1, none⟩ = some (.slice (some ⟨g, 0, none⟩) n c3)) := Lib.hid (fun W hW => cell_of_row W g1 1 _ _ _ (hW.heap HX15.out (lt_of_block HX15.out) (by omega)))
      have C5 : Hid (∀ W : World, But w5.heap.size g w5 W → W.cell? ⟨g5, 0, none⟩ = some (.slice y.a y.n y.c)) := Lib.hid (fun W hW => way_keys (range_of (hW.heap h5 (lt_of_block h5) (by omega))))
      have CK : Hid (∀ W : World, Below w5.heap.size w5 W → W.cell? ⟨g, j * 35, none⟩ = some (.slice y.a y.n y.c)) := Lib.hid (fun W hW => by
        obtain ⟨b9, o9, e9, hl9, hcc⟩ := (HWY5.out.below hW).2.2.2.2.2 (by omega)
        cases e9
        have h9 := way_keys (hcc j hjn)
        rw [Nat.zero_add, ← HY.out] at h9
        exact h9)
      have FK : Hid (∀ W : World, Below w5.heap.size w5 W → W.frozen? ⟨g, j * 35, none⟩ = false) := Lib.hid (fun W hW => by
        have h9 := (hW.block _ (lt_of_block HXG5.out)).trans HXG5.out
        simp [World.frozen?, h9])
      have HFIN : Hid (∀ (W : World) (a7 : Option Addr) (c7 : Nat), Below w5.heap.size w5 W → Numbers W a7 y.n c7 y.ks → Ways (W.setCell ⟨g, j * 35, none⟩ (.slice a7 y.n c7)) (some ⟨g, 0, none⟩) n c3 (ys.set j (y.at9 a7 y.n c7))) := Lib.hid (fun W a7 c7 hW hN => by
        have h9 := ways_key_set (HWY5.out.below hW) hjn (by rw [← HY.out]; exact hN)
        rw [← HY.out] at h9
        exact h9)
      have HSS : Hid (∀ (a7 : Option Addr) (c7 : Nat), (ys.set j (y.at9 a7 y.n c7)).map PWay.strip = xs.map PWay.strip) := Lib.hid (fun a7 c7 => by rw [HY.out, strip_set hyl]; exact HST.out)
      have HG15 : Hid (g1 ≤ w5.heap.size) := Lib.hid (Nat.le_of_lt (lt_of_block HX15.out))
      have L15 := lt_of_block HX15.out
      have L25 := lt_of_block HX25.out
      have LG5 := lt_of_block HXG5.out
      have hng1 : g1 ≠ g := by omega
      have hng2 : g2 ≠ g := by omega
      clear h5 b5 hg5 hk5 HBR HX1 HX2 HXG HWY RX HX HY hyl HOK lg1 lg2 lg
      try simp only [Act.put]
      refine wp_region_held_drew (S := fun w' => But w5.heap.size g w5 w') (by kernel_rfl) ((But.refl _ _ _).drew) (fun hHeld => ?_)
      refine take_at (i := 0) (v := ?_) rfl rfl (by kernel_rfl) (by kernel_rfl) (by kernel_rfl) (fun _ _ _ h => h) (Or.inl ⟨by rfl, ?_⟩) (by assumption) ?_
      rotate_left
      · intro w0 hSw; (try dsimp only at hSw); first | (go_simp; done) | (go_simp; with_reducible rfl)
      simp only [List.setIfInBounds_toArray, List.set_cons_zero, List.set_cons_succ]
      refine take_at (i := 1) (v := ?_) rfl rfl (by kernel_rfl) (by kernel_rfl) (by kernel_rfl) (fun _ _ _ h => h) (Or.inl ⟨by rfl, ?_⟩) (by assumption) ?_
      rotate_left
      · intro w0 hSw; (try dsimp only at hSw); first | (go_simp; done) | (go_simp; with_reducible rfl)
      simp only [List.setIfInBounds_toArray, List.set_cons_zero, List.set_cons_succ]
      refine take_at (i := 2) rfl rfl (by kernel_rfl) (by kernel_rfl) (by kernel_rfl) (fun _ _ _ h => h) (yields_cell (b := g1) (o := 1) (by rfl) rfl rfl (fun w0 hSw => C1.out w0 hSw) (fun w0 => Try.isAgg26 w0)) (by assumption) ?_
      simp only [List.setIfInBounds_toArray, List.set_cons_zero, List.set_cons_succ]
      refine take_at (i := 3) (v := ?_) rfl rfl (by kernel_rfl) (by kernel_rfl) (by kernel_rfl) (fun _ _ _ h => h) (Or.inl ⟨by rfl, ?_⟩) (by assumption) ?_
      rotate_left
      · intro w0 hSw; (try dsimp only at hSw); first | (go_simp; done) | (go_simp; with_reducible rfl)
      simp only [List.setIfInBounds_toArray, List.set_cons_zero, List.set_cons_succ]
      refine take_at (i := 4) (v := ?_) rfl rfl (by kernel_rfl) (by kernel_rfl) (by kernel_rfl) (fun _ _ _ h => h) (Or.inl ⟨by rfl, ?_⟩) (by assumption) ?_
      rotate_left
      · intro w0 hSw; (try dsimp only at hSw); first | (go_simp; done) | (go_simp; with_reducible rfl)
      simp only [List.setIfInBounds_toArray, List.set_cons_zero, List.set_cons_succ]
      refine take_at (i := 5) rfl rfl (by kernel_rfl) (by kernel_rfl) (by kernel_rfl) (fun _ _ _ h => h) (yields_cell (b := g5) (o := 0) (by rfl) rfl rfl (fun w0 hSw => C5.out w0 hSw) (fun w0 => Try.isAgg72 w0)) (by assumption) ?_
      simp only [List.setIfInBounds_toArray, List.set_cons_zero, List.set_cons_succ]
      refine wpAnyH_ready (rs := [6]) (by kernel_rfl) (by simp) ?_
      refine AllReadyH.cons rfl (fun K hK => ?_) ?_
      · go_simp
        refine (HC.out _ (below_drew (Below.refl _ _))).mono ?_
        rintro e w7 ⟨a7, c7, rfl, hN7, hf7, hb7⟩
        dsimp only
        have HF7 : Hid (∀ x, a7 = some x → ∃ cs fr, w7.heap[x.block]? = some (.cells cs 3 fr)) := Lib.hid hf7
        clear hf7
        have HN7 := Lib.hid hN7
        have HB7 : Hid (Below w5.heap.size w5 w7) := Lib.hid ((below_drew (Below.refl _ _)).trans hb7)
        clear hN7 hb7
        refine hK.out _ _ (by (try dsimp only); exact But.of HB7.out) (fun hHeld => ?_)
        clear hK K
        refine take_at (i := 7) (v := ?_) rfl rfl (by kernel_rfl) (by kernel_rfl) (by kernel_rfl) (fun _ _ _ h => h) (Or.inl ⟨by rfl, ?_⟩) (by assumption) ?_
        rotate_left
        · intro w0 hSw; (try dsimp only at hSw); first | (go_simp; done) | (go_simp; with_reducible rfl)
        simp only [List.setIfInBounds_toArray, List.set_cons_zero, List.set_cons_succ]
        refine take_at (i := 8) (v := ?_) rfl rfl (by kernel_rfl) (by kernel_rfl) (by kernel_rfl) (fun _ _ _ h => h) (Or.inl ⟨by rfl, ?_⟩) (by assumption) ?_
        rotate_left
        · intro w0 hSw; (try dsimp only at hSw); first | (go_simp; done) | (go_simp; with_reducible rfl)
        simp only [List.setIfInBounds_toArray, List.set_cons_zero, List.set_cons_succ]
        refine wpAnyH_ready (rs := [9]) (by kernel_rfl) (by simp) ?_
        refine AllReadyH.cons rfl (fun K hK => ?_) ?_
        · refine step_store_cell (by rfl) 72 _ _ rfl g (j * 35) rfl (.slice a7 y.n c7) rfl _ (CK.out _ HB7.out) (FK.out _ HB7.out) (by kernel_rfl) rfl ?_
          refine hK.out _ _ (by (try dsimp only); exact (But.of HB7.out).setCell ⟨g, j * 35, none⟩ (.inl rfl) _) (fun hHeld => ?_)
          clear hK K
          refine wpAnyH_done (by kernel_rfl) ?_ _
          go_wp2_with fail
          go_roundw
          case rel =>
            refine ⟨j + 1, ys.set j (y.at9 a7 y.n c7), by omega, by go_num, ?_, ?_, ?_, ?_, ?_, ?_, fun _ => ?_⟩
            · exact HFIN.out _ _ _ HB7.out HN7.out
            · exact HSS.out _ _
            · exact (heap_setCell_ne hng1 _).trans ((HB7.out.block _ L15).trans HX15.out)
            · exact (heap_setCell_ne hng2 _).trans ((HB7.out.block _ L25).trans HX25.out)
            · exact below_setCell9 (HB5.out.trans (HB7.out.mono HG15.out)) HGB.out _ _
            · exact typed_set (fun i hi => ((HOK5.out i hi).below HB7.out).but (but_setCell9 _ _ _ _) (fun cs fr e => by rw [(HB7.out.block _ LG5).trans HXG5.out] at e; cases e)) hyl5 (fun h0 x e => by
                obtain ⟨cs, fr, hh⟩ := HF7.out x e
                refine ⟨cs, fr, (heap_setCell_ne (fun e2 => ?_) _).trans hh⟩
                rw [e2, (HB7.out.block _ LG5).trans HXG5.out] at hh
                cases hh)
            · exact ⟨g, _, rfl, hgge, heap_setCell_eq ((HB7.out.block _ LG5).trans HXG5.out) _ _⟩
          case measure => simp [intOf]; omega
        exact AllReadyH.nil
      exact AllReadyH.nil
    · obtain rfl : j = n := by omega
      have f1 : ¬ ((j : Int) < (j : Int)) := by omega
      go_wp2_with (first | (refine wpList_load_row rfl 41 _ rfl g1 rfl 41 #[.int .i64 m, .slice a3 j c3, .int .i64 ht] (0, 0) _ HX1.out Try.underlying41 rfl (coin_size9 m ht a3 j c3) ?_) | (refine wpList_store_row rfl 41 _ _ rfl g2 #[.int .i64 m, .slice a3 j c3, .int .i64 ht] rfl rfl 41 #[.int .i64 0, .slice none 0 0, .int .i64 0] HX2.out (coin_size9 m ht a3 j c3) rfl (coin_one9 m ht a3 j c3) ?_) | fail)
      have HWF : Hid (Ways (wr.setRow g2 #[.int .i64 m, .slice a3 j c3, .int .i64 ht]) a3 j c3 ys ∧ TypedW (wr.setRow g2 #[.int .i64 m, .slice a3 j c3, .int .i64 ht]) a3 j ys) := Lib.hid (ways_typed HWY.out ⟨fun h0 x e => by
        obtain ⟨g, cur, rfl, _, hh⟩ := HGR.out h0
        cases e
        exact ⟨_, _, hh⟩, fun y hy => by
        obtain ⟨i, hi, rfl⟩ := List.getElem_of_mem hy
        have h8 := HOK.out i (by rw [← HWY.out.1]; exact hi)
        rw [List.getD_eq_getElem?_getD, List.getElem?_eq_getElem hi] at h8
        exact h8⟩ (but_setRow _ _ _) (fun cs fr => ⟨fun e => (by rw [HX2.out] at e; cases e), fun e => (by rw [HX2.out] at e; cases e)⟩))
      have HBF : Hid (Below w.heap.size w (wr.setRow g2 #[.int .i64 m, .slice a3 j c3, .int .i64 ht])) := Lib.hid ((by have h8 := HBR.out; rw [HG1.out] at h8; exact h8 : Below w.heap.size w wr).trans ((but_setRow wr g2 _).below9 (by have := HG1.out; have := HG2.out; omega) HBR.out.size))
      have h9 := setRow_heap wr g2 _ #[.int .i64 m, .slice a3 j c3, .int .i64 ht] _ _ HX2.out
      exact bodyPost_ret (results_cell_row rfl _ _ g2 41 _ _ _ rfl h9 Try.underlying41 rfl (coin_size9 m ht a3 j c3)) rfl ⟨a3, c3, rfl, ys, HWF.out.1, HST.out, HN3.out, HWF.out.2, HBF.out⟩
end Go.Proofs.Ytdeilkpcmgcbaaa
