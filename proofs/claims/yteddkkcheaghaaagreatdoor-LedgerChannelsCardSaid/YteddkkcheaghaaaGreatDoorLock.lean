/- Ways and outs in memory: what they read as. No function of the program is named. Which ways may be: plainly, and what package lock's rise, rightHeight and Right come to. Which ways and outs are alike: plainly, and what slices.Equal, sameWay, EqualFunc, Same come to. A way is laid into a new block; and the outs that EqualFunc and Same tell alike. Outs: what RightOut, Same, To and Sole come to. What Sole comes to. What ways say, without where they lie. No function of the program is named. An out's bytes, and the out that is read of bytes: plainly; each is the other's. What lock.Put comes to: an out's bytes are written. -/
import Derived.Test.YteddkkcheaghaaaGreatDoorNumbers
import Derived.Test.YteddkkcheaghaaaGreatDoorMemory
import Derived.Deep.CutRange
import Derived.Deep.QuietTactic
import Derived.BigQuiet
import Derived.BigRegion
import Derived.Outline
import Derived.Stop.BytesEq
import Derived.IntWalk
import Derived.WalkSmall
import Derived.Test.YteddkkcheaghaaaGreatDoorShelf
import Derived.Test.YteddkkcheaghaaaGreatDoorWanted
import Derived.Test.YteddkkcheaghaaaGreatDoorWire
namespace Go.Proofs.YteddkkcheaghaaaGreatDoor
open Go.RowKit

/-- What a way has, and where its keys lie. -/
structure PWay where
  a : Option Addr
  n : Nat
  c : Nat
  ks : List Int
  h : List UInt8
  after : Int
  wait : Int
def noWay : PWay := ⟨none, 0, 0, [], zero32, 0, 0⟩
def PWay.cells (x : PWay) : List Value := .slice x.a x.n x.c :: (cellsOf x.h ++ [.int .i64 x.after, .int .i64 x.wait])
/-- A way that may stand in this world. -/
structure WayIn (w : World) (x : PWay) : Prop where
  keys : Numbers w x.a x.n x.c x.ks
  sum : x.h.length = 32
  after : Fits x.after
  wait : Fits x.wait
theorem WayIn.below {w w' : World} {x : PWay} (h : WayIn w x) (hb : Below w.heap.size w w') : WayIn w' x := ⟨h.keys.below hb, h.sum, h.after, h.wait⟩
theorem zero32_len : zero32.length = 32 := by decide
theorem PWay.cells_len {x : PWay} (h : x.h.length = 32) : x.cells.length = 35 := by simp [PWay.cells, cellsOf_len, h]
theorem PWay.cells_one (x : PWay) : ∀ v ∈ x.cells, v.oneCell' = true := by
  intro v hv
  simp only [PWay.cells, List.mem_cons, List.mem_append, List.not_mem_nil, or_false] at hv
  rcases hv with rfl | hv | rfl | rfl
  · rfl
  · exact cellsOf_one _ v hv
  · rfl
  · rfl
/-- The parts of a way whose cells lie somewhere. -/
theorem way_keys {w : World} {b o : Nat} {x : PWay} (h : w.rangeAt b o x.cells) : w.cell? ⟨b, o, none⟩ = some (.slice x.a x.n x.c) := h 0 _ rfl
theorem way_sum {w : World} {b o : Nat} {x : PWay} (hx : x.h.length = 32) (h : w.rangeAt b o x.cells) : w.rangeAt b (o + 1) (cellsOf x.h) := fun j v hv => by
  have hj : j < 32 := by
    have := (List.getElem?_eq_some_iff.1 hv).1
    rw [cellsOf_len, hx] at this
    exact this
  have := h (j + 1) v (by
    show (Value.slice x.a x.n x.c :: (cellsOf x.h ++ [.int .i64 x.after, .int .i64 x.wait]))[j + 1]? = some v
    rw [List.getElem?_cons_succ, List.getElem?_append_left (by rw [cellsOf_len, hx]; exact hj)]
    exact hv)
  rw [show o + 1 + j = o + (j + 1) by omega]
  exact this
theorem way_after {w : World} {b o : Nat} {x : PWay} (hx : x.h.length = 32) (h : w.rangeAt b o x.cells) : w.cell? ⟨b, o + 33, none⟩ = some (.int .i64 x.after) := h 33 _ (by
  show (Value.slice x.a x.n x.c :: (cellsOf x.h ++ [.int .i64 x.after, .int .i64 x.wait]))[32 + 1]? = _
  rw [List.getElem?_cons_succ, List.getElem?_append_right (by rw [cellsOf_len, hx]; omega), cellsOf_len, hx]
  rfl)
theorem way_wait {w : World} {b o : Nat} {x : PWay} (hx : x.h.length = 32) (h : w.rangeAt b o x.cells) : w.cell? ⟨b, o + 34, none⟩ = some (.int .i64 x.wait) := h 34 _ (by
  show (Value.slice x.a x.n x.c :: (cellsOf x.h ++ [.int .i64 x.after, .int .i64 x.wait]))[33 + 1]? = _
  rw [List.getElem?_cons_succ, List.getElem?_append_right (by rw [cellsOf_len, hx]; omega), cellsOf_len, hx]
  rfl)
theorem Tryz.size170 : (Tryz.prog.info? 170).map (·.size) = some 35 := by kernel_rfl
theorem way_size {x : PWay} (h : x.h.length = 32) : (Tryz.prog.info? 170).map (·.size) = some x.cells.length := by rw [PWay.cells_len h]; exact Tryz.size170
theorem way_sizeA {x : PWay} (h : x.h.length = 32) : (Tryz.prog.info? 170).map (·.size) = some x.cells.toArray.size := by rw [List.size_toArray]; exact way_size h

/-- A slice of ways. -/
def Ways (w : World) (a : Option Addr) (n c : Nat) (xs : List PWay) : Prop :=
  xs.length = n ∧ n ≤ c ∧ c ≤ maxLen ∧ (a = none → c = 0) ∧ (∀ x ∈ xs, WayIn w x) ∧
  (0 < n → ∃ b off, a = some ⟨b, off, none⟩ ∧ b < w.heap.size ∧ ∀ j, j < n → w.rangeAt b (off + j * 35) (xs.getD j noWay).cells)
theorem Ways.below {w w' : World} {n c : Nat} {a : Option Addr} {xs : List PWay} (h : Ways w a n c xs) (hb : Below w.heap.size w w') : Ways w' a n c xs := by
  obtain ⟨h1, h2, h3, h4, h6, h5⟩ := h
  refine ⟨h1, h2, h3, h4, fun x hx => (h6 x hx).below hb, fun h0 => ?_⟩
  obtain ⟨b, off, rfl, hlt, hc⟩ := h5 h0
  exact ⟨b, off, rfl, Nat.lt_of_lt_of_le hlt hb.size, fun j hj => rangeAt_below (hc j hj) hlt hb⟩
theorem Ways.nil (w : World) : Ways w none 0 0 [] := ⟨rfl, Nat.le_refl _, Nat.zero_le _, fun _ => rfl, (fun _ h => by cases h), fun h => by omega⟩
theorem Ways.way {w : World} {n c j : Nat} {a : Option Addr} {xs : List PWay} (h : Ways w a n c xs) (hj : j < n) : WayIn w (xs.getD j noWay) := by
  have hj' : j < xs.length := by rw [h.1]; exact hj
  rw [List.getD_eq_getElem?_getD, List.getElem?_eq_getElem hj']
  exact h.2.2.2.2.1 _ (List.getElem_mem hj')
/-- A block of one way. -/
theorem ways_one {w : World} {g : Nat} {x : PWay} {t : TypeId} {fr : Nat × Nat} (h : w.heap[g]? = some (.cells x.cells.toArray t fr)) (hx : WayIn w x) : Ways w (some ⟨g, 0, none⟩) 1 1 [x] := by
  refine ⟨rfl, Nat.le_refl _, by unfold maxLen; omega, (fun e => by cases e), fun y hy => by simp at hy; subst hy; exact hx, fun _ => ⟨g, 0, rfl, lt_of_block h, fun j hj => ?_⟩⟩
  obtain rfl : j = 0 := by omega
  exact range_of h
end Go.Proofs.YteddkkcheaghaaaGreatDoor
namespace Go.Proofs.YteddkkcheaghaaaGreatDoor
open Go.RowKit

/-- Keys that rise, from 'least' on, none above 255. -/
def rises (least : Int) : List Int → Bool
  | [] => true
  | k :: l => if k < least then false else if 255 < k then false else rises (k + 1) l
theorem rises_low {s k : Int} {l : List Int} (h : k < s) : rises s (k :: l) = false := by unfold rises; rw [if_pos h]
theorem rises_high {s k : Int} {l : List Int} (h : ¬ k < s) (h' : 255 < k) : rises s (k :: l) = false := by unfold rises; rw [if_neg h, if_pos h']
theorem rises_more {s k : Int} {l : List Int} (h : ¬ k < s) (h' : ¬ 255 < k) : rises s (k :: l) = rises (k + 1) l := by rw [rises, if_neg h, if_neg h']
def okHeight (z : Int) : Bool := decide (0 ≤ z ∧ z ≤ 1073741824)
theorem okHeight_yes {z : Int} (h : 0 ≤ z) (h' : z ≤ 1073741824) : okHeight z = true := decide_eq_true ⟨h, h'⟩
theorem okHeight_no {z : Int} (h : z < 0 ∨ 1073741824 < z) : okHeight z = false := decide_eq_false (by omega)
def wayOk (x : PWay) : Bool := decide (x.ks.length ≤ 16) && (rises 0 x.ks && (okHeight x.after && okHeight x.wait))
set_option linter.unusedSimpArgs false in
set_option maxRecDepth 100000 in
set_option maxHeartbeats 1600000 in
theorem rise_any {w : World} {a : Option Addr} {n c : Nat} {zs : List Int} (h : Numbers w a n c zs) : Calls Tryz.prog 148 #[.slice a n c] w fun e w' => e = .returned (.bool (rises 0 zs)) ∧ w = w' := by
  obtain ⟨R, hR⟩ : ∃ R, R = rises 0 zs := ⟨_, rfl⟩
  rw [← hR]
  have hlen := h.1
  have hn63 : (n : Int) ≤ 9223372036854775807 := by have h1 := h.2.1; have h2 := h.2.2.1; unfold maxLen at h2; omega
  have H := Lib.hid h
  have HR := Lib.hid hR
  have HL := Lib.hid hlen
  clear h hR hlen
  go_enter Tryz.func148, Tryz.ntmps148
  go_wp2
  go_loop [3, 8] (fun s i => ∃ (k : Nat) (S : Int), k ≤ n ∧ i = .int .i64 k ∧ s = .int .i64 S ∧ 0 ≤ S ∧ S ≤ 256 ∧ R = rises S (zs.drop k)) (fun _ i => n - (intOf i).toNat)
  case atStart => exact ⟨0, 0, Nat.zero_le _, rfl, rfl, Int.le_refl _, by omega, HR.out⟩
  case round =>
    obtain ⟨k, S, hk, rfl, rfl, hS0, hS1, hRk⟩ := hrel
    by_cases hkn : k < n
    · have f1 : (k : Int) < (n : Int) := by omega
      have f0 : (0 : Int) ≤ (k : Int) := by omega
      have ft : ((k : Int)).toNat = k := by omega
      obtain ⟨b, off, rfl, _, hcells⟩ := H.out.2.2.2.2.2 (by omega)
      have hc := hcells k hkn
      obtain ⟨z1, z2⟩ := H.out.fits hkn
      rw [drop_cons (by rw [HL.out]; exact hkn)] at hRk
      obtain ⟨z, hz⟩ : ∃ z, z = zs.getD k 0 := ⟨_, rfl⟩
      rw [← hz] at hc z1 z2 hRk
      have HRK := Lib.hid hRk
      clear hRk hz hcells HR
      by_cases h1 : z < S
      · have hR5 := HRK.out
        rw [rises_low h1] at hR5
        subst hR5
        go_wp2
        go_ret
        exact ⟨rfl, rfl⟩
      · by_cases h2 : 255 < z
        · have hR5 := HRK.out
          rw [rises_high h1 h2] at hR5
          subst hR5
          go_wp2
          go_ret
          exact ⟨rfl, rfl⟩
        · have hR5 := HRK.out
          rw [rises_more h1 h2] at hR5
          have HR5 := Lib.hid hR5
          have iw : IntKind.i64.wrap (z + 1) = z + 1 := IntWalk.i64_in _ (by omega)
          have g0 : 0 ≤ z + 1 := by omega
          have g1 : z + 1 ≤ 256 := by omega
          clear hR5 HRK
          go_wp2
          go_round
          case rel => exact ⟨k + 1, z + 1, by omega, by go_num, rfl, g0, g1, HR5.out⟩
          case measure => simp [intOf]; omega
    · have f1 : ¬ ((k : Int) < (n : Int)) := by omega
      have hd : zs.drop k = [] := List.drop_of_length_le (by rw [HL.out]; omega)
      rw [hd] at hRk
      have hRk : R = true := hRk
      subst hRk
      clear HR
      go_wp2
      go_ret
      exact ⟨rfl, rfl⟩
theorem height_any (z : Int) (w : World) : Calls Tryz.prog 149 #[.int .i64 z] w fun e w' => e = .returned (.bool (okHeight z)) ∧ w = w' := by
  by_cases h1 : 0 ≤ z
  · by_cases h2 : z ≤ 1073741824
    · rw [okHeight_yes h1 h2]
      go_enter Tryz.func149, Tryz.ntmps149
      go_wp2
      go_ret
      exact ⟨rfl, rfl⟩
    · rw [okHeight_no (by omega)]
      go_enter Tryz.func149, Tryz.ntmps149
      go_wp2
      go_ret
      exact ⟨rfl, rfl⟩
  · rw [okHeight_no (by omega)]
    go_enter Tryz.func149, Tryz.ntmps149
    go_wp2
    go_ret
    exact ⟨rfl, rfl⟩
/-- A way that was laid into a new block. -/
theorem way_boxed {w : World} {x : PWay} (h : WayIn w x) (t : TypeId) : ∃ v, (w.alloc (.cells x.cells.toArray t)) = v ∧ Below w.heap.size w v ∧ w.heap.size < v.heap.size ∧ WayIn v x ∧ v.rangeAt w.heap.size 0 x.cells :=
  ⟨_, rfl, (Below.refl _ _).alloc (Nat.le_refl _) _, by simp, h.below ((Below.refl _ _).alloc (Nat.le_refl _) _), range_of (heap_alloc_new _ _)⟩
set_option linter.unusedSimpArgs false in
set_option maxRecDepth 100000 in
set_option maxHeartbeats 1600000 in
theorem lockRight_any {w : World} {x : PWay} (h : WayIn w x) : Calls Tryz.prog 91 #[.agg x.cells.toArray] w fun e w' => e = .returned (.bool (wayOk x)) ∧ Below w.heap.size w w' := by
  obtain ⟨b0, r1, hb0⟩ : ∃ b0 r1, wayOk x = (b0 && (r1 && (okHeight x.after && okHeight x.wait))) ∧ b0 = decide (x.n ≤ 16) ∧ r1 = rises 0 x.ks := ⟨_, _, rfl, by rw [h.keys.1], rfl⟩
  obtain ⟨r2, hr2⟩ : ∃ r, okHeight x.after = r := ⟨_, rfl⟩
  obtain ⟨r3, hr3⟩ : ∃ r, okHeight x.wait = r := ⟨_, rfl⟩
  obtain ⟨hb0, hb1, hr1⟩ := hb0
  rw [hb0, hr2, hr3]
  have hri : ∀ W : World, Below w.heap.size w W → Calls Tryz.prog 148 #[.slice x.a x.n x.c] W fun e w' => e = .returned (.bool r1) ∧ W = w' := fun W hW => by rw [hr1]; exact rise_any (h.keys.below hW)
  have hh2 : ∀ W : World, Calls Tryz.prog 149 #[.int .i64 x.after] W fun e w' => e = .returned (.bool r2) ∧ W = w' := fun W => by rw [← hr2]; exact height_any _ W
  have hh3 : ∀ W : World, Calls Tryz.prog 149 #[.int .i64 x.wait] W fun e w' => e = .returned (.bool r3) ∧ W = w' := fun W => by rw [← hr3]; exact height_any _ W
  have HRI := Lib.hid hri
  have HH2 := Lib.hid hh2
  have HH3 := Lib.hid hh3
  have hn63 : (x.n : Int) ≤ 9223372036854775807 := by have h1 := h.keys.2.1; have h2 := h.keys.2.2.1; unfold maxLen at h2; omega
  clear hri hh2 hh3 hb0 hr1 hr2 hr3
  go_enter Tryz.func91, Tryz.ntmps91
  go_upto_region 1 with (fail)
  obtain ⟨v, hv, hb, hlt, hx, hrg⟩ := way_boxed h 170
  rw [hv]
  have c0 := way_keys hrg
  have c1 := way_after hx.sum hrg
  have c2 := way_wait hx.sum hrg
  rw [Nat.zero_add] at c1 c2
  have HB := Lib.hid hb
  obtain ⟨g, hg⟩ : ∃ g, g = w.heap.size := ⟨_, rfl⟩
  rw [← hg] at c0 c1 c2 ⊢
  clear hv hrg hx h hb hg hlt
  by_cases hn : x.n ≤ 16
  · have f1 : (x.n : Int) ≤ 16 := by omega
    rw [decide_eq_true hn] at hb1
    subst hb1
    cases r1 <;> cases r2 <;> cases r3
    all_goals
      go_wp2_with (first | (go_at_call 148; (with_reducible refine (HRI.out _ HB.out).mono ?_); rintro e w' ⟨rfl, rfl⟩) | (go_at_call 149; first | ((with_reducible refine (HH2.out _).mono ?_); rintro e w' ⟨rfl, rfl⟩) | ((with_reducible refine (HH3.out _).mono ?_); rintro e w' ⟨rfl, rfl⟩)) | fail)
      go_ret
      exact ⟨rfl, HB.out⟩
  · have f1 : ¬ (x.n : Int) ≤ 16 := by omega
    rw [decide_eq_false hn] at hb1
    subst hb1
    go_wp2
    go_ret
    exact ⟨rfl, HB.out⟩
end Go.Proofs.YteddkkcheaghaaaGreatDoor
namespace Go.Proofs.YteddkkcheaghaaaGreatDoor
open Go.RowKit

def alikeW (x y : PWay) : Bool := decide (x.ks = y.ks) && (decide (x.h = y.h) && (decide (x.after = y.after) && decide (x.wait = y.wait)))
/-- Two slices of numbers are equal. -/
theorem equal_any {w : World} {a b : Option Addr} {n c m d : Nat} {xs ys : List Int} (h : Numbers w a n c xs) (k : Numbers w b m d ys) :
    Calls Tryz.prog 173 #[.slice a n c, .slice b m d] w fun e w' => e = .returned (.bool (decide (xs = ys))) ∧ Below w.heap.size w w' := by
  have hn : n ≤ 9223372036854775807 := by have h1 := h.2.1; have h2 := h.2.2.1; unfold maxLen at h2; omega
  have hm : m ≤ 9223372036854775807 := by have h1 := k.2.1; have h2 := k.2.2.1; unfold maxLen at h2; omega
  by_cases hnm : n = m
  · subst hnm
    by_cases h0 : n = 0
    · subst h0
      obtain rfl : xs = [] := List.eq_nil_of_length_eq_zero h.1
      obtain rfl : ys = [] := List.eq_nil_of_length_eq_zero k.1
      exact (Tryz.slices_Equal_int_empty a b c 0 d w hm).mono fun e w' ⟨he, hw⟩ => ⟨by rw [he]; rfl, by rw [hw]; exact Below.refl _ _⟩
    · obtain ⟨b1, o1, rfl, _, hc1⟩ := h.2.2.2.2.2 (by omega)
      obtain ⟨b2, o2, rfl, _, hc2⟩ := k.2.2.2.2.2 (by omega)
      refine (Tryz.slices_Equal_int b1 o1 n c b2 o2 n d xs ys w (by rw [h.1]; exact Nat.le_refl _) (by rw [k.1]; exact Nat.le_refl _) hn hm (fun j hj => hc1 j (by rw [← h.1]; exact hj)) (fun j hj => hc2 j (by rw [← k.1]; exact hj))).mono ?_
      rintro e w' ⟨he, q, hw⟩
      have e1 : xs.take n = xs := List.take_of_length_le (by rw [h.1]; exact Nat.le_refl _)
      have e2 : ys.take n = ys := List.take_of_length_le (by rw [k.1]; exact Nat.le_refl _)
      rw [e1, e2] at he
      refine ⟨by rw [he]; congr 2; rw [Bool.eq_iff_iff]; simp, by rw [hw]; exact ⟨rfl, rfl, rfl, Nat.le_refl _, fun _ _ => rfl⟩⟩
  · refine (Tryz.slices_Equal_int_lens a b n c m d w hnm).mono fun e w' ⟨he, hw⟩ => ⟨?_, by rw [hw]; exact Below.refl _ _⟩
    rw [he]
    have : xs ≠ ys := fun e => hnm (by rw [← h.1, ← k.1, e])
    rw [decide_eq_false this]
theorem sumLen {s : List UInt8} (h : s.length = 32) : (Tryz.prog.info? 28).map (·.size) = some (cellsOf s).length := by rw [cellsOf_len, h]; exact Tryz.size28
set_option linter.unusedSimpArgs false in
set_option maxRecDepth 100000 in
set_option maxHeartbeats 3200000 in
theorem sameWay_any {w : World} {x y : PWay} (h : WayIn w x) (k : WayIn w y) : Calls Tryz.prog 118 #[.agg x.cells.toArray, .agg y.cells.toArray] w fun e w' => e = .returned (.bool (alikeW x y)) ∧ Below w.heap.size w w' := by
  obtain ⟨r1, hr1⟩ : ∃ r, decide (x.ks = y.ks) = r := ⟨_, rfl⟩
  obtain ⟨r2, hr2⟩ : ∃ r, decide (x.h = y.h) = r := ⟨_, rfl⟩
  unfold alikeW
  rw [hr1, hr2]
  have heq : ∀ W : World, Below w.heap.size w W → Calls Tryz.prog 173 #[.slice x.a x.n x.c, .slice y.a y.n y.c] W fun e w' => e = .returned (.bool r1) ∧ Below W.heap.size W w' := fun W hW => by rw [← hr1]; exact equal_any (h.keys.below hW) (k.keys.below hW)
  have q2 : ∀ W : World, (Op.equalIn 10000 28 (.agg (cellsOf x.h).toArray) (.agg (cellsOf y.h).toArray)).run Tryz.prog W = .ok r2 W := fun W => by rw [← hr2]; exact run_eqSums _ _ h.sum k.sum W
  have HEQ := Lib.hid heq
  have SX := Lib.hid (sumLen h.sum)
  have SY := Lib.hid (sumLen k.sum)
  obtain ⟨p, hp⟩ : ∃ p, p = x.after := ⟨_, rfl⟩
  obtain ⟨q, hq⟩ : ∃ q, q = y.after := ⟨_, rfl⟩
  obtain ⟨p', hp'⟩ : ∃ p, p = x.wait := ⟨_, rfl⟩
  obtain ⟨q', hq'⟩ : ∃ q, q = y.wait := ⟨_, rfl⟩
  rw [← hp, ← hq, ← hp', ← hq']
  obtain ⟨t1, ht1⟩ : ∃ r, decide (p = q) = r := ⟨_, rfl⟩
  obtain ⟨t2, ht2⟩ : ∃ r, decide (p' = q') = r := ⟨_, rfl⟩
  rw [ht1, ht2]
  have hu1 : (p == q) = t1 := by rw [← ht1]; rfl
  have hu2 : (p' == q') = t2 := by rw [← ht2]; rfl
  clear heq hr1 hr2
  go_enter Tryz.func118, Tryz.ntmps118
  go_upto_region 1 with (fail)
  obtain ⟨v, hv, hb, hlt, hx, hrg⟩ := way_boxed h 170
  rw [hv]
  obtain ⟨g, hg⟩ : ∃ g, g = w.heap.size := ⟨_, rfl⟩
  rw [← hg] at hrg hlt ⊢
  obtain ⟨v1, hv1, hb1, hlt1, hy1, hrg1⟩ := way_boxed (k.below hb) 170
  have hgs : v.heap.size = g + 1 := by rw [← hv, hg]; simp
  rw [hv1]
  rw [hgs] at hrg1 hlt1
  have hr0 := rangeAt_below hrg hlt hb1
  have HB := Lib.hid (hb.trans (hb1.mono hb.size))
  have c0 := way_keys hr0
  have c1 := way_after h.sum hr0
  have c2 := way_wait h.sum hr0
  have d0 := way_keys hrg1
  have d1 := way_after k.sum hrg1
  have d2 := way_wait k.sum hrg1
  have RX := Lib.hid (way_sum h.sum hr0)
  have RY := Lib.hid (way_sum k.sum hrg1)
  rw [Nat.zero_add] at c1 c2 d1 d2 RX RY
  rw [← hp] at c1
  rw [← hq] at d1
  rw [← hp'] at c2
  rw [← hq'] at d2
  clear hv1 hb1 hrg1 hr0 hrg hv hx hy1 hb hp hq hp' hq' h k hg hgs
  cases r1
  · go_wp2_with (first | (go_at_call 173; (with_reducible refine (HEQ.out _ HB.out).mono ?_); rintro e w' ⟨rfl, hb2⟩; have HB2 := Lib.hid hb2; clear hb2) | fail)
    go_ret
    exact ⟨rfl, HB.out.trans (HB2.out.mono HB.out.size)⟩
  · go_wp2_with fail
    refine (HEQ.out _ HB.out).mono ?_
    rintro e w2 ⟨rfl, hb2⟩
    have HB2 := Lib.hid (HB.out.trans (hb2.mono HB.out.size))
    have hltg : g < v1.heap.size := by omega
    have e1 := (hb2.cell (p := ⟨g, 33, none⟩) hltg).trans c1
    have e2 := (hb2.cell (p := ⟨g, 34, none⟩) hltg).trans c2
    have f1 := (hb2.cell (p := ⟨g + 1, 33, none⟩) hlt1).trans d1
    have f2 := (hb2.cell (p := ⟨g + 1, 34, none⟩) hlt1).trans d2
    have RX2 := Lib.hid (rangeAt_below RX.out hltg hb2)
    have RY2 := Lib.hid (rangeAt_below RY.out hlt1 hb2)
    clear c0 c1 c2 d0 d1 d2 RX RY hb2 hlt hlt1 hltg
    cases r2
    · go_wp2_with (first | (refine wpList_mid_wanted (by rfl) 28 _ rfl g 1 rfl (cellsOf x.h) _ RX2.out Tryz.underlying28 rfl SX.out ?_) | (refine wpList_mid_wanted (by rfl) 28 _ rfl (g + 1) 1 rfl (cellsOf y.h) _ RY2.out Tryz.underlying28 rfl SY.out ?_) | fail)
      go_ret
      exact ⟨rfl, HB2.out⟩
    · cases t1
      · go_wp2_with (first | (refine wpList_mid_wanted (by rfl) 28 _ rfl g 1 rfl (cellsOf x.h) _ RX2.out Tryz.underlying28 rfl SX.out ?_) | (refine wpList_mid_wanted (by rfl) 28 _ rfl (g + 1) 1 rfl (cellsOf y.h) _ RY2.out Tryz.underlying28 rfl SY.out ?_) | fail)
        go_ret
        exact ⟨rfl, HB2.out⟩
      · go_wp2_with (first | (refine wpList_mid_wanted (by rfl) 28 _ rfl g 1 rfl (cellsOf x.h) _ RX2.out Tryz.underlying28 rfl SX.out ?_) | (refine wpList_mid_wanted (by rfl) 28 _ rfl (g + 1) 1 rfl (cellsOf y.h) _ RY2.out Tryz.underlying28 rfl SY.out ?_) | fail)
        go_ret
        exact ⟨rfl, HB2.out⟩
end Go.Proofs.YteddkkcheaghaaaGreatDoor
namespace Go.Proofs.YteddkkcheaghaaaGreatDoor
open Go.RowKit

theorem noWay_is : noWay.cells.toArray = #[.slice none 0 0, .int .u8 0, .int .u8 0, .int .u8 0, .int .u8 0, .int .u8 0, .int .u8 0, .int .u8 0, .int .u8 0, .int .u8 0, .int .u8 0, .int .u8 0, .int .u8 0, .int .u8 0, .int .u8 0, .int .u8 0, .int .u8 0, .int .u8 0, .int .u8 0, .int .u8 0, .int .u8 0, .int .u8 0, .int .u8 0, .int .u8 0, .int .u8 0, .int .u8 0, .int .u8 0, .int .u8 0, .int .u8 0, .int .u8 0, .int .u8 0, .int .u8 0, .int .u8 0, .int .i64 0, .int .i64 0] := rfl
/-- A world with one way more. -/
def layWay (w : World) (x : PWay) : World := (w.alloc (.cells noWay.cells.toArray 170)).setRow w.heap.size x.cells.toArray
theorem layWay_is (w : World) (x : PWay) : (w.alloc (.cells noWay.cells.toArray 170)).setRow w.heap.size x.cells.toArray = layWay w x := rfl
theorem layWay_heap (w : World) (x : PWay) : (layWay w x).heap[w.heap.size]? = some (.cells x.cells.toArray 170 (0, 0)) := setRow_heap _ _ _ _ _ _ (heap_alloc_new _ _)
theorem layWay_below {w0 w : World} (x : PWay) (hb : Below w0.heap.size w0 w) : Below w0.heap.size w0 (layWay w x) := by
  have b : Below w0.heap.size w0 (w.alloc (.cells noWay.cells.toArray 170)) := hb.alloc hb.size _
  exact b.trans (((but_setRow _ w.heap.size _).mono b.size).below hb.size)
theorem layWay_self (w : World) (x : PWay) : Below w.heap.size w (layWay w x) := layWay_below x (Below.refl _ _)
theorem layWay_size (w : World) (x : PWay) : (layWay w x).heap.size = w.heap.size + 1 := by simp [layWay, World.setRow]
theorem way_zero {x : PWay} (h : x.h.length = 32) : noWay.cells.toArray.size = x.cells.toArray.size := by rw [List.size_toArray, List.size_toArray, PWay.cells_len h]; rfl
theorem ways_drop {xs : List PWay} {j : Nat} (h : j < xs.length) : xs.drop j = xs.getD j noWay :: xs.drop (j + 1) := by
  rw [List.drop_eq_getElem_cons h]
  simp [List.getD, h]
/-- Ways alike, one by one. -/
def alikeWs : List PWay → List PWay → Bool
  | [], [] => true
  | x :: xs, y :: ys => alikeW x y && alikeWs xs ys
  | _, _ => false
theorem alikeWs_len : ∀ {xs ys : List PWay}, xs.length ≠ ys.length → alikeWs xs ys = false
  | [], [], h => absurd rfl h
  | [], _ :: _, _ => rfl
  | _ :: _, [], _ => rfl
  | x :: xs, y :: ys, h => by
    have := alikeWs_len (xs := xs) (ys := ys) (fun e => h (by simp [e]))
    simp [alikeWs, this]
set_option linter.unusedSimpArgs false in
set_option maxRecDepth 100000 in
set_option maxHeartbeats 3200000 in
theorem equalFunc_any {w : World} {a b : Option Addr} {n c m d : Nat} {xs ys : List PWay} (h : Ways w a n c xs) (k : Ways w b m d ys) :
    Calls Tryz.prog 117 #[.slice a n c, .slice b m d, .func (.func 118) #[] #[]] w fun e w' => e = .returned (.bool (alikeWs xs ys)) ∧ Below w.heap.size w w' := by
  have hn63 : (n : Int) ≤ 9223372036854775807 := by have h1 := h.2.1; have h2 := h.2.2.1; unfold maxLen at h2; omega
  have hm63 : (m : Int) ≤ 9223372036854775807 := by have h1 := k.2.1; have h2 := k.2.2.1; unfold maxLen at h2; omega
  by_cases hnm : n = m
  · subst hnm
    obtain ⟨R, hR⟩ : ∃ R, R = alikeWs xs ys := ⟨_, rfl⟩
    rw [← hR]
    have H := Lib.hid h
    have K := Lib.hid k
    have HR := Lib.hid hR
    clear h k hR
    go_enter Tryz.func117, Tryz.ntmps117
    go_upto_region 4 with (fail)
    go_loopw [17] (fun x wr => ∃ j : Nat, j ≤ n ∧ x = .int .i64 j ∧ Below w.heap.size w wr ∧ R = alikeWs (xs.drop j) (ys.drop j)) (fun x _ => n - (intOf x).toNat)
    case atStart => exact ⟨0, Nat.zero_le _, rfl, Below.refl _ _, HR.out⟩
    case round =>
      obtain ⟨j, hj, rfl, hb, hRj⟩ := hrel
      have HB := Lib.hid hb
      have HRJ := Lib.hid hRj
      clear hb hRj HR
      by_cases hjn : j < n
      · have f1 : (j : Int) < (n : Int) := by omega
        have f0 : (0 : Int) ≤ (j : Int) := by omega
        have ft : ((j : Int)).toNat = j := by omega
        have hbx := HB.out
        obtain ⟨b1, o1, e1, hlt1, hc1⟩ := (H.out.below hbx).2.2.2.2.2 (by omega)
        obtain ⟨b2, o2, e2, hlt2, hc2⟩ := (K.out.below hbx).2.2.2.2.2 (by omega)
        have hx := (H.out.below hbx).way hjn
        have hy := (K.out.below hbx).way hjn
        have hrx := hc1 j hjn
        have hry := hc2 j hjn
        have hRj := HRJ.out
        rw [ways_drop (xs := xs) (by rw [H.out.1]; exact hjn), ways_drop (xs := ys) (by rw [K.out.1]; exact hjn)] at hRj
        revert hx hy hrx hry hRj
        generalize xs.getD j noWay = x
        generalize ys.getD j noWay = y
        intro hx hy hrx hry hRj
        replace hRj : R = (alikeW x y && alikeWs (xs.drop (j + 1)) (ys.drop (j + 1))) := hRj
        subst e1
        subst e2
        have HRJ := Lib.hid hRj
        have RX := Lib.hid hrx
        have RY := Lib.hid (rangeAt_below hry hlt2 (layWay_self wr x))
        have SX := Lib.hid (way_size hx.sum)
        have SY := Lib.hid (way_size hy.sum)
        have AX := Lib.hid (way_sizeA hx.sum)
        have AY := Lib.hid (way_sizeA hy.sum)
        have ZX := Lib.hid (way_zero hx.sum)
        have ZY := Lib.hid (way_zero hy.sum)
        have HX := Lib.hid hx
        have HY := Lib.hid hy
        clear hc1 hc2 hrx hry hRj hx hy hbx H K
        go_upto_region 6 with (first | (refine wpList_load_mid rfl 170 _ rfl b1 (o1 + j * 35) rfl x.cells _ RX.out Tryz.underlying170 rfl SX.out ?_) | (refine wpList_store_row rfl 170 _ _ rfl wr.heap.size x.cells.toArray rfl rfl 170 noWay.cells.toArray (heap_alloc_new _ _) AX.out ZX.out (all_oneCell_toArray x.cells_one) ?_) | fail)
        rw [← noWay_is, layWay_is]
        have h5 := layWay_heap wr x
        have b5 := layWay_self wr x
        have s5 := Lib.hid (layWay_size wr x)
        revert h5 b5 s5 RY
        generalize layWay wr x = w5
        obtain ⟨g, hg⟩ : ∃ g, g = wr.heap.size := ⟨_, rfl⟩
        rw [← hg]
        intro RY h5 b5 s5
        have HG := Lib.hid hg
        clear hg
        try simp only [Act.put]
        go_upto_region 7 with (first | (refine wpList_load_mid rfl 170 _ rfl b2 (o2 + j * 35) rfl y.cells _ RY.out Tryz.underlying170 rfl SY.out ?_) | (refine wpList_store_row rfl 170 _ _ rfl w5.heap.size y.cells.toArray rfl rfl 170 noWay.cells.toArray (heap_alloc_new _ _) AY.out ZY.out (all_oneCell_toArray y.cells_one) ?_) | fail)
        rw [← noWay_is, layWay_is]
        have h6 := layWay_heap w5 y
        have b6 := layWay_self w5 y
        revert h6 b6
        generalize layWay w5 y = w6
        rw [s5.out]
        intro h6 b6
        have s5 := s5.out
        have hg := HG.out
        rw [hg] at b5
        have b56 : Below wr.heap.size wr w6 := b5.trans (b6.mono (by omega))
        have H5 := Lib.hid ((b6.block g (by omega)).trans h5)
        have H6 := Lib.hid h6
        have HB6 := Lib.hid (HB.out.trans (b56.mono HB.out.size))
        have HSW := Lib.hid (sameWay_any (HX.out.below b56) (HY.out.below b56))
        clear h5 b5 b6 h6 b56 hg s5 RX RY
        generalize alikeW x y = r at *
        try simp only [Act.put]
        cases r
        · have hRf : R = false := HRJ.out
          subst hRf
          go_wp2_with (first | (refine wpList_load_row rfl 170 _ rfl g rfl 170 x.cells.toArray (0, 0) _ H5.out Tryz.underlying170 rfl AX.out ?_) | (refine wpList_load_row rfl 170 _ rfl (g + 1) rfl 170 y.cells.toArray (0, 0) _ H6.out Tryz.underlying170 rfl AY.out ?_) | (go_at_call 118; (with_reducible refine HSW.out.mono ?_); rintro e w7 ⟨rfl, hb7⟩; have HB7 := Lib.hid hb7; clear hb7) | fail)
          go_ret
          exact ⟨rfl, HB6.out.trans (HB7.out.mono HB6.out.size)⟩
        · have hRt : R = alikeWs (xs.drop (j + 1)) (ys.drop (j + 1)) := HRJ.out
          have HRN := Lib.hid hRt
          clear hRt HRJ
          go_wp2_with (first | (refine wpList_load_row rfl 170 _ rfl g rfl 170 x.cells.toArray (0, 0) _ H5.out Tryz.underlying170 rfl AX.out ?_) | (refine wpList_load_row rfl 170 _ rfl (g + 1) rfl 170 y.cells.toArray (0, 0) _ H6.out Tryz.underlying170 rfl AY.out ?_) | (go_at_call 118; (with_reducible refine HSW.out.mono ?_); rintro e w7 ⟨rfl, hb7⟩; have HB7 := Lib.hid hb7; clear hb7) | fail)
          go_roundw
          case rel => exact ⟨j + 1, by omega, by go_num, HB6.out.trans (HB7.out.mono HB6.out.size), HRN.out⟩
          case measure => simp [intOf]; omega
      · have f1 : ¬ ((j : Int) < (n : Int)) := by omega
        have e1 : xs.drop j = [] := List.drop_of_length_le (by rw [H.out.1]; omega)
        have e2 : ys.drop j = [] := List.drop_of_length_le (by rw [K.out.1]; omega)
        have hRt : R = true := by rw [HRJ.out, e1, e2]; rfl
        subst hRt
        clear e1 e2 HRJ
        go_wp2
        go_ret
        exact ⟨rfl, HB.out⟩
  · have hne : ¬ ((n : Int) = (m : Int)) := by omega
    rw [alikeWs_len (by rw [h.1, k.1]; exact hnm)]
    clear h k
    go_enter Tryz.func117, Tryz.ntmps117
    go_wp2
    go_ret
    exact ⟨rfl, Below.refl _ _⟩
end Go.Proofs.YteddkkcheaghaaaGreatDoor
namespace Go.Proofs.YteddkkcheaghaaaGreatDoor
open Go.RowKit

theorem rightOut1_any {w : World} {x : PWay} (h : WayIn w x) : Calls Tryz.prog 90 #[.agg x.cells.toArray] w fun e w' => e = .returned (.bool (!wayOk x)) ∧ Below w.heap.size w w' := by
  have b1 : Below w.heap.size w (w.alloc (.cells x.cells.toArray 170)) := (Below.refl _ _).alloc (Nat.le_refl _) _
  have HC := Lib.hid (lockRight_any (h.below b1))
  have HB := Lib.hid b1
  have H2 := Lib.hid (heap_alloc_new w (.cells x.cells.toArray 170))
  have AX := Lib.hid (way_sizeA h.sum)
  generalize wayOk x = r at *
  clear h b1
  go_enter Tryz.func90, Tryz.ntmps90
  go_wp2_with (first | (refine wpList_load_row rfl 170 _ rfl w.heap.size rfl 170 x.cells.toArray (0, 0) _ H2.out Tryz.underlying170 rfl AX.out ?_) | (go_at_call 91; (with_reducible refine HC.out.mono ?_); rintro e w7 ⟨rfl, hb7⟩; have HB7 := Lib.hid hb7; clear hb7) | fail)
  go_ret
  exact ⟨rfl, HB.out.trans (HB7.out.mono HB.out.size)⟩
set_option linter.unusedSimpArgs false in
set_option maxRecDepth 100000 in
set_option maxHeartbeats 3200000 in
theorem indexWay_any {w : World} {a : Option Addr} {n c : Nat} {xs : List PWay} (h : Ways w a n c xs) :
    Calls Tryz.prog 147 #[.slice a n c, .func (.func 90) #[] #[]] w fun e w' => (∃ z : Int, e = .returned (.int .i64 z) ∧ -1 ≤ z ∧ decide (0 ≤ z) = !xs.all wayOk) ∧ Below w.heap.size w w' := by
  have hn63 : (n : Int) ≤ 9223372036854775807 := by have h1 := h.2.1; have h2 := h.2.2.1; unfold maxLen at h2; omega
  obtain ⟨R, hR⟩ : ∃ R, R = xs.all wayOk := ⟨_, rfl⟩
  rw [← hR]
  have H := Lib.hid h
  have HR := Lib.hid hR
  clear h hR
  go_enter Tryz.func147, Tryz.ntmps147
  go_upto_region 2 with (fail)
  go_loopw [8] (fun x wr => ∃ j : Nat, j ≤ n ∧ x = .int .i64 j ∧ Below w.heap.size w wr ∧ R = (xs.drop j).all wayOk) (fun x _ => n - (intOf x).toNat)
  case atStart => exact ⟨0, Nat.zero_le _, rfl, Below.refl _ _, HR.out⟩
  case round =>
    obtain ⟨j, hj, rfl, hb, hRj⟩ := hrel
    have HB := Lib.hid hb
    have HRJ := Lib.hid hRj
    clear hb hRj HR
    by_cases hjn : j < n
    · have f1 : (j : Int) < (n : Int) := by omega
      have f0 : (0 : Int) ≤ (j : Int) := by omega
      have ft : ((j : Int)).toNat = j := by omega
      obtain ⟨b1, o1, e1, hlt1, hc1⟩ := (H.out.below HB.out).2.2.2.2.2 (by omega)
      have hx := (H.out.below HB.out).way hjn
      have hrx := hc1 j hjn
      have hRj := HRJ.out
      rw [ways_drop (xs := xs) (by rw [H.out.1]; exact hjn)] at hRj
      revert hx hrx hRj
      generalize xs.getD j noWay = x
      intro hx hrx hRj
      replace hRj : R = (wayOk x && (xs.drop (j + 1)).all wayOk) := hRj
      subst e1
      have HRJ := Lib.hid hRj
      have RX := Lib.hid hrx
      have SX := Lib.hid (way_size hx.sum)
      have HC := Lib.hid (rightOut1_any hx)
      clear hc1 hrx hRj hx H
      generalize wayOk x = r at *
      cases r
      · have hRf : R = false := HRJ.out
        subst hRf
        go_wp2_with (first | (refine wpList_load_mid rfl 170 _ rfl b1 (o1 + j * 35) rfl x.cells _ RX.out Tryz.underlying170 rfl SX.out ?_) | (go_at_call 90; (with_reducible refine HC.out.mono ?_); rintro e w7 ⟨rfl, hb7⟩; have HB7 := Lib.hid hb7; clear hb7) | fail)
        go_ret
        exact ⟨⟨j, rfl, by omega, by simp⟩, HB.out.trans (HB7.out.mono HB.out.size)⟩
      · have hRt : R = (xs.drop (j + 1)).all wayOk := HRJ.out
        have HRN := Lib.hid hRt
        clear hRt HRJ
        go_wp2_with (first | (refine wpList_load_mid rfl 170 _ rfl b1 (o1 + j * 35) rfl x.cells _ RX.out Tryz.underlying170 rfl SX.out ?_) | (go_at_call 90; (with_reducible refine HC.out.mono ?_); rintro e w7 ⟨rfl, hb7⟩; have HB7 := Lib.hid hb7; clear hb7) | fail)
        go_roundw
        case rel => exact ⟨j + 1, by omega, by go_num, HB.out.trans (HB7.out.mono HB.out.size), HRN.out⟩
        case measure => simp [intOf]; omega
    · have f1 : ¬ ((j : Int) < (n : Int)) := by omega
      have e1 : xs.drop j = [] := List.drop_of_length_le (by rw [H.out.1]; omega)
      have hRt : R = true := by rw [HRJ.out, e1]; rfl
      subst hRt
      clear e1 HRJ
      go_wp2
      go_ret
      exact ⟨⟨-1, rfl, by omega, by decide⟩, HB.out⟩
theorem containsWay_any {w : World} {a : Option Addr} {n c : Nat} {xs : List PWay} (h : Ways w a n c xs) :
    Calls Tryz.prog 89 #[.slice a n c, .func (.func 90) #[] #[]] w fun e w' => e = .returned (.bool (!xs.all wayOk)) ∧ Below w.heap.size w w' := by
  have HC := Lib.hid (indexWay_any h)
  generalize (!xs.all wayOk) = r at *
  clear h
  go_enter Tryz.func89, Tryz.ntmps89
  go_wp2_with fail
  refine HC.out.mono ?_
  rintro e w7 ⟨⟨z, rfl, hz, hzr⟩, hb7⟩
  have HB7 := Lib.hid hb7
  subst hzr
  clear hb7
  go_wp2_with fail
  go_ret
  exact ⟨rfl, HB7.out⟩
/-- An out may be. -/
def outOk (m : Int) (xs : List PWay) : Bool := decide (0 ≤ m ∧ m ≤ 1125899906842624) && (decide (1 ≤ xs.length ∧ xs.length ≤ 16) && xs.all wayOk)
set_option linter.unusedSimpArgs false in
set_option maxRecDepth 100000 in
set_option maxHeartbeats 1600000 in
theorem lockRightOut_any {w : World} {m : Int} {a : Option Addr} {n c : Nat} {xs : List PWay} (h : Ways w a n c xs) :
    Calls Tryz.prog 42 #[.agg #[.int .i64 m, .slice a n c]] w fun e w' => e = .returned (.bool (outOk m xs)) ∧ Below w.heap.size w w' := by
  unfold outOk
  rw [h.1]
  have hn63 : (n : Int) ≤ 9223372036854775807 := by have h1 := h.2.1; have h2 := h.2.2.1; unfold maxLen at h2; omega
  have b1 : Below w.heap.size w (w.alloc (.cells #[.int .i64 m, .slice a n c] 107)) := (Below.refl _ _).alloc (Nat.le_refl _) _
  have HC := Lib.hid (containsWay_any (h.below b1))
  have HB := Lib.hid b1
  generalize xs.all wayOk = r at *
  clear h b1
  by_cases h1 : 0 ≤ m
  · by_cases h2 : m ≤ 1125899906842624
    · rw [decide_eq_true (⟨h1, h2⟩ : 0 ≤ m ∧ m ≤ 1125899906842624), Bool.true_and]
      by_cases h3 : 1 ≤ n
      · have f3 : ¬ ((n : Int) < 1) := by omega
        by_cases h4 : n ≤ 16
        · have f4 : ¬ (16 < (n : Int)) := by omega
          rw [decide_eq_true (⟨h3, h4⟩ : 1 ≤ n ∧ n ≤ 16), Bool.true_and]
          go_enter Tryz.func42, Tryz.ntmps42
          go_wp2_with (first | (go_at_call 89; (with_reducible refine HC.out.mono ?_); rintro e w7 ⟨rfl, hb7⟩; have HB7 := Lib.hid hb7; clear hb7) | fail)
          go_ret
          exact ⟨by simp, HB.out.trans (HB7.out.mono HB.out.size)⟩
        · have f4 : 16 < (n : Int) := by omega
          rw [decide_eq_false (show ¬ (1 ≤ n ∧ n ≤ 16) by omega), Bool.false_and]
          go_enter Tryz.func42, Tryz.ntmps42
          go_wp2
          go_ret
          exact ⟨rfl, HB.out⟩
      · have f3 : (n : Int) < 1 := by omega
        rw [decide_eq_false (show ¬ (1 ≤ n ∧ n ≤ 16) by omega), Bool.false_and]
        go_enter Tryz.func42, Tryz.ntmps42
        go_wp2
        go_ret
        exact ⟨rfl, HB.out⟩
    · rw [decide_eq_false (show ¬ (0 ≤ m ∧ m ≤ 1125899906842624) by omega), Bool.false_and]
      go_enter Tryz.func42, Tryz.ntmps42
      go_wp2
      go_ret
      exact ⟨rfl, HB.out⟩
  · rw [decide_eq_false (show ¬ (0 ≤ m ∧ m ≤ 1125899906842624) by omega), Bool.false_and]
    go_enter Tryz.func42, Tryz.ntmps42
    go_wp2
    go_ret
    exact ⟨rfl, HB.out⟩
theorem to_any (key m : Int) (w : World) (hk : Fits key) : Calls Tryz.prog 37 #[.int .i64 key, .int .i64 m] w fun e w' => ∃ (a b : Option Addr), e = .returned (.agg #[.int .i64 m, .slice a 1 1]) ∧ Ways w' a 1 1 [⟨b, 1, 1, [key], zero32, 0, 0⟩] ∧ Below w.heap.size w w' := by
  go_enter Tryz.func37, Tryz.ntmps37
  go_wp2
  refine bodyPost_ret (results_cell_row rfl _ _ w.heap.size 107 #[.int .i64 m, .slice (some ⟨w.heap.size + 1 + 1, 0, none⟩) 1 1] (0, 0) _ rfl (by rw [heap_alloc_old _ _ (by simp; omega), heap_alloc_old _ _ (by simp)]; exact heap_alloc_new _ _) Tryz.underlying107 rfl (by kernel_rfl)) rfl ?_
  refine ⟨some ⟨w.heap.size + 1 + 1, 0, none⟩, some ⟨w.heap.size + 1, 0, none⟩, rfl, ways_one (x := ⟨some ⟨w.heap.size + 1, 0, none⟩, 1, 1, [key], zero32, 0, 0⟩) (t := 170) (fr := (0, 0)) ?_ ⟨numbers_one (t := 3) (fr := (0, 0)) ?_ hk, zero32_len, ?_, ?_⟩, ?_⟩
  · exact heap_alloc_at _ _ _ (by simp)
  · rw [heap_alloc_old _ _ (by simp)]
    exact heap_alloc_at _ _ _ (by simp)
  · show Fits 0
    constructor <;> decide
  · show Fits 0
    constructor <;> decide
  · exact (((Below.refl _ _).alloc (Nat.le_refl _) _).alloc (by simp) _).alloc (by simp; omega) _
end Go.Proofs.YteddkkcheaghaaaGreatDoor
namespace Go.Proofs.YteddkkcheaghaaaGreatDoor
open Go.RowKit

end Go.Proofs.YteddkkcheaghaaaGreatDoor
namespace Go.Proofs.YteddkkcheaghaaaGreatDoor
open Go.RowKit

/-- What a way says, without where it lies. -/
def PWay.strip (x : PWay) : PWay := ⟨none, 0, 0, x.ks, x.h, x.after, x.wait⟩
theorem outOk_strip (m : Int) (xs : List PWay) : outOk m (xs.map PWay.strip) = outOk m xs := by
  unfold outOk
  rw [List.length_map, List.all_map]
  rfl
end Go.Proofs.YteddkkcheaghaaaGreatDoor
namespace Go.Proofs.YteddkkcheaghaaaGreatDoor
open Go.RowKit

/-- The bytes. -/
def wayB (x : PWay) : List UInt8 := numB (x.ks.length : Nat) ++ (numsB x.ks ++ (x.h ++ numsB [x.after, x.wait]))
def waysB : List PWay → List UInt8
  | [] => []
  | x :: xs => wayB x ++ waysB xs
def outB (m : Int) (xs : List PWay) : List UInt8 := numsB [m, (xs.length : Nat)] ++ waysB xs
theorem waysB_snoc : ∀ (xs : List PWay) (x : PWay), waysB (xs ++ [x]) = waysB xs ++ wayB x
  | [], x => by simp [waysB]
  | y :: xs, x => by simp [waysB, waysB_snoc xs x]
theorem waysB_take (xs : List PWay) (k : Nat) (h : k < xs.length) : waysB (xs.take (k + 1)) = waysB (xs.take k) ++ wayB (xs.getD k noWay) := by
  rw [List.take_succ_eq_append_getElem h, waysB_snoc]
  simp [List.getD, h]
theorem wayB_strip (x : PWay) : wayB x.strip = wayB x := rfl
theorem waysB_strip : ∀ xs : List PWay, waysB (xs.map PWay.strip) = waysB xs
  | [] => rfl
  | x :: xs => by simp [waysB, waysB_strip xs, wayB_strip]
theorem outB_strip (m : Int) (xs : List PWay) : outB m (xs.map PWay.strip) = outB m xs := by
  unfold outB
  rw [waysB_strip, List.length_map]
theorem wayB_len {x : PWay} (h : x.h.length = 32) : (wayB x).length ≤ 59 + 9 * x.ks.length := by
  have h1 := (numB_len (x.ks.length : Nat)).2
  have h2 := numsB_len x.ks
  have h3 := numsB_len [x.after, x.wait]
  simp only [List.length_cons, List.length_nil] at h3
  unfold wayB
  simp only [List.length_append, h]
  omega
theorem waysB_len {K : Nat} : ∀ {xs : List PWay}, (∀ x ∈ xs, x.h.length = 32 ∧ x.ks.length ≤ K) → (waysB xs).length ≤ xs.length * (59 + 9 * K)
  | [], _ => by simp [waysB]
  | x :: xs, h => by
    have ih := waysB_len (xs := xs) (fun y hy => h y (by simp [hy]))
    obtain ⟨h1, h2⟩ := h x (by simp)
    have h3 := wayB_len h1
    simp only [waysB, List.length_append, List.length_cons, Nat.add_mul]
    omega
end Go.Proofs.YteddkkcheaghaaaGreatDoor
namespace Go.Proofs.YteddkkcheaghaaaGreatDoor
open Go.RowKit

/-- What lies ahead of a pen's own blocks. -/
def OldB (B pb n : Nat) (a : Option Addr) : Prop := 0 < n → ∀ x, a = some x → x.block < B ∧ x.block ≠ pb
theorem Numbers.butO {w w' : World} {B pb n c : Nat} {a : Option Addr} {zs : List Int} (h : Numbers w a n c zs) (ho : OldB B pb n a) (hb : But B pb w w') : Numbers w' a n c zs := by
  obtain ⟨h1, h2, h3, h4, h6, h5⟩ := h
  refine ⟨h1, h2, h3, h4, h6, fun h0 => ?_⟩
  obtain ⟨b, off, rfl, hlt, hc⟩ := h5 h0
  obtain ⟨g1, g2⟩ := ho h0 _ rfl
  exact ⟨b, off, rfl, Nat.lt_of_lt_of_le hlt hb.size, fun j hj => (hb.cell (a := ⟨b, off + j, none⟩) g1 g2).trans (hc j hj)⟩
theorem Numbers.oldB {w : World} {B pb n c : Nat} {a : Option Addr} {zs : List Int} (h : Numbers w a n c zs) (hB : w.heap.size ≤ B) (hp : w.heap.size ≤ pb) : OldB B pb n a := fun h0 x e => by
  obtain ⟨b, off, e2, hlt, _⟩ := h.2.2.2.2.2 h0
  rw [e] at e2
  cases e2
  exact ⟨Nat.lt_of_lt_of_le hlt hB, by show b ≠ pb; omega⟩
def OldWs (B pb n : Nat) (a : Option Addr) (xs : List PWay) : Prop := OldB B pb n a ∧ ∀ x ∈ xs, OldB B pb x.n x.a
theorem Ways.butO {w w' : World} {B pb n c : Nat} {a : Option Addr} {xs : List PWay} (h : Ways w a n c xs) (ho : OldWs B pb n a xs) (hb : But B pb w w') : Ways w' a n c xs := by
  obtain ⟨h1, h2, h3, h4, h6, h5⟩ := h
  refine ⟨h1, h2, h3, h4, fun x hx => ⟨(h6 x hx).keys.butO (ho.2 x hx) hb, (h6 x hx).sum, (h6 x hx).after, (h6 x hx).wait⟩, fun h0 => ?_⟩
  obtain ⟨b, off, rfl, hlt, hc⟩ := h5 h0
  obtain ⟨g1, g2⟩ := ho.1 h0 _ rfl
  exact ⟨b, off, rfl, Nat.lt_of_lt_of_le hlt hb.size, fun j hj i v hv => (hb.cell (a := ⟨b, off + j * 35 + i, none⟩) g1 g2).trans (hc j hj i v hv)⟩
theorem Ways.oldWs {w : World} {B pb n c : Nat} {a : Option Addr} {xs : List PWay} (h : Ways w a n c xs) (hB : w.heap.size ≤ B) (hp : w.heap.size ≤ pb) : OldWs B pb n a xs := by
  refine ⟨fun h0 x e => ?_, fun x hx => (h.2.2.2.2.1 x hx).keys.oldB hB hp⟩
  obtain ⟨b, off, e2, hlt, _⟩ := h.2.2.2.2.2 h0
  rw [e] at e2
  cases e2
  exact ⟨Nat.lt_of_lt_of_le hlt hB, by show b ≠ pb; omega⟩
/-- What a pen's step leaves. -/
def PStep (B pb : Nat) (w w' : World) : Prop := But B pb w w' ∧ Keeps w w'
theorem kept_way {w w' : World} {g : Nat} {x : PWay} {fr : Nat × Nat} (hk : Keeps w w') (h : w.heap[g]? = some (.cells x.cells.toArray 170 fr)) : w'.heap[g]? = some (.cells x.cells.toArray 170 fr) := (hk g _ _ _ h (by decide) (by decide) (by decide)).trans h
theorem kept_int {w w' : World} {g : Nat} {cs : Array Value} {fr : Nat × Nat} (hk : Keeps w w') (h : w.heap[g]? = some (.cells cs 3 fr)) : w'.heap[g]? = some (.cells cs 3 fr) := (hk g _ _ _ h (by decide) (by decide) (by decide)).trans h
theorem kept_out {w w' : World} {g : Nat} {cs : Array Value} {fr : Nat × Nat} (hk : Keeps w w') (h : w.heap[g]? = some (.cells cs 107 fr)) : w'.heap[g]? = some (.cells cs 107 fr) := (hk g _ _ _ h (by decide) (by decide) (by decide)).trans h
theorem lit2 {w : World} {g B pb : Nat} {y z : Int} {fr : Nat × Nat} (h : w.heap[g]? = some (.cells #[.int .i64 y, .int .i64 z] 3 fr)) : ∀ wr, But B pb w wr → Keeps w wr → ∀ j, j < 2 → wr.cell? ⟨g, 0 + j, none⟩ = some (.int .i64 ([y, z].getD j 0)) := fun wr _ hk j hj => by
  rw [Nat.zero_add, cell_of_row _ _ _ _ _ _ (kept_int hk h)]
  rcases (show j = 0 ∨ j = 1 by omega) with rfl | rfl <;> rfl
theorem two_small {y z : Int} (hy : Fits y) (hz : Fits z) : ∀ v ∈ [y, z], v ≤ 9223372036854775807 := fun v hv => by
  simp at hv
  rcases hv with rfl | rfl
  · exact hy.2
  · exact hz.2
theorem pnums_olds {w W : World} {a : Option Addr} {n c B pb : Nat} {zs : List Int} {l : List UInt8} (hi : Numbers w a n c zs) (ho : OldB B pb n a) (hs : But B pb w W) (hp : PenAt W B pb l) (hbz : B ≤ W.heap.size) (hn : n ≤ 1000) (hl : l.length ≤ 1000000) :
    Calls Tryz.prog 73 #[.pointer (some ⟨pb, 0, none⟩), .slice a n c] W fun r w' => r = .returned (.pointer (some ⟨pb, 0, none⟩)) ∧ PenAt w' B pb (l ++ numsB zs) ∧ But B pb W w' ∧ Keeps W w' := by
  by_cases h0 : 0 < n
  · obtain ⟨b, off, rfl, _, _⟩ := hi.2.2.2.2.2 h0
    refine pnums_typed W hi.1 hi.2.1 hi.2.2.1 (fun z hz => (hi.2.2.2.2.1 z hz).2) (fun wr hb _ j hj => ?_) hp hbz hn hl
    obtain ⟨b', off', e, _, hc⟩ := ((hi.butO ho hs).butO ho hb).2.2.2.2.2 h0
    cases e
    exact hc j hj
  · obtain rfl : n = 0 := by omega
    obtain rfl : zs = [] := List.eq_nil_of_length_eq_zero hi.1
    exact pnums_zero W hp
theorem Tryz.zeroInt : (Tryz.prog.info? 3).map (fun i => (i.zero, i.size, i.bytes)) = some (some (.int .i64 0), 1, 8) := by kernel_rfl
/-- A slice literal of two numbers, in a region. -/
theorem step_two_gen {ops : Array Oper} {o : Oper} {tmps : Array Value} {ds : List Deferred} {w : World} {K : Act → World → Prop} {Q : Exit → Act → World → Prop} {E : Prop} {d : Nat} {u v : Operand} {y z : Int} (hd : o.dst = some d) (hw : Region.wanted o (yielded ops tmps) = true) (ho : o.op = .buildSlice 38 2 #[(0, u), (1, v)])
    (hu : Act.eval { tmps := tmps, defers := ds } u = .int .i64 y) (hv : Act.eval { tmps := tmps, defers := ds } v = .int .i64 z)
    (h : ∀ (p : Nat) (w' : World), w.heap.size ≤ p → w'.heap[p]? = some (.cells #[.int .i64 y, .int .i64 z] 3 (0, 0)) → Below w.heap.size w w' → K { tmps := tmps.setIfInBounds d (.slice (some ⟨p, 0, none⟩) 2 2), defers := ds } w') :
    if Region.wanted o (yielded ops tmps) = true then Oper.wp Tryz.prog o { tmps := tmps, defers := ds } w K Q else E := by
  rw [if_pos hw]
  obtain ⟨ie, h1, h2, h3, _⟩ := info_parts Tryz.zeroInt
  have hrun : (Instr.buildSlice 38 2 #[(0, .int .i64 y), (1, .int .i64 z)]).run Tryz.prog w = .ok (.slice (some ⟨w.heap.size, 0, none⟩) 2 2) (w.alloc (.cells #[.int .i64 y, .int .i64 z] 3)) :=
    run_buildSlice w 38 3 2 _ _ ie _ Tryz.underlying38 h1 h2 (by rw [h3]; omega) (by rw [h3]; omega) (by rw [h3]; simp [Instr.fill, Value.cells]; rw [show Array.range 2 = #[0, 1] by rfl]; simp)
  unfold Oper.wp execOp
  simp only [ho, List.map_toArray, List.map_cons, List.map_nil, hu, hv, Sem.run_bind, hrun, Sem.run_pure, Result.andThen_ok]
  show K (Act.put _ o.dst _) _
  rw [hd]
  exact h _ _ (Nat.le_refl _) (heap_alloc_new _ _) ((Below.refl _ _).alloc (Nat.le_refl _) _)
set_option linter.unusedSimpArgs false in
set_option maxRecDepth 100000 in
set_option maxHeartbeats 12800000 in
theorem lockPut_at {w : World} {B pb n c : Nat} {m : Int} {a : Option Addr} {xs : List PWay} {l : List UInt8} (h : Ways w a n c xs) (ho : OldWs B pb n a xs) (hp : PenAt w B pb l) (hbz : B ≤ w.heap.size) (hm : Fits m) (hn : n ≤ 1000) (hks : ∀ x ∈ xs, x.ks.length ≤ 1000) (hl : l.length + (outB m xs).length ≤ 1000000) :
    Calls Tryz.prog 121 #[.pointer (some ⟨pb, 0, none⟩), .agg #[.int .i64 m, .slice a n c]] w fun e w' => e = .returned (.tuple #[]) ∧ PenAt w' B pb (l ++ outB m xs) ∧ But B pb w w' ∧ Keeps w w' := by
  have hn63 : (n : Int) ≤ 9223372036854775807 := by omega
  have b1 : Below w.heap.size w (w.alloc (.cells #[.int .i64 m, .slice a n c] 107)) := (Below.refl _ _).alloc (Nat.le_refl _) _
  have h1 := heap_alloc_new w (.cells #[.int .i64 m, .slice a n c] 107)
  have HE : Hid (outB m xs = numsB [m, (n : Int)] ++ waysB xs) := Lib.hid (by unfold outB; rw [h.1])
  have H := Lib.hid h
  have HO := Lib.hid ho
  have HP1 := Lib.hid (hp.below hbz b1)
  have HM := Lib.hid hm
  have HKS := Lib.hid hks
  have HL := Lib.hid hl
  clear h ho hp hm hks hl
  go_enter Tryz.func121, Tryz.ntmps121
  go_upto_region 1 with (fail)
  revert b1 h1 HP1
  generalize (w.alloc (.cells #[.int .i64 m, .slice a n c] 107)) = w1
  obtain ⟨g, hg⟩ : ∃ g, g = w.heap.size := ⟨_, rfl⟩
  rw [← hg]
  intro b1 h1 HP1
  rw [hg] at b1
  have hbz1 : B ≤ w1.heap.size := Nat.le_trans hbz b1.size
  have c0 : w1.cell? ⟨g, 0, none⟩ = some (.int .i64 m) := by rw [cell_of_row _ _ _ _ _ _ h1]; rfl
  have c1 : w1.cell? ⟨g, 1, none⟩ = some (.slice a n c) := by rw [cell_of_row _ _ _ _ _ _ h1]; rfl
  have HB1 := Lib.hid b1
  have H1 := Lib.hid h1
  clear b1 h1 hg
  go_wp2_with fail
  have b2 : Below w1.heap.size w1 (w1.alloc (.cells #[.int .i64 m, .int .i64 (n : Int)] 3)) := (Below.refl _ _).alloc (Nat.le_refl _) _
  have hz2 : B ≤ (w1.alloc (.cells #[.int .i64 m, .int .i64 (n : Int)] 3)).heap.size := Nat.le_trans hbz1 b2.size
  have HB2 := Lib.hid b2
  have HZ2 := Lib.hid hz2
  have HLL : Hid (l.length ≤ 1000000) := Lib.hid (by have := HL.out; omega)
  clear b2 hz2
  refine (pnums_typed (n := 2) (c := 2) (off := 0) (zs := [m, (n : Int)]) _ rfl (Nat.le_refl _) (by unfold maxLen; omega) (two_small HM.out ⟨by omega, hn63⟩) (lit2 (heap_alloc_new _ _)) (HP1.out.below hbz1 HB2.out) HZ2.out (by omega) HLL.out).mono ?_
  rintro e w3 ⟨rfl, hp3, hb3, hk3⟩
  have HP3 := Lib.hid hp3
  have HB3 := Lib.hid ((But.of (HB1.out.mono hbz)).trans ((But.of (HB2.out.mono hbz1)).trans hb3))
  have HK3 := Lib.hid ((Keeps.below HB1.out).trans ((Keeps.below HB2.out).trans hk3))
  have h3 := kept_out ((Keeps.below HB2.out).trans hk3) H1.out
  have d1 : w3.cell? ⟨g, 1, none⟩ = some (.slice a n c) := by rw [cell_of_row _ _ _ _ _ _ h3]; rfl
  clear c0 c1 hp3 hb3 hk3 h3 HP1 H1 HB1 HB2 HZ2 HM
  go_wp2_with fail
  clear d1
  go_loopw [17] (fun i wr => ∃ k : Nat, k ≤ n ∧ i = .int .i64 k ∧ PenAt wr B pb (l ++ (numsB [m, (n : Int)] ++ waysB (xs.take k))) ∧ But B pb w wr ∧ Keeps w wr) (fun i _ => n - (intOf i).toNat)
  case atStart => exact ⟨0, Nat.zero_le _, rfl, by have h9 := HP3.out; simpa [waysB] using h9, HB3.out, HK3.out⟩
  case round =>
    obtain ⟨k, hk, rfl, hpk, hbk, hkk⟩ := hrel
    have HPK := Lib.hid hpk
    have HBK := Lib.hid hbk
    have HKK := Lib.hid hkk
    have hbzr : B ≤ wr.heap.size := Nat.le_trans hbz hbk.size
    clear hpk hbk hkk HP3 HB3 HK3
    by_cases hkn : k < n
    · have f1 : (k : Int) < (n : Int) := by omega
      have f0 : (0 : Int) ≤ (k : Int) := by omega
      have ft : ((k : Int)).toNat = k := by omega
      have hkl : k < xs.length := by rw [H.out.1]; exact hkn
      have hwr := H.out.butO HO.out HBK.out
      obtain ⟨b1, o1, e1, hltb, hc1⟩ := hwr.2.2.2.2.2 (by omega)
      have hrx := hc1 k hkn
      have hx := hwr.way hkn
      have hxm : xs.getD k noWay ∈ xs := by
        have e : xs.getD k noWay = xs[k] := by simp [List.getD, hkl]
        rw [e]
        exact List.getElem_mem hkl
      have hox := HO.out.2 _ hxm
      have hkx := HKS.out _ hxm
      have hnx := waysB_take xs k hkl
      have hll : (waysB (xs.take k)).length + (wayB (xs.getD k noWay)).length ≤ (waysB xs).length := by
        have e := congrArg List.length hnx
        have e2 : waysB xs = waysB (xs.take (k + 1)) ++ waysB (xs.drop (k + 1)) := by
          have happ : ∀ (u v : List PWay), waysB (u ++ v) = waysB u ++ waysB v := fun u v => by induction u with
            | nil => rfl
            | cons y u ih => simp [waysB, ih]
          rw [← happ, List.take_append_drop]
        have e3 := congrArg List.length e2
        rw [List.length_append] at e e3
        omega
      revert hrx hx hox hkx hnx hll
      generalize xs.getD k noWay = x
      intro hrx hx hox hkx hnx hll
      subst e1
      obtain ⟨P, hP⟩ : ∃ P, P = l ++ (numsB [m, (n : Int)] ++ waysB (xs.take k)) := ⟨_, rfl⟩
      have HNX : Hid (l ++ (numsB [m, (n : Int)] ++ waysB (xs.take (k + 1))) = P ++ wayB x) := Lib.hid (by rw [hnx, hP]; simp only [List.append_assoc])
      have WB : Hid (wayB x = numB (x.n : Int) ++ (numsB x.ks ++ (x.h ++ numsB [x.after, x.wait]))) := Lib.hid (by unfold wayB; rw [hx.keys.1])
      have HLW : Hid (P.length + (wayB x).length ≤ 1000000) := Lib.hid (by
        have h9 := HL.out
        rw [HE.out] at h9
        rw [hP]
        simp only [List.length_append] at h9 ⊢
        omega)
      rw [← hP] at HPK
      have RX := Lib.hid hrx
      have SX := Lib.hid (way_size hx.sum)
      have AX := Lib.hid (way_sizeA hx.sum)
      have ZX := Lib.hid (way_zero hx.sum)
      have SXH := Lib.hid (sumLen hx.sum)
      have HXS := Lib.hid hx.sum
      have HXA := Lib.hid hx.after
      have HXW := Lib.hid hx.wait
      have HX := Lib.hid hx
      have HOX := Lib.hid hox
      have hx1000 : x.n ≤ 1000 := by rw [← hx.keys.1]; exact hkx
      have hx63 : (x.n : Int) ≤ 9223372036854775807 := by omega
      clear hc1 hrx hx hxm hox hkx hnx hll hP hwr hkl H HO HKS
      go_upto_region 5 with (first | (refine wpList_load_mid rfl 170 _ rfl b1 (o1 + k * 35) rfl x.cells _ RX.out Tryz.underlying170 rfl SX.out ?_) | (refine wpList_store_row rfl 170 _ _ rfl wr.heap.size x.cells.toArray rfl rfl 170 noWay.cells.toArray (heap_alloc_new _ _) AX.out ZX.out (all_oneCell_toArray x.cells_one) ?_) | fail)
      rw [← noWay_is, layWay_is]
      have h5 := layWay_heap wr x
      have b5 := layWay_self wr x
      revert h5 b5
      generalize layWay wr x = w5
      obtain ⟨g5, hg5⟩ : ∃ g5, g5 = wr.heap.size := ⟨_, rfl⟩
      rw [← hg5]
      intro h5 b5
      rw [hg5] at b5
      have H5 := Lib.hid h5
      have hbz5 : B ≤ w5.heap.size := Nat.le_trans hbzr b5.size
      have HPEN0 : Hid (PenAt w5.drew B pb P) := Lib.hid ((HPK.out.below hbzr b5).below hbz5 (below_drew (Below.refl _ _)))
      have HKX := Lib.hid (HX.out.keys.below b5)
      have HBW := Lib.hid (HBK.out.trans (But.of (b5.mono hbzr)))
      have HKP := Lib.hid (HKK.out.trans (Keeps.below b5))
      clear h5 b5 hg5 HPK RX
      try simp only [Act.put]
      refine wp_region_held_drew (S := fun w' => PStep B pb w5 w') (by kernel_rfl) (⟨But.of (below_drew (Below.refl _ _)), fun _ _ _ _ _ _ _ _ => rfl⟩) (fun hHeld => ?_)
      refine tkP 0 rfl rfl ?_
      refine tkP 1 rfl rfl ?_
      refine tkA 2 rfl rfl (yields_cell (by rfl) rfl rfl (b := g5) (o := 0) (fun w0 hSw => way_keys (range_of (kept_way hSw.2 H5.out))) Tryz.isAgg38) ?_
      refine tkP 3 rfl rfl ?_
      refine tkP 5 rfl rfl ?_
      refine tkA 6 rfl rfl (yields_cell (by rfl) rfl rfl (b := g5) (o := 0) (fun w0 hSw => way_keys (range_of (kept_way hSw.2 H5.out))) Tryz.isAgg38) ?_
      refine tkP 8 rfl rfl ?_
      refine tkA 9 rfl rfl (yieldsIf_load_mid (by rfl) _ _ rfl g5 1 rfl (cellsOf x.h) _ (fun w0 hSw => way_sum HXS.out (range_of (kept_way hSw.2 H5.out))) Tryz.underlying28 rfl SXH.out) ?_
      refine tkP 11 rfl rfl ?_
      refine tkA 12 rfl rfl (yields_cell (by rfl) rfl rfl (b := g5) (o := 33) (fun w0 hSw => way_after HXS.out (range_of (kept_way hSw.2 H5.out))) Tryz.isAgg3) ?_
      refine tkP 13 rfl rfl ?_
      refine tkA 14 rfl rfl (yields_cell (by rfl) rfl rfl (b := g5) (o := 34) (fun w0 hSw => way_wait HXS.out (range_of (kept_way hSw.2 H5.out))) Tryz.isAgg3) ?_
      refine wpAnyH_ready (rs := [4, 15]) (by kernel_rfl) (by simp) ?_
      refine AllReadyH.cons rfl (fun K hK => ?_) ?_
      · have HZw5drew : Hid (B ≤ (w5.drew).heap.size) := Lib.hid (Nat.le_trans hbz5 hHeld.1.size)
        have hHbw5drew : Hid (But B pb w5 (w5.drew)) := Lib.hid hHeld.1
        have HLENw5drew : Hid ((P).length + 0 ≤ P.length + (wayB x).length) := Lib.hid (by rw [WB.out]; simp only [List.length_append]; omega)
        go_simp
        go_wp2_with ((go_at_call 25; (with_reducible refine (pnum_typed (x.n : Int) HPEN0.out HZw5drew.out (by have h0 := HLW.out; have h1 := HLENw5drew.out; omega) hx63).mono ?_); rintro e y4 ⟨rfl, hp, hb, hk⟩; have HPy4 := Lib.hid hp; have HSy4 : Hid (PStep B pb _ y4) := Lib.hid ⟨hb, hk⟩; clear hp hb hk))
        refine hK.out _ _ (by (try dsimp only); exact ⟨hHeld.1.trans HSy4.out.1, hHeld.2.trans HSy4.out.2⟩) (fun hHeld => ?_)
        clear hK K
        refine wpAnyH_ready (rs := [7, 15]) (by kernel_rfl) (by simp) ?_
        refine AllReadyH.cons rfl (fun K hK => ?_) ?_
        · have HZy4 : Hid (B ≤ (y4).heap.size) := Lib.hid (Nat.le_trans hbz5 hHeld.1.size)
          have hHby4 : Hid (But B pb w5 (y4)) := Lib.hid hHeld.1
          have HLENy4 : Hid (((P ++ (numB (x.n : Int)))).length + 0 ≤ P.length + (wayB x).length) := Lib.hid (by rw [WB.out]; simp only [List.length_append]; omega)
          go_simp
          go_wp2_with ((go_at_call 73; (with_reducible refine (pnums_olds HKX.out HOX.out (hHby4.out) HPy4.out HZy4.out hx1000 (by have h0 := HLW.out; have h1 := HLENy4.out; omega)).mono ?_); rintro e y7 ⟨rfl, hp, hb, hk⟩; have HPy7 := Lib.hid hp; have HSy7 : Hid (PStep B pb _ y7) := Lib.hid ⟨hb, hk⟩; clear hp hb hk))
          refine hK.out _ _ (by (try dsimp only); exact ⟨hHeld.1.trans HSy7.out.1, hHeld.2.trans HSy7.out.2⟩) (fun hHeld => ?_)
          clear hK K
          refine wpAnyH_ready (rs := [10, 15]) (by kernel_rfl) (by simp) ?_
          refine AllReadyH.cons rfl (fun K hK => ?_) ?_
          · have HZy7 : Hid (B ≤ (y7).heap.size) := Lib.hid (Nat.le_trans hbz5 hHeld.1.size)
            have hHby7 : Hid (But B pb w5 (y7)) := Lib.hid hHeld.1
            have HLENy7 : Hid ((((P ++ (numB (x.n : Int))) ++ (numsB x.ks))).length + 0 ≤ P.length + (wayB x).length) := Lib.hid (by rw [WB.out]; simp only [List.length_append]; omega)
            go_simp
            go_wp2_with ((go_at_call 26; (with_reducible refine (psum_typed _ HXS.out HPy7.out HZy7.out (by have h0 := HLW.out; have h1 := HLENy7.out; omega)).mono ?_); rintro e y10 ⟨rfl, hp, hb, hk⟩; have HPy10 := Lib.hid hp; have HSy10 : Hid (PStep B pb _ y10) := Lib.hid ⟨hb, hk⟩; clear hp hb hk))
            refine hK.out _ _ (by (try dsimp only); exact ⟨hHeld.1.trans HSy10.out.1, hHeld.2.trans HSy10.out.2⟩) (fun hHeld => ?_)
            clear hK K
            refine tkR 15 rfl (fun K hK => ?_)
            refine step_two_gen (d := 36) (y := x.after) (z := x.wait) rfl (by rfl) rfl (by rfl) (by rfl) ?_
            intro p z3 hgp hlit hbl
            have LIT := Lib.hid hlit
            have HPz3 := Lib.hid (PenAt.below HPy10.out (Nat.le_trans hbz5 hHeld.1.size) hbl)
            have HSz3 : Hid (PStep B pb _ z3) := Lib.hid ⟨But.of (hbl.mono (Nat.le_trans hbz5 hHeld.1.size)), Keeps.below hbl⟩
            clear hlit hbl hgp
            refine hK.out _ _ (by (try dsimp only); exact ⟨hHeld.1.trans HSz3.out.1, hHeld.2.trans HSz3.out.2⟩) (fun hHeld => ?_)
            clear hK K
            refine tkR 16 rfl (fun K hK => ?_)
            have HZz3 : Hid (B ≤ (z3).heap.size) := Lib.hid (Nat.le_trans hbz5 hHeld.1.size)
            have hHbz3 : Hid (But B pb w5 (z3)) := Lib.hid hHeld.1
            have HLENz3 : Hid (((((P ++ (numB (x.n : Int))) ++ (numsB x.ks)) ++ x.h)).length + 0 ≤ P.length + (wayB x).length) := Lib.hid (by rw [WB.out]; simp only [List.length_append]; omega)
            go_simp
            go_wp2_with ((go_at_call 73; (with_reducible refine (pnums_typed (n := 2) (c := 2) (off := 0) _ rfl (Nat.le_refl _) (by unfold maxLen; omega) (two_small HXA.out HXW.out) (lit2 LIT.out) HPz3.out HZz3.out (by omega) (by have h0 := HLW.out; have h1 := HLENz3.out; omega)).mono ?_); rintro e y16b ⟨rfl, hp, hb, hk⟩; have HPy16b := Lib.hid hp; have HSy16b : Hid (PStep B pb _ y16b) := Lib.hid ⟨hb, hk⟩; clear hp hb hk))
            refine hK.out _ _ (by (try dsimp only); exact ⟨hHeld.1.trans HSy16b.out.1, hHeld.2.trans HSy16b.out.2⟩) (fun hHeld => ?_)
            clear hK K
            refine wpAnyH_done (by kernel_rfl) ?_ _
            have HS := Lib.hid (show PStep B pb w5 y16b from hHeld)
            clear hHeld
            have HPE : Hid (PenAt y16b B pb (l ++ (numsB [m, (n : Int)] ++ waysB (xs.take (k + 1))))) := Lib.hid (by have h9 := HPy16b.out; rw [HNX.out, WB.out]; simpa only [List.append_assoc] using h9)
            go_wp2_with fail
            go_roundw
            case rel => exact ⟨k + 1, by omega, by go_num, HPE.out, HBW.out.trans HS.out.1, HKP.out.trans HS.out.2⟩
            case measure => simp [intOf]; omega
          refine AllReadyH.cons rfl (fun K hK => ?_) ?_
          · refine step_two_gen (d := 36) (y := x.after) (z := x.wait) rfl (by rfl) rfl (by rfl) (by rfl) ?_
            intro p z2 hgp hlit hbl
            have LIT := Lib.hid hlit
            have HPz2 := Lib.hid (PenAt.below HPy7.out (Nat.le_trans hbz5 hHeld.1.size) hbl)
            have HSz2 : Hid (PStep B pb _ z2) := Lib.hid ⟨But.of (hbl.mono (Nat.le_trans hbz5 hHeld.1.size)), Keeps.below hbl⟩
            clear hlit hbl hgp
            refine hK.out _ _ (by (try dsimp only); exact ⟨hHeld.1.trans HSz2.out.1, hHeld.2.trans HSz2.out.2⟩) (fun hHeld => ?_)
            clear hK K
            refine tkR 10 rfl (fun K hK => ?_)
            have HZz2 : Hid (B ≤ (z2).heap.size) := Lib.hid (Nat.le_trans hbz5 hHeld.1.size)
            have hHbz2 : Hid (But B pb w5 (z2)) := Lib.hid hHeld.1
            have HLENz2 : Hid ((((P ++ (numB (x.n : Int))) ++ (numsB x.ks))).length + 0 ≤ P.length + (wayB x).length) := Lib.hid (by rw [WB.out]; simp only [List.length_append]; omega)
            go_simp
            go_wp2_with ((go_at_call 26; (with_reducible refine (psum_typed _ HXS.out HPz2.out HZz2.out (by have h0 := HLW.out; have h1 := HLENz2.out; omega)).mono ?_); rintro e y10b ⟨rfl, hp, hb, hk⟩; have HPy10b := Lib.hid hp; have HSy10b : Hid (PStep B pb _ y10b) := Lib.hid ⟨hb, hk⟩; clear hp hb hk))
            have LIT0 := LIT.out
            have LIT := Lib.hid (kept_int HSy10b.out.2 LIT0)
            clear LIT0
            refine hK.out _ _ (by (try dsimp only); exact ⟨hHeld.1.trans HSy10b.out.1, hHeld.2.trans HSy10b.out.2⟩) (fun hHeld => ?_)
            clear hK K
            refine tkR 16 rfl (fun K hK => ?_)
            have HZy10b : Hid (B ≤ (y10b).heap.size) := Lib.hid (Nat.le_trans hbz5 hHeld.1.size)
            have hHby10b : Hid (But B pb w5 (y10b)) := Lib.hid hHeld.1
            have HLENy10b : Hid (((((P ++ (numB (x.n : Int))) ++ (numsB x.ks)) ++ x.h)).length + 0 ≤ P.length + (wayB x).length) := Lib.hid (by rw [WB.out]; simp only [List.length_append]; omega)
            go_simp
            go_wp2_with ((go_at_call 73; (with_reducible refine (pnums_typed (n := 2) (c := 2) (off := 0) _ rfl (Nat.le_refl _) (by unfold maxLen; omega) (two_small HXA.out HXW.out) (lit2 LIT.out) HPy10b.out HZy10b.out (by omega) (by have h0 := HLW.out; have h1 := HLENy10b.out; omega)).mono ?_); rintro e y16b ⟨rfl, hp, hb, hk⟩; have HPy16b := Lib.hid hp; have HSy16b : Hid (PStep B pb _ y16b) := Lib.hid ⟨hb, hk⟩; clear hp hb hk))
            refine hK.out _ _ (by (try dsimp only); exact ⟨hHeld.1.trans HSy16b.out.1, hHeld.2.trans HSy16b.out.2⟩) (fun hHeld => ?_)
            clear hK K
            refine wpAnyH_done (by kernel_rfl) ?_ _
            have HS := Lib.hid (show PStep B pb w5 y16b from hHeld)
            clear hHeld
            have HPE : Hid (PenAt y16b B pb (l ++ (numsB [m, (n : Int)] ++ waysB (xs.take (k + 1))))) := Lib.hid (by have h9 := HPy16b.out; rw [HNX.out, WB.out]; simpa only [List.append_assoc] using h9)
            go_wp2_with fail
            go_roundw
            case rel => exact ⟨k + 1, by omega, by go_num, HPE.out, HBW.out.trans HS.out.1, HKP.out.trans HS.out.2⟩
            case measure => simp [intOf]; omega
          exact AllReadyH.nil
        refine AllReadyH.cons rfl (fun K hK => ?_) ?_
        · refine step_two_gen (d := 36) (y := x.after) (z := x.wait) rfl (by rfl) rfl (by rfl) (by rfl) ?_
          intro p z1 hgp hlit hbl
          have LIT := Lib.hid hlit
          have HPz1 := Lib.hid (PenAt.below HPy4.out (Nat.le_trans hbz5 hHeld.1.size) hbl)
          have HSz1 : Hid (PStep B pb _ z1) := Lib.hid ⟨But.of (hbl.mono (Nat.le_trans hbz5 hHeld.1.size)), Keeps.below hbl⟩
          clear hlit hbl hgp
          refine hK.out _ _ (by (try dsimp only); exact ⟨hHeld.1.trans HSz1.out.1, hHeld.2.trans HSz1.out.2⟩) (fun hHeld => ?_)
          clear hK K
          refine tkR 7 rfl (fun K hK => ?_)
          have HZz1 : Hid (B ≤ (z1).heap.size) := Lib.hid (Nat.le_trans hbz5 hHeld.1.size)
          have hHbz1 : Hid (But B pb w5 (z1)) := Lib.hid hHeld.1
          have HLENz1 : Hid (((P ++ (numB (x.n : Int)))).length + 0 ≤ P.length + (wayB x).length) := Lib.hid (by rw [WB.out]; simp only [List.length_append]; omega)
          go_simp
          go_wp2_with ((go_at_call 73; (with_reducible refine (pnums_olds HKX.out HOX.out (hHbz1.out) HPz1.out HZz1.out hx1000 (by have h0 := HLW.out; have h1 := HLENz1.out; omega)).mono ?_); rintro e y7b ⟨rfl, hp, hb, hk⟩; have HPy7b := Lib.hid hp; have HSy7b : Hid (PStep B pb _ y7b) := Lib.hid ⟨hb, hk⟩; clear hp hb hk))
          have LIT0 := LIT.out
          have LIT := Lib.hid (kept_int HSy7b.out.2 LIT0)
          clear LIT0
          refine hK.out _ _ (by (try dsimp only); exact ⟨hHeld.1.trans HSy7b.out.1, hHeld.2.trans HSy7b.out.2⟩) (fun hHeld => ?_)
          clear hK K
          refine tkR 10 rfl (fun K hK => ?_)
          have HZy7b : Hid (B ≤ (y7b).heap.size) := Lib.hid (Nat.le_trans hbz5 hHeld.1.size)
          have hHby7b : Hid (But B pb w5 (y7b)) := Lib.hid hHeld.1
          have HLENy7b : Hid ((((P ++ (numB (x.n : Int))) ++ (numsB x.ks))).length + 0 ≤ P.length + (wayB x).length) := Lib.hid (by rw [WB.out]; simp only [List.length_append]; omega)
          go_simp
          go_wp2_with ((go_at_call 26; (with_reducible refine (psum_typed _ HXS.out HPy7b.out HZy7b.out (by have h0 := HLW.out; have h1 := HLENy7b.out; omega)).mono ?_); rintro e y10b ⟨rfl, hp, hb, hk⟩; have HPy10b := Lib.hid hp; have HSy10b : Hid (PStep B pb _ y10b) := Lib.hid ⟨hb, hk⟩; clear hp hb hk))
          have LIT0 := LIT.out
          have LIT := Lib.hid (kept_int HSy10b.out.2 LIT0)
          clear LIT0
          refine hK.out _ _ (by (try dsimp only); exact ⟨hHeld.1.trans HSy10b.out.1, hHeld.2.trans HSy10b.out.2⟩) (fun hHeld => ?_)
          clear hK K
          refine tkR 16 rfl (fun K hK => ?_)
          have HZy10b : Hid (B ≤ (y10b).heap.size) := Lib.hid (Nat.le_trans hbz5 hHeld.1.size)
          have hHby10b : Hid (But B pb w5 (y10b)) := Lib.hid hHeld.1
          have HLENy10b : Hid (((((P ++ (numB (x.n : Int))) ++ (numsB x.ks)) ++ x.h)).length + 0 ≤ P.length + (wayB x).length) := Lib.hid (by rw [WB.out]; simp only [List.length_append]; omega)
          go_simp
          go_wp2_with ((go_at_call 73; (with_reducible refine (pnums_typed (n := 2) (c := 2) (off := 0) _ rfl (Nat.le_refl _) (by unfold maxLen; omega) (two_small HXA.out HXW.out) (lit2 LIT.out) HPy10b.out HZy10b.out (by omega) (by have h0 := HLW.out; have h1 := HLENy10b.out; omega)).mono ?_); rintro e y16b ⟨rfl, hp, hb, hk⟩; have HPy16b := Lib.hid hp; have HSy16b : Hid (PStep B pb _ y16b) := Lib.hid ⟨hb, hk⟩; clear hp hb hk))
          refine hK.out _ _ (by (try dsimp only); exact ⟨hHeld.1.trans HSy16b.out.1, hHeld.2.trans HSy16b.out.2⟩) (fun hHeld => ?_)
          clear hK K
          refine wpAnyH_done (by kernel_rfl) ?_ _
          have HS := Lib.hid (show PStep B pb w5 y16b from hHeld)
          clear hHeld
          have HPE : Hid (PenAt y16b B pb (l ++ (numsB [m, (n : Int)] ++ waysB (xs.take (k + 1))))) := Lib.hid (by have h9 := HPy16b.out; rw [HNX.out, WB.out]; simpa only [List.append_assoc] using h9)
          go_wp2_with fail
          go_roundw
          case rel => exact ⟨k + 1, by omega, by go_num, HPE.out, HBW.out.trans HS.out.1, HKP.out.trans HS.out.2⟩
          case measure => simp [intOf]; omega
        exact AllReadyH.nil
      refine AllReadyH.cons rfl (fun K hK => ?_) ?_
      · refine step_two_gen (d := 36) (y := x.after) (z := x.wait) rfl (by rfl) rfl (by rfl) (by rfl) ?_
        intro p z0 hgp hlit hbl
        have LIT := Lib.hid hlit
        have HPz0 := Lib.hid (PenAt.below HPEN0.out (Nat.le_trans hbz5 hHeld.1.size) hbl)
        have HSz0 : Hid (PStep B pb _ z0) := Lib.hid ⟨But.of (hbl.mono (Nat.le_trans hbz5 hHeld.1.size)), Keeps.below hbl⟩
        clear hlit hbl hgp
        refine hK.out _ _ (by (try dsimp only); exact ⟨hHeld.1.trans HSz0.out.1, hHeld.2.trans HSz0.out.2⟩) (fun hHeld => ?_)
        clear hK K
        refine tkR 4 rfl (fun K hK => ?_)
        have HZz0 : Hid (B ≤ (z0).heap.size) := Lib.hid (Nat.le_trans hbz5 hHeld.1.size)
        have hHbz0 : Hid (But B pb w5 (z0)) := Lib.hid hHeld.1
        have HLENz0 : Hid ((P).length + 0 ≤ P.length + (wayB x).length) := Lib.hid (by rw [WB.out]; simp only [List.length_append]; omega)
        go_simp
        go_wp2_with ((go_at_call 25; (with_reducible refine (pnum_typed (x.n : Int) HPz0.out HZz0.out (by have h0 := HLW.out; have h1 := HLENz0.out; omega) hx63).mono ?_); rintro e y4b ⟨rfl, hp, hb, hk⟩; have HPy4b := Lib.hid hp; have HSy4b : Hid (PStep B pb _ y4b) := Lib.hid ⟨hb, hk⟩; clear hp hb hk))
        have LIT0 := LIT.out
        have LIT := Lib.hid (kept_int HSy4b.out.2 LIT0)
        clear LIT0
        refine hK.out _ _ (by (try dsimp only); exact ⟨hHeld.1.trans HSy4b.out.1, hHeld.2.trans HSy4b.out.2⟩) (fun hHeld => ?_)
        clear hK K
        refine tkR 7 rfl (fun K hK => ?_)
        have HZy4b : Hid (B ≤ (y4b).heap.size) := Lib.hid (Nat.le_trans hbz5 hHeld.1.size)
        have hHby4b : Hid (But B pb w5 (y4b)) := Lib.hid hHeld.1
        have HLENy4b : Hid (((P ++ (numB (x.n : Int)))).length + 0 ≤ P.length + (wayB x).length) := Lib.hid (by rw [WB.out]; simp only [List.length_append]; omega)
        go_simp
        go_wp2_with ((go_at_call 73; (with_reducible refine (pnums_olds HKX.out HOX.out (hHby4b.out) HPy4b.out HZy4b.out hx1000 (by have h0 := HLW.out; have h1 := HLENy4b.out; omega)).mono ?_); rintro e y7b ⟨rfl, hp, hb, hk⟩; have HPy7b := Lib.hid hp; have HSy7b : Hid (PStep B pb _ y7b) := Lib.hid ⟨hb, hk⟩; clear hp hb hk))
        have LIT0 := LIT.out
        have LIT := Lib.hid (kept_int HSy7b.out.2 LIT0)
        clear LIT0
        refine hK.out _ _ (by (try dsimp only); exact ⟨hHeld.1.trans HSy7b.out.1, hHeld.2.trans HSy7b.out.2⟩) (fun hHeld => ?_)
        clear hK K
        refine tkR 10 rfl (fun K hK => ?_)
        have HZy7b : Hid (B ≤ (y7b).heap.size) := Lib.hid (Nat.le_trans hbz5 hHeld.1.size)
        have hHby7b : Hid (But B pb w5 (y7b)) := Lib.hid hHeld.1
        have HLENy7b : Hid ((((P ++ (numB (x.n : Int))) ++ (numsB x.ks))).length + 0 ≤ P.length + (wayB x).length) := Lib.hid (by rw [WB.out]; simp only [List.length_append]; omega)
        go_simp
        go_wp2_with ((go_at_call 26; (with_reducible refine (psum_typed _ HXS.out HPy7b.out HZy7b.out (by have h0 := HLW.out; have h1 := HLENy7b.out; omega)).mono ?_); rintro e y10b ⟨rfl, hp, hb, hk⟩; have HPy10b := Lib.hid hp; have HSy10b : Hid (PStep B pb _ y10b) := Lib.hid ⟨hb, hk⟩; clear hp hb hk))
        have LIT0 := LIT.out
        have LIT := Lib.hid (kept_int HSy10b.out.2 LIT0)
        clear LIT0
        refine hK.out _ _ (by (try dsimp only); exact ⟨hHeld.1.trans HSy10b.out.1, hHeld.2.trans HSy10b.out.2⟩) (fun hHeld => ?_)
        clear hK K
        refine tkR 16 rfl (fun K hK => ?_)
        have HZy10b : Hid (B ≤ (y10b).heap.size) := Lib.hid (Nat.le_trans hbz5 hHeld.1.size)
        have hHby10b : Hid (But B pb w5 (y10b)) := Lib.hid hHeld.1
        have HLENy10b : Hid (((((P ++ (numB (x.n : Int))) ++ (numsB x.ks)) ++ x.h)).length + 0 ≤ P.length + (wayB x).length) := Lib.hid (by rw [WB.out]; simp only [List.length_append]; omega)
        go_simp
        go_wp2_with ((go_at_call 73; (with_reducible refine (pnums_typed (n := 2) (c := 2) (off := 0) _ rfl (Nat.le_refl _) (by unfold maxLen; omega) (two_small HXA.out HXW.out) (lit2 LIT.out) HPy10b.out HZy10b.out (by omega) (by have h0 := HLW.out; have h1 := HLENy10b.out; omega)).mono ?_); rintro e y16b ⟨rfl, hp, hb, hk⟩; have HPy16b := Lib.hid hp; have HSy16b : Hid (PStep B pb _ y16b) := Lib.hid ⟨hb, hk⟩; clear hp hb hk))
        refine hK.out _ _ (by (try dsimp only); exact ⟨hHeld.1.trans HSy16b.out.1, hHeld.2.trans HSy16b.out.2⟩) (fun hHeld => ?_)
        clear hK K
        refine wpAnyH_done (by kernel_rfl) ?_ _
        have HS := Lib.hid (show PStep B pb w5 y16b from hHeld)
        clear hHeld
        have HPE : Hid (PenAt y16b B pb (l ++ (numsB [m, (n : Int)] ++ waysB (xs.take (k + 1))))) := Lib.hid (by have h9 := HPy16b.out; rw [HNX.out, WB.out]; simpa only [List.append_assoc] using h9)
        go_wp2_with fail
        go_roundw
        case rel => exact ⟨k + 1, by omega, by go_num, HPE.out, HBW.out.trans HS.out.1, HKP.out.trans HS.out.2⟩
        case measure => simp [intOf]; omega
      exact AllReadyH.nil
    · obtain rfl : k = n := by omega
      have f1 : ¬ ((k : Int) < (k : Int)) := by omega
      have htk : xs.take k = xs := List.take_of_length_le (by rw [H.out.1]; exact Nat.le_refl _)
      have HPE : Hid (PenAt wr B pb (l ++ outB m xs)) := Lib.hid (by rw [HE.out]; have h9 := HPK.out; rw [htk] at h9; exact h9)
      clear htk
      go_wp2
      go_end0
      exact ⟨rfl, HPE.out, HBK.out, HKK.out⟩
end Go.Proofs.YteddkkcheaghaaaGreatDoor
