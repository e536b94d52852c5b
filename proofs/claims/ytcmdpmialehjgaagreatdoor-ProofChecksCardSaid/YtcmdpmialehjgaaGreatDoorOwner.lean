/- Amounts, plainly: which may be, all together. No function of the program is named. What Right, Add and Sub come to. Which channels and states may be: what the code's functions come to. Which states may be of a channel: what the code's functions come to. Outs of two slices told alike: what slices.EqualFunc with lock.Same comes to. What the code's hasOuts comes to. What the code's hasOuts comes to, of any outs. What the code's Owner comes to, of a commitment. What the code's Owner comes to, of any transaction. -/
import Derived.Test.YtcmdpmialehjgaaGreatDoorNumbers
import Derived.Test.YtcmdpmialehjgaaGreatDoorCommit
import Derived.Test.YtcmdpmialehjgaaGreatDoorLock
import Derived.Test.YtcmdpmialehjgaaGreatDoorSteps
import Derived.Test.YtcmdpmialehjgaaGreatDoorTx
namespace Go.Proofs.YtcmdpmialehjgaaGreatDoor
open Go.RowKit

/-- An amount may be. -/
def okAmount (z : Int) : Bool := decide (0 ≤ z ∧ z ≤ 1125899906842624)
theorem okAmount_yes {z : Int} (h : 0 ≤ z) (h' : z ≤ 1125899906842624) : okAmount z = true := decide_eq_true ⟨h, h'⟩
theorem okAmount_no {z : Int} (h : z < 0 ∨ 1125899906842624 < z) : okAmount z = false := decide_eq_false (by omega)
/-- All together, one by one, behind a sum; and the error. -/
def addFrom (sum : Int) : List Int → Int × Int
  | [] => (sum, 0)
  | z :: l => if okAmount z then (if 1125899906842624 < sum + z then (0, 10) else addFrom (sum + z) l) else (0, 5)
theorem addFrom_bad {s z : Int} {l : List Int} (h : z < 0 ∨ 1125899906842624 < z) : addFrom s (z :: l) = (0, 5) := by unfold addFrom; rw [okAmount_no h]; rfl
theorem addFrom_over {s z : Int} {l : List Int} (h : 0 ≤ z) (h' : z ≤ 1125899906842624) (h2 : 1125899906842624 < s + z) : addFrom s (z :: l) = (0, 10) := by unfold addFrom; rw [okAmount_yes h h', if_pos rfl, if_pos h2]
theorem addFrom_more {s z : Int} {l : List Int} (h : 0 ≤ z) (h' : z ≤ 1125899906842624) (h2 : s + z ≤ 1125899906842624) : addFrom s (z :: l) = addFrom (s + z) l := by
  rw [addFrom, okAmount_yes h h', if_pos rfl, if_neg (by omega)]
end Go.Proofs.YtcmdpmialehjgaaGreatDoor
namespace Go.Proofs.YtcmdpmialehjgaaGreatDoor
open Go.RowKit

theorem right_any (z : Int) (w : World) : Calls Tryz.prog 111 #[.int .i64 z] w fun e w' => e = .returned (.bool (okAmount z)) ∧ w = w' := by
  by_cases h1 : 0 ≤ z
  · by_cases h2 : z ≤ 1125899906842624
    · rw [okAmount_yes h1 h2]
      go_enter Tryz.func111, Tryz.ntmps111
      go_wp2
      go_ret
      exact ⟨rfl, rfl⟩
    · rw [okAmount_no (by omega)]
      go_enter Tryz.func111, Tryz.ntmps111
      go_wp2
      go_ret
      exact ⟨rfl, rfl⟩
  · rw [okAmount_no (by omega)]
    go_enter Tryz.func111, Tryz.ntmps111
    go_wp2
    go_ret
    exact ⟨rfl, rfl⟩
set_option linter.unusedSimpArgs false in
set_option maxRecDepth 100000 in
set_option maxHeartbeats 1600000 in
theorem add_any {w : World} {a : Option Addr} {n c : Nat} {zs : List Int} (h : Numbers w a n c zs) : Calls Tryz.prog 79 #[.slice a n c] w fun e w' => e = .returned (.tuple #[.int .i64 (addFrom 0 zs).1, .int .i64 (addFrom 0 zs).2]) ∧ Below w.heap.size w w' := by
  obtain ⟨R, hR⟩ : ∃ R, R = addFrom 0 zs := ⟨_, rfl⟩
  rw [← hR]
  have hlen := h.1
  have hn63 : (n : Int) ≤ 9223372036854775807 := by have h1 := h.2.1; have h2 := h.2.2.1; unfold maxLen at h2; omega
  have H := Lib.hid h
  have HR := Lib.hid hR
  have HL := Lib.hid hlen
  clear h hR hlen
  go_enter Tryz.func79, Tryz.ntmps79
  go_wp2
  go_loop [4, 9] (fun s i => ∃ (k : Nat) (S : Int), k ≤ n ∧ i = .int .i64 k ∧ s = .int .i64 S ∧ 0 ≤ S ∧ S ≤ 1125899906842624 ∧ R = addFrom S (zs.drop k)) (fun _ i => n - (intOf i).toNat)
  case atStart => exact ⟨0, 0, Nat.zero_le _, rfl, rfl, Int.le_refl _, by omega, HR.out⟩
  case round =>
    obtain ⟨k, S, hk, rfl, rfl, hS0, hS1, hRk⟩ := hrel
    by_cases hkn : k < n
    · have f1 : (k : Int) < (n : Int) := by omega
      have f0 : (0 : Int) ≤ (k : Int) := by omega
      have ft : ((k : Int)).toNat = k := by omega
      obtain ⟨b, off, rfl, _, hcells⟩ := H.out.2.2.2.2.2 (by omega)
      have hc := hcells k hkn
      obtain ⟨z1, z2⟩ := H.out.fits hkn
      rw [drop_cons (by rw [HL.out]; exact hkn)] at hRk
      obtain ⟨z, hz⟩ : ∃ z, z = zs.getD k 0 := ⟨_, rfl⟩
      rw [← hz] at hc z1 z2 hRk
      have HRK := Lib.hid hRk
      have hri : ∀ (W : World) (u : Int) (B : Bool), okAmount u = B → Calls Tryz.prog 111 #[.int .i64 u] W fun e w' => e = .returned (.bool B) ∧ W = w' := fun W u B hB => by rw [← hB]; exact right_any u W
      have HRI := Lib.hid hri
      clear hRk hz hcells hri HR
      by_cases h1 : z < 0 ∨ 1125899906842624 < z
      · have hR5 := HRK.out
        rw [addFrom_bad h1] at hR5
        have HN := Lib.hid (okAmount_no h1)
        clear h1
        subst hR5
        go_wp2_with (go_at_call 111; (with_reducible refine (HRI.out _ _ false HN.out).mono ?_); rintro e w' ⟨rfl, rfl⟩)
        go_ret2
        exact ⟨rfl, Below.refl _ _⟩
      · have HY := Lib.hid (okAmount_yes (z := z) (by omega) (by omega))
        have iw : IntKind.i64.wrap (S + z) = S + z := IntWalk.i64_in _ (by omega)
        by_cases h2 : 1125899906842624 < S + z
        · have hR10 := HRK.out
          rw [addFrom_over (by omega) (by omega) h2] at hR10
          have HN := Lib.hid (okAmount_no (z := S + z) (.inr h2))
          clear h1 h2
          subst hR10
          go_wp2_with (go_at_call 111; first | ((with_reducible refine (HRI.out _ _ true HY.out).mono ?_); rintro e w' ⟨rfl, rfl⟩) | ((with_reducible refine (HRI.out _ _ false HN.out).mono ?_); rintro e w' ⟨rfl, rfl⟩))
          go_ret2
          exact ⟨rfl, Below.refl _ _⟩
        · have hR2 := HRK.out
          rw [addFrom_more (by omega) (by omega) (by omega)] at hR2
          have HN := Lib.hid (okAmount_yes (z := S + z) (by omega) (by omega))
          have HR2 := Lib.hid hR2
          have g0 : 0 ≤ S + z := by omega
          have g1 : S + z ≤ 1125899906842624 := by omega
          clear h1 h2 hR2
          go_wp2_with (go_at_call 111; first | ((with_reducible refine (HRI.out _ _ true HY.out).mono ?_); rintro e w' ⟨rfl, rfl⟩) | ((with_reducible refine (HRI.out _ _ true HN.out).mono ?_); rintro e w' ⟨rfl, rfl⟩))
          go_round
          case rel => exact ⟨k + 1, S + z, by omega, by go_num, rfl, g0, g1, HR2.out⟩
          case measure => simp [intOf]; omega
    · have f1 : ¬ ((k : Int) < (n : Int)) := by omega
      have hd : zs.drop k = [] := List.drop_of_length_le (by rw [HL.out]; omega)
      rw [hd] at hRk
      have hRk : R = (S, 0) := hRk
      subst hRk
      clear HR
      go_wp2
      go_ret2
      exact ⟨rfl, Below.refl _ _⟩
end Go.Proofs.YtcmdpmialehjgaaGreatDoor
namespace Go.Proofs.YtcmdpmialehjgaaGreatDoor
open Go.RowKit

theorem comupto_any (w : World) (z m : Int) : Calls Tryz.prog 62 #[.int .i64 z, .int .i64 m] w fun e w' => e = .returned (.bool (decide (0 ≤ z) && decide (z ≤ m))) ∧ w = w' := by
  obtain ⟨t1, h1⟩ : ∃ r, decide (0 ≤ z) = r := ⟨_, rfl⟩
  obtain ⟨t2, h2⟩ : ∃ r, decide (z ≤ m) = r := ⟨_, rfl⟩
  go_enter Tryz.func62, Tryz.ntmps62
  rw [h1, h2]
  cases t1
  · go_wp2
    go_ret
    exact ⟨rfl, rfl⟩
  · cases t2
    · go_wp2
      go_ret
      exact ⟨rfl, rfl⟩
    · go_wp2
      go_ret
      exact ⟨rfl, rfl⟩
def keysOk (x : PChan) : Bool := decide (0 ≤ x.client ∧ x.client ≤ 255 ∧ 0 ≤ x.peer ∧ x.peer ≤ 255)
theorem keysOk_is (x : PChan) : keysOk x = ((decide (0 ≤ x.client) && decide (x.client ≤ 255)) && (decide (0 ≤ x.peer) && decide (x.peer ≤ 255))) := by simp [keysOk, Bool.and_assoc]
set_option linter.unusedSimpArgs false in
set_option maxRecDepth 100000 in
set_option maxHeartbeats 6400000 in
theorem rightKeys_any (w : World) {x : PChan} (hf : x.ftx.length = 32) : Calls Tryz.prog 44 #[.agg x.cells.toArray] w fun e w' => e = .returned (.bool (keysOk x)) ∧ Below w.heap.size w w' := by
  obtain ⟨u1, hu1, ku1⟩ : ∃ u, (decide (0 ≤ x.client) && decide (x.client ≤ 255)) = u ∧ ∀ W : World, Calls Tryz.prog 62 #[.int .i64 (x.client), .int .i64 255] W fun e w' => e = .returned (.bool u) ∧ W = w' := ⟨_, rfl, fun W => comupto_any W _ _⟩
  have Ku1 := Lib.hid ku1
  obtain ⟨u2, hu2, ku2⟩ : ∃ u, (decide (0 ≤ x.peer) && decide (x.peer ≤ 255)) = u ∧ ∀ W : World, Calls Tryz.prog 62 #[.int .i64 (x.peer), .int .i64 255] W fun e w' => e = .returned (.bool u) ∧ W = w' := ⟨_, rfl, fun W => comupto_any W _ _⟩
  have Ku2 := Lib.hid ku2
  have HR : Hid (keysOk x = (u1 && u2)) := Lib.hid (by rw [← hu1, ← hu2]; exact keysOk_is x)
  clear hu1 hu2 ku1 ku2
  go_enter Tryz.func44, Tryz.ntmps44
  go_upto_region 1 with (fail)
  have b1 : Below w.heap.size w (w.alloc (.cells x.cells.toArray 49)) := (Below.refl _ _).alloc (Nat.le_refl _) _
  have h1 := heap_alloc_new w (.cells x.cells.toArray 49)
  revert b1 h1
  generalize (w.alloc (.cells x.cells.toArray 49)) = w1
  obtain ⟨g, hg⟩ : ∃ g, g = w.heap.size := ⟨_, rfl⟩
  rw [← hg]
  intro b1 h1
  rw [hg] at b1
  have HB := Lib.hid b1
  have hat := chan_at hf (range_of h1)
  have c1 := hat.client
  have c2 := hat.peer
  rw [Nat.zero_add] at c1 c2
  clear hat
  obtain ⟨X, hX⟩ : ∃ X, x.cells.toArray = X := ⟨_, rfl⟩
  rw [hX]
  clear h1 hg b1 hX
  cases u1
  · go_wp2_with (first | (go_at_call 62; (first | (with_reducible refine (Ku1.out _).mono ?_) | (with_reducible refine (Ku2.out _).mono ?_)); rintro e w2 ⟨rfl, rfl⟩) | fail)
    go_ret
    exact ⟨by rw [HR.out]; simp, HB.out⟩
  · cases u2
    · go_wp2_with (first | (go_at_call 62; (first | (with_reducible refine (Ku1.out _).mono ?_) | (with_reducible refine (Ku2.out _).mono ?_)); rintro e w2 ⟨rfl, rfl⟩) | fail)
      go_ret
      exact ⟨by rw [HR.out]; simp, HB.out⟩
    · go_wp2_with (first | (go_at_call 62; (first | (with_reducible refine (Ku1.out _).mono ?_) | (with_reducible refine (Ku2.out _).mono ?_)); rintro e w2 ⟨rfl, rfl⟩) | fail)
      go_ret
      exact ⟨by rw [HR.out]; simp, HB.out⟩
end Go.Proofs.YtcmdpmialehjgaaGreatDoor
namespace Go.Proofs.YtcmdpmialehjgaaGreatDoor
open Go.RowKit

theorem sum_zero14 : (Tryz.prog.info? 23).map (fun i => (i.zero, i.size, i.bytes)) = some (some (.agg (cellsOf zero32).toArray), 32, 32) := by kernel_rfl
end Go.Proofs.YtcmdpmialehjgaaGreatDoor
namespace Go.Proofs.YtcmdpmialehjgaaGreatDoor
open Go.RowKit

def alikeO (x y : POut) : Bool := decide (x.m = y.m) && alikeWs x.ws y.ws
def alikeOs : List POut → List POut → Bool
  | [], [] => true
  | x :: xs, y :: ys => alikeO x y && alikeOs xs ys
  | _, _ => false
theorem alikeOs_len : ∀ {xs ys : List POut}, xs.length ≠ ys.length → alikeOs xs ys = false
  | [], [], h => absurd rfl h
  | [], _ :: _, _ => rfl
  | _ :: _, [], _ => rfl
  | _ :: xs, _ :: ys, h => by
    rw [alikeOs, alikeOs_len (xs := xs) (ys := ys) (fun e => h (by simp [e])), Bool.and_false]
theorem sameOut_any {w : World} {x y : POut} (h : OutIn w x) (k : OutIn w y) : Calls Tryz.prog 65 #[.agg x.cells.toArray, .agg y.cells.toArray] w fun e w' => e = .returned (.bool (alikeO x y)) ∧ Below w.heap.size w w' := lockSame_any h.ws k.ws
theorem OutIn.keepO {w w' : World} {x : POut} (h : OutIn w x) (hb : Below w.heap.size w w') : OutIn w' x := ⟨h.m, h.ws.below hb⟩
theorem out_size14 (x : POut) : (Tryz.prog.info? 79).map (·.size) = some x.cells.length := by show _ = some 2; kernel_rfl
theorem out_sizeA14 (x : POut) : (Tryz.prog.info? 79).map (·.size) = some x.cells.toArray.size := by show _ = some 2; kernel_rfl
set_option linter.unusedSimpArgs false in
set_option maxRecDepth 100000 in
set_option maxHeartbeats 6400000 in
theorem equalOuts_any {w : World} {a b : Option Addr} {n c m d : Nat} {xs ys : List POut} (h : SliceOf outK w a n c xs) (k : SliceOf outK w b m d ys) :
    Calls Tryz.prog 64 #[.slice a n c, .slice b m d, .func (.func 65) #[] #[]] w fun e w' => e = .returned (.bool (alikeOs xs ys)) ∧ Below w.heap.size w w' := by
  have hn63 := h.len63
  have hm63 := k.len63
  by_cases hnm : n = m
  · subst hnm
    obtain ⟨R, hR⟩ : ∃ R, R = alikeOs xs ys := ⟨_, rfl⟩
    rw [← hR]
    have H := Lib.hid h
    have K := Lib.hid k
    have HR := Lib.hid hR
    clear h k hR
    go_enter Tryz.func64, Tryz.ntmps64
    go_upto_region 4 with (fail)
    go_loopw [17] (fun x wr => ∃ j : Nat, j ≤ n ∧ x = .int .i64 j ∧ Below w.heap.size w wr ∧ R = alikeOs (xs.drop j) (ys.drop j)) (fun x _ => n - (intOf x).toNat)
    case atStart => exact ⟨0, Nat.zero_le _, rfl, Below.refl _ _, HR.out⟩
    case round =>
      obtain ⟨j, hj, rfl, hb, hRj⟩ := hrel
      have HB := Lib.hid hb
      have HRJ := Lib.hid hRj
      clear hb hRj HR
      by_cases hjn : j < n
      · have f1 : (j : Int) < (n : Int) := by omega
        have f0 : (0 : Int) ≤ (j : Int) := by omega
        have ft : ((j : Int)).toNat = j := by omega
        have hbx := HB.out
        obtain ⟨b1, o1, e1, hlt1, hc1⟩ := (H.out.below hbx).2.2.2.2.2 (by omega)
        obtain ⟨b2, o2, e2, hlt2, hc2⟩ := (K.out.below hbx).2.2.2.2.2 (by omega)
        have hx : OutIn wr (xs.getD j noOut) := (H.out.below hbx).get hjn
        have hy : OutIn wr (ys.getD j noOut) := (K.out.below hbx).get hjn
        have hrx : wr.rangeAt b1 (o1 + j * 2) (xs.getD j noOut).cells := hc1 j hjn
        have hry : wr.rangeAt b2 (o2 + j * 2) (ys.getD j noOut).cells := hc2 j hjn
        have hRj := HRJ.out
        rw [drop_getD (d := noOut) (xs := xs) (by rw [H.out.1]; exact hjn), drop_getD (d := noOut) (xs := ys) (by rw [K.out.1]; exact hjn)] at hRj
        revert hx hy hrx hry hRj
        generalize xs.getD j noOut = x
        generalize ys.getD j noOut = y
        intro hx hy hrx hry hRj
        replace hRj : R = (alikeO x y && alikeOs (xs.drop (j + 1)) (ys.drop (j + 1))) := hRj
        subst e1
        subst e2
        have HRJ := Lib.hid hRj
        have RX := Lib.hid hrx
        have RY0 := Lib.hid hry
        have HLT2 := Lib.hid hlt2
        have HX := Lib.hid hx
        have HY := Lib.hid hy
        clear hc1 hc2 hrx hry hRj hx hy hbx H K hlt1 hlt2
        go_upto_region 6 with (first | (refine wpList_load_mid rfl 79 _ rfl b1 (o1 + j * 2) rfl x.cells _ RX.out Tryz.underlying79 rfl (out_size14 x) ?_) | (refine wpList_new rfl 79 rfl noOut.cells.toArray Tryz.zeroOut14 ?_; intro p5 w5 hp5 hh5 hb5; go_frame) | (refine wpList_row10 rfl 79 _ _ rfl p5 x.cells rfl rfl 79 noOut.cells hh5 (out_size14 x) rfl x.one ?_; intro w6 hh6 hb6) | fail)
        have hbr := But.in hb5 hb6 hp5
        have RY := Lib.hid (rangeAt_below RY0.out HLT2.out hbr)
        have HP5 := Lib.hid hh6
        have HBR6 := Lib.hid hbr
        have HB6 := Lib.hid (HB.out.trans (hbr.mono HB.out.size))
        clear hbr hp5 hh5 hb5 hh6 hb6 RX RY0 HLT2
        try simp only [Act.put]
        go_upto_region 7 with (first | (refine wpList_load_mid rfl 79 _ rfl b2 (o2 + j * 2) rfl y.cells _ RY.out Tryz.underlying79 rfl (out_size14 y) ?_) | (refine wpList_var rfl rfl 79 rfl _ _ rfl noOut.cells.toArray Tryz.zeroOut14 rfl y.cells (fun _ => rfl) (fun _ => rfl) rfl y.one ?_; intro p7 w7 hp7 hh7 hb7; go_frame; have HP7 := Lib.hid hh7; have HP57 := Lib.hid (keep hb7 HP5.out); have HB7 := Lib.hid (bthen HB6.out hb7); have HB67 := Lib.hid hb7; clear hp7 hh7 hb7) | fail)
        have HSW := Lib.hid (sameOut_any (HX.out.keepO (bthen HBR6.out HB67.out)) (HY.out.keepO (bthen HBR6.out HB67.out)))
        generalize alikeO x y = r at *
        try simp only [Act.put]
        cases r
        · have hRf : R = false := HRJ.out
          subst hRf
          go_wp2_with (first | (refine wpList_load_row rfl 79 _ rfl p5 rfl 79 x.cells.toArray (0, 0) _ HP57.out Tryz.underlying79 rfl (out_sizeA14 x) ?_) | (refine wpList_load_row rfl 79 _ rfl p7 rfl 79 y.cells.toArray (0, 0) _ HP7.out Tryz.underlying79 rfl (out_sizeA14 y) ?_) | (go_at_call 65; (with_reducible refine HSW.out.mono ?_); rintro e w8 ⟨rfl, hb8⟩; have HB8 := Lib.hid (HB7.out.trans (hb8.mono HB7.out.size)); clear hb8) | fail)
          go_ret
          exact ⟨rfl, HB8.out⟩
        · have hRt : R = alikeOs (xs.drop (j + 1)) (ys.drop (j + 1)) := HRJ.out
          have HRN := Lib.hid hRt
          clear hRt HRJ
          go_wp2_with (first | (refine wpList_load_row rfl 79 _ rfl p5 rfl 79 x.cells.toArray (0, 0) _ HP57.out Tryz.underlying79 rfl (out_sizeA14 x) ?_) | (refine wpList_load_row rfl 79 _ rfl p7 rfl 79 y.cells.toArray (0, 0) _ HP7.out Tryz.underlying79 rfl (out_sizeA14 y) ?_) | (go_at_call 65; (with_reducible refine HSW.out.mono ?_); rintro e w8 ⟨rfl, hb8⟩; have HB8 := Lib.hid (HB7.out.trans (hb8.mono HB7.out.size)); clear hb8) | fail)
          go_roundw
          case rel => exact ⟨j + 1, by omega, by go_num, HB8.out, HRN.out⟩
          case measure => simp [intOf]; omega
      · have f1 : ¬ ((j : Int) < (n : Int)) := by omega
        have e1 : xs.drop j = [] := List.drop_of_length_le (by rw [H.out.1]; omega)
        have e2 : ys.drop j = [] := List.drop_of_length_le (by rw [K.out.1]; omega)
        have hRt : R = true := by rw [HRJ.out, e1, e2]; rfl
        subst hRt
        clear e1 e2 HRJ
        go_wp2
        go_ret
        exact ⟨rfl, HB.out⟩
  · have hne : ¬ ((n : Int) = (m : Int)) := by omega
    rw [alikeOs_len (by rw [h.1, k.1]; exact hnm)]
    go_enter Tryz.func64, Tryz.ntmps64
    go_wp2
    go_ret
    exact ⟨rfl, Below.refl _ _⟩
end Go.Proofs.YtcmdpmialehjgaaGreatDoor
namespace Go.Proofs.YtcmdpmialehjgaaGreatDoor
open Go.RowKit

/-- A first out of two ways. -/
def twoO (m0 : Int) (wa : Option Addr) (wc : Nat) (u0 u1 : PWay) : POut := ⟨m0, wa, 2, wc, [u0, u1]⟩
theorem alikeWs_one (xs : List PWay) (y z : PWay) (h : ∀ x, alikeW x y = alikeW x z) : alikeWs xs [y] = alikeWs xs [z] := by
  cases xs with
  | nil => rfl
  | cons x xs =>
    show (alikeW x y && alikeWs xs []) = (alikeW x z && alikeWs xs [])
    rw [h]
/-- Where the wanted ones lie makes no difference. -/
theorem outs_alike (c : PChan) (m0 : Int) (wa : Option Addr) (wc : Nat) (u0 u1 : PWay) (x1 : POut) (a1 a2 a3 a4 a5 : Option Addr) (me other : Int) (h : List UInt8) :
    alikeOs [twoO m0 wa wc u0 u1, x1] [ownP c a1 a2 a3 me other m0 h, herP a4 a5 other x1.m] = alikeOs [twoO m0 wa wc u0 u1, x1] [ownP c none none none me other m0 h, herP none none other x1.m] := by
  have e : alikeWs x1.ws [⟨a5, 1, 1, [other], zero32, 0, 0⟩] = alikeWs x1.ws [⟨none, 1, 1, [other], zero32, 0, 0⟩] := alikeWs_one _ _ _ (fun _ => rfl)
  show (alikeO (twoO m0 wa wc u0 u1) (ownP c none none none me other m0 h) && ((decide (x1.m = x1.m) && alikeWs x1.ws [⟨a5, 1, 1, [other], zero32, 0, 0⟩]) && true)) = _
  rw [e]
  rfl
set_option linter.unusedSimpArgs false in
set_option maxRecDepth 100000 in
set_option maxHeartbeats 6400000 in
theorem has0_any {w : World} {c : PChan} {a : Option Addr} {cc : Nat} {m0 : Int} {wa : Option Addr} {wc : Nat} {u0 u1 : PWay} {x1 : POut} (hc : ChanIn c) (hl : SliceOf outK w a 2 cc [(twoO m0 wa wc u0 u1), x1]) (hz : u1.h ≠ zero32) :
    Calls Tryz.prog 45 #[.agg c.cells.toArray, .slice a 2 cc, .int .i64 0] w fun e w' => e = .returned (.bool (alikeOs [(twoO m0 wa wc u0 u1), x1] [ownP c none none none c.client c.peer m0 u1.h, herP none none c.peer x1.m])) ∧ Below w.heap.size w w' := by
  have i0 : OutIn w (twoO m0 wa wc u0 u1) := hl.2.2.2.2.1 _ (by simp)
  have i1 : OutIn w x1 := hl.2.2.2.2.1 _ (by simp)
  have hwi : WayIn w u1 := i0.ws.2.2.2.2.1 _ (by simp [twoO])
  have HC := Lib.hid hc
  have HFM := Lib.hid hc.client
  have HFO := Lib.hid hc.peer
  have HF0 : Hid (Fits m0) := Lib.hid i0.m
  have HF1 := Lib.hid i1.m
  have HHL := Lib.hid hwi.sum
  have HZ := Lib.hid hz
  have SZCl := Lib.hid (chan_size hc.ftx)
  have SZH : Hid ((Tryz.prog.info? 23).map (·.size) = some (cellsOf u1.h).length) := Lib.hid (by rw [cellsOf_len, hwi.sum]; exact Tryz.size23)
  have AZH := Lib.hid (size_of hwi.sum)
  have CLH : Hid ((cellsOf u1.h).length = 32) := Lib.hid (by rw [cellsOf_len, hwi.sum])
  obtain ⟨b, o, rfl, hlt, hcells⟩ := hl.2.2.2.2.2 (by omega)
  have r0 : w.rangeAt b o (POut.cells (twoO m0 wa wc u0 u1)) := by have h9 := hcells 0 (by omega); rw [Nat.zero_mul] at h9; exact h9
  have r1 : w.rangeAt b (o + 2) x1.cells := by have h9 := hcells 1 (by omega); exact h9
  obtain ⟨b2, o2, ew, hlt2, hcells2⟩ := i0.ws.2.2.2.2.2 (by show 0 < 2; omega)
  replace ew : wa = some ⟨b2, o2, none⟩ := ew
  have r2 : w.rangeAt b2 (o2 + 35) u1.cells := by have h9 := hcells2 1 (by show 1 < 2; omega); exact h9
  have cw := (range_cons (range_cons r0).2).1
  have cm0 := (range_cons r0).1
  have cm1 := (range_cons r1).1
  replace cw : w.cell? ⟨b, o + 1, none⟩ = some (.slice wa 2 wc) := cw
  replace cm0 : w.cell? ⟨b, o, none⟩ = some (.int .i64 m0) := cm0
  have rh : w.rangeAt b2 (o2 + 36) (cellsOf u1.h) := (range_append (range_cons r2).2).1
  have HL := Lib.hid hl
  have HLT := Lib.hid hlt
  have HLT2 := Lib.hid hlt2
  have CW := Lib.hid cw
  have CM0' := Lib.hid cm0
  have CM1' := Lib.hid cm1
  have RH' := Lib.hid rh
  have HEW := Lib.hid ew
  clear i0 i1 hwi r0 r1 r2 hcells hcells2 hlt hlt2 cw cm0 cm1 rh hl hz hc ew
  go_enter Tryz.func45, Tryz.ntmps45
  go_upto_region 1 with (fail)
  have b1 : Below w.heap.size w (w.alloc (.cells c.cells.toArray 49)) := (Below.refl _ _).alloc (Nat.le_refl _) _
  have h1 := heap_alloc_new w (.cells c.cells.toArray 49)
  revert b1 h1
  generalize (w.alloc (.cells c.cells.toArray 49)) = w1
  obtain ⟨g, hg⟩ : ∃ g, g = w.heap.size := ⟨_, rfl⟩
  rw [← hg]
  intro b1 h1
  rw [hg] at b1
  have HB := Lib.hid b1
  have H1 := Lib.hid h1
  have cw := (Below.cell b1 (p := ⟨b, o + 1, none⟩) HLT.out).trans CW.out
  rw [HEW.out] at cw
  have RH1 := Lib.hid (rangeAt_below RH'.out HLT2.out b1)
  clear h1 b1 hg
  go_upto_region 4 with (first | (refine wpList_load_mid rfl 23 _ rfl b2 (o2 + 36) rfl (cellsOf u1.h) _ RH1.out Tryz.underlying23 rfl SZH.out ?_) | (refine wpList_var rfl rfl 23 rfl _ _ rfl (cellsOf zero32).toArray sum_zero14 rfl (cellsOf u1.h) (fun _ => rfl) (fun _ => rfl) CLH.out (cellsOf_one u1.h) ?_; intro p w2 hq hh hb; go_frame; have HB2 := Lib.hid (bthen HB.out hb); have HP2 := Lib.hid hh; have H12 := Lib.hid (keep hb H1.out); clear hq hh hb) | fail)
  have HL2 := Lib.hid (HL.out.below HB2.out)
  have HBL := Lib.hid (Nat.lt_of_lt_of_le HLT.out HB2.out.size)
  have CM0 := Lib.hid ((Below.cell HB2.out (p := ⟨b, o, none⟩) HLT.out).trans CM0'.out)
  have CM1 := Lib.hid ((Below.cell HB2.out (p := ⟨b, o + 2, none⟩) HLT.out).trans CM1'.out)
  clear cw RH1 CM0' CM1' RH' HEW CW
  refine wp_region_held_drew (S := fun w' => Below w2.heap.size w2 w') (by kernel_rfl) (below_drew (Below.refl _ _)) (fun hHeld => ?_)
  refine tkA 0 rfl rfl (yieldsIf_load_mid (by rfl) _ _ rfl g 0 rfl c.cells _ (fun w0 hSw => range_of (keep hSw H12.out)) Tryz.underlying49 rfl SZCl.out) ?_
  refine tkP 1 rfl rfl ?_
  refine tkP 2 rfl rfl ?_
  refine tkP 3 rfl rfl ?_
  refine tkP 4 rfl rfl ?_
  refine tkA 5 rfl rfl (yields_cell (b := b) (o := o) (by rfl) rfl rfl (fun w0 hSw => (Below.cell hSw (p := ⟨b, o, none⟩) HBL.out).trans CM0.out) (fun w0 => Tryz.isAgg2 w0)) ?_
  refine tkP 6 rfl rfl ?_
  refine tkP 7 rfl rfl ?_
  refine tkP 8 rfl rfl ?_
  refine tkA 9 rfl rfl (yields_cell (b := b) (o := (o + 2)) (by rfl) rfl rfl (fun w0 hSw => (Below.cell hSw (p := ⟨b, (o + 2), none⟩) HBL.out).trans CM1.out) (fun w0 => Tryz.isAgg2 w0)) ?_
  refine tkA 10 rfl rfl (yieldsIf_load_mid (by rfl) _ _ rfl p 0 rfl (cellsOf u1.h) _ (fun w0 hSw => range_of (keep hSw HP2.out)) Tryz.underlying23 rfl SZH.out) ?_
  refine tkR 11 rfl (fun K hK => ?_)
  have HC11 := Lib.hid (fun (W : World) => outs0_any (w := W) (own := m0) (rest := x1.m) HC.out HHL.out)
  go_simp
  go_wp2_with ((go_at_call 63; (with_reducible refine (HC11.out _).mono ?_); rintro e w3 ⟨p1, p2, p3, p4, p5, p6, rfl, ho, hb⟩; have HB23 := Lib.hid (bthen hHeld hb); have HO := Lib.hid ho; clear ho hb HC11))
  refine hK.out _ _ (by (try dsimp only); exact HB23.out) (fun hHeld => ?_)
  clear hK K
  refine tkP 12 rfl rfl ?_
  refine wpAnyH_done (by kernel_rfl) ?_ _
  clear hHeld
  have HB3 := Lib.hid (bthen HB2.out HB23.out)
  have HP3 := Lib.hid (keep HB23.out HP2.out)
  have HEQ := Lib.hid (equalOuts_any (HL2.out.below HB23.out) (HO.out.slice HC.out HFM.out HFO.out HF0.out HF1.out HHL.out))
  rw [outs_alike] at HEQ
  have qz : ∀ W : World, (Op.equalIn 10000 23 (.agg (cellsOf u1.h).toArray) (.agg (cellsOf zero32).toArray)).run Tryz.prog W = .ok false W := fun W => by rw [run_eqSums _ _ HHL.out rfl W, decide_eq_false HZ.out]
  go_wp2_with (first | (refine wpList_load_row rfl 23 _ rfl p rfl 23 (cellsOf u1.h).toArray (0, 0) _ HP3.out Tryz.underlying23 rfl AZH.out ?_) | (refine wpList_build10 rfl rfl (vs := []) rfl build_zero14 ?_; go_frame) | (go_at_call 64; (with_reducible refine (HEQ.out).mono ?_); rintro e w4 ⟨rfl, hb⟩; have HB4 := Lib.hid (bthen HB3.out hb); clear hb) | fail)
  go_ret
  exact ⟨rfl, HB4.out⟩
set_option linter.unusedSimpArgs false in
set_option maxRecDepth 100000 in
set_option maxHeartbeats 6400000 in
theorem has1_any {w : World} {c : PChan} {a : Option Addr} {cc : Nat} {m0 : Int} {wa : Option Addr} {wc : Nat} {u0 u1 : PWay} {x1 : POut} (hc : ChanIn c) (hl : SliceOf outK w a 2 cc [(twoO m0 wa wc u0 u1), x1]) (hz : u1.h ≠ zero32) :
    Calls Tryz.prog 45 #[.agg c.cells.toArray, .slice a 2 cc, .int .i64 1] w fun e w' => e = .returned (.bool (alikeOs [(twoO m0 wa wc u0 u1), x1] [ownP c none none none c.peer c.client m0 u1.h, herP none none c.client x1.m])) ∧ Below w.heap.size w w' := by
  have i0 : OutIn w (twoO m0 wa wc u0 u1) := hl.2.2.2.2.1 _ (by simp)
  have i1 : OutIn w x1 := hl.2.2.2.2.1 _ (by simp)
  have hwi : WayIn w u1 := i0.ws.2.2.2.2.1 _ (by simp [twoO])
  have HC := Lib.hid hc
  have HFM := Lib.hid hc.peer
  have HFO := Lib.hid hc.client
  have HF0 : Hid (Fits m0) := Lib.hid i0.m
  have HF1 := Lib.hid i1.m
  have HHL := Lib.hid hwi.sum
  have HZ := Lib.hid hz
  have SZCl := Lib.hid (chan_size hc.ftx)
  have SZH : Hid ((Tryz.prog.info? 23).map (·.size) = some (cellsOf u1.h).length) := Lib.hid (by rw [cellsOf_len, hwi.sum]; exact Tryz.size23)
  have AZH := Lib.hid (size_of hwi.sum)
  have CLH : Hid ((cellsOf u1.h).length = 32) := Lib.hid (by rw [cellsOf_len, hwi.sum])
  obtain ⟨b, o, rfl, hlt, hcells⟩ := hl.2.2.2.2.2 (by omega)
  have r0 : w.rangeAt b o (POut.cells (twoO m0 wa wc u0 u1)) := by have h9 := hcells 0 (by omega); rw [Nat.zero_mul] at h9; exact h9
  have r1 : w.rangeAt b (o + 2) x1.cells := by have h9 := hcells 1 (by omega); exact h9
  obtain ⟨b2, o2, ew, hlt2, hcells2⟩ := i0.ws.2.2.2.2.2 (by show 0 < 2; omega)
  replace ew : wa = some ⟨b2, o2, none⟩ := ew
  have r2 : w.rangeAt b2 (o2 + 35) u1.cells := by have h9 := hcells2 1 (by show 1 < 2; omega); exact h9
  have cw := (range_cons (range_cons r0).2).1
  have cm0 := (range_cons r0).1
  have cm1 := (range_cons r1).1
  replace cw : w.cell? ⟨b, o + 1, none⟩ = some (.slice wa 2 wc) := cw
  replace cm0 : w.cell? ⟨b, o, none⟩ = some (.int .i64 m0) := cm0
  have rh : w.rangeAt b2 (o2 + 36) (cellsOf u1.h) := (range_append (range_cons r2).2).1
  have HL := Lib.hid hl
  have HLT := Lib.hid hlt
  have HLT2 := Lib.hid hlt2
  have CW := Lib.hid cw
  have CM0' := Lib.hid cm0
  have CM1' := Lib.hid cm1
  have RH' := Lib.hid rh
  have HEW := Lib.hid ew
  clear i0 i1 hwi r0 r1 r2 hcells hcells2 hlt hlt2 cw cm0 cm1 rh hl hz hc ew
  go_enter Tryz.func45, Tryz.ntmps45
  go_upto_region 1 with (fail)
  have b1 : Below w.heap.size w (w.alloc (.cells c.cells.toArray 49)) := (Below.refl _ _).alloc (Nat.le_refl _) _
  have h1 := heap_alloc_new w (.cells c.cells.toArray 49)
  revert b1 h1
  generalize (w.alloc (.cells c.cells.toArray 49)) = w1
  obtain ⟨g, hg⟩ : ∃ g, g = w.heap.size := ⟨_, rfl⟩
  rw [← hg]
  intro b1 h1
  rw [hg] at b1
  have HB := Lib.hid b1
  have H1 := Lib.hid h1
  have cw := (Below.cell b1 (p := ⟨b, o + 1, none⟩) HLT.out).trans CW.out
  rw [HEW.out] at cw
  have RH1 := Lib.hid (rangeAt_below RH'.out HLT2.out b1)
  clear h1 b1 hg
  go_upto_region 4 with (first | (refine wpList_load_mid rfl 23 _ rfl b2 (o2 + 36) rfl (cellsOf u1.h) _ RH1.out Tryz.underlying23 rfl SZH.out ?_) | (refine wpList_var rfl rfl 23 rfl _ _ rfl (cellsOf zero32).toArray sum_zero14 rfl (cellsOf u1.h) (fun _ => rfl) (fun _ => rfl) CLH.out (cellsOf_one u1.h) ?_; intro p w2 hq hh hb; go_frame; have HB2 := Lib.hid (bthen HB.out hb); have HP2 := Lib.hid hh; have H12 := Lib.hid (keep hb H1.out); clear hq hh hb) | fail)
  have HL2 := Lib.hid (HL.out.below HB2.out)
  have HBL := Lib.hid (Nat.lt_of_lt_of_le HLT.out HB2.out.size)
  have CM0 := Lib.hid ((Below.cell HB2.out (p := ⟨b, o, none⟩) HLT.out).trans CM0'.out)
  have CM1 := Lib.hid ((Below.cell HB2.out (p := ⟨b, o + 2, none⟩) HLT.out).trans CM1'.out)
  clear cw RH1 CM0' CM1' RH' HEW CW
  refine wp_region_held_drew (S := fun w' => Below w2.heap.size w2 w') (by kernel_rfl) (below_drew (Below.refl _ _)) (fun hHeld => ?_)
  refine tkA 0 rfl rfl (yieldsIf_load_mid (by rfl) _ _ rfl g 0 rfl c.cells _ (fun w0 hSw => range_of (keep hSw H12.out)) Tryz.underlying49 rfl SZCl.out) ?_
  refine tkP 1 rfl rfl ?_
  refine tkP 2 rfl rfl ?_
  refine tkP 3 rfl rfl ?_
  refine tkP 4 rfl rfl ?_
  refine tkA 5 rfl rfl (yields_cell (b := b) (o := o) (by rfl) rfl rfl (fun w0 hSw => (Below.cell hSw (p := ⟨b, o, none⟩) HBL.out).trans CM0.out) (fun w0 => Tryz.isAgg2 w0)) ?_
  refine tkP 6 rfl rfl ?_
  refine tkP 7 rfl rfl ?_
  refine tkP 8 rfl rfl ?_
  refine tkA 9 rfl rfl (yields_cell (b := b) (o := (o + 2)) (by rfl) rfl rfl (fun w0 hSw => (Below.cell hSw (p := ⟨b, (o + 2), none⟩) HBL.out).trans CM1.out) (fun w0 => Tryz.isAgg2 w0)) ?_
  refine tkA 10 rfl rfl (yieldsIf_load_mid (by rfl) _ _ rfl p 0 rfl (cellsOf u1.h) _ (fun w0 hSw => range_of (keep hSw HP2.out)) Tryz.underlying23 rfl SZH.out) ?_
  refine tkR 11 rfl (fun K hK => ?_)
  have HC11 := Lib.hid (fun (W : World) => outs1_any (w := W) (own := m0) (rest := x1.m) HC.out HHL.out)
  go_simp
  go_wp2_with ((go_at_call 63; (with_reducible refine (HC11.out _).mono ?_); rintro e w3 ⟨p1, p2, p3, p4, p5, p6, rfl, ho, hb⟩; have HB23 := Lib.hid (bthen hHeld hb); have HO := Lib.hid ho; clear ho hb HC11))
  refine hK.out _ _ (by (try dsimp only); exact HB23.out) (fun hHeld => ?_)
  clear hK K
  refine tkP 12 rfl rfl ?_
  refine wpAnyH_done (by kernel_rfl) ?_ _
  clear hHeld
  have HB3 := Lib.hid (bthen HB2.out HB23.out)
  have HP3 := Lib.hid (keep HB23.out HP2.out)
  have HEQ := Lib.hid (equalOuts_any (HL2.out.below HB23.out) (HO.out.slice HC.out HFM.out HFO.out HF0.out HF1.out HHL.out))
  rw [outs_alike] at HEQ
  have qz : ∀ W : World, (Op.equalIn 10000 23 (.agg (cellsOf u1.h).toArray) (.agg (cellsOf zero32).toArray)).run Tryz.prog W = .ok false W := fun W => by rw [run_eqSums _ _ HHL.out rfl W, decide_eq_false HZ.out]
  go_wp2_with (first | (refine wpList_load_row rfl 23 _ rfl p rfl 23 (cellsOf u1.h).toArray (0, 0) _ HP3.out Tryz.underlying23 rfl AZH.out ?_) | (refine wpList_build10 rfl rfl (vs := []) rfl build_zero14 ?_; go_frame) | (go_at_call 64; (with_reducible refine (HEQ.out).mono ?_); rintro e w4 ⟨rfl, hb⟩; have HB4 := Lib.hid (bthen HB3.out hb); clear hb) | fail)
  go_ret
  exact ⟨rfl, HB4.out⟩
end Go.Proofs.YtcmdpmialehjgaaGreatDoor
namespace Go.Proofs.YtcmdpmialehjgaaGreatDoor
open Go.RowKit

/-- The outs wanted of an owner's commitment, by what is there. -/
def wantP (c : PChan) (k : Nat) (m0 m1 : Int) (h : List UInt8) : List POut := if k = 0 then [ownP c none none none c.client c.peer m0 h, herP none none c.peer m1] else [ownP c none none none c.peer c.client m0 h, herP none none c.client m1]
/-- Are outs those of an owner's commitment? -/
def hasP (c : PChan) (k : Nat) : List POut → Bool
  | [x0, x1] => match x0.ws with
    | [_, u1] => !decide (u1.h = zero32) && alikeOs [x0, x1] (wantP c k x0.m x1.m u1.h)
    | _ => false
  | _ => false
theorem hasP_len {c : PChan} {k : Nat} : ∀ {xs : List POut}, xs.length ≠ 2 → hasP c k xs = false
  | [], _ => rfl
  | [_], _ => rfl
  | [_, _], h => absurd rfl h
  | _ :: _ :: _ :: _, _ => rfl
theorem hasP_ways {c : PChan} {k : Nat} {x0 x1 : POut} (h : x0.ws.length ≠ 2) : hasP c k [x0, x1] = false := by
  obtain ⟨m, a, n, cc, ws⟩ := x0
  match ws, h with
  | [], _ => rfl
  | [_], _ => rfl
  | [_, _], h => exact absurd rfl h
  | _ :: _ :: _ :: _, _ => rfl
theorem hasP_two {c : PChan} {k : Nat} {m0 : Int} {wa : Option Addr} {wc : Nat} {u0 u1 : PWay} {x1 : POut} : hasP c k [twoO m0 wa wc u0 u1, x1] = (!decide (u1.h = zero32) && alikeOs [twoO m0 wa wc u0 u1, x1] (wantP c k m0 x1.m u1.h)) := rfl
theorem two_list {α : Type} {xs : List α} (h : xs.length = 2) : ∃ a b, xs = [a, b] := by
  match xs, h with
  | [a, b], _ => exact ⟨a, b, rfl⟩
set_option linter.unusedSimpArgs false in
set_option maxRecDepth 100000 in
set_option maxHeartbeats 6400000 in
theorem has_len {w : World} {c : PChan} {a : Option Addr} {n cc : Nat} {z : Int} {xs : List POut} (hl : SliceOf outK w a n cc xs) (hn : n ≠ 2) :
    Calls Tryz.prog 45 #[.agg c.cells.toArray, .slice a n cc, .int .i64 z] w fun e w' => e = .returned (.bool false) ∧ Below w.heap.size w w' := by
  have n63 := hl.len63
  have f1 : ((n : Int) != 2) = true := by simp; omega
  clear hl
  go_enter Tryz.func45, Tryz.ntmps45
  go_upto_region 1 with (fail)
  have b1 : Below w.heap.size w (w.alloc (.cells c.cells.toArray 49)) := (Below.refl _ _).alloc (Nat.le_refl _) _
  have h1 := heap_alloc_new w (.cells c.cells.toArray 49)
  revert b1 h1
  generalize (w.alloc (.cells c.cells.toArray 49)) = w1
  obtain ⟨g, hg⟩ : ∃ g, g = w.heap.size := ⟨_, rfl⟩
  rw [← hg]
  intro b1 h1
  rw [hg] at b1
  have HB := Lib.hid b1
  clear h1 b1 hg
  go_wp2_with fail
  go_ret
  exact ⟨rfl, HB.out⟩
set_option linter.unusedSimpArgs false in
set_option maxRecDepth 100000 in
set_option maxHeartbeats 6400000 in
theorem has_ways {w : World} {c : PChan} {a : Option Addr} {cc : Nat} {z : Int} {x0 x1 : POut} (hl : SliceOf outK w a 2 cc [x0, x1]) (hn : x0.n ≠ 2) :
    Calls Tryz.prog 45 #[.agg c.cells.toArray, .slice a 2 cc, .int .i64 z] w fun e w' => e = .returned (.bool false) ∧ Below w.heap.size w w' := by
  have i0 : OutIn w x0 := hl.2.2.2.2.1 _ (by simp)
  have n63 : (x0.n : Int) ≤ 9223372036854775807 := by have h1 := i0.ws.2.1; have h2 := i0.ws.2.2.1; unfold maxLen at h2; omega
  have f1 : ((x0.n : Int) != 2) = true := by simp; omega
  obtain ⟨b, o, rfl, hlt, hcells⟩ := hl.2.2.2.2.2 (by omega)
  have r0 : w.rangeAt b o x0.cells := by have h9 := hcells 0 (by omega); rw [Nat.zero_mul] at h9; exact h9
  have cw0 : w.cell? ⟨b, o + 1, none⟩ = some (.slice x0.a x0.n x0.c) := (range_cons (range_cons r0).2).1
  clear hl i0 hcells r0 hn
  go_enter Tryz.func45, Tryz.ntmps45
  go_upto_region 1 with (fail)
  have b1 : Below w.heap.size w (w.alloc (.cells c.cells.toArray 49)) := (Below.refl _ _).alloc (Nat.le_refl _) _
  have h1 := heap_alloc_new w (.cells c.cells.toArray 49)
  revert b1 h1
  generalize (w.alloc (.cells c.cells.toArray 49)) = w1
  obtain ⟨g, hg⟩ : ∃ g, g = w.heap.size := ⟨_, rfl⟩
  rw [← hg]
  intro b1 h1
  rw [hg] at b1
  have HB := Lib.hid b1
  have cw := (Below.cell b1 (p := ⟨b, o + 1, none⟩) hlt).trans cw0
  clear h1 b1 hg cw0 hlt
  go_wp2_with fail
  go_ret
  exact ⟨rfl, HB.out⟩
set_option linter.unusedSimpArgs false in
set_option maxRecDepth 100000 in
set_option maxHeartbeats 6400000 in
theorem has0_zero {w : World} {c : PChan} {a : Option Addr} {cc : Nat} {m0 : Int} {wa : Option Addr} {wc : Nat} {u0 u1 : PWay} {x1 : POut} (hc : ChanIn c) (hl : SliceOf outK w a 2 cc [(twoO m0 wa wc u0 u1), x1]) (hz : u1.h = zero32) :
    Calls Tryz.prog 45 #[.agg c.cells.toArray, .slice a 2 cc, .int .i64 0] w fun e w' => e = .returned (.bool false) ∧ Below w.heap.size w w' := by
  have i0 : OutIn w (twoO m0 wa wc u0 u1) := hl.2.2.2.2.1 _ (by simp)
  have i1 : OutIn w x1 := hl.2.2.2.2.1 _ (by simp)
  have hwi : WayIn w u1 := i0.ws.2.2.2.2.1 _ (by simp [twoO])
  have HC := Lib.hid hc
  have HFM := Lib.hid hc.client
  have HFO := Lib.hid hc.peer
  have HF0 : Hid (Fits m0) := Lib.hid i0.m
  have HF1 := Lib.hid i1.m
  have HHL := Lib.hid hwi.sum
  have HZ := Lib.hid hz
  have SZCl := Lib.hid (chan_size hc.ftx)
  have SZH : Hid ((Tryz.prog.info? 23).map (·.size) = some (cellsOf u1.h).length) := Lib.hid (by rw [cellsOf_len, hwi.sum]; exact Tryz.size23)
  have AZH := Lib.hid (size_of hwi.sum)
  have CLH : Hid ((cellsOf u1.h).length = 32) := Lib.hid (by rw [cellsOf_len, hwi.sum])
  obtain ⟨b, o, rfl, hlt, hcells⟩ := hl.2.2.2.2.2 (by omega)
  have r0 : w.rangeAt b o (POut.cells (twoO m0 wa wc u0 u1)) := by have h9 := hcells 0 (by omega); rw [Nat.zero_mul] at h9; exact h9
  have r1 : w.rangeAt b (o + 2) x1.cells := by have h9 := hcells 1 (by omega); exact h9
  obtain ⟨b2, o2, ew, hlt2, hcells2⟩ := i0.ws.2.2.2.2.2 (by show 0 < 2; omega)
  replace ew : wa = some ⟨b2, o2, none⟩ := ew
  have r2 : w.rangeAt b2 (o2 + 35) u1.cells := by have h9 := hcells2 1 (by show 1 < 2; omega); exact h9
  have cw := (range_cons (range_cons r0).2).1
  have cm0 := (range_cons r0).1
  have cm1 := (range_cons r1).1
  replace cw : w.cell? ⟨b, o + 1, none⟩ = some (.slice wa 2 wc) := cw
  replace cm0 : w.cell? ⟨b, o, none⟩ = some (.int .i64 m0) := cm0
  have rh : w.rangeAt b2 (o2 + 36) (cellsOf u1.h) := (range_append (range_cons r2).2).1
  have HL := Lib.hid hl
  have HLT := Lib.hid hlt
  have HLT2 := Lib.hid hlt2
  have CW := Lib.hid cw
  have CM0' := Lib.hid cm0
  have CM1' := Lib.hid cm1
  have RH' := Lib.hid rh
  have HEW := Lib.hid ew
  clear i0 i1 hwi r0 r1 r2 hcells hcells2 hlt hlt2 cw cm0 cm1 rh hl hz hc ew
  go_enter Tryz.func45, Tryz.ntmps45
  go_upto_region 1 with (fail)
  have b1 : Below w.heap.size w (w.alloc (.cells c.cells.toArray 49)) := (Below.refl _ _).alloc (Nat.le_refl _) _
  have h1 := heap_alloc_new w (.cells c.cells.toArray 49)
  revert b1 h1
  generalize (w.alloc (.cells c.cells.toArray 49)) = w1
  obtain ⟨g, hg⟩ : ∃ g, g = w.heap.size := ⟨_, rfl⟩
  rw [← hg]
  intro b1 h1
  rw [hg] at b1
  have HB := Lib.hid b1
  have H1 := Lib.hid h1
  have cw := (Below.cell b1 (p := ⟨b, o + 1, none⟩) HLT.out).trans CW.out
  rw [HEW.out] at cw
  have RH1 := Lib.hid (rangeAt_below RH'.out HLT2.out b1)
  clear h1 b1 hg
  go_upto_region 4 with (first | (refine wpList_load_mid rfl 23 _ rfl b2 (o2 + 36) rfl (cellsOf u1.h) _ RH1.out Tryz.underlying23 rfl SZH.out ?_) | (refine wpList_var rfl rfl 23 rfl _ _ rfl (cellsOf zero32).toArray sum_zero14 rfl (cellsOf u1.h) (fun _ => rfl) (fun _ => rfl) CLH.out (cellsOf_one u1.h) ?_; intro p w2 hq hh hb; go_frame; have HB2 := Lib.hid (bthen HB.out hb); have HP2 := Lib.hid hh; have H12 := Lib.hid (keep hb H1.out); clear hq hh hb) | fail)
  have HL2 := Lib.hid (HL.out.below HB2.out)
  have HBL := Lib.hid (Nat.lt_of_lt_of_le HLT.out HB2.out.size)
  have CM0 := Lib.hid ((Below.cell HB2.out (p := ⟨b, o, none⟩) HLT.out).trans CM0'.out)
  have CM1 := Lib.hid ((Below.cell HB2.out (p := ⟨b, o + 2, none⟩) HLT.out).trans CM1'.out)
  clear cw RH1 CM0' CM1' RH' HEW CW
  refine wp_region_held_drew (S := fun w' => Below w2.heap.size w2 w') (by kernel_rfl) (below_drew (Below.refl _ _)) (fun hHeld => ?_)
  refine tkA 0 rfl rfl (yieldsIf_load_mid (by rfl) _ _ rfl g 0 rfl c.cells _ (fun w0 hSw => range_of (keep hSw H12.out)) Tryz.underlying49 rfl SZCl.out) ?_
  refine tkP 1 rfl rfl ?_
  refine tkP 2 rfl rfl ?_
  refine tkP 3 rfl rfl ?_
  refine tkP 4 rfl rfl ?_
  refine tkA 5 rfl rfl (yields_cell (b := b) (o := o) (by rfl) rfl rfl (fun w0 hSw => (Below.cell hSw (p := ⟨b, o, none⟩) HBL.out).trans CM0.out) (fun w0 => Tryz.isAgg2 w0)) ?_
  refine tkP 6 rfl rfl ?_
  refine tkP 7 rfl rfl ?_
  refine tkP 8 rfl rfl ?_
  refine tkA 9 rfl rfl (yields_cell (b := b) (o := (o + 2)) (by rfl) rfl rfl (fun w0 hSw => (Below.cell hSw (p := ⟨b, (o + 2), none⟩) HBL.out).trans CM1.out) (fun w0 => Tryz.isAgg2 w0)) ?_
  refine tkA 10 rfl rfl (yieldsIf_load_mid (by rfl) _ _ rfl p 0 rfl (cellsOf u1.h) _ (fun w0 hSw => range_of (keep hSw HP2.out)) Tryz.underlying23 rfl SZH.out) ?_
  refine tkR 11 rfl (fun K hK => ?_)
  have HC11 := Lib.hid (fun (W : World) => outs0_any (w := W) (own := m0) (rest := x1.m) HC.out HHL.out)
  go_simp
  go_wp2_with ((go_at_call 63; (with_reducible refine (HC11.out _).mono ?_); rintro e w3 ⟨p1, p2, p3, p4, p5, p6, rfl, ho, hb⟩; have HB23 := Lib.hid (bthen hHeld hb); have HO := Lib.hid ho; clear ho hb HC11))
  refine hK.out _ _ (by (try dsimp only); exact HB23.out) (fun hHeld => ?_)
  clear hK K
  refine tkP 12 rfl rfl ?_
  refine wpAnyH_done (by kernel_rfl) ?_ _
  clear hHeld
  have HB3 := Lib.hid (bthen HB2.out HB23.out)
  have HP3 := Lib.hid (keep HB23.out HP2.out)
  have qz : ∀ W : World, (Op.equalIn 10000 23 (.agg (cellsOf u1.h).toArray) (.agg (cellsOf zero32).toArray)).run Tryz.prog W = .ok true W := fun W => by rw [run_eqSums _ _ HHL.out rfl W, decide_eq_true HZ.out]
  go_wp2_with (first | (refine wpList_load_row rfl 23 _ rfl p rfl 23 (cellsOf u1.h).toArray (0, 0) _ HP3.out Tryz.underlying23 rfl AZH.out ?_) | (refine wpList_build10 rfl rfl (vs := []) rfl build_zero14 ?_; go_frame) | fail)
  go_ret
  exact ⟨rfl, HB3.out⟩
set_option linter.unusedSimpArgs false in
set_option maxRecDepth 100000 in
set_option maxHeartbeats 6400000 in
theorem has1_zero {w : World} {c : PChan} {a : Option Addr} {cc : Nat} {m0 : Int} {wa : Option Addr} {wc : Nat} {u0 u1 : PWay} {x1 : POut} (hc : ChanIn c) (hl : SliceOf outK w a 2 cc [(twoO m0 wa wc u0 u1), x1]) (hz : u1.h = zero32) :
    Calls Tryz.prog 45 #[.agg c.cells.toArray, .slice a 2 cc, .int .i64 1] w fun e w' => e = .returned (.bool false) ∧ Below w.heap.size w w' := by
  have i0 : OutIn w (twoO m0 wa wc u0 u1) := hl.2.2.2.2.1 _ (by simp)
  have i1 : OutIn w x1 := hl.2.2.2.2.1 _ (by simp)
  have hwi : WayIn w u1 := i0.ws.2.2.2.2.1 _ (by simp [twoO])
  have HC := Lib.hid hc
  have HFM := Lib.hid hc.peer
  have HFO := Lib.hid hc.client
  have HF0 : Hid (Fits m0) := Lib.hid i0.m
  have HF1 := Lib.hid i1.m
  have HHL := Lib.hid hwi.sum
  have HZ := Lib.hid hz
  have SZCl := Lib.hid (chan_size hc.ftx)
  have SZH : Hid ((Tryz.prog.info? 23).map (·.size) = some (cellsOf u1.h).length) := Lib.hid (by rw [cellsOf_len, hwi.sum]; exact Tryz.size23)
  have AZH := Lib.hid (size_of hwi.sum)
  have CLH : Hid ((cellsOf u1.h).length = 32) := Lib.hid (by rw [cellsOf_len, hwi.sum])
  obtain ⟨b, o, rfl, hlt, hcells⟩ := hl.2.2.2.2.2 (by omega)
  have r0 : w.rangeAt b o (POut.cells (twoO m0 wa wc u0 u1)) := by have h9 := hcells 0 (by omega); rw [Nat.zero_mul] at h9; exact h9
  have r1 : w.rangeAt b (o + 2) x1.cells := by have h9 := hcells 1 (by omega); exact h9
  obtain ⟨b2, o2, ew, hlt2, hcells2⟩ := i0.ws.2.2.2.2.2 (by show 0 < 2; omega)
  replace ew : wa = some ⟨b2, o2, none⟩ := ew
  have r2 : w.rangeAt b2 (o2 + 35) u1.cells := by have h9 := hcells2 1 (by show 1 < 2; omega); exact h9
  have cw := (range_cons (range_cons r0).2).1
  have cm0 := (range_cons r0).1
  have cm1 := (range_cons r1).1
  replace cw : w.cell? ⟨b, o + 1, none⟩ = some (.slice wa 2 wc) := cw
  replace cm0 : w.cell? ⟨b, o, none⟩ = some (.int .i64 m0) := cm0
  have rh : w.rangeAt b2 (o2 + 36) (cellsOf u1.h) := (range_append (range_cons r2).2).1
  have HL := Lib.hid hl
  have HLT := Lib.hid hlt
  have HLT2 := Lib.hid hlt2
  have CW := Lib.hid cw
  have CM0' := Lib.hid cm0
  have CM1' := Lib.hid cm1
  have RH' := Lib.hid rh
  have HEW := Lib.hid ew
  clear i0 i1 hwi r0 r1 r2 hcells hcells2 hlt hlt2 cw cm0 cm1 rh hl hz hc ew
  go_enter Tryz.func45, Tryz.ntmps45
  go_upto_region 1 with (fail)
  have b1 : Below w.heap.size w (w.alloc (.cells c.cells.toArray 49)) := (Below.refl _ _).alloc (Nat.le_refl _) _
  have h1 := heap_alloc_new w (.cells c.cells.toArray 49)
  revert b1 h1
  generalize (w.alloc (.cells c.cells.toArray 49)) = w1
  obtain ⟨g, hg⟩ : ∃ g, g = w.heap.size := ⟨_, rfl⟩
  rw [← hg]
  intro b1 h1
  rw [hg] at b1
  have HB := Lib.hid b1
  have H1 := Lib.hid h1
  have cw := (Below.cell b1 (p := ⟨b, o + 1, none⟩) HLT.out).trans CW.out
  rw [HEW.out] at cw
  have RH1 := Lib.hid (rangeAt_below RH'.out HLT2.out b1)
  clear h1 b1 hg
  go_upto_region 4 with (first | (refine wpList_load_mid rfl 23 _ rfl b2 (o2 + 36) rfl (cellsOf u1.h) _ RH1.out Tryz.underlying23 rfl SZH.out ?_) | (refine wpList_var rfl rfl 23 rfl _ _ rfl (cellsOf zero32).toArray sum_zero14 rfl (cellsOf u1.h) (fun _ => rfl) (fun _ => rfl) CLH.out (cellsOf_one u1.h) ?_; intro p w2 hq hh hb; go_frame; have HB2 := Lib.hid (bthen HB.out hb); have HP2 := Lib.hid hh; have H12 := Lib.hid (keep hb H1.out); clear hq hh hb) | fail)
  have HL2 := Lib.hid (HL.out.below HB2.out)
  have HBL := Lib.hid (Nat.lt_of_lt_of_le HLT.out HB2.out.size)
  have CM0 := Lib.hid ((Below.cell HB2.out (p := ⟨b, o, none⟩) HLT.out).trans CM0'.out)
  have CM1 := Lib.hid ((Below.cell HB2.out (p := ⟨b, o + 2, none⟩) HLT.out).trans CM1'.out)
  clear cw RH1 CM0' CM1' RH' HEW CW
  refine wp_region_held_drew (S := fun w' => Below w2.heap.size w2 w') (by kernel_rfl) (below_drew (Below.refl _ _)) (fun hHeld => ?_)
  refine tkA 0 rfl rfl (yieldsIf_load_mid (by rfl) _ _ rfl g 0 rfl c.cells _ (fun w0 hSw => range_of (keep hSw H12.out)) Tryz.underlying49 rfl SZCl.out) ?_
  refine tkP 1 rfl rfl ?_
  refine tkP 2 rfl rfl ?_
  refine tkP 3 rfl rfl ?_
  refine tkP 4 rfl rfl ?_
  refine tkA 5 rfl rfl (yields_cell (b := b) (o := o) (by rfl) rfl rfl (fun w0 hSw => (Below.cell hSw (p := ⟨b, o, none⟩) HBL.out).trans CM0.out) (fun w0 => Tryz.isAgg2 w0)) ?_
  refine tkP 6 rfl rfl ?_
  refine tkP 7 rfl rfl ?_
  refine tkP 8 rfl rfl ?_
  refine tkA 9 rfl rfl (yields_cell (b := b) (o := (o + 2)) (by rfl) rfl rfl (fun w0 hSw => (Below.cell hSw (p := ⟨b, (o + 2), none⟩) HBL.out).trans CM1.out) (fun w0 => Tryz.isAgg2 w0)) ?_
  refine tkA 10 rfl rfl (yieldsIf_load_mid (by rfl) _ _ rfl p 0 rfl (cellsOf u1.h) _ (fun w0 hSw => range_of (keep hSw HP2.out)) Tryz.underlying23 rfl SZH.out) ?_
  refine tkR 11 rfl (fun K hK => ?_)
  have HC11 := Lib.hid (fun (W : World) => outs1_any (w := W) (own := m0) (rest := x1.m) HC.out HHL.out)
  go_simp
  go_wp2_with ((go_at_call 63; (with_reducible refine (HC11.out _).mono ?_); rintro e w3 ⟨p1, p2, p3, p4, p5, p6, rfl, ho, hb⟩; have HB23 := Lib.hid (bthen hHeld hb); have HO := Lib.hid ho; clear ho hb HC11))
  refine hK.out _ _ (by (try dsimp only); exact HB23.out) (fun hHeld => ?_)
  clear hK K
  refine tkP 12 rfl rfl ?_
  refine wpAnyH_done (by kernel_rfl) ?_ _
  clear hHeld
  have HB3 := Lib.hid (bthen HB2.out HB23.out)
  have HP3 := Lib.hid (keep HB23.out HP2.out)
  have qz : ∀ W : World, (Op.equalIn 10000 23 (.agg (cellsOf u1.h).toArray) (.agg (cellsOf zero32).toArray)).run Tryz.prog W = .ok true W := fun W => by rw [run_eqSums _ _ HHL.out rfl W, decide_eq_true HZ.out]
  go_wp2_with (first | (refine wpList_load_row rfl 23 _ rfl p rfl 23 (cellsOf u1.h).toArray (0, 0) _ HP3.out Tryz.underlying23 rfl AZH.out ?_) | (refine wpList_build10 rfl rfl (vs := []) rfl build_zero14 ?_; go_frame) | fail)
  go_ret
  exact ⟨rfl, HB3.out⟩
set_option linter.unusedSimpArgs false in
set_option maxRecDepth 100000 in
set_option maxHeartbeats 6400000 in
theorem has_any {w : World} {c : PChan} {a : Option Addr} {n cc k : Nat} {xs : List POut} (hc : ChanIn c) (hl : SliceOf outK w a n cc xs) (hk : k = 0 ∨ k = 1) :
    Calls Tryz.prog 45 #[.agg c.cells.toArray, .slice a n cc, .int .i64 (k : Int)] w fun e w' => e = .returned (.bool (hasP c k xs)) ∧ Below w.heap.size w w' := by
  by_cases hn : n = 2
  · subst hn
    obtain ⟨x0, x1, rfl⟩ := two_list hl.1
    have i0 : OutIn w x0 := hl.2.2.2.2.1 _ (by simp)
    by_cases hw : x0.n = 2
    · obtain ⟨m0, wa, wn, wc, ws⟩ := x0
      replace hw : wn = 2 := hw
      subst hw
      obtain ⟨u0, u1, rfl⟩ := two_list (show ws.length = 2 from i0.ws.1)
      show Calls Tryz.prog 45 _ w fun e w' => e = .returned (.bool (hasP c k [twoO m0 wa wc u0 u1, x1])) ∧ Below w.heap.size w w'
      rw [hasP_two]
      by_cases hz : u1.h = zero32
      · rw [decide_eq_true hz]
        rcases hk with rfl | rfl
        · exact has0_zero hc hl hz
        · exact has1_zero hc hl hz
      · rw [decide_eq_false hz]
        rcases hk with rfl | rfl
        · exact has0_any hc hl hz
        · exact has1_any hc hl hz
    · rw [hasP_ways (by rw [i0.ws.1]; exact hw)]
      exact has_ways hl hw
  · rw [hasP_len (by rw [hl.1]; exact hn)]
    exact has_len hl hn
end Go.Proofs.YtcmdpmialehjgaaGreatDoor
namespace Go.Proofs.YtcmdpmialehjgaaGreatDoor
open Go.RowKit

theorem index_pair14 (z : Int) (hz : z = 0 ∨ z = 1) (W : World) : (Instr.index 101 (.agg #[.int .i64 0, .int .i64 1]) (.int .i64 z)).run Tryz.prog W = .ok (.int .i64 z) W := by rcases hz with rfl | rfl <;> kernel_rfl
end Go.Proofs.YtcmdpmialehjgaaGreatDoor
namespace Go.Proofs.YtcmdpmialehjgaaGreatDoor
open Go.RowKit

/-- Does a transaction spend the channel's fund, and nothing else, without an op? -/
def fundsP (c : PChan) (t : PTx) : Bool := match t.ins with
  | [x] => decide (x.tx = c.ftx) && decide (x.place = c.fat)
  | _ => false
/-- Whose commitment a transaction is. -/
def ownerP (c : PChan) (t : PTx) : Int := if keysOk c && (decide (t.op.kind = 0) && fundsP c t) then (if hasP c 0 t.outs then 0 else if hasP c 1 t.outs then 1 else -1) else -1
theorem ownerP_keys {c : PChan} {t : PTx} (h : keysOk c = false) : ownerP c t = -1 := by unfold ownerP; rw [h]; rfl
theorem ownerP_kind {c : PChan} {t : PTx} (h : t.op.kind ≠ 0) : ownerP c t = -1 := by unfold ownerP; rw [decide_eq_false h]; simp
theorem ownerP_funds {c : PChan} {t : PTx} (h : fundsP c t = false) : ownerP c t = -1 := by unfold ownerP; rw [h]; simp
theorem fundsP_len {c : PChan} {t : PTx} (h : t.ins.length ≠ 1) : fundsP c t = false := by
  unfold fundsP
  match t.ins, h with
  | [], _ => rfl
  | [_], h => exact absurd rfl h
  | _ :: _ :: _, _ => rfl
set_option linter.unusedSimpArgs false in
set_option maxRecDepth 100000 in
set_option maxHeartbeats 6400000 in
theorem owner_keys {w : World} {c : PChan} {t : PTx} (hk : keysOk c = false) (hc : ChanIn c) :
    Calls Tryz.prog 33 #[.agg c.cells.toArray, .agg t.cells.toArray] w fun e w' => e = .returned (.int .i64 (-1)) ∧ Below w.heap.size w w' := by
  have HKC : Hid (∀ W : World, Calls Tryz.prog 44 #[.agg c.cells.toArray] W fun e w' => e = .returned (.bool false) ∧ Below W.heap.size W w') := Lib.hid fun W => by rw [← hk]; exact rightKeys_any W hc.ftx
  have HC := Lib.hid hc
  have SZCl := Lib.hid (chan_size hc.ftx)
  have SZC := Lib.hid (chan_sizeA hc.ftx)
  clear hk hc
  go_enter Tryz.func33, Tryz.ntmps33
  go_upto_region 1 with (fail)
  have b1 : Below w.heap.size w ((w.alloc (.cells c.cells.toArray 49)).alloc (.cells t.cells.toArray 56)) := ((Below.refl _ _).alloc (Nat.le_refl _) _).alloc (by simp) _
  have h1 : ((w.alloc (.cells c.cells.toArray 49)).alloc (.cells t.cells.toArray 56)).heap[w.heap.size]? = some (.cells c.cells.toArray 49 (0, 0)) := by
    rw [heap_alloc_old _ _ (by simp), heap_alloc_new]
  have h2 : ((w.alloc (.cells c.cells.toArray 49)).alloc (.cells t.cells.toArray 56)).heap[w.heap.size + 1]? = some (.cells t.cells.toArray 56 (0, 0)) := heap_alloc_at _ _ _ (by simp)
  revert b1 h1 h2
  generalize ((w.alloc (.cells c.cells.toArray 49)).alloc (.cells t.cells.toArray 56)) = w1
  obtain ⟨g, hg⟩ : ∃ g, g = w.heap.size := ⟨_, rfl⟩
  rw [← hg]
  intro b1 h1 h2
  rw [hg] at b1
  have HB1 := Lib.hid b1
  have H1 := Lib.hid h1
  have HGT := Lib.hid (lt_of_block h2)
  have ci := (range_cons (range_of h2)).1
  have co := (range_cons (range_cons (range_of h2)).2).1
  have ck := (range_cons (range_cons (range_cons (range_of h2)).2).2).1
  rw [Nat.zero_add] at co ck
  have CI : Hid (w1.cell? ⟨g + 1, 0, none⟩ = some (.slice t.ia t.inn t.ic)) := Lib.hid ci
  have CO : Hid (w1.cell? ⟨g + 1, 1, none⟩ = some (.slice t.oa t.on t.oc)) := Lib.hid co
  have CK : Hid (w1.cell? ⟨g + 1, 2, none⟩ = some (.int .i64 t.op.kind)) := Lib.hid ck
  obtain ⟨Y, hY⟩ : ∃ Y, t.cells.toArray = Y := ⟨_, rfl⟩
  rw [hY]
  clear hY b1 h1 h2 hg ci co ck
  refine wp_region_held_drew (S := fun w' => Below w1.heap.size w1 w') (by kernel_rfl) (below_drew (Below.refl _ _)) (fun hHeld => ?_)
  refine tkA 0 rfl rfl (yieldsIf_load_mid (by rfl) _ _ rfl g 0 rfl c.cells _ (fun w0 hSw => range_of (keep hSw H1.out)) Tryz.underlying49 rfl SZCl.out) ?_
  refine tkR 1 rfl (fun K hK => ?_)
  have HC1 := Lib.hid HKC.out
  go_simp
  go_wp2_with ((go_at_call 44; (with_reducible refine (HC1.out _).mono ?_); rintro e w2 ⟨rfl, hb⟩; have HB12 := Lib.hid (bthen hHeld hb); clear hb HC1))
  refine hK.out _ _ (by (try dsimp only); exact HB12.out) (fun hHeld => ?_)
  clear hK K
  refine tkP 2 rfl rfl ?_
  refine tkP 3 rfl rfl ?_
  refine tkA (v := undef) 4 rfl rfl (Or.inr ⟨by rfl, rfl⟩) ?_
  refine tkA (v := undef) 5 rfl rfl (Or.inr ⟨by rfl, rfl⟩) ?_
  refine tkA (v := undef) 6 rfl rfl (Or.inr ⟨by rfl, rfl⟩) ?_
  refine tkA (v := undef) 7 rfl rfl (Or.inr ⟨by rfl, rfl⟩) ?_
  refine tkP 8 rfl rfl ?_
  refine tkP 9 rfl rfl ?_
  refine tkA (v := undef) 10 rfl rfl (Or.inr ⟨by rfl, rfl⟩) ?_
  refine tkA (v := undef) 11 rfl rfl (Or.inr ⟨by rfl, rfl⟩) ?_
  refine tkA (v := undef) 12 rfl rfl (Or.inr ⟨by rfl, rfl⟩) ?_
  refine tkA (v := undef) 13 rfl rfl (Or.inr ⟨by rfl, rfl⟩) ?_
  refine tkP 14 rfl rfl ?_
  refine tkP 15 rfl rfl ?_
  refine tkA (v := undef) 16 rfl rfl (Or.inr ⟨by rfl, rfl⟩) ?_
  refine tkA (v := undef) 17 rfl rfl (Or.inr ⟨by rfl, rfl⟩) ?_
  refine tkA (v := undef) 18 rfl rfl (Or.inr ⟨by rfl, rfl⟩) ?_
  refine tkA (v := undef) 19 rfl rfl (Or.inr ⟨by rfl, rfl⟩) ?_
  refine tkA (v := undef) 20 rfl rfl (Or.inr ⟨by rfl, rfl⟩) ?_
  refine tkA (v := undef) 21 rfl rfl (Or.inr ⟨by rfl, rfl⟩) ?_
  refine tkA (v := undef) 22 rfl rfl (Or.inr ⟨by rfl, rfl⟩) ?_
  refine tkA (v := undef) 23 rfl rfl (Or.inr ⟨by rfl, rfl⟩) ?_
  refine tkP 24 rfl rfl ?_
  refine wpAnyH_done (by kernel_rfl) ?_ _
  clear hHeld
  have HB2 := Lib.hid (bthen HB1.out HB12.out)
  go_wp2_with fail
  go_ret
  exact ⟨rfl, HB2.out⟩
set_option linter.unusedSimpArgs false in
set_option maxRecDepth 100000 in
set_option maxHeartbeats 6400000 in
theorem owner_kind {w : World} {c : PChan} {t : PTx} (hk : keysOk c = true) (h1 : t.op.kind ≠ 0) (hc : ChanIn c) :
    Calls Tryz.prog 33 #[.agg c.cells.toArray, .agg t.cells.toArray] w fun e w' => e = .returned (.int .i64 (-1)) ∧ Below w.heap.size w w' := by
  have HKC : Hid (∀ W : World, Calls Tryz.prog 44 #[.agg c.cells.toArray] W fun e w' => e = .returned (.bool true) ∧ Below W.heap.size W w') := Lib.hid fun W => by rw [← hk]; exact rightKeys_any W hc.ftx
  have HC := Lib.hid hc
  have SZCl := Lib.hid (chan_size hc.ftx)
  have SZC := Lib.hid (chan_sizeA hc.ftx)
  have HTK := Lib.hid h1
  have e1 : (t.op.kind != 0) = true := by simp [h1]
  clear hk h1 hc
  go_enter Tryz.func33, Tryz.ntmps33
  go_upto_region 1 with (fail)
  have b1 : Below w.heap.size w ((w.alloc (.cells c.cells.toArray 49)).alloc (.cells t.cells.toArray 56)) := ((Below.refl _ _).alloc (Nat.le_refl _) _).alloc (by simp) _
  have h1 : ((w.alloc (.cells c.cells.toArray 49)).alloc (.cells t.cells.toArray 56)).heap[w.heap.size]? = some (.cells c.cells.toArray 49 (0, 0)) := by
    rw [heap_alloc_old _ _ (by simp), heap_alloc_new]
  have h2 : ((w.alloc (.cells c.cells.toArray 49)).alloc (.cells t.cells.toArray 56)).heap[w.heap.size + 1]? = some (.cells t.cells.toArray 56 (0, 0)) := heap_alloc_at _ _ _ (by simp)
  revert b1 h1 h2
  generalize ((w.alloc (.cells c.cells.toArray 49)).alloc (.cells t.cells.toArray 56)) = w1
  obtain ⟨g, hg⟩ : ∃ g, g = w.heap.size := ⟨_, rfl⟩
  rw [← hg]
  intro b1 h1 h2
  rw [hg] at b1
  have HB1 := Lib.hid b1
  have H1 := Lib.hid h1
  have HGT := Lib.hid (lt_of_block h2)
  have ci := (range_cons (range_of h2)).1
  have co := (range_cons (range_cons (range_of h2)).2).1
  have ck := (range_cons (range_cons (range_cons (range_of h2)).2).2).1
  rw [Nat.zero_add] at co ck
  have CI : Hid (w1.cell? ⟨g + 1, 0, none⟩ = some (.slice t.ia t.inn t.ic)) := Lib.hid ci
  have CO : Hid (w1.cell? ⟨g + 1, 1, none⟩ = some (.slice t.oa t.on t.oc)) := Lib.hid co
  have CK : Hid (w1.cell? ⟨g + 1, 2, none⟩ = some (.int .i64 t.op.kind)) := Lib.hid ck
  obtain ⟨Y, hY⟩ : ∃ Y, t.cells.toArray = Y := ⟨_, rfl⟩
  rw [hY]
  clear hY b1 h1 h2 hg ci co ck
  refine wp_region_held_drew (S := fun w' => Below w1.heap.size w1 w') (by kernel_rfl) (below_drew (Below.refl _ _)) (fun hHeld => ?_)
  refine tkA 0 rfl rfl (yieldsIf_load_mid (by rfl) _ _ rfl g 0 rfl c.cells _ (fun w0 hSw => range_of (keep hSw H1.out)) Tryz.underlying49 rfl SZCl.out) ?_
  refine tkR 1 rfl (fun K hK => ?_)
  have HC1 := Lib.hid HKC.out
  go_simp
  go_wp2_with ((go_at_call 44; (with_reducible refine (HC1.out _).mono ?_); rintro e w2 ⟨rfl, hb⟩; have HB12 := Lib.hid (bthen hHeld hb); clear hb HC1))
  refine hK.out _ _ (by (try dsimp only); exact HB12.out) (fun hHeld => ?_)
  clear hK K
  refine tkP 2 rfl rfl ?_
  refine tkP 3 rfl rfl ?_
  refine tkP 4 rfl rfl ?_
  refine tkP 5 rfl rfl ?_
  refine tkA 6 rfl rfl (yields_cell (b := (g + 1)) (o := 2) (by rfl) rfl rfl (fun w0 hSw => (Below.cell hSw (p := ⟨g + 1, 2, none⟩) HGT.out).trans CK.out) (fun w0 => Tryz.isAgg3 w0)) ?_
  refine tkP (v := .bool true) 7 rfl rfl ?_
  refine tkP 8 rfl rfl ?_
  refine tkP 9 rfl rfl ?_
  refine tkA (v := undef) 10 rfl rfl (Or.inr ⟨by rfl, rfl⟩) ?_
  refine tkA (v := undef) 11 rfl rfl (Or.inr ⟨by rfl, rfl⟩) ?_
  refine tkA (v := undef) 12 rfl rfl (Or.inr ⟨by rfl, rfl⟩) ?_
  refine tkA (v := undef) 13 rfl rfl (Or.inr ⟨by rfl, rfl⟩) ?_
  refine tkP 14 rfl rfl ?_
  refine tkP 15 rfl rfl ?_
  refine tkA (v := undef) 16 rfl rfl (Or.inr ⟨by rfl, rfl⟩) ?_
  refine tkA (v := undef) 17 rfl rfl (Or.inr ⟨by rfl, rfl⟩) ?_
  refine tkA (v := undef) 18 rfl rfl (Or.inr ⟨by rfl, rfl⟩) ?_
  refine tkA (v := undef) 19 rfl rfl (Or.inr ⟨by rfl, rfl⟩) ?_
  refine tkA (v := undef) 20 rfl rfl (Or.inr ⟨by rfl, rfl⟩) ?_
  refine tkA (v := undef) 21 rfl rfl (Or.inr ⟨by rfl, rfl⟩) ?_
  refine tkA (v := undef) 22 rfl rfl (Or.inr ⟨by rfl, rfl⟩) ?_
  refine tkA (v := undef) 23 rfl rfl (Or.inr ⟨by rfl, rfl⟩) ?_
  refine tkP 24 rfl rfl ?_
  refine wpAnyH_done (by kernel_rfl) ?_ _
  clear hHeld
  have HB2 := Lib.hid (bthen HB1.out HB12.out)
  go_wp2_with fail
  go_ret
  exact ⟨rfl, HB2.out⟩
set_option linter.unusedSimpArgs false in
set_option maxRecDepth 100000 in
set_option maxHeartbeats 6400000 in
theorem owner_len {w : World} {c : PChan} {t : PTx} (hk : keysOk c = true) (h1 : t.op.kind = 0) (h2 : t.inn ≠ 1) (hc : ChanIn c) (ht : TxIn w t) :
    Calls Tryz.prog 33 #[.agg c.cells.toArray, .agg t.cells.toArray] w fun e w' => e = .returned (.int .i64 (-1)) ∧ Below w.heap.size w w' := by
  have HKC : Hid (∀ W : World, Calls Tryz.prog 44 #[.agg c.cells.toArray] W fun e w' => e = .returned (.bool true) ∧ Below W.heap.size W w') := Lib.hid fun W => by rw [← hk]; exact rightKeys_any W hc.ftx
  have HC := Lib.hid hc
  have SZCl := Lib.hid (chan_size hc.ftx)
  have SZC := Lib.hid (chan_sizeA hc.ftx)
  have HTK := Lib.hid h1
  have i63 := ht.ins.len63
  have e2 : ((t.inn : Int) != 1) = true := by simp; omega
  clear hk h1 h2 ht hc
  go_enter Tryz.func33, Tryz.ntmps33
  go_upto_region 1 with (fail)
  have b1 : Below w.heap.size w ((w.alloc (.cells c.cells.toArray 49)).alloc (.cells t.cells.toArray 56)) := ((Below.refl _ _).alloc (Nat.le_refl _) _).alloc (by simp) _
  have h1 : ((w.alloc (.cells c.cells.toArray 49)).alloc (.cells t.cells.toArray 56)).heap[w.heap.size]? = some (.cells c.cells.toArray 49 (0, 0)) := by
    rw [heap_alloc_old _ _ (by simp), heap_alloc_new]
  have h2 : ((w.alloc (.cells c.cells.toArray 49)).alloc (.cells t.cells.toArray 56)).heap[w.heap.size + 1]? = some (.cells t.cells.toArray 56 (0, 0)) := heap_alloc_at _ _ _ (by simp)
  revert b1 h1 h2
  generalize ((w.alloc (.cells c.cells.toArray 49)).alloc (.cells t.cells.toArray 56)) = w1
  obtain ⟨g, hg⟩ : ∃ g, g = w.heap.size := ⟨_, rfl⟩
  rw [← hg]
  intro b1 h1 h2
  rw [hg] at b1
  have HB1 := Lib.hid b1
  have H1 := Lib.hid h1
  have HGT := Lib.hid (lt_of_block h2)
  have ci := (range_cons (range_of h2)).1
  have co := (range_cons (range_cons (range_of h2)).2).1
  have ck := (range_cons (range_cons (range_cons (range_of h2)).2).2).1
  rw [Nat.zero_add] at co ck
  rw [HTK.out] at ck
  have CI : Hid (w1.cell? ⟨g + 1, 0, none⟩ = some (.slice t.ia t.inn t.ic)) := Lib.hid ci
  have CO : Hid (w1.cell? ⟨g + 1, 1, none⟩ = some (.slice t.oa t.on t.oc)) := Lib.hid co
  have CK : Hid (w1.cell? ⟨g + 1, 2, none⟩ = some (.int .i64 0)) := Lib.hid ck
  obtain ⟨Y, hY⟩ : ∃ Y, t.cells.toArray = Y := ⟨_, rfl⟩
  rw [hY]
  clear hY b1 h1 h2 hg ci co ck
  refine wp_region_held_drew (S := fun w' => Below w1.heap.size w1 w') (by kernel_rfl) (below_drew (Below.refl _ _)) (fun hHeld => ?_)
  refine tkA 0 rfl rfl (yieldsIf_load_mid (by rfl) _ _ rfl g 0 rfl c.cells _ (fun w0 hSw => range_of (keep hSw H1.out)) Tryz.underlying49 rfl SZCl.out) ?_
  refine tkR 1 rfl (fun K hK => ?_)
  have HC1 := Lib.hid HKC.out
  go_simp
  go_wp2_with ((go_at_call 44; (with_reducible refine (HC1.out _).mono ?_); rintro e w2 ⟨rfl, hb⟩; have HB12 := Lib.hid (bthen hHeld hb); clear hb HC1))
  refine hK.out _ _ (by (try dsimp only); exact HB12.out) (fun hHeld => ?_)
  clear hK K
  refine tkP 2 rfl rfl ?_
  refine tkP 3 rfl rfl ?_
  refine tkP 4 rfl rfl ?_
  refine tkP 5 rfl rfl ?_
  refine tkA 6 rfl rfl (yields_cell (b := (g + 1)) (o := 2) (by rfl) rfl rfl (fun w0 hSw => (Below.cell hSw (p := ⟨g + 1, 2, none⟩) HGT.out).trans CK.out) (fun w0 => Tryz.isAgg3 w0)) ?_
  refine tkP (v := .bool false) 7 rfl rfl ?_
  refine tkP 8 rfl rfl ?_
  refine tkP 9 rfl rfl ?_
  refine tkP 10 rfl rfl ?_
  refine tkA 11 rfl rfl (yields_cell (b := (g + 1)) (o := 0) (by rfl) rfl rfl (fun w0 hSw => (Below.cell hSw (p := ⟨g + 1, 0, none⟩) HGT.out).trans CI.out) (fun w0 => Tryz.isAgg50 w0)) ?_
  refine tkP 12 rfl rfl ?_
  refine tkP (v := .bool true) 13 rfl rfl ?_
  refine tkP 14 rfl rfl ?_
  refine tkP 15 rfl rfl ?_
  refine tkA (v := undef) 16 rfl rfl (Or.inr ⟨by rfl, rfl⟩) ?_
  refine tkA (v := undef) 17 rfl rfl (Or.inr ⟨by rfl, rfl⟩) ?_
  refine tkA (v := undef) 18 rfl rfl (Or.inr ⟨by rfl, rfl⟩) ?_
  refine tkA (v := undef) 19 rfl rfl (Or.inr ⟨by rfl, rfl⟩) ?_
  refine tkA (v := undef) 20 rfl rfl (Or.inr ⟨by rfl, rfl⟩) ?_
  refine tkA (v := undef) 21 rfl rfl (Or.inr ⟨by rfl, rfl⟩) ?_
  refine tkA (v := undef) 22 rfl rfl (Or.inr ⟨by rfl, rfl⟩) ?_
  refine tkA (v := undef) 23 rfl rfl (Or.inr ⟨by rfl, rfl⟩) ?_
  refine tkP 24 rfl rfl ?_
  refine wpAnyH_done (by kernel_rfl) ?_ _
  clear hHeld
  have HB2 := Lib.hid (bthen HB1.out HB12.out)
  go_wp2_with fail
  go_ret
  exact ⟨rfl, HB2.out⟩
set_option linter.unusedSimpArgs false in
set_option maxRecDepth 100000 in
set_option maxHeartbeats 6400000 in
theorem owner_ref {w : World} {c : PChan} {t : PTx} {x : PIn} (hk : keysOk c = true) (h1 : t.op.kind = 0) (h2 : t.inn = 1) (h3 : t.ins = [x]) (h4 : (decide (x.tx = c.ftx) && decide (x.place = c.fat)) = false) (hc : ChanIn c) (ht : TxIn w t) :
    Calls Tryz.prog 33 #[.agg c.cells.toArray, .agg t.cells.toArray] w fun e w' => e = .returned (.int .i64 (-1)) ∧ Below w.heap.size w w' := by
  have HKC : Hid (∀ W : World, Calls Tryz.prog 44 #[.agg c.cells.toArray] W fun e w' => e = .returned (.bool true) ∧ Below W.heap.size W w') := Lib.hid fun W => by rw [← hk]; exact rightKeys_any W hc.ftx
  have HC := Lib.hid hc
  have SZCl := Lib.hid (chan_size hc.ftx)
  have SZC := Lib.hid (chan_sizeA hc.ftx)
  have HTK := Lib.hid h1
  have i63 := ht.ins.len63
  have HT2 := Lib.hid h2
  have hin := ht.ins
  rw [h2, h3] at hin
  have hxi : InIn w x := hin.2.2.2.2.1 _ (by simp)
  have SZR : Hid ((Tryz.prog.info? 47).map (·.size) = some (refCells c.ftx c.fat).length) := Lib.hid (refSize hc.ftx)
  have SZX : Hid ((Tryz.prog.info? 47).map (·.size) = some (refCells x.tx x.place).length) := Lib.hid (refSize hxi.tx)
  have qr : ∀ W : World, (Op.equalIn 10000 47 (.agg (refCells x.tx x.place).toArray) (.agg (refCells c.ftx c.fat).toArray)).run Tryz.prog W = .ok false W := fun W => by rw [run_eqRefs _ _ _ _ hxi.tx hc.ftx W, h4]
  obtain ⟨b, o, ea, hlt, hcells⟩ := hin.2.2.2.2.2 (by omega)
  have ri : w.rangeAt b o (refCells x.tx x.place) := by have h9 := hcells 0 (by omega); rw [Nat.zero_mul] at h9; exact in_ref h9
  have HEA := Lib.hid ea
  have HLT := Lib.hid hlt
  have RI' := Lib.hid ri
  clear hk h1 h2 h3 h4 hin hxi hcells ea hlt ri ht hc
  go_enter Tryz.func33, Tryz.ntmps33
  go_upto_region 1 with (fail)
  have b1 : Below w.heap.size w ((w.alloc (.cells c.cells.toArray 49)).alloc (.cells t.cells.toArray 56)) := ((Below.refl _ _).alloc (Nat.le_refl _) _).alloc (by simp) _
  have h1 : ((w.alloc (.cells c.cells.toArray 49)).alloc (.cells t.cells.toArray 56)).heap[w.heap.size]? = some (.cells c.cells.toArray 49 (0, 0)) := by
    rw [heap_alloc_old _ _ (by simp), heap_alloc_new]
  have h2 : ((w.alloc (.cells c.cells.toArray 49)).alloc (.cells t.cells.toArray 56)).heap[w.heap.size + 1]? = some (.cells t.cells.toArray 56 (0, 0)) := heap_alloc_at _ _ _ (by simp)
  revert b1 h1 h2
  generalize ((w.alloc (.cells c.cells.toArray 49)).alloc (.cells t.cells.toArray 56)) = w1
  obtain ⟨g, hg⟩ : ∃ g, g = w.heap.size := ⟨_, rfl⟩
  rw [← hg]
  intro b1 h1 h2
  rw [hg] at b1
  have HB1 := Lib.hid b1
  have H1 := Lib.hid h1
  have HGT := Lib.hid (lt_of_block h2)
  have ci := (range_cons (range_of h2)).1
  have co := (range_cons (range_cons (range_of h2)).2).1
  have ck := (range_cons (range_cons (range_cons (range_of h2)).2).2).1
  rw [Nat.zero_add] at co ck
  rw [HTK.out] at ck
  rw [HT2.out, HEA.out] at ci
  have CI : Hid (w1.cell? ⟨g + 1, 0, none⟩ = some (.slice (some ⟨b, o, none⟩) 1 t.ic)) := Lib.hid ci
  have CO : Hid (w1.cell? ⟨g + 1, 1, none⟩ = some (.slice t.oa t.on t.oc)) := Lib.hid co
  have CK : Hid (w1.cell? ⟨g + 1, 2, none⟩ = some (.int .i64 0)) := Lib.hid ck
  have RI := Lib.hid (rangeAt_below RI'.out HLT.out b1)
  have HBI := Lib.hid (Nat.lt_of_lt_of_le HLT.out b1.size)
  obtain ⟨Y, hY⟩ : ∃ Y, t.cells.toArray = Y := ⟨_, rfl⟩
  rw [hY]
  clear hY b1 h1 h2 hg ci co ck RI' HLT HEA
  refine wp_region_held_drew (S := fun w' => Below w1.heap.size w1 w') (by kernel_rfl) (below_drew (Below.refl _ _)) (fun hHeld => ?_)
  refine tkA 0 rfl rfl (yieldsIf_load_mid (by rfl) _ _ rfl g 0 rfl c.cells _ (fun w0 hSw => range_of (keep hSw H1.out)) Tryz.underlying49 rfl SZCl.out) ?_
  refine tkR 1 rfl (fun K hK => ?_)
  have HC1 := Lib.hid HKC.out
  go_simp
  go_wp2_with ((go_at_call 44; (with_reducible refine (HC1.out _).mono ?_); rintro e w2 ⟨rfl, hb⟩; have HB12 := Lib.hid (bthen hHeld hb); clear hb HC1))
  refine hK.out _ _ (by (try dsimp only); exact HB12.out) (fun hHeld => ?_)
  clear hK K
  refine tkP 2 rfl rfl ?_
  refine tkP 3 rfl rfl ?_
  refine tkP 4 rfl rfl ?_
  refine tkP 5 rfl rfl ?_
  refine tkA 6 rfl rfl (yields_cell (b := (g + 1)) (o := 2) (by rfl) rfl rfl (fun w0 hSw => (Below.cell hSw (p := ⟨g + 1, 2, none⟩) HGT.out).trans CK.out) (fun w0 => Tryz.isAgg3 w0)) ?_
  refine tkP (v := .bool false) 7 rfl rfl ?_
  refine tkP 8 rfl rfl ?_
  refine tkP 9 rfl rfl ?_
  refine tkP 10 rfl rfl ?_
  refine tkA 11 rfl rfl (yields_cell (b := (g + 1)) (o := 0) (by rfl) rfl rfl (fun w0 hSw => (Below.cell hSw (p := ⟨g + 1, 0, none⟩) HGT.out).trans CI.out) (fun w0 => Tryz.isAgg50 w0)) ?_
  refine tkP 12 rfl rfl ?_
  refine tkP (v := .bool false) 13 rfl rfl ?_
  refine tkP 14 rfl rfl ?_
  refine tkP 15 rfl rfl ?_
  refine tkP 16 rfl rfl ?_
  refine tkA 17 rfl rfl (yields_cell (b := (g + 1)) (o := 0) (by rfl) rfl rfl (fun w0 hSw => (Below.cell hSw (p := ⟨g + 1, 0, none⟩) HGT.out).trans CI.out) (fun w0 => Tryz.isAgg50 w0)) ?_
  refine tkP 18 rfl rfl ?_
  refine tkP 19 rfl rfl ?_
  refine tkA 20 rfl rfl (yieldsIf_load_mid (by rfl) _ _ rfl b o rfl (refCells x.tx x.place) _ (fun w0 hSw => rangeAt_below RI.out HBI.out hSw) Tryz.underlying47 rfl SZX.out) ?_
  refine tkP 21 rfl rfl ?_
  refine tkA 22 rfl rfl (yieldsIf_load_mid (by rfl) _ _ rfl g 3 rfl (refCells c.ftx c.fat) _ (fun w0 hSw => by have h9 := (chan_at HC.out.ftx (range_of (keep hSw H1.out))).fund; rw [Nat.zero_add] at h9; exact h9) Tryz.underlying47 rfl SZR.out) ?_
  refine tkP (v := .bool true) 23 rfl rfl ?_
  refine tkP 24 rfl rfl ?_
  refine wpAnyH_done (by kernel_rfl) ?_ _
  clear hHeld
  have HB2 := Lib.hid (bthen HB1.out HB12.out)
  go_wp2_with fail
  go_ret
  exact ⟨rfl, HB2.out⟩
set_option linter.unusedSimpArgs false in
set_option maxRecDepth 100000 in
set_option maxHeartbeats 6400000 in
theorem owner_0 {w : World} {c : PChan} {t : PTx} {x : PIn} (hk : keysOk c = true) (h1 : t.op.kind = 0) (h2 : t.inn = 1) (h3 : t.ins = [x]) (h4 : (decide (x.tx = c.ftx) && decide (x.place = c.fat)) = true) (h5 : hasP c 0 t.outs = true) (hc : ChanIn c) (ht : TxIn w t) :
    Calls Tryz.prog 33 #[.agg c.cells.toArray, .agg t.cells.toArray] w fun e w' => e = .returned (.int .i64 0) ∧ Below w.heap.size w w' := by
  have HKC : Hid (∀ W : World, Calls Tryz.prog 44 #[.agg c.cells.toArray] W fun e w' => e = .returned (.bool true) ∧ Below W.heap.size W w') := Lib.hid fun W => by rw [← hk]; exact rightKeys_any W hc.ftx
  have HC := Lib.hid hc
  have SZCl := Lib.hid (chan_size hc.ftx)
  have SZC := Lib.hid (chan_sizeA hc.ftx)
  have HTK := Lib.hid h1
  have i63 := ht.ins.len63
  have HT2 := Lib.hid h2
  have hin := ht.ins
  rw [h2, h3] at hin
  have hxi : InIn w x := hin.2.2.2.2.1 _ (by simp)
  have SZR : Hid ((Tryz.prog.info? 47).map (·.size) = some (refCells c.ftx c.fat).length) := Lib.hid (refSize hc.ftx)
  have SZX : Hid ((Tryz.prog.info? 47).map (·.size) = some (refCells x.tx x.place).length) := Lib.hid (refSize hxi.tx)
  have qr : ∀ W : World, (Op.equalIn 10000 47 (.agg (refCells x.tx x.place).toArray) (.agg (refCells c.ftx c.fat).toArray)).run Tryz.prog W = .ok true W := fun W => by rw [run_eqRefs _ _ _ _ hxi.tx hc.ftx W, h4]
  obtain ⟨b, o, ea, hlt, hcells⟩ := hin.2.2.2.2.2 (by omega)
  have ri : w.rangeAt b o (refCells x.tx x.place) := by have h9 := hcells 0 (by omega); rw [Nat.zero_mul] at h9; exact in_ref h9
  have HEA := Lib.hid ea
  have HLT := Lib.hid hlt
  have RI' := Lib.hid ri
  have HV0 : Hid (hasP c 0 t.outs = true) := Lib.hid h5
  have HOS := Lib.hid ht.outs
  clear hk h1 h2 h3 h4 hin hxi hcells ea hlt ri h5 ht hc
  go_enter Tryz.func33, Tryz.ntmps33
  go_upto_region 1 with (fail)
  have b1 : Below w.heap.size w ((w.alloc (.cells c.cells.toArray 49)).alloc (.cells t.cells.toArray 56)) := ((Below.refl _ _).alloc (Nat.le_refl _) _).alloc (by simp) _
  have h1 : ((w.alloc (.cells c.cells.toArray 49)).alloc (.cells t.cells.toArray 56)).heap[w.heap.size]? = some (.cells c.cells.toArray 49 (0, 0)) := by
    rw [heap_alloc_old _ _ (by simp), heap_alloc_new]
  have h2 : ((w.alloc (.cells c.cells.toArray 49)).alloc (.cells t.cells.toArray 56)).heap[w.heap.size + 1]? = some (.cells t.cells.toArray 56 (0, 0)) := heap_alloc_at _ _ _ (by simp)
  revert b1 h1 h2
  generalize ((w.alloc (.cells c.cells.toArray 49)).alloc (.cells t.cells.toArray 56)) = w1
  obtain ⟨g, hg⟩ : ∃ g, g = w.heap.size := ⟨_, rfl⟩
  rw [← hg]
  intro b1 h1 h2
  rw [hg] at b1
  have HB1 := Lib.hid b1
  have H1 := Lib.hid h1
  have HGT := Lib.hid (lt_of_block h2)
  have ci := (range_cons (range_of h2)).1
  have co := (range_cons (range_cons (range_of h2)).2).1
  have ck := (range_cons (range_cons (range_cons (range_of h2)).2).2).1
  rw [Nat.zero_add] at co ck
  rw [HTK.out] at ck
  rw [HT2.out, HEA.out] at ci
  have CI : Hid (w1.cell? ⟨g + 1, 0, none⟩ = some (.slice (some ⟨b, o, none⟩) 1 t.ic)) := Lib.hid ci
  have CO : Hid (w1.cell? ⟨g + 1, 1, none⟩ = some (.slice t.oa t.on t.oc)) := Lib.hid co
  have CK : Hid (w1.cell? ⟨g + 1, 2, none⟩ = some (.int .i64 0)) := Lib.hid ck
  have RI := Lib.hid (rangeAt_below RI'.out HLT.out b1)
  have HBI := Lib.hid (Nat.lt_of_lt_of_le HLT.out b1.size)
  obtain ⟨Y, hY⟩ : ∃ Y, t.cells.toArray = Y := ⟨_, rfl⟩
  rw [hY]
  clear hY b1 h1 h2 hg ci co ck RI' HLT HEA
  refine wp_region_held_drew (S := fun w' => Below w1.heap.size w1 w') (by kernel_rfl) (below_drew (Below.refl _ _)) (fun hHeld => ?_)
  refine tkA 0 rfl rfl (yieldsIf_load_mid (by rfl) _ _ rfl g 0 rfl c.cells _ (fun w0 hSw => range_of (keep hSw H1.out)) Tryz.underlying49 rfl SZCl.out) ?_
  refine tkR 1 rfl (fun K hK => ?_)
  have HC1 := Lib.hid HKC.out
  go_simp
  go_wp2_with ((go_at_call 44; (with_reducible refine (HC1.out _).mono ?_); rintro e w2 ⟨rfl, hb⟩; have HB12 := Lib.hid (bthen hHeld hb); clear hb HC1))
  refine hK.out _ _ (by (try dsimp only); exact HB12.out) (fun hHeld => ?_)
  clear hK K
  refine tkP 2 rfl rfl ?_
  refine tkP 3 rfl rfl ?_
  refine tkP 4 rfl rfl ?_
  refine tkP 5 rfl rfl ?_
  refine tkA 6 rfl rfl (yields_cell (b := (g + 1)) (o := 2) (by rfl) rfl rfl (fun w0 hSw => (Below.cell hSw (p := ⟨g + 1, 2, none⟩) HGT.out).trans CK.out) (fun w0 => Tryz.isAgg3 w0)) ?_
  refine tkP (v := .bool false) 7 rfl rfl ?_
  refine tkP 8 rfl rfl ?_
  refine tkP 9 rfl rfl ?_
  refine tkP 10 rfl rfl ?_
  refine tkA 11 rfl rfl (yields_cell (b := (g + 1)) (o := 0) (by rfl) rfl rfl (fun w0 hSw => (Below.cell hSw (p := ⟨g + 1, 0, none⟩) HGT.out).trans CI.out) (fun w0 => Tryz.isAgg50 w0)) ?_
  refine tkP 12 rfl rfl ?_
  refine tkP (v := .bool false) 13 rfl rfl ?_
  refine tkP 14 rfl rfl ?_
  refine tkP 15 rfl rfl ?_
  refine tkP 16 rfl rfl ?_
  refine tkA 17 rfl rfl (yields_cell (b := (g + 1)) (o := 0) (by rfl) rfl rfl (fun w0 hSw => (Below.cell hSw (p := ⟨g + 1, 0, none⟩) HGT.out).trans CI.out) (fun w0 => Tryz.isAgg50 w0)) ?_
  refine tkP 18 rfl rfl ?_
  refine tkP 19 rfl rfl ?_
  refine tkA 20 rfl rfl (yieldsIf_load_mid (by rfl) _ _ rfl b o rfl (refCells x.tx x.place) _ (fun w0 hSw => rangeAt_below RI.out HBI.out hSw) Tryz.underlying47 rfl SZX.out) ?_
  refine tkP 21 rfl rfl ?_
  refine tkA 22 rfl rfl (yieldsIf_load_mid (by rfl) _ _ rfl g 3 rfl (refCells c.ftx c.fat) _ (fun w0 hSw => by have h9 := (chan_at HC.out.ftx (range_of (keep hSw H1.out))).fund; rw [Nat.zero_add] at h9; exact h9) Tryz.underlying47 rfl SZR.out) ?_
  refine tkP (v := .bool false) 23 rfl rfl ?_
  refine tkP 24 rfl rfl ?_
  refine wpAnyH_done (by kernel_rfl) ?_ _
  clear hHeld
  have HB2 := Lib.hid (bthen HB1.out HB12.out)
  have H12 := Lib.hid (keep HB12.out H1.out)
  have HGT2 := Lib.hid (Nat.lt_of_lt_of_le HGT.out HB12.out.size)
  have CO2 := Lib.hid ((Below.cell HB12.out (p := ⟨g + 1, 1, none⟩) HGT.out).trans CO.out)
  have HH0 : Hid (∀ W : World, Below w2.heap.size w2 W → Calls Tryz.prog 45 #[.agg c.cells.toArray, .slice t.oa t.on t.oc, .int .i64 0] W fun e w' => e = .returned (.bool true) ∧ Below W.heap.size W w') := Lib.hid (fun W hW => by rw [← HV0.out]; exact has_any (k := 0) HC.out (HOS.out.below (bthen HB2.out hW)) (by omega))
  go_upto_region 4 with (first | (refine wpList_build10 rfl rfl (vs := [(0, .int .i64 0), (1, .int .i64 1)]) rfl (build_pair14 _ _) ?_; go_frame) | fail)
  go_loopw [33] (fun i wr => ∃ j : Nat, j ≤ 0 ∧ i = .int .i64 j ∧ Below w2.heap.size w2 wr) (fun i _ => 2 - (intOf i).toNat)
  case atStart => exact ⟨0, by omega, rfl, Below.refl _ _⟩
  case round =>
    obtain ⟨j, hj, rfl, hbr⟩ := hrel
    have HBR := Lib.hid hbr
    clear hbr
    have HR1 := Lib.hid (keep HBR.out H12.out)
    have co := (Below.cell HBR.out (p := ⟨g + 1, 1, none⟩) HGT2.out).trans CO2.out
    rcases (show j = 0 by omega) with rfl
    · have iw := index_pair14 0 (by omega)
      go_wp2_with (first | (refine wpList_load_row rfl 49 _ rfl g rfl 49 c.cells.toArray (0, 0) _ HR1.out Tryz.underlying49 rfl SZC.out ?_) | (go_at_call 45; (with_reducible refine (HH0.out _ HBR.out).mono ?_); rintro e w3 ⟨rfl, hb⟩; have HB3 := Lib.hid (bthen HBR.out hb); clear hb) | fail)
      go_ret
      exact ⟨rfl, bthen HB2.out HB3.out⟩
set_option linter.unusedSimpArgs false in
set_option maxRecDepth 100000 in
set_option maxHeartbeats 6400000 in
theorem owner_1 {w : World} {c : PChan} {t : PTx} {x : PIn} (hk : keysOk c = true) (h1 : t.op.kind = 0) (h2 : t.inn = 1) (h3 : t.ins = [x]) (h4 : (decide (x.tx = c.ftx) && decide (x.place = c.fat)) = true) (h5 : hasP c 0 t.outs = false) (h6 : hasP c 1 t.outs = true) (hc : ChanIn c) (ht : TxIn w t) :
    Calls Tryz.prog 33 #[.agg c.cells.toArray, .agg t.cells.toArray] w fun e w' => e = .returned (.int .i64 1) ∧ Below w.heap.size w w' := by
  have HKC : Hid (∀ W : World, Calls Tryz.prog 44 #[.agg c.cells.toArray] W fun e w' => e = .returned (.bool true) ∧ Below W.heap.size W w') := Lib.hid fun W => by rw [← hk]; exact rightKeys_any W hc.ftx
  have HC := Lib.hid hc
  have SZCl := Lib.hid (chan_size hc.ftx)
  have SZC := Lib.hid (chan_sizeA hc.ftx)
  have HTK := Lib.hid h1
  have i63 := ht.ins.len63
  have HT2 := Lib.hid h2
  have hin := ht.ins
  rw [h2, h3] at hin
  have hxi : InIn w x := hin.2.2.2.2.1 _ (by simp)
  have SZR : Hid ((Tryz.prog.info? 47).map (·.size) = some (refCells c.ftx c.fat).length) := Lib.hid (refSize hc.ftx)
  have SZX : Hid ((Tryz.prog.info? 47).map (·.size) = some (refCells x.tx x.place).length) := Lib.hid (refSize hxi.tx)
  have qr : ∀ W : World, (Op.equalIn 10000 47 (.agg (refCells x.tx x.place).toArray) (.agg (refCells c.ftx c.fat).toArray)).run Tryz.prog W = .ok true W := fun W => by rw [run_eqRefs _ _ _ _ hxi.tx hc.ftx W, h4]
  obtain ⟨b, o, ea, hlt, hcells⟩ := hin.2.2.2.2.2 (by omega)
  have ri : w.rangeAt b o (refCells x.tx x.place) := by have h9 := hcells 0 (by omega); rw [Nat.zero_mul] at h9; exact in_ref h9
  have HEA := Lib.hid ea
  have HLT := Lib.hid hlt
  have RI' := Lib.hid ri
  have HV0 : Hid (hasP c 0 t.outs = false) := Lib.hid h5
  have HV1 : Hid (hasP c 1 t.outs = true) := Lib.hid h6
  have HOS := Lib.hid ht.outs
  clear hk h1 h2 h3 h4 hin hxi hcells ea hlt ri h5 h6 ht hc
  go_enter Tryz.func33, Tryz.ntmps33
  go_upto_region 1 with (fail)
  have b1 : Below w.heap.size w ((w.alloc (.cells c.cells.toArray 49)).alloc (.cells t.cells.toArray 56)) := ((Below.refl _ _).alloc (Nat.le_refl _) _).alloc (by simp) _
  have h1 : ((w.alloc (.cells c.cells.toArray 49)).alloc (.cells t.cells.toArray 56)).heap[w.heap.size]? = some (.cells c.cells.toArray 49 (0, 0)) := by
    rw [heap_alloc_old _ _ (by simp), heap_alloc_new]
  have h2 : ((w.alloc (.cells c.cells.toArray 49)).alloc (.cells t.cells.toArray 56)).heap[w.heap.size + 1]? = some (.cells t.cells.toArray 56 (0, 0)) := heap_alloc_at _ _ _ (by simp)
  revert b1 h1 h2
  generalize ((w.alloc (.cells c.cells.toArray 49)).alloc (.cells t.cells.toArray 56)) = w1
  obtain ⟨g, hg⟩ : ∃ g, g = w.heap.size := ⟨_, rfl⟩
  rw [← hg]
  intro b1 h1 h2
  rw [hg] at b1
  have HB1 := Lib.hid b1
  have H1 := Lib.hid h1
  have HGT := Lib.hid (lt_of_block h2)
  have ci := (range_cons (range_of h2)).1
  have co := (range_cons (range_cons (range_of h2)).2).1
  have ck := (range_cons (range_cons (range_cons (range_of h2)).2).2).1
  rw [Nat.zero_add] at co ck
  rw [HTK.out] at ck
  rw [HT2.out, HEA.out] at ci
  have CI : Hid (w1.cell? ⟨g + 1, 0, none⟩ = some (.slice (some ⟨b, o, none⟩) 1 t.ic)) := Lib.hid ci
  have CO : Hid (w1.cell? ⟨g + 1, 1, none⟩ = some (.slice t.oa t.on t.oc)) := Lib.hid co
  have CK : Hid (w1.cell? ⟨g + 1, 2, none⟩ = some (.int .i64 0)) := Lib.hid ck
  have RI := Lib.hid (rangeAt_below RI'.out HLT.out b1)
  have HBI := Lib.hid (Nat.lt_of_lt_of_le HLT.out b1.size)
  obtain ⟨Y, hY⟩ : ∃ Y, t.cells.toArray = Y := ⟨_, rfl⟩
  rw [hY]
  clear hY b1 h1 h2 hg ci co ck RI' HLT HEA
  refine wp_region_held_drew (S := fun w' => Below w1.heap.size w1 w') (by kernel_rfl) (below_drew (Below.refl _ _)) (fun hHeld => ?_)
  refine tkA 0 rfl rfl (yieldsIf_load_mid (by rfl) _ _ rfl g 0 rfl c.cells _ (fun w0 hSw => range_of (keep hSw H1.out)) Tryz.underlying49 rfl SZCl.out) ?_
  refine tkR 1 rfl (fun K hK => ?_)
  have HC1 := Lib.hid HKC.out
  go_simp
  go_wp2_with ((go_at_call 44; (with_reducible refine (HC1.out _).mono ?_); rintro e w2 ⟨rfl, hb⟩; have HB12 := Lib.hid (bthen hHeld hb); clear hb HC1))
  refine hK.out _ _ (by (try dsimp only); exact HB12.out) (fun hHeld => ?_)
  clear hK K
  refine tkP 2 rfl rfl ?_
  refine tkP 3 rfl rfl ?_
  refine tkP 4 rfl rfl ?_
  refine tkP 5 rfl rfl ?_
  refine tkA 6 rfl rfl (yields_cell (b := (g + 1)) (o := 2) (by rfl) rfl rfl (fun w0 hSw => (Below.cell hSw (p := ⟨g + 1, 2, none⟩) HGT.out).trans CK.out) (fun w0 => Tryz.isAgg3 w0)) ?_
  refine tkP (v := .bool false) 7 rfl rfl ?_
  refine tkP 8 rfl rfl ?_
  refine tkP 9 rfl rfl ?_
  refine tkP 10 rfl rfl ?_
  refine tkA 11 rfl rfl (yields_cell (b := (g + 1)) (o := 0) (by rfl) rfl rfl (fun w0 hSw => (Below.cell hSw (p := ⟨g + 1, 0, none⟩) HGT.out).trans CI.out) (fun w0 => Tryz.isAgg50 w0)) ?_
  refine tkP 12 rfl rfl ?_
  refine tkP (v := .bool false) 13 rfl rfl ?_
  refine tkP 14 rfl rfl ?_
  refine tkP 15 rfl rfl ?_
  refine tkP 16 rfl rfl ?_
  refine tkA 17 rfl rfl (yields_cell (b := (g + 1)) (o := 0) (by rfl) rfl rfl (fun w0 hSw => (Below.cell hSw (p := ⟨g + 1, 0, none⟩) HGT.out).trans CI.out) (fun w0 => Tryz.isAgg50 w0)) ?_
  refine tkP 18 rfl rfl ?_
  refine tkP 19 rfl rfl ?_
  refine tkA 20 rfl rfl (yieldsIf_load_mid (by rfl) _ _ rfl b o rfl (refCells x.tx x.place) _ (fun w0 hSw => rangeAt_below RI.out HBI.out hSw) Tryz.underlying47 rfl SZX.out) ?_
  refine tkP 21 rfl rfl ?_
  refine tkA 22 rfl rfl (yieldsIf_load_mid (by rfl) _ _ rfl g 3 rfl (refCells c.ftx c.fat) _ (fun w0 hSw => by have h9 := (chan_at HC.out.ftx (range_of (keep hSw H1.out))).fund; rw [Nat.zero_add] at h9; exact h9) Tryz.underlying47 rfl SZR.out) ?_
  refine tkP (v := .bool false) 23 rfl rfl ?_
  refine tkP 24 rfl rfl ?_
  refine wpAnyH_done (by kernel_rfl) ?_ _
  clear hHeld
  have HB2 := Lib.hid (bthen HB1.out HB12.out)
  have H12 := Lib.hid (keep HB12.out H1.out)
  have HGT2 := Lib.hid (Nat.lt_of_lt_of_le HGT.out HB12.out.size)
  have CO2 := Lib.hid ((Below.cell HB12.out (p := ⟨g + 1, 1, none⟩) HGT.out).trans CO.out)
  have HH0 : Hid (∀ W : World, Below w2.heap.size w2 W → Calls Tryz.prog 45 #[.agg c.cells.toArray, .slice t.oa t.on t.oc, .int .i64 0] W fun e w' => e = .returned (.bool false) ∧ Below W.heap.size W w') := Lib.hid (fun W hW => by rw [← HV0.out]; exact has_any (k := 0) HC.out (HOS.out.below (bthen HB2.out hW)) (by omega))
  have HH1 : Hid (∀ W : World, Below w2.heap.size w2 W → Calls Tryz.prog 45 #[.agg c.cells.toArray, .slice t.oa t.on t.oc, .int .i64 1] W fun e w' => e = .returned (.bool true) ∧ Below W.heap.size W w') := Lib.hid (fun W hW => by rw [← HV1.out]; exact has_any (k := 1) HC.out (HOS.out.below (bthen HB2.out hW)) (by omega))
  go_upto_region 4 with (first | (refine wpList_build10 rfl rfl (vs := [(0, .int .i64 0), (1, .int .i64 1)]) rfl (build_pair14 _ _) ?_; go_frame) | fail)
  go_loopw [33] (fun i wr => ∃ j : Nat, j ≤ 1 ∧ i = .int .i64 j ∧ Below w2.heap.size w2 wr) (fun i _ => 2 - (intOf i).toNat)
  case atStart => exact ⟨0, by omega, rfl, Below.refl _ _⟩
  case round =>
    obtain ⟨j, hj, rfl, hbr⟩ := hrel
    have HBR := Lib.hid hbr
    clear hbr
    have HR1 := Lib.hid (keep HBR.out H12.out)
    have co := (Below.cell HBR.out (p := ⟨g + 1, 1, none⟩) HGT2.out).trans CO2.out
    rcases (show j = 0 ∨ j = 1 by omega) with rfl | rfl
    · have iw := index_pair14 0 (by omega)
      go_wp2_with (first | (refine wpList_load_row rfl 49 _ rfl g rfl 49 c.cells.toArray (0, 0) _ HR1.out Tryz.underlying49 rfl SZC.out ?_) | (go_at_call 45; (with_reducible refine (HH0.out _ HBR.out).mono ?_); rintro e w3 ⟨rfl, hb⟩; have HB3 := Lib.hid (bthen HBR.out hb); clear hb) | fail)
      go_roundw
      case rel => exact ⟨1, by omega, rfl, HB3.out⟩
      case measure => simp [intOf]; try omega
    · have iw := index_pair14 1 (by omega)
      go_wp2_with (first | (refine wpList_load_row rfl 49 _ rfl g rfl 49 c.cells.toArray (0, 0) _ HR1.out Tryz.underlying49 rfl SZC.out ?_) | (go_at_call 45; (with_reducible refine (HH1.out _ HBR.out).mono ?_); rintro e w3 ⟨rfl, hb⟩; have HB3 := Lib.hid (bthen HBR.out hb); clear hb) | fail)
      go_ret
      exact ⟨rfl, bthen HB2.out HB3.out⟩
set_option linter.unusedSimpArgs false in
set_option maxRecDepth 100000 in
set_option maxHeartbeats 6400000 in
theorem owner_none {w : World} {c : PChan} {t : PTx} {x : PIn} (hk : keysOk c = true) (h1 : t.op.kind = 0) (h2 : t.inn = 1) (h3 : t.ins = [x]) (h4 : (decide (x.tx = c.ftx) && decide (x.place = c.fat)) = true) (h5 : hasP c 0 t.outs = false) (h6 : hasP c 1 t.outs = false) (hc : ChanIn c) (ht : TxIn w t) :
    Calls Tryz.prog 33 #[.agg c.cells.toArray, .agg t.cells.toArray] w fun e w' => e = .returned (.int .i64 (-1)) ∧ Below w.heap.size w w' := by
  have HKC : Hid (∀ W : World, Calls Tryz.prog 44 #[.agg c.cells.toArray] W fun e w' => e = .returned (.bool true) ∧ Below W.heap.size W w') := Lib.hid fun W => by rw [← hk]; exact rightKeys_any W hc.ftx
  have HC := Lib.hid hc
  have SZCl := Lib.hid (chan_size hc.ftx)
  have SZC := Lib.hid (chan_sizeA hc.ftx)
  have HTK := Lib.hid h1
  have i63 := ht.ins.len63
  have HT2 := Lib.hid h2
  have hin := ht.ins
  rw [h2, h3] at hin
  have hxi : InIn w x := hin.2.2.2.2.1 _ (by simp)
  have SZR : Hid ((Tryz.prog.info? 47).map (·.size) = some (refCells c.ftx c.fat).length) := Lib.hid (refSize hc.ftx)
  have SZX : Hid ((Tryz.prog.info? 47).map (·.size) = some (refCells x.tx x.place).length) := Lib.hid (refSize hxi.tx)
  have qr : ∀ W : World, (Op.equalIn 10000 47 (.agg (refCells x.tx x.place).toArray) (.agg (refCells c.ftx c.fat).toArray)).run Tryz.prog W = .ok true W := fun W => by rw [run_eqRefs _ _ _ _ hxi.tx hc.ftx W, h4]
  obtain ⟨b, o, ea, hlt, hcells⟩ := hin.2.2.2.2.2 (by omega)
  have ri : w.rangeAt b o (refCells x.tx x.place) := by have h9 := hcells 0 (by omega); rw [Nat.zero_mul] at h9; exact in_ref h9
  have HEA := Lib.hid ea
  have HLT := Lib.hid hlt
  have RI' := Lib.hid ri
  have HV0 : Hid (hasP c 0 t.outs = false) := Lib.hid h5
  have HV1 : Hid (hasP c 1 t.outs = false) := Lib.hid h6
  have HOS := Lib.hid ht.outs
  clear hk h1 h2 h3 h4 hin hxi hcells ea hlt ri h5 h6 ht hc
  go_enter Tryz.func33, Tryz.ntmps33
  go_upto_region 1 with (fail)
  have b1 : Below w.heap.size w ((w.alloc (.cells c.cells.toArray 49)).alloc (.cells t.cells.toArray 56)) := ((Below.refl _ _).alloc (Nat.le_refl _) _).alloc (by simp) _
  have h1 : ((w.alloc (.cells c.cells.toArray 49)).alloc (.cells t.cells.toArray 56)).heap[w.heap.size]? = some (.cells c.cells.toArray 49 (0, 0)) := by
    rw [heap_alloc_old _ _ (by simp), heap_alloc_new]
  have h2 : ((w.alloc (.cells c.cells.toArray 49)).alloc (.cells t.cells.toArray 56)).heap[w.heap.size + 1]? = some (.cells t.cells.toArray 56 (0, 0)) := heap_alloc_at _ _ _ (by simp)
  revert b1 h1 h2
  generalize ((w.alloc (.cells c.cells.toArray 49)).alloc (.cells t.cells.toArray 56)) = w1
  obtain ⟨g, hg⟩ : ∃ g, g = w.heap.size := ⟨_, rfl⟩
  rw [← hg]
  intro b1 h1 h2
  rw [hg] at b1
  have HB1 := Lib.hid b1
  have H1 := Lib.hid h1
  have HGT := Lib.hid (lt_of_block h2)
  have ci := (range_cons (range_of h2)).1
  have co := (range_cons (range_cons (range_of h2)).2).1
  have ck := (range_cons (range_cons (range_cons (range_of h2)).2).2).1
  rw [Nat.zero_add] at co ck
  rw [HTK.out] at ck
  rw [HT2.out, HEA.out] at ci
  have CI : Hid (w1.cell? ⟨g + 1, 0, none⟩ = some (.slice (some ⟨b, o, none⟩) 1 t.ic)) := Lib.hid ci
  have CO : Hid (w1.cell? ⟨g + 1, 1, none⟩ = some (.slice t.oa t.on t.oc)) := Lib.hid co
  have CK : Hid (w1.cell? ⟨g + 1, 2, none⟩ = some (.int .i64 0)) := Lib.hid ck
  have RI := Lib.hid (rangeAt_below RI'.out HLT.out b1)
  have HBI := Lib.hid (Nat.lt_of_lt_of_le HLT.out b1.size)
  obtain ⟨Y, hY⟩ : ∃ Y, t.cells.toArray = Y := ⟨_, rfl⟩
  rw [hY]
  clear hY b1 h1 h2 hg ci co ck RI' HLT HEA
  refine wp_region_held_drew (S := fun w' => Below w1.heap.size w1 w') (by kernel_rfl) (below_drew (Below.refl _ _)) (fun hHeld => ?_)
  refine tkA 0 rfl rfl (yieldsIf_load_mid (by rfl) _ _ rfl g 0 rfl c.cells _ (fun w0 hSw => range_of (keep hSw H1.out)) Tryz.underlying49 rfl SZCl.out) ?_
  refine tkR 1 rfl (fun K hK => ?_)
  have HC1 := Lib.hid HKC.out
  go_simp
  go_wp2_with ((go_at_call 44; (with_reducible refine (HC1.out _).mono ?_); rintro e w2 ⟨rfl, hb⟩; have HB12 := Lib.hid (bthen hHeld hb); clear hb HC1))
  refine hK.out _ _ (by (try dsimp only); exact HB12.out) (fun hHeld => ?_)
  clear hK K
  refine tkP 2 rfl rfl ?_
  refine tkP 3 rfl rfl ?_
  refine tkP 4 rfl rfl ?_
  refine tkP 5 rfl rfl ?_
  refine tkA 6 rfl rfl (yields_cell (b := (g + 1)) (o := 2) (by rfl) rfl rfl (fun w0 hSw => (Below.cell hSw (p := ⟨g + 1, 2, none⟩) HGT.out).trans CK.out) (fun w0 => Tryz.isAgg3 w0)) ?_
  refine tkP (v := .bool false) 7 rfl rfl ?_
  refine tkP 8 rfl rfl ?_
  refine tkP 9 rfl rfl ?_
  refine tkP 10 rfl rfl ?_
  refine tkA 11 rfl rfl (yields_cell (b := (g + 1)) (o := 0) (by rfl) rfl rfl (fun w0 hSw => (Below.cell hSw (p := ⟨g + 1, 0, none⟩) HGT.out).trans CI.out) (fun w0 => Tryz.isAgg50 w0)) ?_
  refine tkP 12 rfl rfl ?_
  refine tkP (v := .bool false) 13 rfl rfl ?_
  refine tkP 14 rfl rfl ?_
  refine tkP 15 rfl rfl ?_
  refine tkP 16 rfl rfl ?_
  refine tkA 17 rfl rfl (yields_cell (b := (g + 1)) (o := 0) (by rfl) rfl rfl (fun w0 hSw => (Below.cell hSw (p := ⟨g + 1, 0, none⟩) HGT.out).trans CI.out) (fun w0 => Tryz.isAgg50 w0)) ?_
  refine tkP 18 rfl rfl ?_
  refine tkP 19 rfl rfl ?_
  refine tkA 20 rfl rfl (yieldsIf_load_mid (by rfl) _ _ rfl b o rfl (refCells x.tx x.place) _ (fun w0 hSw => rangeAt_below RI.out HBI.out hSw) Tryz.underlying47 rfl SZX.out) ?_
  refine tkP 21 rfl rfl ?_
  refine tkA 22 rfl rfl (yieldsIf_load_mid (by rfl) _ _ rfl g 3 rfl (refCells c.ftx c.fat) _ (fun w0 hSw => by have h9 := (chan_at HC.out.ftx (range_of (keep hSw H1.out))).fund; rw [Nat.zero_add] at h9; exact h9) Tryz.underlying47 rfl SZR.out) ?_
  refine tkP (v := .bool false) 23 rfl rfl ?_
  refine tkP 24 rfl rfl ?_
  refine wpAnyH_done (by kernel_rfl) ?_ _
  clear hHeld
  have HB2 := Lib.hid (bthen HB1.out HB12.out)
  have H12 := Lib.hid (keep HB12.out H1.out)
  have HGT2 := Lib.hid (Nat.lt_of_lt_of_le HGT.out HB12.out.size)
  have CO2 := Lib.hid ((Below.cell HB12.out (p := ⟨g + 1, 1, none⟩) HGT.out).trans CO.out)
  have HH0 : Hid (∀ W : World, Below w2.heap.size w2 W → Calls Tryz.prog 45 #[.agg c.cells.toArray, .slice t.oa t.on t.oc, .int .i64 0] W fun e w' => e = .returned (.bool false) ∧ Below W.heap.size W w') := Lib.hid (fun W hW => by rw [← HV0.out]; exact has_any (k := 0) HC.out (HOS.out.below (bthen HB2.out hW)) (by omega))
  have HH1 : Hid (∀ W : World, Below w2.heap.size w2 W → Calls Tryz.prog 45 #[.agg c.cells.toArray, .slice t.oa t.on t.oc, .int .i64 1] W fun e w' => e = .returned (.bool false) ∧ Below W.heap.size W w') := Lib.hid (fun W hW => by rw [← HV1.out]; exact has_any (k := 1) HC.out (HOS.out.below (bthen HB2.out hW)) (by omega))
  go_upto_region 4 with (first | (refine wpList_build10 rfl rfl (vs := [(0, .int .i64 0), (1, .int .i64 1)]) rfl (build_pair14 _ _) ?_; go_frame) | fail)
  go_loopw [33] (fun i wr => ∃ j : Nat, j ≤ 2 ∧ i = .int .i64 j ∧ Below w2.heap.size w2 wr) (fun i _ => 2 - (intOf i).toNat)
  case atStart => exact ⟨0, by omega, rfl, Below.refl _ _⟩
  case round =>
    obtain ⟨j, hj, rfl, hbr⟩ := hrel
    have HBR := Lib.hid hbr
    clear hbr
    have HR1 := Lib.hid (keep HBR.out H12.out)
    have co := (Below.cell HBR.out (p := ⟨g + 1, 1, none⟩) HGT2.out).trans CO2.out
    rcases (show j = 0 ∨ j = 1 ∨ j = 2 by omega) with rfl | rfl | rfl
    · have iw := index_pair14 0 (by omega)
      go_wp2_with (first | (refine wpList_load_row rfl 49 _ rfl g rfl 49 c.cells.toArray (0, 0) _ HR1.out Tryz.underlying49 rfl SZC.out ?_) | (go_at_call 45; (with_reducible refine (HH0.out _ HBR.out).mono ?_); rintro e w3 ⟨rfl, hb⟩; have HB3 := Lib.hid (bthen HBR.out hb); clear hb) | fail)
      go_roundw
      case rel => exact ⟨1, by omega, rfl, HB3.out⟩
      case measure => simp [intOf]; try omega
    · have iw := index_pair14 1 (by omega)
      go_wp2_with (first | (refine wpList_load_row rfl 49 _ rfl g rfl 49 c.cells.toArray (0, 0) _ HR1.out Tryz.underlying49 rfl SZC.out ?_) | (go_at_call 45; (with_reducible refine (HH1.out _ HBR.out).mono ?_); rintro e w3 ⟨rfl, hb⟩; have HB3 := Lib.hid (bthen HBR.out hb); clear hb) | fail)
      go_roundw
      case rel => exact ⟨2, by omega, rfl, HB3.out⟩
      case measure => simp [intOf]; try omega
    · go_wp2_with fail
      go_ret
      exact ⟨rfl, bthen HB2.out HBR.out⟩
set_option linter.unusedSimpArgs false in
set_option maxRecDepth 100000 in
set_option maxHeartbeats 6400000 in
theorem owner_any {w : World} {c : PChan} {t : PTx} (hc : ChanIn c) (ht : TxIn w t) :
    Calls Tryz.prog 33 #[.agg c.cells.toArray, .agg t.cells.toArray] w fun e w' => e = .returned (.int .i64 (ownerP c t)) ∧ Below w.heap.size w w' := by
  cases hk : keysOk c
  · rw [ownerP_keys hk]
    exact owner_keys hk hc
  · by_cases h1 : t.op.kind = 0
    · by_cases h2 : t.inn = 1
      · obtain ⟨x, h3⟩ : ∃ x, t.ins = [x] := by
          have h9 := ht.ins.1
          rw [h2] at h9
          match t.ins, h9 with
          | [x], _ => exact ⟨x, rfl⟩
        cases h4 : (decide (x.tx = c.ftx) && decide (x.place = c.fat))
        · rw [ownerP_funds (show fundsP c t = false by unfold fundsP; rw [h3]; exact h4)]
          exact owner_ref hk h1 h2 h3 h4 hc ht
        · have hf : fundsP c t = true := by unfold fundsP; rw [h3]; exact h4
          have e : ownerP c t = if hasP c 0 t.outs then 0 else if hasP c 1 t.outs then 1 else -1 := by unfold ownerP; rw [hk, hf, decide_eq_true h1]; rfl
          rw [e]
          cases h5 : hasP c 0 t.outs
          · cases h6 : hasP c 1 t.outs
            · exact owner_none hk h1 h2 h3 h4 h5 h6 hc ht
            · exact owner_1 hk h1 h2 h3 h4 h5 h6 hc ht
          · exact owner_0 hk h1 h2 h3 h4 h5 hc ht
      · rw [ownerP_funds (fundsP_len (by rw [ht.ins.1]; exact h2))]
        exact owner_len hk h1 h2 hc ht
    · rw [ownerP_kind h1]
      exact owner_kind hk h1 hc
end Go.Proofs.YtcmdpmialehjgaaGreatDoor
