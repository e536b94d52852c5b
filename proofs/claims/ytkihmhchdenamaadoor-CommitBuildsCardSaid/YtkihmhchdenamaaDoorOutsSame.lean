/- Outs of two slices told alike: what slices.EqualFunc with lock.Same comes to. -/
import Derived.Test.YtkihmhchdenamaaDoorLock
import Derived.Test.YtkihmhchdenamaaDoorTxBuild
import Derived.Test.YtkihmhchdenamaaDoorSteps
namespace Go.Proofs.YtkihmhchdenamaaDoor
open Go.RowKit

def alikeO (x y : POut) : Bool := decide (x.m = y.m) && alikeWs x.ws y.ws
def alikeOs : List POut → List POut → Bool
  | [], [] => true
  | x :: xs, y :: ys => alikeO x y && alikeOs xs ys
  | _, _ => false
theorem alikeOs_len : ∀ {xs ys : List POut}, xs.length ≠ ys.length → alikeOs xs ys = false
  | [], [], h => absurd rfl h
  | [], _ :: _, _ => rfl
  | _ :: _, [], _ => rfl
  | _ :: xs, _ :: ys, h => by
    rw [alikeOs, alikeOs_len (xs := xs) (ys := ys) (fun e => h (by simp [e])), Bool.and_false]
theorem sameOut_any {w : World} {x y : POut} (h : OutIn w x) (k : OutIn w y) : Calls Tryd.prog 37 #[.agg x.cells.toArray, .agg y.cells.toArray] w fun e w' => e = .returned (.bool (alikeO x y)) ∧ Below w.heap.size w w' := lockSame_any h.ws k.ws
theorem OutIn.keepO {w w' : World} {x : POut} (h : OutIn w x) (hb : Below w.heap.size w w') : OutIn w' x := ⟨h.m, h.ws.below hb⟩
theorem out_size14 (x : POut) : (Tryd.prog.info? 50).map (·.size) = some x.cells.length := by show _ = some 2; kernel_rfl
theorem out_sizeA14 (x : POut) : (Tryd.prog.info? 50).map (·.size) = some x.cells.toArray.size := by show _ = some 2; kernel_rfl
set_option linter.unusedSimpArgs false in
set_option maxRecDepth 100000 in
set_option maxHeartbeats 6400000 in
theorem equalOuts_any {w : World} {a b : Option Addr} {n c m d : Nat} {xs ys : List POut} (h : SliceOf outK w a n c xs) (k : SliceOf outK w b m d ys) :
    Calls Tryd.prog 36 #[.slice a n c, .slice b m d, .func (.func 37) #[] #[]] w fun e w' => e = .returned (.bool (alikeOs xs ys)) ∧ Below w.heap.size w w' := by
  have hn63 := h.len63
  have hm63 := k.len63
  by_cases hnm : n = m
  · subst hnm
    obtain ⟨R, hR⟩ : ∃ R, R = alikeOs xs ys := ⟨_, rfl⟩
    rw [← hR]
    have H := Lib.hid h
    have K := Lib.hid k
    have HR := Lib.hid hR
    clear h k hR
    go_enter Tryd.func36, Tryd.ntmps36
    go_upto_region 4 with (fail)
    go_loopw [17] (fun x wr => ∃ j : Nat, j ≤ n ∧ x = .int .i64 j ∧ Below w.heap.size w wr ∧ R = alikeOs (xs.drop j) (ys.drop j)) (fun x _ => n - (intOf x).toNat)
    case atStart => exact ⟨0, Nat.zero_le _, rfl, Below.refl _ _, HR.out⟩
    case round =>
      obtain ⟨j, hj, rfl, hb, hRj⟩ := hrel
      have HB := Lib.hid hb
      have HRJ := Lib.hid hRj
      clear hb hRj HR
      by_cases hjn : j < n
      · have f1 : (j : Int) < (n : Int) := by omega
        have f0 : (0 : Int) ≤ (j : Int) := by omega
        have ft : ((j : Int)).toNat = j := by omega
        have hbx := HB.out
        obtain ⟨b1, o1, e1, hlt1, hc1⟩ := (H.out.below hbx).2.2.2.2.2 (by omega)
        obtain ⟨b2, o2, e2, hlt2, hc2⟩ := (K.out.below hbx).2.2.2.2.2 (by omega)
        have hx : OutIn wr (xs.getD j noOut) := (H.out.below hbx).get hjn
        have hy : OutIn wr (ys.getD j noOut) := (K.out.below hbx).get hjn
        have hrx : wr.rangeAt b1 (o1 + j * 2) (xs.getD j noOut).cells := hc1 j hjn
        have hry : wr.rangeAt b2 (o2 + j * 2) (ys.getD j noOut).cells := hc2 j hjn
        have hRj := HRJ.out
        rw [drop_getD (d := noOut) (xs := xs) (by rw [H.out.1]; exact hjn), drop_getD (d := noOut) (xs := ys) (by rw [K.out.1]; exact hjn)] at hRj
        revert hx hy hrx hry hRj
        generalize xs.getD j noOut = x
        generalize ys.getD j noOut = y
        intro hx hy hrx hry hRj
        replace hRj : R = (alikeO x y && alikeOs (xs.drop (j + 1)) (ys.drop (j + 1))) := hRj
        subst e1
        subst e2
        have HRJ := Lib.hid hRj
        have RX := Lib.hid hrx
        have RY0 := Lib.hid hry
        have HLT2 := Lib.hid hlt2
        have HX := Lib.hid hx
        have HY := Lib.hid hy
        clear hc1 hc2 hrx hry hRj hx hy hbx H K hlt1 hlt2
        go_upto_region 6 with (first | (refine wpList_load_mid rfl 50 _ rfl b1 (o1 + j * 2) rfl x.cells _ RX.out Tryd.underlying50 rfl (out_size14 x) ?_) | (refine wpList_new rfl 50 rfl noOut.cells.toArray Tryd.zeroOut14 ?_; intro p5 w5 hp5 hh5 hb5; go_frame) | (refine wpList_row10 rfl 50 _ _ rfl p5 x.cells rfl rfl 50 noOut.cells hh5 (out_size14 x) rfl x.one ?_; intro w6 hh6 hb6) | fail)
        have hbr := But.in hb5 hb6 hp5
        have RY := Lib.hid (rangeAt_below RY0.out HLT2.out hbr)
        have HP5 := Lib.hid hh6
        have HBR6 := Lib.hid hbr
        have HB6 := Lib.hid (HB.out.trans (hbr.mono HB.out.size))
        clear hbr hp5 hh5 hb5 hh6 hb6 RX RY0 HLT2
        try simp only [Act.put]
        go_upto_region 7 with (first | (refine wpList_load_mid rfl 50 _ rfl b2 (o2 + j * 2) rfl y.cells _ RY.out Tryd.underlying50 rfl (out_size14 y) ?_) | (refine wpList_var rfl rfl 50 rfl _ _ rfl noOut.cells.toArray Tryd.zeroOut14 rfl y.cells (fun _ => rfl) (fun _ => rfl) rfl y.one ?_; intro p7 w7 hp7 hh7 hb7; go_frame; have HP7 := Lib.hid hh7; have HP57 := Lib.hid (keep hb7 HP5.out); have HB7 := Lib.hid (bthen HB6.out hb7); have HB67 := Lib.hid hb7; clear hp7 hh7 hb7) | fail)
        have HSW := Lib.hid (sameOut_any (HX.out.keepO (bthen HBR6.out HB67.out)) (HY.out.keepO (bthen HBR6.out HB67.out)))
        generalize alikeO x y = r at *
        try simp only [Act.put]
        cases r
        · have hRf : R = false := HRJ.out
          subst hRf
          go_wp2_with (first | (refine wpList_load_row rfl 50 _ rfl p5 rfl 50 x.cells.toArray (0, 0) _ HP57.out Tryd.underlying50 rfl (out_sizeA14 x) ?_) | (refine wpList_load_row rfl 50 _ rfl p7 rfl 50 y.cells.toArray (0, 0) _ HP7.out Tryd.underlying50 rfl (out_sizeA14 y) ?_) | (go_at_call 37; (with_reducible refine HSW.out.mono ?_); rintro e w8 ⟨rfl, hb8⟩; have HB8 := Lib.hid (HB7.out.trans (hb8.mono HB7.out.size)); clear hb8) | fail)
          go_ret
          exact ⟨rfl, HB8.out⟩
        · have hRt : R = alikeOs (xs.drop (j + 1)) (ys.drop (j + 1)) := HRJ.out
          have HRN := Lib.hid hRt
          clear hRt HRJ
          go_wp2_with (first | (refine wpList_load_row rfl 50 _ rfl p5 rfl 50 x.cells.toArray (0, 0) _ HP57.out Tryd.underlying50 rfl (out_sizeA14 x) ?_) | (refine wpList_load_row rfl 50 _ rfl p7 rfl 50 y.cells.toArray (0, 0) _ HP7.out Tryd.underlying50 rfl (out_sizeA14 y) ?_) | (go_at_call 37; (with_reducible refine HSW.out.mono ?_); rintro e w8 ⟨rfl, hb8⟩; have HB8 := Lib.hid (HB7.out.trans (hb8.mono HB7.out.size)); clear hb8) | fail)
          go_roundw
          case rel => exact ⟨j + 1, by omega, by go_num, HB8.out, HRN.out⟩
          case measure => simp [intOf]; omega
      · have f1 : ¬ ((j : Int) < (n : Int)) := by omega
        have e1 : xs.drop j = [] := List.drop_of_length_le (by rw [H.out.1]; omega)
        have e2 : ys.drop j = [] := List.drop_of_length_le (by rw [K.out.1]; omega)
        have hRt : R = true := by rw [HRJ.out, e1, e2]; rfl
        subst hRt
        clear e1 e2 HRJ
        go_wp2
        go_ret
        exact ⟨rfl, HB.out⟩
  · have hne : ¬ ((n : Int) = (m : Int)) := by omega
    rw [alikeOs_len (by rw [h.1, k.1]; exact hnm)]
    go_enter Tryd.func36, Tryd.ntmps36
    go_wp2
    go_ret
    exact ⟨rfl, Below.refl _ _⟩
end Go.Proofs.YtkihmhchdenamaaDoor
