/- AppointJobs, walked. -/
import Derived.Test.YtnepcjnnlfhplaaDoorAppMake
import Derived.Test.YtnepcjnnlfhplaaDoorAppFits
import Derived.Test.YtnepcjnnlfhplaaDoorAppSize
import Derived.Test.YtnepcjnnlfhplaaDoorLaw8Small
import Derived.Test.YtnepcjnnlfhplaaDoorMemory
import Derived.Test.YtnepcjnnlfhplaaDoorSha
import Derived.Deep.CutRange
namespace Go.Proofs.YtnepcjnnlfhplaaDoor
open Go.RowKit

theorem three_boxes16 (w : World) (a b c : Array Value) (A B C : TypeId) : ∃ w1 g1 g2, w1 = ((w.alloc (.cells a A)).alloc (.cells b B)).alloc (.cells c C) ∧ g1 = w.heap.size + 1 ∧ g2 = w.heap.size + 1 + 1 ∧ Below w.heap.size w w1 ∧ w1.heap[w.heap.size]? = some (.cells a A (0, 0)) ∧ w1.heap[g1]? = some (.cells b B (0, 0)) ∧ w1.heap[g2]? = some (.cells c C (0, 0)) := by
  refine ⟨_, _, _, rfl, rfl, rfl, ?_, ?_, ?_, ?_⟩
  · exact (((Below.refl _ _).alloc (Nat.le_refl _) _).alloc (by simp) _).alloc (by simp; omega) _
  · rw [heap_alloc_old _ _ (by simp; omega), heap_alloc_old _ _ (by simp), heap_alloc_new]
  · rw [heap_alloc_old _ _ (by simp), heap_alloc_at _ _ _ (by simp)]
  · exact heap_alloc_at _ _ _ (by simp)
theorem yields_eqrecB {S : World → Prop} {ops : Array Oper} {o : Oper} {a : Act} {u v : Operand} {rt : TypeId} {x y : PRec} {b : Bool} (hw : Region.wanted o (yielded ops a.tmps) = true) (ho : o.op = .binOp .eql 49 u v rt) (hu : a.eval u = .agg x.cells.toArray) (hv : a.eval v = .agg y.cells.toArray) (hx : RecIn x) (hy : RecIn y) (hb : recEq x y = b) : YieldsIf Tryd.prog ops S o (.bool b) a := by
  rw [← hb]
  exact yields_eqrec hw ho hu hv hx hy
theorem cover_some {w : World} {s : List UInt8} {x : PTx} (hs : s.length = 32) (ht : TxIn w x) (hk : KsAt w) (hd : x.op.n ≤ 6000) :
    Calls Tryd.prog 9 #[.agg (cellsOf s).toArray, .agg x.cells.toArray] w fun e w' => ∃ (a : Option Addr) (n c : Nat) (E : Int), e = .returned (.tuple #[.slice a n c, .int .i64 E]) ∧ Below w.heap.size w w' := by
  by_cases hok : txOk x = true
  · exact (cover_ok hs ht hk hok (by have h9 := txB_small ht hok hd; omega)).mono fun e w' h => by
      obtain ⟨a, c, h1, _, h3⟩ := h
      exact ⟨a, _, c, 0, h1, h3⟩
  · exact (cover_bad ht (by simpa using hok)).mono fun e w' h => ⟨none, 0, 0, 1, h.1, h.2⟩
set_option linter.unusedSimpArgs false in
set_option maxRecDepth 100000 in
set_option maxHeartbeats 25600000 in
theorem jobs16_walk {w : World} {ch st : Int} {s : List UInt8} {x : PTx} {y : PRec} (hs : s.length = 32) (ht : TxIn w x) (hy : RecIn y) (hk : KsAt w)
    (haw : ∀ W : World, Below w.heap.size w W → Calls Tryd.prog 8 #[] W fun e w' => e = .returned (.bool true) ∧ Below W.heap.size W w') :
    Calls Tryd.prog 5 #[.int .i64 ch, .int .i64 st, .agg (cellsOf s).toArray, .agg x.cells.toArray, .agg y.cells.toArray] w fun e w' => e = .returned (.bool true) ∧ Below w.heap.size w w' := by
  have HSL : Hid (∀ W : World, Below w.heap.size w W → Calls Tryd.prog 7 #[.agg x.cells.toArray] W fun e w' => e = .returned (.int .i64 (if smallT x = true then 0 else 1)) ∧ Below W.heap.size W w') := Lib.hid fun W hW => small8_law (ht.below hW)
  have SZX := Lib.hid (tx_sizeA ht.op.root)
  have SZS := Lib.hid (size_of hs)
  have SZSL : Hid ((Tryd.prog.info? 23).map (·.size) = some (cellsOf s).length) := Lib.hid (by rw [cellsOf_len, hs]; exact Tryd.size23)
  have SZY := Lib.hid (rec_size hy)
  have HS := Lib.hid hs
  have HT := Lib.hid ht
  have HY := Lib.hid hy
  have HK := Lib.hid hk
  have HAW := Lib.hid haw
  clear hs ht hy hk haw
  go_enter Tryd.func5, Tryd.ntmps5
  go_upto_region 1 with (fail)
  obtain ⟨w1, g1, g2, hw1, hg1, hg2, hb1, h1, h2, h3⟩ := three_boxes16 w (cellsOf s).toArray x.cells.toArray y.cells.toArray 23 31 49
  rw [← hw1, ← hg2, ← hg1]
  obtain ⟨g, hg⟩ : ∃ g, g = w.heap.size := ⟨_, rfl⟩
  rw [← hg] at h1 ⊢
  have HB1 := Lib.hid hb1
  have HS1 := Lib.hid h1
  have HX1 := Lib.hid h2
  have HY1 := Lib.hid h3
  clear hw1 hg1 hg2 hb1 h1 h2 h3 hg
  by_cases hsm : smallT x = true
  rotate_left
  · rw [show (if smallT x = true then (0 : Int) else 1) = 1 from if_neg hsm] at HSL
    go_wp2_with (first | (refine wpList_load_row rfl 31 _ rfl g1 rfl 31 x.cells.toArray (0, 0) _ HX1.out Tryd.underlying31 rfl SZX.out ?_) | (go_at_call 7; (with_reducible refine (HSL.out _ HB1.out).mono ?_); rintro e w2 ⟨rfl, hb⟩; have HB2 := Lib.hid (bthen HB1.out hb); have HS2 := Lib.hid (keep hb HS1.out); have HX2 := Lib.hid (keep hb HX1.out); have HY2 := Lib.hid (keep hb HY1.out); clear hb) | (go_at_call 8; (with_reducible refine (HAW.out _ HB2.out).mono ?_); rintro e w9 ⟨rfl, hb⟩; have HB9 := Lib.hid (bthen HB2.out hb); clear hb) | fail)
    go_ret
    exact ⟨rfl, HB9.out⟩
  rw [show (if smallT x = true then (0 : Int) else 1) = 0 from if_pos hsm] at HSL
  have HD6 : Hid (x.op.n ≤ 6000) := Lib.hid (by
    unfold smallT at hsm
    simp only [Bool.and_eq_true, decide_eq_true_eq] at hsm
    exact hsm.2.2.2.1)
  clear hsm
  by_cases hnum : (okNum ch && okNum st) = true
  rotate_left
  · have hnum0 : (okNum ch && okNum st) = false := by simpa using hnum
    have HMA := Lib.hid (fun (W : World) => make_arg (w := W) (s := s) (x := x) hnum0)
    have HCG := Lib.hid (fun (W : World) (hW : Below w.heap.size w W) => cover_some HS.out (HT.out.below hW) (HK.out.below hW) HD6.out)
    go_upto_region 5 with (first | (first | (refine wpList_load_row rfl 31 _ rfl g1 rfl 31 x.cells.toArray (0, 0) _ HX1.out Tryd.underlying31 rfl SZX.out ?_) | (refine wpList_load_row rfl 23 _ rfl g rfl 23 (cellsOf s).toArray (0, 0) _ HS4.out Tryd.underlying23 rfl SZS.out ?_) | (refine wpList_load_row rfl 23 _ rfl g rfl 23 (cellsOf s).toArray (0, 0) _ HS2.out Tryd.underlying23 rfl SZS.out ?_) | (refine wpList_load_row rfl 31 _ rfl g1 rfl 31 x.cells.toArray (0, 0) _ HX4.out Tryd.underlying31 rfl SZX.out ?_) | (refine wpList_load_row rfl 31 _ rfl g1 rfl 31 x.cells.toArray (0, 0) _ HX2.out Tryd.underlying31 rfl SZX.out ?_)) | (go_at_call 7; (with_reducible refine (HSL.out _ HB1.out).mono ?_); rintro e w2 ⟨rfl, hb⟩; have HB2 := Lib.hid (bthen HB1.out hb); have HS2 := Lib.hid (keep hb HS1.out); have HX2 := Lib.hid (keep hb HX1.out); have HY2 := Lib.hid (keep hb HY1.out); clear hb) | (go_at_call 19; (with_reducible refine (HMA.out _).mono ?_); rintro e w3 ⟨rfl, hb⟩; have HB3 := Lib.hid (bthen HB2.out hb); have HS3 := Lib.hid (keep hb HS2.out); have HX3 := Lib.hid (keep hb HX2.out); have HY3 := Lib.hid (keep hb HY2.out); clear hb) | (refine wpList_var rfl rfl 51 rfl _ _ rfl noJob.cells.toArray Tryd.infoJob rfl noJob.cells (fun _ => rfl) (fun _ => rfl) rfl (PJob.one _) ?_; intro p3 w4 hq hh hb; go_frame; have HB4 := Lib.hid (bthen HB3.out hb); have HS4 := Lib.hid (keep hb HS3.out); have HX4 := Lib.hid (keep hb HX3.out); have HY4 := Lib.hid (keep hb HY3.out); have HP4 := Lib.hid hh; clear hq hh hb) | (go_at_call 9; (with_reducible refine (HCG.out _ HB4.out).mono ?_); rintro e w5 ⟨a5, n5, c5, E5, rfl, hb⟩; have HB5 := Lib.hid (bthen HB4.out hb); have HS5 := Lib.hid (keep hb HS4.out); have HX5 := Lib.hid (keep hb HX4.out); have HY5 := Lib.hid (keep hb HY4.out); have HP5 := Lib.hid (keep hb HP4.out); clear hb) | fail)
    have c34 : w5.cell? ⟨p3, 34, none⟩ = some (.slice none 0 0) := job_blob (x := noJob) (g := p3) (o := 0) rfl (range_of HP5.out)
    clear HMA HCG hnum
    have hcase : ch < 0 ∨ (¬ ch < 0 ∧ 1048576 < ch) ∨ (¬ ch < 0 ∧ ¬ 1048576 < ch ∧ st < 0) ∨ (¬ ch < 0 ∧ ¬ 1048576 < ch ∧ ¬ st < 0 ∧ 1048576 < st) := by
      have h9 : ¬ ((0 ≤ ch ∧ ch ≤ 1048576) ∧ 0 ≤ st ∧ st ≤ 1048576) := fun h => by
        have h8 : (okNum ch && okNum st) = true := by simpa [okNum] using h
        rw [hnum0] at h8
        exact absurd h8 (by decide)
      omega
    clear hnum0
    rcases hcase with f1 | ⟨f1, f2⟩ | ⟨f1, f2, f3⟩ | ⟨f1, f2, f3, f4⟩
    · go_wp2_with (first | (go_at_call 8; (with_reducible refine (HAW.out _ HB5.out).mono ?_); rintro e w9 ⟨rfl, hb⟩; have HB9 := Lib.hid (bthen HB5.out hb); clear hb) | fail)
      go_ret
      exact ⟨rfl, HB9.out⟩
    · go_wp2_with (first | (go_at_call 8; (with_reducible refine (HAW.out _ HB5.out).mono ?_); rintro e w9 ⟨rfl, hb⟩; have HB9 := Lib.hid (bthen HB5.out hb); clear hb) | fail)
      go_ret
      exact ⟨rfl, HB9.out⟩
    · go_wp2_with (first | (go_at_call 8; (with_reducible refine (HAW.out _ HB5.out).mono ?_); rintro e w9 ⟨rfl, hb⟩; have HB9 := Lib.hid (bthen HB5.out hb); clear hb) | fail)
      go_ret
      exact ⟨rfl, HB9.out⟩
    · go_wp2_with (first | (go_at_call 8; (with_reducible refine (HAW.out _ HB5.out).mono ?_); rintro e w9 ⟨rfl, hb⟩; have HB9 := Lib.hid (bthen HB5.out hb); clear hb) | fail)
      go_ret
      exact ⟨rfl, HB9.out⟩
  have hnum2 : (0 ≤ ch ∧ ch ≤ 1048576) ∧ 0 ≤ st ∧ st ≤ 1048576 := by simpa [okNum] using hnum
  have f1 : ¬ ch < 0 := by omega
  have f2 : ¬ 1048576 < ch := by omega
  have f3 : ¬ st < 0 := by omega
  have f4 : ¬ 1048576 < st := by omega
  by_cases hok : txOk x = true
  rotate_left
  · have hok0 : txOk x = false := by simpa using hok
    have HMA := Lib.hid (fun (W : World) (hW : Below w.heap.size w W) => make_bad (w := W) HS.out (HT.out.below hW) hnum hok0)
    have HCB := Lib.hid (fun (W : World) (hW : Below w.heap.size w W) => cover_bad (s := s) (HT.out.below hW) hok0)
    clear hok hok0 hnum hnum2
    go_upto_region 5 with (first | (first | (refine wpList_load_row rfl 31 _ rfl g1 rfl 31 x.cells.toArray (0, 0) _ HX1.out Tryd.underlying31 rfl SZX.out ?_) | (refine wpList_load_row rfl 23 _ rfl g rfl 23 (cellsOf s).toArray (0, 0) _ HS4.out Tryd.underlying23 rfl SZS.out ?_) | (refine wpList_load_row rfl 23 _ rfl g rfl 23 (cellsOf s).toArray (0, 0) _ HS2.out Tryd.underlying23 rfl SZS.out ?_) | (refine wpList_load_row rfl 31 _ rfl g1 rfl 31 x.cells.toArray (0, 0) _ HX4.out Tryd.underlying31 rfl SZX.out ?_) | (refine wpList_load_row rfl 31 _ rfl g1 rfl 31 x.cells.toArray (0, 0) _ HX2.out Tryd.underlying31 rfl SZX.out ?_)) | (go_at_call 7; (with_reducible refine (HSL.out _ HB1.out).mono ?_); rintro e w2 ⟨rfl, hb⟩; have HB2 := Lib.hid (bthen HB1.out hb); have HS2 := Lib.hid (keep hb HS1.out); have HX2 := Lib.hid (keep hb HX1.out); have HY2 := Lib.hid (keep hb HY1.out); clear hb) | (go_at_call 19; (with_reducible refine (HMA.out _ HB2.out).mono ?_); rintro e w3 ⟨rfl, hb⟩; have HB3 := Lib.hid (bthen HB2.out hb); have HS3 := Lib.hid (keep hb HS2.out); have HX3 := Lib.hid (keep hb HX2.out); have HY3 := Lib.hid (keep hb HY2.out); clear hb) | (refine wpList_var rfl rfl 51 rfl _ _ rfl noJob.cells.toArray Tryd.infoJob rfl noJob.cells (fun _ => rfl) (fun _ => rfl) rfl (PJob.one _) ?_; intro p3 w4 hq hh hb; go_frame; have HB4 := Lib.hid (bthen HB3.out hb); have HS4 := Lib.hid (keep hb HS3.out); have HX4 := Lib.hid (keep hb HX3.out); have HY4 := Lib.hid (keep hb HY3.out); have HP4 := Lib.hid hh; clear hq hh hb) | (go_at_call 9; (with_reducible refine (HCB.out _ HB4.out).mono ?_); rintro e w5 ⟨rfl, hb⟩; have HB5 := Lib.hid (bthen HB4.out hb); have HS5 := Lib.hid (keep hb HS4.out); have HX5 := Lib.hid (keep hb HX4.out); have HY5 := Lib.hid (keep hb HY4.out); have HP5 := Lib.hid (keep hb HP4.out); clear hb) | fail)
    have c34 : w5.cell? ⟨p3, 34, none⟩ = some (.slice none 0 0) := job_blob (x := noJob) (g := p3) (o := 0) rfl (range_of HP5.out)
    clear HMA HCB
    go_wp2_with (first | (go_at_call 8; (with_reducible refine (HAW.out _ HB5.out).mono ?_); rintro e w9 ⟨rfl, hb⟩; have HB9 := Lib.hid (bthen HB5.out hb); clear hb) | fail)
    go_ret
    exact ⟨rfl, HB9.out⟩
  have hok1 : txOk x = true := hok
  obtain ⟨C, hC⟩ : ∃ C, closeB (appKey s) (txB x) = C := ⟨_, rfl⟩
  obtain ⟨N, hN⟩ : ∃ N, 16 + (txB x).length = N := ⟨_, rfl⟩
  obtain ⟨XH, hXH⟩ : ∃ X, sumOf (partsOf 71 [s]) = X := ⟨_, rfl⟩
  obtain ⟨XM, hXM⟩ : ∃ X, sumOf (partsOf 73 [C]) = X := ⟨_, rfl⟩
  have hXHl : XH.length = 32 := by rw [← hXH]; exact sumOf_len _
  have hXMl : XM.length = 32 := by rw [← hXM]; exact sumOf_len _
  have hl : (txB x).length ≤ 62000 := txB_small HT.out hok1 HD6.out
  have hN6 : N ≤ 1000000 := by omega
  have HMO : Hid (∀ W : World, Below w.heap.size w W → Calls Tryd.prog 19 #[.int .i64 ch, .int .i64 st, .agg (cellsOf s).toArray, .agg x.cells.toArray] W fun e w' => ∃ a c, e = .returned (.tuple #[.agg (PJob.cells (PJob.mk ch st XH a N c C)).toArray, .int .i64 0]) ∧ JobIn w' (PJob.mk ch st XH a N c C) ∧ Below W.heap.size W w') := Lib.hid fun W hW => by
    have h9 := make_ok HS.out (HT.out.below hW) (HK.out.below hW) hnum hok1 (by omega)
    unfold madeJob at h9
    rw [hXH, hN, hC] at h9
    exact h9
  have HCV : Hid (∀ W : World, Below w.heap.size w W → Calls Tryd.prog 9 #[.agg (cellsOf s).toArray, .agg x.cells.toArray] W fun e w' => ∃ a c, e = .returned (.tuple #[.slice a N c, .int .i64 0]) ∧ Row w' a N c C ∧ Below W.heap.size W w') := Lib.hid fun W hW => by
    rw [← hC, ← hN]
    exact cover_ok HS.out (HT.out.below hW) (HK.out.below hW) hok1 (by omega)
  have HHI : Hid (∀ W : World, Below w.heap.size w W → Calls Tryd.prog 15 #[.agg (cellsOf s).toArray] W fun e w' => e = .returned (.agg (cellsOf XH).toArray) ∧ Below W.heap.size W w') := Lib.hid fun W hW => by
    rw [← hXH]
    exact hint_any HS.out (HK.out.below hW)
  have HMK : Hid (∀ (W : World) (a : Option Addr) (c : Nat), Below w.heap.size w W → Row W a N c C → Calls Tryd.prog 16 #[.slice a N c] W fun e w' => e = .returned (.agg (cellsOf XM).toArray) ∧ Below W.heap.size W w') := Lib.hid fun W a c hW hr => by
    rw [← hXM]
    exact appmark_any hr (HK.out.below hW) hN6
  have HRI : Hid (RecIn (PRec.mk y.tower ch st XH XM)) := Lib.hid ⟨HY.out.tower, (show Fits ch from by constructor <;> omega), (show Fits st from by constructor <;> omega), hXHl, hXMl⟩
  have HRO : Hid (∀ (a : Option Addr) (c : Nat), recOf (PJob.mk ch st XH a N c C) y.tower = (PRec.mk y.tower ch st XH XM)) := Lib.hid fun a c => by
    unfold recOf
    rw [hXM]
  have HRC : Hid (∀ (W : World) (a : Option Addr) (c : Nat), Below w.heap.size w W → JobIn W (PJob.mk ch st XH a N c C) → Calls Tryd.prog 20 #[.agg (PJob.mk ch st XH a N c C).cells.toArray, .int .i64 y.tower] W fun e w' => e = .returned (.agg (PRec.mk y.tower ch st XH XM).cells.toArray) ∧ Below W.heap.size W w') := Lib.hid fun W a c hW hj => by
    have h9 := receipt_any (t := y.tower) hj (HK.out.below hW) hN6
    rw [HRO.out] at h9
    exact h9
  obtain ⟨Q, hQ⟩ : ∃ Q, recEq y (PRec.mk y.tower ch st XH XM) = Q := ⟨_, rfl⟩
  have HF1 : Hid (∀ (W : World) (a : Option Addr) (c : Nat), Below w.heap.size w W → JobIn W (PJob.mk ch st XH a N c C) → Calls Tryd.prog 21 #[.agg (PJob.mk ch st XH a N c C).cells.toArray, .agg (PRec.mk y.tower ch st XH XM).cells.toArray] W fun e w' => e = .returned (.bool true) ∧ Below W.heap.size W w') := Lib.hid fun W a c hW hj => by
    have h9 := fits_any (y := (PRec.mk y.tower ch st XH XM)) hj HRI.out (HK.out.below hW) hN6
    rw [show recOf (PJob.mk ch st XH a N c C) (PRec.tower (PRec.mk y.tower ch st XH XM)) = (PRec.mk y.tower ch st XH XM) from HRO.out a c, recEq_same] at h9
    exact h9
  have HF2 : Hid (∀ (W : World) (a : Option Addr) (c : Nat), Below w.heap.size w W → JobIn W (PJob.mk ch st XH a N c C) → Calls Tryd.prog 21 #[.agg (PJob.mk ch st XH a N c C).cells.toArray, .agg y.cells.toArray] W fun e w' => e = .returned (.bool Q) ∧ Below W.heap.size W w') := Lib.hid fun W a c hW hj => by
    have h9 := fits_any (y := y) hj HY.out (HK.out.below hW) hN6
    rw [HRO.out, hQ] at h9
    exact h9
  obtain ⟨bc, hbc⟩ : ∃ bc : ByteArray, (⟨C.toArray⟩ : ByteArray) = bc := ⟨_, rfl⟩
  have HBC := Lib.hid hbc
  have HQ := Lib.hid hQ
  have HXHL := Lib.hid hXHl
  have SZR := Lib.hid (rec_size HRI.out)
  have ZR : Hid (noRec.cells.length = (PRec.cells (PRec.mk y.tower ch st XH XM)).length) := Lib.hid (by rw [PRec.len HRI.out]; rfl)
  have SZH : Hid ((Tryd.prog.info? 23).map (·.size) = some (cellsOf XH).length) := Lib.hid (by rw [cellsOf_len, hXHl]; exact Tryd.size23)
  clear hok hok1 hnum hnum2 hC hN hXH hXM hXHl hXMl hl hN6 hQ hbc HRO
  go_upto_region 5 with (first | (first | (refine wpList_load_row rfl 31 _ rfl g1 rfl 31 x.cells.toArray (0, 0) _ HX1.out Tryd.underlying31 rfl SZX.out ?_) | (refine wpList_load_row rfl 23 _ rfl g rfl 23 (cellsOf s).toArray (0, 0) _ HS4.out Tryd.underlying23 rfl SZS.out ?_) | (refine wpList_load_row rfl 23 _ rfl g rfl 23 (cellsOf s).toArray (0, 0) _ HS2.out Tryd.underlying23 rfl SZS.out ?_) | (refine wpList_load_row rfl 31 _ rfl g1 rfl 31 x.cells.toArray (0, 0) _ HX4.out Tryd.underlying31 rfl SZX.out ?_) | (refine wpList_load_row rfl 31 _ rfl g1 rfl 31 x.cells.toArray (0, 0) _ HX2.out Tryd.underlying31 rfl SZX.out ?_)) | (go_at_call 7; (with_reducible refine (HSL.out _ HB1.out).mono ?_); rintro e w2 ⟨rfl, hb⟩; have HB2 := Lib.hid (bthen HB1.out hb); have HS2 := Lib.hid (keep hb HS1.out); have HX2 := Lib.hid (keep hb HX1.out); have HY2 := Lib.hid (keep hb HY1.out); clear hb) | (go_at_call 19; (with_reducible refine (HMO.out _ HB2.out).mono ?_); rintro e w3 ⟨a3, c3, rfl, hj, hb⟩; have HB3 := Lib.hid (bthen HB2.out hb); have HS3 := Lib.hid (keep hb HS2.out); have HX3 := Lib.hid (keep hb HX2.out); have HY3 := Lib.hid (keep hb HY2.out); have HJ3 := Lib.hid hj; have XL3 := Lib.hid (PJob.len hj.hint); clear hj; clear hb) | (refine wpList_var rfl rfl 51 rfl _ _ rfl noJob.cells.toArray Tryd.infoJob rfl (PJob.mk ch st XH a3 N c3 C).cells (fun _ => rfl) (fun _ => rfl) XL3.out (PJob.one _) ?_; intro p3 w4 hq hh hb; go_frame; have HB4 := Lib.hid (bthen HB3.out hb); have HS4 := Lib.hid (keep hb HS3.out); have HX4 := Lib.hid (keep hb HX3.out); have HY4 := Lib.hid (keep hb HY3.out); have HP4 := Lib.hid hh; have HJ4 := Lib.hid (HJ3.out.below hb); clear hq hh hb) | (go_at_call 9; (with_reducible refine (HCV.out _ HB4.out).mono ?_); rintro e w5 ⟨a5, c5, rfl, hr, hb⟩; have HB5 := Lib.hid (bthen HB4.out hb); have HS5 := Lib.hid (keep hb HS4.out); have HX5 := Lib.hid (keep hb HX4.out); have HY5 := Lib.hid (keep hb HY4.out); have HP5 := Lib.hid (keep hb HP4.out); have HJ5 := Lib.hid (HJ4.out.below hb); have HR5 := Lib.hid hr; clear hr; clear hb) | fail)
  go_upto_region 9 with (fail)
  clear HSL HMO HCV HB1 HS1 HX1 HY1 HB2 HS2 HX2 HY2 HB3 HS3 HX3 HY3 HB4 HS4 HX4 HY4 HP4 HJ3 HJ4 HX5
  have SZJ := Lib.hid (job_size HJ5.out.hint)
  go_cut [15] from 73 to 81 (fun u w' => ∃ v : Nat, u = .pointer (some ⟨v, 0, none⟩) ∧ w'.heap[v]? = some (.cells (PRec.cells (PRec.mk y.tower ch st XH XM)).toArray 49 (0, 0)) ∧ Below w5.heap.size w5 w')
  case first =>
    try simp only [Act.put]
    refine wp_region_held_drew (S := fun w' => Below w5.heap.size w5 w') (by kernel_rfl) (below_drew (Below.refl _ _)) (fun hHeld => ?_)
    refine take_at (i := 0) (v := ?_) rfl rfl (by kernel_rfl) (by kernel_rfl) (by kernel_rfl) (fun _ _ _ h => h) (Or.inl ⟨by rfl, ?_⟩) (by assumption) ?_
    rotate_left
    · intro w0 hSw; (try dsimp only at hSw); first | (go_simp; done) | (go_simp; with_reducible rfl)
    simp only [List.setIfInBounds_toArray, List.set_cons_zero, List.set_cons_succ]
    refine take_at (i := 1) rfl rfl (by kernel_rfl) (by kernel_rfl) (by kernel_rfl) (fun _ _ _ h => h) (yields_cell (by rfl) rfl rfl (b := g2) (o := 0) (fun w0 hSw => rec_tower (range_nil (range_of (keep hSw HY5.out)))) Tryd.isAgg3) (by assumption) ?_
    simp only [List.setIfInBounds_toArray, List.set_cons_zero, List.set_cons_succ]
    refine take_at (i := 2) (v := ?_) rfl rfl (by kernel_rfl) (by kernel_rfl) (by kernel_rfl) (fun _ _ _ h => h) (Or.inl ⟨by rfl, ?_⟩) (by assumption) ?_
    rotate_left
    · intro w0 hSw; (try dsimp only at hSw); first | (go_simp; done) | (go_simp; with_reducible rfl)
    simp only [List.setIfInBounds_toArray, List.set_cons_zero, List.set_cons_succ]
    refine take_at (i := 3) (v := ?_) rfl rfl (by kernel_rfl) (by kernel_rfl) (by kernel_rfl) (fun _ _ _ h => h) (Or.inl ⟨by rfl, ?_⟩) (by assumption) ?_
    rotate_left
    · intro w0 hSw; (try dsimp only at hSw); first | (go_simp; done) | (go_simp; with_reducible rfl)
    simp only [List.setIfInBounds_toArray, List.set_cons_zero, List.set_cons_succ]
    refine take_at (i := 4) rfl rfl (by kernel_rfl) (by kernel_rfl) (by kernel_rfl) (fun _ _ _ h => h) (yieldsIf_load_mid (by rfl) _ _ rfl g 0 rfl (cellsOf s) _ (fun w0 hSw => range_of (keep hSw HS5.out)) Tryd.underlying23 rfl SZSL.out) (by assumption) ?_
    simp only [List.setIfInBounds_toArray, List.set_cons_zero, List.set_cons_succ]
    refine take_at (i := 6) (v := ?_) rfl rfl (by kernel_rfl) (by kernel_rfl) (by kernel_rfl) (fun _ _ _ h => h) (Or.inl ⟨by rfl, ?_⟩) (by assumption) ?_
    rotate_left
    · intro w0 hSw; (try dsimp only at hSw); first | (go_simp; done) | (go_simp; with_reducible rfl)
    simp only [List.setIfInBounds_toArray, List.set_cons_zero, List.set_cons_succ]
    refine wpAnyH_ready (rs := [5, 9]) (by kernel_rfl) (by simp) ?_
    refine AllReadyH.cons rfl (fun K hK => ?_) ?_
    · go_simp
      go_wp2_with ((go_at_call 15; (with_reducible refine (HHI.out _ (bthen HB5.out hHeld)).mono ?_); rintro e y10 ⟨rfl, hb⟩; have HX := Lib.hid (bthen hHeld hb); clear hb))
      refine hK.out _ _ (by (try dsimp only); exact HX.out) (fun hHeld => ?_)
      clear hK K
      refine wpAnyH_ready (rs := [7, 9]) (by kernel_rfl) (by simp) ?_
      refine AllReadyH.cons rfl (fun K hK => ?_) ?_
      · go_simp
        go_wp2_with ((go_at_call 16; (with_reducible refine (HMK.out _ _ _ (bthen HB5.out hHeld) (HR5.out.below hHeld)).mono ?_); rintro e y11 ⟨rfl, hb⟩; have HX := Lib.hid (bthen hHeld hb); clear hb))
        refine hK.out _ _ (by (try dsimp only); exact HX.out) (fun hHeld => ?_)
        clear hK K
        refine take_at (i := 8) rfl rfl (by kernel_rfl) (by kernel_rfl) (by kernel_rfl) (fun _ _ _ h => h) (yields_build10 (by rfl) rfl (vs := [(0, .int .i64 y.tower), (1, .int .i64 ch), (2, .int .i64 st), (3, .agg (cellsOf XH).toArray), (4, .agg (cellsOf XM).toArray)]) rfl (build_rec16 y.tower ch st HRI.out.hint HRI.out.blob)) (by assumption) ?_
        simp only [List.setIfInBounds_toArray, List.set_cons_zero, List.set_cons_succ]
        refine wpAnyH_ready (rs := [9]) (by kernel_rfl) (by simp) ?_
        refine AllReadyH.cons rfl (fun K hK => ?_) ?_
        · refine step_alloc10 (d := 15) rfl (by rfl) 49 rfl noRec.cells.toArray Tryd.infoRec ?_
          intro v y12 hp hh hb
          have HV := Lib.hid hh
          have NV : Hid (w5.heap.size ≤ v) := Lib.hid (Nat.le_trans (Below.size hHeld) hp)
          have HX := Lib.hid (bthen hHeld hb)
          clear hp hh hb
          refine hK.out _ _ (by (try dsimp only); exact HX.out) (fun hHeld => ?_)
          clear hK K
          refine wpAnyH_ready (rs := [10]) (by kernel_rfl) (by simp) ?_
          refine AllReadyH.cons rfl (fun K hK => ?_) ?_
          · refine step_row10 (by rfl) 49 _ _ rfl v (PRec.cells (PRec.mk y.tower ch st XH XM)) (by rfl) (by rfl) 49 noRec.cells HV.out SZR.out ZR.out (PRec.one _) (fun y13 hh hb => ?_)
            have HX := Lib.hid (But.in hHeld hb NV.out)
            have HV := Lib.hid hh
            clear hh hb
            refine hK.out _ _ (by (try dsimp only); exact HX.out) (fun hHeld => ?_)
            clear hK K
            refine wpAnyH_done (by kernel_rfl) ?_ _
            clear hHeld
            go_wp2_with fail
            go_meet
            exact ⟨v, rfl, HV.out, HX.out⟩
          exact AllReadyH.nil
        exact AllReadyH.nil
      refine AllReadyH.cons rfl (fun K hK => ?_) ?_
      · refine step_alloc10 (d := 15) rfl (by rfl) 49 rfl noRec.cells.toArray Tryd.infoRec ?_
        intro v y11 hp hh hb
        have HV := Lib.hid hh
        have NV : Hid (w5.heap.size ≤ v) := Lib.hid (Nat.le_trans (Below.size hHeld) hp)
        have HX := Lib.hid (bthen hHeld hb)
        clear hp hh hb
        refine hK.out _ _ (by (try dsimp only); exact HX.out) (fun hHeld => ?_)
        clear hK K
        refine wpAnyH_ready (rs := [7]) (by kernel_rfl) (by simp) ?_
        refine AllReadyH.cons rfl (fun K hK => ?_) ?_
        · go_simp
          go_wp2_with ((go_at_call 16; (with_reducible refine (HMK.out _ _ _ (bthen HB5.out hHeld) (HR5.out.below hHeld)).mono ?_); rintro e y12 ⟨rfl, hb⟩; have HV := Lib.hid (keep hb HV.out); have HX := Lib.hid (bthen hHeld hb); clear hb))
          refine hK.out _ _ (by (try dsimp only); exact HX.out) (fun hHeld => ?_)
          clear hK K
          refine take_at (i := 8) rfl rfl (by kernel_rfl) (by kernel_rfl) (by kernel_rfl) (fun _ _ _ h => h) (yields_build10 (by rfl) rfl (vs := [(0, .int .i64 y.tower), (1, .int .i64 ch), (2, .int .i64 st), (3, .agg (cellsOf XH).toArray), (4, .agg (cellsOf XM).toArray)]) rfl (build_rec16 y.tower ch st HRI.out.hint HRI.out.blob)) (by assumption) ?_
          simp only [List.setIfInBounds_toArray, List.set_cons_zero, List.set_cons_succ]
          refine wpAnyH_ready (rs := [10]) (by kernel_rfl) (by simp) ?_
          refine AllReadyH.cons rfl (fun K hK => ?_) ?_
          · refine step_row10 (by rfl) 49 _ _ rfl v (PRec.cells (PRec.mk y.tower ch st XH XM)) (by rfl) (by rfl) 49 noRec.cells HV.out SZR.out ZR.out (PRec.one _) (fun y13 hh hb => ?_)
            have HX := Lib.hid (But.in hHeld hb NV.out)
            have HV := Lib.hid hh
            clear hh hb
            refine hK.out _ _ (by (try dsimp only); exact HX.out) (fun hHeld => ?_)
            clear hK K
            refine wpAnyH_done (by kernel_rfl) ?_ _
            clear hHeld
            go_wp2_with fail
            go_meet
            exact ⟨v, rfl, HV.out, HX.out⟩
          exact AllReadyH.nil
        exact AllReadyH.nil
      exact AllReadyH.nil
    refine AllReadyH.cons rfl (fun K hK => ?_) ?_
    · refine step_alloc10 (d := 15) rfl (by rfl) 49 rfl noRec.cells.toArray Tryd.infoRec ?_
      intro v y10 hp hh hb
      have HV := Lib.hid hh
      have NV : Hid (w5.heap.size ≤ v) := Lib.hid (Nat.le_trans (Below.size hHeld) hp)
      have HX := Lib.hid (bthen hHeld hb)
      clear hp hh hb
      refine hK.out _ _ (by (try dsimp only); exact HX.out) (fun hHeld => ?_)
      clear hK K
      refine wpAnyH_ready (rs := [5]) (by kernel_rfl) (by simp) ?_
      refine AllReadyH.cons rfl (fun K hK => ?_) ?_
      · go_simp
        go_wp2_with ((go_at_call 15; (with_reducible refine (HHI.out _ (bthen HB5.out hHeld)).mono ?_); rintro e y11 ⟨rfl, hb⟩; have HV := Lib.hid (keep hb HV.out); have HX := Lib.hid (bthen hHeld hb); clear hb))
        refine hK.out _ _ (by (try dsimp only); exact HX.out) (fun hHeld => ?_)
        clear hK K
        refine wpAnyH_ready (rs := [7]) (by kernel_rfl) (by simp) ?_
        refine AllReadyH.cons rfl (fun K hK => ?_) ?_
        · go_simp
          go_wp2_with ((go_at_call 16; (with_reducible refine (HMK.out _ _ _ (bthen HB5.out hHeld) (HR5.out.below hHeld)).mono ?_); rintro e y12 ⟨rfl, hb⟩; have HV := Lib.hid (keep hb HV.out); have HX := Lib.hid (bthen hHeld hb); clear hb))
          refine hK.out _ _ (by (try dsimp only); exact HX.out) (fun hHeld => ?_)
          clear hK K
          refine take_at (i := 8) rfl rfl (by kernel_rfl) (by kernel_rfl) (by kernel_rfl) (fun _ _ _ h => h) (yields_build10 (by rfl) rfl (vs := [(0, .int .i64 y.tower), (1, .int .i64 ch), (2, .int .i64 st), (3, .agg (cellsOf XH).toArray), (4, .agg (cellsOf XM).toArray)]) rfl (build_rec16 y.tower ch st HRI.out.hint HRI.out.blob)) (by assumption) ?_
          simp only [List.setIfInBounds_toArray, List.set_cons_zero, List.set_cons_succ]
          refine wpAnyH_ready (rs := [10]) (by kernel_rfl) (by simp) ?_
          refine AllReadyH.cons rfl (fun K hK => ?_) ?_
          · refine step_row10 (by rfl) 49 _ _ rfl v (PRec.cells (PRec.mk y.tower ch st XH XM)) (by rfl) (by rfl) 49 noRec.cells HV.out SZR.out ZR.out (PRec.one _) (fun y13 hh hb => ?_)
            have HX := Lib.hid (But.in hHeld hb NV.out)
            have HV := Lib.hid hh
            clear hh hb
            refine hK.out _ _ (by (try dsimp only); exact HX.out) (fun hHeld => ?_)
            clear hK K
            refine wpAnyH_done (by kernel_rfl) ?_ _
            clear hHeld
            go_wp2_with fail
            go_meet
            exact ⟨v, rfl, HV.out, HX.out⟩
          exact AllReadyH.nil
        exact AllReadyH.nil
      exact AllReadyH.nil
    exact AllReadyH.nil
  case rest =>
    obtain ⟨v, rfl, hv6, hb6⟩ := hcut
    rename World => w6
    have HB6 := Lib.hid (bthen HB5.out hb6)
    have HP6 := Lib.hid (keep hb6 HP5.out)
    have HY6 := Lib.hid (keep hb6 HY5.out)
    have HJ6 := Lib.hid (HJ5.out.below hb6)
    have HR6 := Lib.hid (HR5.out.below hb6)
    have HV6 := Lib.hid hv6
    clear hv6 hb6 HB5 HP5 HY5 HS5 HJ5 HR5 HHI HMK
    go_upto_region 10 with (fail)
    refine wp_region_held_drew (S := fun w' => Below w6.heap.size w6 w') (by kernel_rfl) (below_drew (Below.refl _ _)) (fun hHeld => ?_)
    refine take_at (i := 0) (v := ?_) rfl rfl (by kernel_rfl) (by kernel_rfl) (by kernel_rfl) (fun _ _ _ h => h) (Or.inl ⟨by rfl, ?_⟩) (by assumption) ?_
    rotate_left
    · intro w0 hSw; (try dsimp only at hSw); first | (go_simp; done) | (go_simp; with_reducible rfl)
    simp only [List.setIfInBounds_toArray, List.set_cons_zero, List.set_cons_succ]
    refine take_at (i := 1) (v := ?_) rfl rfl (by kernel_rfl) (by kernel_rfl) (by kernel_rfl) (fun _ _ _ h => h) (Or.inl ⟨by rfl, ?_⟩) (by assumption) ?_
    rotate_left
    · intro w0 hSw; (try dsimp only at hSw); first | (go_simp; done) | (go_simp; with_reducible rfl)
    simp only [List.setIfInBounds_toArray, List.set_cons_zero, List.set_cons_succ]
    refine take_at (i := 2) (v := ?_) rfl rfl (by kernel_rfl) (by kernel_rfl) (by kernel_rfl) (fun _ _ _ h => h) (Or.inl ⟨by rfl, ?_⟩) (by assumption) ?_
    rotate_left
    · intro w0 hSw; (try dsimp only at hSw); first | (go_simp; done) | (go_simp; with_reducible rfl)
    simp only [List.setIfInBounds_toArray, List.set_cons_zero, List.set_cons_succ]
    refine take_at (i := 3) (v := ?_) rfl rfl (by kernel_rfl) (by kernel_rfl) (by kernel_rfl) (fun _ _ _ h => h) (Or.inl ⟨by rfl, ?_⟩) (by assumption) ?_
    rotate_left
    · intro w0 hSw; (try dsimp only at hSw); first | (go_simp; done) | (go_simp; with_reducible rfl)
    simp only [List.setIfInBounds_toArray, List.set_cons_zero, List.set_cons_succ]
    refine take_at (i := 4) rfl rfl (by kernel_rfl) (by kernel_rfl) (by kernel_rfl) (fun _ _ _ h => h) (yields_cell (by rfl) rfl rfl (b := p3) (o := 0) (fun w0 hSw => job_channel (x := (PJob.mk ch st XH a3 N c3 C)) (range_of (keep hSw HP6.out))) Tryd.isAgg3) (by assumption) ?_
    simp only [List.setIfInBounds_toArray, List.set_cons_zero, List.set_cons_succ]
    refine take_at (i := 5) (v := ?_) rfl rfl (by kernel_rfl) (by kernel_rfl) (by kernel_rfl) (fun _ _ _ h => h) (Or.inl ⟨by rfl, ?_⟩) (by assumption) ?_
    rotate_left
    · intro w0 hSw; (try dsimp only at hSw); first | (go_simp; done) | (go_simp; with_reducible rfl)
    simp only [List.setIfInBounds_toArray, List.set_cons_zero, List.set_cons_succ]
    refine take_at (i := 6) (v := .bool true) rfl rfl (by kernel_rfl) (by kernel_rfl) (by kernel_rfl) (fun _ _ _ h => h) (Or.inl ⟨by rfl, ?_⟩) (by assumption) ?_
    · intro w0 hSw; (try dsimp only at hSw); first | (go_simp; done) | (go_simp; with_reducible rfl) | (go_simp; omega)
    simp only [List.setIfInBounds_toArray, List.set_cons_zero, List.set_cons_succ]
    refine take_at (i := 7) (v := ?_) rfl rfl (by kernel_rfl) (by kernel_rfl) (by kernel_rfl) (fun _ _ _ h => h) (Or.inl ⟨by rfl, ?_⟩) (by assumption) ?_
    rotate_left
    · intro w0 hSw; (try dsimp only at hSw); first | (go_simp; done) | (go_simp; with_reducible rfl)
    simp only [List.setIfInBounds_toArray, List.set_cons_zero, List.set_cons_succ]
    refine take_at (i := 8) (v := ?_) rfl rfl (by kernel_rfl) (by kernel_rfl) (by kernel_rfl) (fun _ _ _ h => h) (Or.inl ⟨by rfl, ?_⟩) (by assumption) ?_
    rotate_left
    · intro w0 hSw; (try dsimp only at hSw); first | (go_simp; done) | (go_simp; with_reducible rfl)
    simp only [List.setIfInBounds_toArray, List.set_cons_zero, List.set_cons_succ]
    refine take_at (i := 9) (v := ?_) rfl rfl (by kernel_rfl) (by kernel_rfl) (by kernel_rfl) (fun _ _ _ h => h) (Or.inl ⟨by rfl, ?_⟩) (by assumption) ?_
    rotate_left
    · intro w0 hSw; (try dsimp only at hSw); first | (go_simp; done) | (go_simp; with_reducible rfl)
    simp only [List.setIfInBounds_toArray, List.set_cons_zero, List.set_cons_succ]
    refine take_at (i := 10) rfl rfl (by kernel_rfl) (by kernel_rfl) (by kernel_rfl) (fun _ _ _ h => h) (yields_cell (by rfl) rfl rfl (b := p3) (o := 1) (fun w0 hSw => job_state (x := (PJob.mk ch st XH a3 N c3 C)) (g := p3) (o := 0) (range_of (keep hSw HP6.out))) Tryd.isAgg3) (by assumption) ?_
    simp only [List.setIfInBounds_toArray, List.set_cons_zero, List.set_cons_succ]
    refine take_at (i := 11) (v := ?_) rfl rfl (by kernel_rfl) (by kernel_rfl) (by kernel_rfl) (fun _ _ _ h => h) (Or.inl ⟨by rfl, ?_⟩) (by assumption) ?_
    rotate_left
    · intro w0 hSw; (try dsimp only at hSw); first | (go_simp; done) | (go_simp; with_reducible rfl)
    simp only [List.setIfInBounds_toArray, List.set_cons_zero, List.set_cons_succ]
    refine take_at (i := 12) (v := .bool true) rfl rfl (by kernel_rfl) (by kernel_rfl) (by kernel_rfl) (fun _ _ _ h => h) (Or.inl ⟨by rfl, ?_⟩) (by assumption) ?_
    · intro w0 hSw; (try dsimp only at hSw); first | (go_simp; done) | (go_simp; with_reducible rfl) | (go_simp; omega)
    simp only [List.setIfInBounds_toArray, List.set_cons_zero, List.set_cons_succ]
    refine take_at (i := 13) (v := ?_) rfl rfl (by kernel_rfl) (by kernel_rfl) (by kernel_rfl) (fun _ _ _ h => h) (Or.inl ⟨by rfl, ?_⟩) (by assumption) ?_
    rotate_left
    · intro w0 hSw; (try dsimp only at hSw); first | (go_simp; done) | (go_simp; with_reducible rfl)
    simp only [List.setIfInBounds_toArray, List.set_cons_zero, List.set_cons_succ]
    refine take_at (i := 14) (v := ?_) rfl rfl (by kernel_rfl) (by kernel_rfl) (by kernel_rfl) (fun _ _ _ h => h) (Or.inl ⟨by rfl, ?_⟩) (by assumption) ?_
    rotate_left
    · intro w0 hSw; (try dsimp only at hSw); first | (go_simp; done) | (go_simp; with_reducible rfl)
    simp only [List.setIfInBounds_toArray, List.set_cons_zero, List.set_cons_succ]
    refine take_at (i := 15) (v := ?_) rfl rfl (by kernel_rfl) (by kernel_rfl) (by kernel_rfl) (fun _ _ _ h => h) (Or.inl ⟨by rfl, ?_⟩) (by assumption) ?_
    rotate_left
    · intro w0 hSw; (try dsimp only at hSw); first | (go_simp; done) | (go_simp; with_reducible rfl)
    simp only [List.setIfInBounds_toArray, List.set_cons_zero, List.set_cons_succ]
    refine take_at (i := 16) rfl rfl (by kernel_rfl) (by kernel_rfl) (by kernel_rfl) (fun _ _ _ h => h) (yieldsIf_load_mid (by rfl) _ _ rfl p3 2 rfl (cellsOf XH) _ (fun w0 hSw => job_hint (x := (PJob.mk ch st XH a3 N c3 C)) (g := p3) (o := 0) (range_of (keep hSw HP6.out))) Tryd.underlying23 rfl SZH.out) (by assumption) ?_
    simp only [List.setIfInBounds_toArray, List.set_cons_zero, List.set_cons_succ]
    refine take_at (i := 17) (v := ?_) rfl rfl (by kernel_rfl) (by kernel_rfl) (by kernel_rfl) (fun _ _ _ h => h) (Or.inl ⟨by rfl, ?_⟩) (by assumption) ?_
    rotate_left
    · intro w0 hSw; (try dsimp only at hSw); first | (go_simp; done) | (go_simp; with_reducible rfl)
    simp only [List.setIfInBounds_toArray, List.set_cons_zero, List.set_cons_succ]
    refine take_at (i := 18) rfl rfl (by kernel_rfl) (by kernel_rfl) (by kernel_rfl) (fun _ _ _ h => h) (yieldsIf_load_mid (by rfl) _ _ rfl v 3 rfl (cellsOf XH) _ (fun w0 hSw => rec_hint (x := (PRec.mk y.tower ch st XH XM)) (g := v) (o := 0) (range_nil (range_of (keep hSw HV6.out)))) Tryd.underlying23 rfl SZH.out) (by assumption) ?_
    simp only [List.setIfInBounds_toArray, List.set_cons_zero, List.set_cons_succ]
    refine take_at (i := 19) rfl rfl (by kernel_rfl) (by kernel_rfl) (by kernel_rfl) (fun _ _ _ h => h) (yields_eql (by rfl) rfl rfl rfl HXHL.out HXHL.out true (by simp)) (by assumption) ?_
    simp only [List.setIfInBounds_toArray, List.set_cons_zero, List.set_cons_succ]
    refine take_at (i := 20) (v := ?_) rfl rfl (by kernel_rfl) (by kernel_rfl) (by kernel_rfl) (fun _ _ _ h => h) (Or.inl ⟨by rfl, ?_⟩) (by assumption) ?_
    rotate_left
    · intro w0 hSw; (try dsimp only at hSw); first | (go_simp; done) | (go_simp; with_reducible rfl)
    simp only [List.setIfInBounds_toArray, List.set_cons_zero, List.set_cons_succ]
    refine take_at (i := 21) (v := ?_) rfl rfl (by kernel_rfl) (by kernel_rfl) (by kernel_rfl) (fun _ _ _ h => h) (Or.inl ⟨by rfl, ?_⟩) (by assumption) ?_
    rotate_left
    · intro w0 hSw; (try dsimp only at hSw); first | (go_simp; done) | (go_simp; with_reducible rfl)
    simp only [List.setIfInBounds_toArray, List.set_cons_zero, List.set_cons_succ]
    refine take_at (i := 22) (v := ?_) rfl rfl (by kernel_rfl) (by kernel_rfl) (by kernel_rfl) (fun _ _ _ h => h) (Or.inl ⟨by rfl, ?_⟩) (by assumption) ?_
    rotate_left
    · intro w0 hSw; (try dsimp only at hSw); first | (go_simp; done) | (go_simp; with_reducible rfl)
    simp only [List.setIfInBounds_toArray, List.set_cons_zero, List.set_cons_succ]
    refine take_at (i := 23) rfl rfl (by kernel_rfl) (by kernel_rfl) (by kernel_rfl) (fun _ _ _ h => h) (yields_cell (by rfl) rfl rfl (b := p3) (o := 34) (fun w0 hSw => job_blob (x := (PJob.mk ch st XH a3 N c3 C)) (g := p3) (o := 0) HXHL.out (range_of (keep hSw HP6.out))) Tryd.isAgg26) (by assumption) ?_
    simp only [List.setIfInBounds_toArray, List.set_cons_zero, List.set_cons_succ]
    refine take_at (i := 24) rfl rfl (by kernel_rfl) (by kernel_rfl) (by kernel_rfl) (fun _ _ _ h => h) (yields_conv (by rfl) rfl rfl HBC.out (fun w0 hSw => HJ6.out.blob.below hSw)) (by assumption) ?_
    simp only [List.setIfInBounds_toArray, List.set_cons_zero, List.set_cons_succ]
    refine take_at (i := 25) (v := ?_) rfl rfl (by kernel_rfl) (by kernel_rfl) (by kernel_rfl) (fun _ _ _ h => h) (Or.inl ⟨by rfl, ?_⟩) (by assumption) ?_
    rotate_left
    · intro w0 hSw; (try dsimp only at hSw); first | (go_simp; done) | (go_simp; with_reducible rfl)
    simp only [List.setIfInBounds_toArray, List.set_cons_zero, List.set_cons_succ]
    refine take_at (i := 26) rfl rfl (by kernel_rfl) (by kernel_rfl) (by kernel_rfl) (fun _ _ _ h => h) (yields_conv (by rfl) rfl rfl HBC.out (fun w0 hSw => HR6.out.below hSw)) (by assumption) ?_
    simp only [List.setIfInBounds_toArray, List.set_cons_zero, List.set_cons_succ]
    refine take_at (i := 27) (v := .bool true) rfl rfl (by kernel_rfl) (by kernel_rfl) (by kernel_rfl) (fun _ _ _ h => h) (Or.inl ⟨by rfl, ?_⟩) (by assumption) ?_
    · intro w0 hSw; (try dsimp only at hSw); first | (go_simp; done) | (go_simp; with_reducible rfl) | (go_simp; omega)
    simp only [List.setIfInBounds_toArray, List.set_cons_zero, List.set_cons_succ]
    refine take_at (i := 28) (v := ?_) rfl rfl (by kernel_rfl) (by kernel_rfl) (by kernel_rfl) (fun _ _ _ h => h) (Or.inl ⟨by rfl, ?_⟩) (by assumption) ?_
    rotate_left
    · intro w0 hSw; (try dsimp only at hSw); first | (go_simp; done) | (go_simp; with_reducible rfl)
    simp only [List.setIfInBounds_toArray, List.set_cons_zero, List.set_cons_succ]
    refine take_at (i := 29) (v := ?_) rfl rfl (by kernel_rfl) (by kernel_rfl) (by kernel_rfl) (fun _ _ _ h => h) (Or.inl ⟨by rfl, ?_⟩) (by assumption) ?_
    rotate_left
    · intro w0 hSw; (try dsimp only at hSw); first | (go_simp; done) | (go_simp; with_reducible rfl)
    simp only [List.setIfInBounds_toArray, List.set_cons_zero, List.set_cons_succ]
    refine take_at (i := 30) rfl rfl (by kernel_rfl) (by kernel_rfl) (by kernel_rfl) (fun _ _ _ h => h) (yieldsIf_load_mid (by rfl) _ _ rfl p3 0 rfl (PJob.mk ch st XH a3 N c3 C).cells _ (fun w0 hSw => range_of (keep hSw HP6.out)) Tryd.underlying51 rfl SZJ.out) (by assumption) ?_
    simp only [List.setIfInBounds_toArray, List.set_cons_zero, List.set_cons_succ]
    refine take_at (i := 31) (v := ?_) rfl rfl (by kernel_rfl) (by kernel_rfl) (by kernel_rfl) (fun _ _ _ h => h) (Or.inl ⟨by rfl, ?_⟩) (by assumption) ?_
    rotate_left
    · intro w0 hSw; (try dsimp only at hSw); first | (go_simp; done) | (go_simp; with_reducible rfl)
    simp only [List.setIfInBounds_toArray, List.set_cons_zero, List.set_cons_succ]
    refine take_at (i := 32) rfl rfl (by kernel_rfl) (by kernel_rfl) (by kernel_rfl) (fun _ _ _ h => h) (yields_cell (by rfl) rfl rfl (b := g2) (o := 0) (fun w0 hSw => rec_tower (range_nil (range_of (keep hSw HY6.out)))) Tryd.isAgg3) (by assumption) ?_
    simp only [List.setIfInBounds_toArray, List.set_cons_zero, List.set_cons_succ]
    refine take_at (i := 34) rfl rfl (by kernel_rfl) (by kernel_rfl) (by kernel_rfl) (fun _ _ _ h => h) (yieldsIf_load_mid (by rfl) _ _ rfl v 0 rfl (PRec.mk y.tower ch st XH XM).cells _ (fun w0 hSw => range_of (keep hSw HV6.out)) Tryd.underlying49 rfl SZR.out) (by assumption) ?_
    simp only [List.setIfInBounds_toArray, List.set_cons_zero, List.set_cons_succ]
    refine wpAnyH_ready (rs := [33]) (by kernel_rfl) (by simp) ?_
    refine AllReadyH.cons rfl (fun K hK => ?_) ?_
    · go_simp
      go_wp2_with ((go_at_call 20; (with_reducible refine (HRC.out _ _ _ (bthen HB6.out hHeld) (HJ6.out.below hHeld)).mono ?_); rintro e y21 ⟨rfl, hb⟩; have HX := Lib.hid (bthen hHeld hb); clear hb))
      refine hK.out _ _ (by (try dsimp only); exact HX.out) (fun hHeld => ?_)
      clear hK K
      refine take_at (i := 35) rfl rfl (by kernel_rfl) (by kernel_rfl) (by kernel_rfl) (fun _ _ _ h => h) (yields_eqrecB (by rfl) rfl rfl rfl HRI.out HRI.out (recEq_same _)) (by assumption) ?_
      simp only [List.setIfInBounds_toArray, List.set_cons_zero, List.set_cons_succ]
      refine take_at (i := 36) (v := ?_) rfl rfl (by kernel_rfl) (by kernel_rfl) (by kernel_rfl) (fun _ _ _ h => h) (Or.inl ⟨by rfl, ?_⟩) (by assumption) ?_
      rotate_left
      · intro w0 hSw; (try dsimp only at hSw); first | (go_simp; done) | (go_simp; with_reducible rfl)
      simp only [List.setIfInBounds_toArray, List.set_cons_zero, List.set_cons_succ]
      refine take_at (i := 37) (v := ?_) rfl rfl (by kernel_rfl) (by kernel_rfl) (by kernel_rfl) (fun _ _ _ h => h) (Or.inl ⟨by rfl, ?_⟩) (by assumption) ?_
      rotate_left
      · intro w0 hSw; (try dsimp only at hSw); first | (go_simp; done) | (go_simp; with_reducible rfl)
      simp only [List.setIfInBounds_toArray, List.set_cons_zero, List.set_cons_succ]
      refine take_at (i := 38) rfl rfl (by kernel_rfl) (by kernel_rfl) (by kernel_rfl) (fun _ _ _ h => h) (yieldsIf_load_mid (by rfl) _ _ rfl p3 0 rfl (PJob.mk ch st XH a3 N c3 C).cells _ (fun w0 hSw => range_of (keep hSw HP6.out)) Tryd.underlying51 rfl SZJ.out) (by assumption) ?_
      simp only [List.setIfInBounds_toArray, List.set_cons_zero, List.set_cons_succ]
      refine take_at (i := 39) rfl rfl (by kernel_rfl) (by kernel_rfl) (by kernel_rfl) (fun _ _ _ h => h) (yieldsIf_load_mid (by rfl) _ _ rfl v 0 rfl (PRec.mk y.tower ch st XH XM).cells _ (fun w0 hSw => range_of (keep hSw HV6.out)) Tryd.underlying49 rfl SZR.out) (by assumption) ?_
      simp only [List.setIfInBounds_toArray, List.set_cons_zero, List.set_cons_succ]
      refine wpAnyH_ready (rs := [40]) (by kernel_rfl) (by simp) ?_
      refine AllReadyH.cons rfl (fun K hK => ?_) ?_
      · go_simp
        go_wp2_with ((go_at_call 21; (with_reducible refine (HF1.out _ _ _ (bthen HB6.out hHeld) (HJ6.out.below hHeld)).mono ?_); rintro e y22 ⟨rfl, hb⟩; have HX := Lib.hid (bthen hHeld hb); clear hb))
        refine hK.out _ _ (by (try dsimp only); exact HX.out) (fun hHeld => ?_)
        clear hK K
        refine take_at (i := 41) (v := ?_) rfl rfl (by kernel_rfl) (by kernel_rfl) (by kernel_rfl) (fun _ _ _ h => h) (Or.inl ⟨by rfl, ?_⟩) (by assumption) ?_
        rotate_left
        · intro w0 hSw; (try dsimp only at hSw); first | (go_simp; done) | (go_simp; with_reducible rfl)
        simp only [List.setIfInBounds_toArray, List.set_cons_zero, List.set_cons_succ]
        refine take_at (i := 42) (v := ?_) rfl rfl (by kernel_rfl) (by kernel_rfl) (by kernel_rfl) (fun _ _ _ h => h) (Or.inl ⟨by rfl, ?_⟩) (by assumption) ?_
        rotate_left
        · intro w0 hSw; (try dsimp only at hSw); first | (go_simp; done) | (go_simp; with_reducible rfl)
        simp only [List.setIfInBounds_toArray, List.set_cons_zero, List.set_cons_succ]
        refine take_at (i := 43) rfl rfl (by kernel_rfl) (by kernel_rfl) (by kernel_rfl) (fun _ _ _ h => h) (yieldsIf_load_mid (by rfl) _ _ rfl p3 0 rfl (PJob.mk ch st XH a3 N c3 C).cells _ (fun w0 hSw => range_of (keep hSw HP6.out)) Tryd.underlying51 rfl SZJ.out) (by assumption) ?_
        simp only [List.setIfInBounds_toArray, List.set_cons_zero, List.set_cons_succ]
        refine take_at (i := 44) rfl rfl (by kernel_rfl) (by kernel_rfl) (by kernel_rfl) (fun _ _ _ h => h) (yieldsIf_load_mid (by rfl) _ _ rfl g2 0 rfl y.cells _ (fun w0 hSw => range_of (keep hSw HY6.out)) Tryd.underlying49 rfl SZY.out) (by assumption) ?_
        simp only [List.setIfInBounds_toArray, List.set_cons_zero, List.set_cons_succ]
        refine take_at (i := 46) rfl rfl (by kernel_rfl) (by kernel_rfl) (by kernel_rfl) (fun _ _ _ h => h) (yieldsIf_load_mid (by rfl) _ _ rfl g2 0 rfl y.cells _ (fun w0 hSw => range_of (keep hSw HY6.out)) Tryd.underlying49 rfl SZY.out) (by assumption) ?_
        simp only [List.setIfInBounds_toArray, List.set_cons_zero, List.set_cons_succ]
        refine take_at (i := 47) rfl rfl (by kernel_rfl) (by kernel_rfl) (by kernel_rfl) (fun _ _ _ h => h) (yieldsIf_load_mid (by rfl) _ _ rfl v 0 rfl (PRec.mk y.tower ch st XH XM).cells _ (fun w0 hSw => range_of (keep hSw HV6.out)) Tryd.underlying49 rfl SZR.out) (by assumption) ?_
        simp only [List.setIfInBounds_toArray, List.set_cons_zero, List.set_cons_succ]
        refine take_at (i := 48) rfl rfl (by kernel_rfl) (by kernel_rfl) (by kernel_rfl) (fun _ _ _ h => h) (yields_eqrecB (by rfl) rfl rfl rfl HY.out HRI.out HQ.out) (by assumption) ?_
        simp only [List.setIfInBounds_toArray, List.set_cons_zero, List.set_cons_succ]
        refine wpAnyH_ready (rs := [45]) (by kernel_rfl) (by simp) ?_
        refine AllReadyH.cons rfl (fun K hK => ?_) ?_
        · go_simp
          go_wp2_with ((go_at_call 21; (with_reducible refine (HF2.out _ _ _ (bthen HB6.out hHeld) (HJ6.out.below hHeld)).mono ?_); rintro e y23 ⟨rfl, hb⟩; have HX := Lib.hid (bthen hHeld hb); clear hb))
          refine hK.out _ _ (by (try dsimp only); exact HX.out) (fun hHeld => ?_)
          clear hK K
          refine take_at (i := 49) (v := .bool true) rfl rfl (by kernel_rfl) (by kernel_rfl) (by kernel_rfl) (fun _ _ _ h => h) (Or.inl ⟨by rfl, ?_⟩) (by assumption) ?_
          · intro w0 hSw; (try dsimp only at hSw); first | (go_simp; done) | (go_simp; with_reducible rfl) | (go_simp; omega)
          simp only [List.setIfInBounds_toArray, List.set_cons_zero, List.set_cons_succ]
          refine take_at (i := 50) (v := ?_) rfl rfl (by kernel_rfl) (by kernel_rfl) (by kernel_rfl) (fun _ _ _ h => h) (Or.inl ⟨by rfl, ?_⟩) (by assumption) ?_
          rotate_left
          · intro w0 hSw; (try dsimp only at hSw); first | (go_simp; done) | (go_simp; with_reducible rfl)
          simp only [List.setIfInBounds_toArray, List.set_cons_zero, List.set_cons_succ]
          refine take_at (i := 51) (v := ?_) rfl rfl (by kernel_rfl) (by kernel_rfl) (by kernel_rfl) (fun _ _ _ h => h) (Or.inl ⟨by rfl, ?_⟩) (by assumption) ?_
          rotate_left
          · intro w0 hSw; (try dsimp only at hSw); first | (go_simp; done) | (go_simp; with_reducible rfl)
          simp only [List.setIfInBounds_toArray, List.set_cons_zero, List.set_cons_succ]
          refine wpAnyH_ready (rs := [52]) (by kernel_rfl) (by simp) ?_
          refine AllReadyH.cons rfl (fun K hK => ?_) ?_
          · go_simp
            go_wp2_with ((go_at_call 8; (with_reducible refine (HAW.out _ (bthen HB6.out hHeld)).mono ?_); rintro e y24 ⟨rfl, hb⟩; have HX := Lib.hid (bthen hHeld hb); clear hb))
            refine hK.out _ _ (by (try dsimp only); exact HX.out) (fun hHeld => ?_)
            clear hK K
            refine take_at (i := 53) (v := ?_) rfl rfl (by kernel_rfl) (by kernel_rfl) (by kernel_rfl) (fun _ _ _ h => h) (Or.inl ⟨by rfl, ?_⟩) (by assumption) ?_
            rotate_left
            · intro w0 hSw; (try dsimp only at hSw); first | (go_simp; done) | (go_simp; with_reducible rfl)
            simp only [List.setIfInBounds_toArray, List.set_cons_zero, List.set_cons_succ]
            refine take_at (i := 54) (v := ?_) rfl rfl (by kernel_rfl) (by kernel_rfl) (by kernel_rfl) (fun _ _ _ h => h) (Or.inl ⟨by rfl, ?_⟩) (by assumption) ?_
            rotate_left
            · intro w0 hSw; (try dsimp only at hSw); first | (go_simp; done) | (go_simp; with_reducible rfl)
            simp only [List.setIfInBounds_toArray, List.set_cons_zero, List.set_cons_succ]
            refine wpAnyH_done (by kernel_rfl) ?_ _
            have HST := Lib.hid hHeld
            clear hHeld
            go_wp2_with fail
            go_ret
            exact ⟨rfl, bthen HB6.out HST.out⟩
          exact AllReadyH.nil
        exact AllReadyH.nil
      exact AllReadyH.nil
    exact AllReadyH.nil
end Go.Proofs.YtnepcjnnlfhplaaDoor
