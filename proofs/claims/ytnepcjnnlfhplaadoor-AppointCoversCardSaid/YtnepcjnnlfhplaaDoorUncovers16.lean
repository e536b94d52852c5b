/- AppointUncovers, walked. -/
import Derived.Test.YtnepcjnnlfhplaaDoorAppCover
import Derived.Deep.CutRange
namespace Go.Proofs.YtnepcjnnlfhplaaDoor
open Go.RowKit

set_option linter.unusedSimpArgs false in
set_option maxRecDepth 100000 in
set_option maxHeartbeats 6400000 in
theorem uncovers16_walk {w : World} {s l : List UInt8} {a : Option Addr} {n c : Nat} (hs : s.length = 32) (h : Row w a n c l) (hk : KsAt w)
    (haw : ∀ W : World, Below w.heap.size w W → Calls Tryd.prog 8 #[] W fun e w' => e = .returned (.bool true) ∧ Below W.heap.size W w') :
    Calls Tryd.prog 4 #[.agg (cellsOf s).toArray, .slice a n c] w fun e w' => e = .returned (.bool true) ∧ Below w.heap.size w w' := by
  obtain ⟨K, hK⟩ : ∃ K, appKey s = K := ⟨_, rfl⟩
  have hKl : K.length = 32 := by rw [← hK]; exact appKey_len s
  have hlen : (partsOf 72 [s]).length ≤ 1125899906842624 := by
    unfold partsOf partOf
    simp only [List.flatMap_cons, List.flatMap_nil, List.length_cons, List.length_append, four_len, List.length_nil]
    omega
  have HJ : Hid (∀ (W : World) (gg : Nat) (a : Option Addr) (n c : Nat), KsAt W → W.heap[gg]? = some (.cells #[.slice a n c] 26 (0, 0)) → Row W a n c s → Calls Tryd.prog 12 #[.int .u8 72, .slice (some ⟨gg, 0, none⟩) 1 1] W fun e w' => e = .returned (.agg (cellsOf K).toArray) ∧ Below W.heap.size W w') := Lib.hid fun W gg a n c hW hg hr => by
    have h9 := join_any 72 72 rfl (rows2_one hg hr) hW hlen
    rw [show sumOf (partsOf 72 [s]) = K from hK] at h9
    exact h9
  have HUN : Hid (∀ (W : World) (k : Nat) (q : List UInt8), Below w.heap.size w W → Row W a k c q → k ≤ 1000 → Calls Tryd.prog 13 #[.agg (cellsOf s).toArray, .slice a k c] W (UncIs W K q k)) := Lib.hid fun W k q hW hr hn => by
    rw [← hK]
    exact uncover_any hs hr (by omega) (hk.below hW)
  have hnc := h.2.1
  have hc63 : (c : Int) ≤ 9223372036854775807 := by have h2 := h.2.2.1; unfold maxLen at h2; omega
  have HKL := Lib.hid hKl
  have SZS := Lib.hid (size_of hs)
  have HS := Lib.hid hs
  have HK := Lib.hid hk
  have HAW := Lib.hid haw
  have H := Lib.hid h
  clear hs h hk haw hK hKl hlen
  go_enter Tryd.func4, Tryd.ntmps4
  go_upto_region 1 with (fail)
  have b1 : Below w.heap.size w (w.alloc (.cells (cellsOf s).toArray 23)) := (Below.refl _ _).alloc (Nat.le_refl _) _
  have h1 := heap_alloc_new w (.cells (cellsOf s).toArray 23)
  revert b1 h1
  generalize (w.alloc (.cells (cellsOf s).toArray 23)) = w1
  obtain ⟨g, hg⟩ : ∃ g, g = w.heap.size := ⟨_, rfl⟩
  rw [← hg]
  intro b1 h1
  rw [hg] at b1
  have HB1 := Lib.hid b1
  have H1 := Lib.hid h1
  have HR := Lib.hid (H.out.below b1)
  clear h1 b1 hg H
  go_upto_if 13 with (fail)
  go_cut [1] from 11 to 73 (fun u w' => ∃ k q, u = .slice a k c ∧ k ≤ 1000 ∧ Row w1 a k c q ∧ w1 = w')
  case first =>
    by_cases hn : n ≤ 1000
    · have f1 : ¬ 1000 < (n : Int) := by omega
      go_wp2_with fail
      go_meet
      exact ⟨n, l, rfl, hn, HR.out, rfl⟩
    · have f1 : 1000 < (n : Int) := by omega
      have f2 : 1000 ≤ c := by omega
      have f3 : (1000 : Int) ≤ (c : Int) := by omega
      go_wp2_with fail
      go_meet
      exact ⟨1000, l.take 1000, rfl, Nat.le_refl _, HR.out.take (by omega), rfl⟩
  case rest =>
    obtain ⟨k, q, rfl, hk1, hq, rfl⟩ := hcut
    have HQ := Lib.hid hq
    have HU0 := Lib.hid (HUN.out w1 k q HB1.out hq hk1)
    clear hq HUN HR
    by_cases h16 : k < 16
    · have HU : Hid (Calls Tryd.prog 13 #[.agg (cellsOf s).toArray, .slice a k c] w1 fun e w' => e = .returned (.tuple #[.agg noTx.cells.toArray, .int .i64 2]) ∧ Below w1.heap.size w1 w') := Lib.hid (HU0.out.mono fun e w' h => by rcases h.2 with ⟨_, h2⟩ | ⟨h2, _⟩ | ⟨h2, _⟩; exact ⟨h2, h.1⟩; omega; omega)
      clear HU0
      go_upto_region 4 with (first | (refine wpList_load_row rfl 23 _ rfl g rfl 23 (cellsOf s).toArray (0, 0) _ H1.out Tryd.underlying23 rfl SZS.out ?_) | (go_at_call 13; (with_reducible refine (HU.out).mono ?_); rintro e w2 ⟨rfl, hb⟩; have HB2 := Lib.hid (bthen HB1.out hb); have H12 := Lib.hid (keep hb H1.out); have HQ2 := Lib.hid (HQ.out.below hb); clear hb) | (refine wpList_var rfl rfl 31 rfl _ _ rfl noTx.cells.toArray Tryd.zeroTx14 rfl noTx.cells (fun _ => rfl) (fun _ => rfl) rfl (PTx.one _) ?_; intro v w3 hq hh hb; go_frame; have HB3 := Lib.hid (bthen HB2.out hb); have H13 := Lib.hid (keep hb H12.out); have HQ3 := Lib.hid (HQ2.out.below hb); have HV3 := Lib.hid hh; have HS3 := Lib.hid hb; clear hq hh hb) | fail)
      go_wp2_with fail
      have b4 : Below w3.heap.size w3 (w3.alloc (.cells #[.slice (some ⟨g, 0, none⟩) 32 32] 26)) := (Below.refl _ _).alloc (Nat.le_refl _) _
      have r1 : Row (w3.alloc (.cells #[.slice (some ⟨g, 0, none⟩) 32 32] 26)) (some ⟨g, 0, none⟩) 32 32 s := (row_all H13.out 32 HS.out.symm (by omega)).below b4
      refine (HJ.out _ _ _ _ _ ((HK.out.below HB3.out).below b4) (heap_alloc_new _ _) r1).mono ?_
      rintro e w5 ⟨rfl, hb5⟩
      have HS5 := Lib.hid (b4.trans (hb5.mono b4.size))
      have HB5 := Lib.hid (bthen HB3.out HS5.out)
      have HV5 := Lib.hid (keep HS5.out HV3.out)
      have HQ5 := Lib.hid (HQ3.out.below HS5.out)
      clear b4 r1 hb5
      have HOP := Lib.hid (open_short (w := w5) (a := a) (s := K) (c := c) h16)
      go_upto_region 6 with (first | (go_at_call 17; (with_reducible refine (HOP.out).mono ?_); rintro e w6 ⟨rfl, hb⟩; have HB6 := Lib.hid (bthen HB5.out hb); have HV6 := Lib.hid (keep hb HV5.out); have HS6 := Lib.hid hb; clear hb) | fail)
      have c0 : w6.cell? ⟨v, 0, none⟩ = some (.slice none 0 0) := tx_ins (x := noTx) (range_of HV6.out)
      go_wp2_with (first | (go_at_call 8; (with_reducible refine (HAW.out _ HB6.out).mono ?_); rintro e w9 ⟨rfl, hb⟩; have HB9 := Lib.hid (bthen HB6.out hb); clear hb) | fail)
      go_ret
      exact ⟨rfl, HB9.out⟩
    · have h16b : 16 ≤ k := by omega
      by_cases hm : markB K (coverB K (q.drop 16)) = q.take 16
      · have HU : Hid (Calls Tryd.prog 13 #[.agg (cellsOf s).toArray, .slice a k c] w1 fun e w' => ∃ (x : PTx) (E : Int), e = .returned (.tuple #[.agg x.cells.toArray, .int .i64 E]) ∧ TxIn w' x ∧ (E = 0 → txOk x = true ∧ txB x = coverB K (q.drop 16)) ∧ (E ≠ 0 → x = noTx) ∧ E = txE (coverB K (q.drop 16)) ∧ Below w1.heap.size w1 w') := Lib.hid (HU0.out.mono fun e w' h => by rcases h.2 with ⟨h2, _⟩ | ⟨_, h2, _⟩ | ⟨_, _, x, E, h3, h4, h5, h6, h7⟩; omega; exact absurd hm h2; exact ⟨x, E, h3, h4, h5, fun h0 => (h6 h0).1, h7, h.1⟩)
        clear HU0
        go_upto_region 4 with (first | (refine wpList_load_row rfl 23 _ rfl g rfl 23 (cellsOf s).toArray (0, 0) _ H1.out Tryd.underlying23 rfl SZS.out ?_) | (go_at_call 13; (with_reducible refine (HU.out).mono ?_); rintro e w2 ⟨x, E, rfl, hx, q1, q2, q3, hb⟩; have HB2 := Lib.hid (bthen HB1.out hb); have H12 := Lib.hid (keep hb H1.out); have HQ2 := Lib.hid (HQ.out.below hb); have HX2 := Lib.hid hx; have Q1 := Lib.hid q1; have Q2 := Lib.hid q2; have Q3 := Lib.hid q3; have ZX := Lib.hid (PTx.len hx.op.root); have SZX := Lib.hid (tx_size hx.op.root); clear hx q1 q2 q3; clear hb) | (refine wpList_var rfl rfl 31 rfl _ _ rfl noTx.cells.toArray Tryd.zeroTx14 rfl x.cells (fun _ => rfl) (fun _ => rfl) ZX.out (PTx.one _) ?_; intro v w3 hq hh hb; go_frame; have HB3 := Lib.hid (bthen HB2.out hb); have H13 := Lib.hid (keep hb H12.out); have HQ3 := Lib.hid (HQ2.out.below hb); have HV3 := Lib.hid hh; have HS3 := Lib.hid hb; clear hq hh hb) | fail)
        go_wp2_with fail
        have b4 : Below w3.heap.size w3 (w3.alloc (.cells #[.slice (some ⟨g, 0, none⟩) 32 32] 26)) := (Below.refl _ _).alloc (Nat.le_refl _) _
        have r1 : Row (w3.alloc (.cells #[.slice (some ⟨g, 0, none⟩) 32 32] 26)) (some ⟨g, 0, none⟩) 32 32 s := (row_all H13.out 32 HS.out.symm (by omega)).below b4
        refine (HJ.out _ _ _ _ _ ((HK.out.below HB3.out).below b4) (heap_alloc_new _ _) r1).mono ?_
        rintro e w5 ⟨rfl, hb5⟩
        have HS5 := Lib.hid (b4.trans (hb5.mono b4.size))
        have HB5 := Lib.hid (bthen HB3.out HS5.out)
        have HV5 := Lib.hid (keep HS5.out HV3.out)
        have HQ5 := Lib.hid (HQ3.out.below HS5.out)
        clear b4 r1 hb5
        have HX5 := Lib.hid ((HX2.out.below HS3.out).below HS5.out)
        have HOP : Hid (Calls Tryd.prog 17 #[.agg (cellsOf K).toArray, .slice a k c] w5 fun e w' => ∃ a2 c2, e = .returned (.tuple #[.slice a2 (k - 16) c2, .int .i64 0]) ∧ Row w' a2 (k - 16) c2 (coverB K (q.drop 16)) ∧ Below w5.heap.size w5 w') := Lib.hid ((open_any HKL.out HQ5.out h16b (by omega) (HK.out.below HB5.out)).mono fun e w9 h5 => by rcases h5.2 with ⟨_, a2, c2, h6, h7⟩ | ⟨h6, _⟩; exact ⟨a2, c2, h6, h7, h5.1⟩; exact absurd hm h6)
        obtain ⟨T, hT⟩ : ∃ T, coverB K (q.drop 16) = T := ⟨_, rfl⟩
        rw [hT] at HOP Q1 Q3
        clear hT
        go_upto_region 7 with (first | (go_at_call 17; (with_reducible refine (HOP.out).mono ?_); rintro e w6 ⟨a2, c2, rfl, hrow, hb⟩; have HB6 := Lib.hid (bthen HB5.out hb); have HV6 := Lib.hid (keep hb HV5.out); have HS6 := Lib.hid hb; have HX6 := Lib.hid (HX5.out.below hb); have HRD := Lib.hid (txReadE_any hrow (by omega)); clear hrow; clear hb) | fail)
        go_upto_region 8 with (first | (go_at_call 18; (with_reducible refine (HRD.out).mono ?_); rintro e w7 ⟨y, G, rfl, hy, hb, p1, p2, p3, p4⟩; have HB7 := Lib.hid (bthen HB6.out hb); have HV7 := Lib.hid (keep hb HV6.out); have HX7 := Lib.hid (HX6.out.below hb); have HY7 := Lib.hid hy; have P1 := Lib.hid p1; have P3 := Lib.hid p3; have ZY := Lib.hid (PTx.len hy.op.root); have SZY := Lib.hid (tx_size hy.op.root); clear hy hb p1 p2 p3 p4) | (refine wpList_var rfl rfl 31 rfl _ _ rfl noTx.cells.toArray Tryd.zeroTx14 rfl y.cells (fun _ => rfl) (fun _ => rfl) ZY.out (PTx.one _) ?_; intro v2 w8 hq hh hb; go_frame; have HB8 := Lib.hid (bthen HB7.out hb); have HV8 := Lib.hid (keep hb HV7.out); have HV28 := Lib.hid hh; have HX8 := Lib.hid (HX7.out.below hb); have HY8 := Lib.hid (HY7.out.below hb); clear hq hh hb) | fail)
        obtain rfl : G = E := P3.out.trans Q3.out.symm
        by_cases hE : G = 0
        · subst hE
          have SAME : Hid ((txOk x && (txOk y && decide (txB x = txB y))) = true) := Lib.hid (by rw [(Q1.out rfl).1, (P1.out rfl).1, (Q1.out rfl).2, (P1.out rfl).2]; simp)
          have HSM : Hid (Calls Tryd.prog 14 #[.agg x.cells.toArray, .agg y.cells.toArray] w8 fun e w' => e = .returned (.bool true) ∧ Below w8.heap.size w8 w') := Lib.hid (by have h9 := txSame_any HX8.out HY8.out; rw [SAME.out] at h9; exact h9)
          have RX8 := Lib.hid (range_of HV8.out)
          have RY8 := Lib.hid (range_of HV28.out)
          go_wp2_with (first | (refine wpList_mid_wanted (by rfl) 31 _ rfl v 0 rfl x.cells _ RX8.out Tryd.underlying31 rfl SZX.out ?_) | (refine wpList_mid_wanted (by rfl) 31 _ rfl v2 0 rfl y.cells _ RY8.out Tryd.underlying31 rfl SZY.out ?_) | (go_at_call 14; (with_reducible refine (HSM.out).mono ?_); rintro e w9 ⟨rfl, hb⟩; have HB10 := Lib.hid (bthen HB8.out hb); clear hb) | (go_at_call 8; (with_reducible refine (HAW.out _ HB10.out).mono ?_); rintro e w10 ⟨rfl, hb⟩; have HB9 := Lib.hid (bthen HB10.out hb); clear hb) | fail)
          go_ret
          exact ⟨rfl, HB9.out⟩
        · obtain rfl : x = noTx := Q2.out hE
          have c0 : w8.cell? ⟨v, 0, none⟩ = some (.slice none 0 0) := tx_ins (x := noTx) (range_of HV8.out)
          go_wp2_with (first | (go_at_call 8; (with_reducible refine (HAW.out _ HB8.out).mono ?_); rintro e w9 ⟨rfl, hb⟩; have HB9 := Lib.hid (bthen HB8.out hb); clear hb) | fail)
          go_ret
          exact ⟨rfl, HB9.out⟩
      · have HU : Hid (Calls Tryd.prog 13 #[.agg (cellsOf s).toArray, .slice a k c] w1 fun e w' => e = .returned (.tuple #[.agg noTx.cells.toArray, .int .i64 4]) ∧ Below w1.heap.size w1 w') := Lib.hid (HU0.out.mono fun e w' h => by rcases h.2 with ⟨h2, _⟩ | ⟨_, _, h2⟩ | ⟨_, h2, _⟩; omega; exact ⟨h2, h.1⟩; exact absurd h2 hm)
        clear HU0
        go_upto_region 4 with (first | (refine wpList_load_row rfl 23 _ rfl g rfl 23 (cellsOf s).toArray (0, 0) _ H1.out Tryd.underlying23 rfl SZS.out ?_) | (go_at_call 13; (with_reducible refine (HU.out).mono ?_); rintro e w2 ⟨rfl, hb⟩; have HB2 := Lib.hid (bthen HB1.out hb); have H12 := Lib.hid (keep hb H1.out); have HQ2 := Lib.hid (HQ.out.below hb); clear hb) | (refine wpList_var rfl rfl 31 rfl _ _ rfl noTx.cells.toArray Tryd.zeroTx14 rfl noTx.cells (fun _ => rfl) (fun _ => rfl) rfl (PTx.one _) ?_; intro v w3 hq hh hb; go_frame; have HB3 := Lib.hid (bthen HB2.out hb); have H13 := Lib.hid (keep hb H12.out); have HQ3 := Lib.hid (HQ2.out.below hb); have HV3 := Lib.hid hh; have HS3 := Lib.hid hb; clear hq hh hb) | fail)
        go_wp2_with fail
        have b4 : Below w3.heap.size w3 (w3.alloc (.cells #[.slice (some ⟨g, 0, none⟩) 32 32] 26)) := (Below.refl _ _).alloc (Nat.le_refl _) _
        have r1 : Row (w3.alloc (.cells #[.slice (some ⟨g, 0, none⟩) 32 32] 26)) (some ⟨g, 0, none⟩) 32 32 s := (row_all H13.out 32 HS.out.symm (by omega)).below b4
        refine (HJ.out _ _ _ _ _ ((HK.out.below HB3.out).below b4) (heap_alloc_new _ _) r1).mono ?_
        rintro e w5 ⟨rfl, hb5⟩
        have HS5 := Lib.hid (b4.trans (hb5.mono b4.size))
        have HB5 := Lib.hid (bthen HB3.out HS5.out)
        have HV5 := Lib.hid (keep HS5.out HV3.out)
        have HQ5 := Lib.hid (HQ3.out.below HS5.out)
        clear b4 r1 hb5
        have HOP : Hid (Calls Tryd.prog 17 #[.agg (cellsOf K).toArray, .slice a k c] w5 fun e w' => e = .returned (.tuple #[.slice none 0 0, .int .i64 4]) ∧ Below w5.heap.size w5 w') := Lib.hid ((open_any HKL.out HQ5.out h16b (by omega) (HK.out.below HB5.out)).mono fun e w9 h5 => by rcases h5.2 with ⟨h6, _⟩ | ⟨_, h6⟩; exact absurd h6 hm; exact ⟨h6, h5.1⟩)
        go_upto_region 6 with (first | (go_at_call 17; (with_reducible refine (HOP.out).mono ?_); rintro e w6 ⟨rfl, hb⟩; have HB6 := Lib.hid (bthen HB5.out hb); have HV6 := Lib.hid (keep hb HV5.out); have HS6 := Lib.hid hb; clear hb) | fail)
        have c0 : w6.cell? ⟨v, 0, none⟩ = some (.slice none 0 0) := tx_ins (x := noTx) (range_of HV6.out)
        go_wp2_with (first | (go_at_call 8; (with_reducible refine (HAW.out _ HB6.out).mono ?_); rintro e w9 ⟨rfl, hb⟩; have HB9 := Lib.hid (bthen HB6.out hb); clear hb) | fail)
        go_ret
        exact ⟨rfl, HB9.out⟩
end Go.Proofs.YtnepcjnnlfhplaaDoor
