/- AppointCovers, walked. -/
import Derived.Test.YtnepcjnnlfhplaaDoorUncovers16
import Derived.Test.YtnepcjnnlfhplaaDoorAppSize
import Derived.Test.YtnepcjnnlfhplaaDoorLaw8Small
import Derived.Test.YtnepcjnnlfhplaaDoorMemory
import Derived.Test.YtnepcjnnlfhplaaDoorSha
namespace Go.Proofs.YtnepcjnnlfhplaaDoor
open Go.RowKit

theorem Tryd.zeroRow16 : (Tryd.prog.info? 26).map (fun i => (i.zero, i.size, i.bytes)) = some (some (.slice none 0 0), 1, 24) := by kernel_rfl
/-- A slice literal of one slice of bytes, in a region. -/
theorem step_row16 {ops : Array Oper} {o : Oper} {tmps : Array Value} {ds : List Deferred} {w : World} {K : Act → World → Prop} {Q : Exit → Act → World → Prop} {E : Prop} {d : Nat} {x : Operand} {a : Option Addr} {n c : Nat} (hd : o.dst = some d) (hw : Region.wanted o (yielded ops tmps) = true) (ho : o.op = .buildSlice 84 1 #[(0, x)])
    (hx : Act.eval { tmps := tmps, defers := ds } x = .slice a n c)
    (h : ∀ (p : Nat) (w' : World), w.heap.size ≤ p → w'.heap[p]? = some (.cells #[.slice a n c] 26 (0, 0)) → Below w.heap.size w w' → K { tmps := tmps.setIfInBounds d (.slice (some ⟨p, 0, none⟩) 1 1), defers := ds } w') :
    if Region.wanted o (yielded ops tmps) = true then Oper.wp Tryd.prog o { tmps := tmps, defers := ds } w K Q else E := by
  rw [if_pos hw]
  obtain ⟨ie, h1, h2, h3, _⟩ := info_parts Tryd.zeroRow16
  have hrun : (Instr.buildSlice 84 1 #[(0, .slice a n c)]).run Tryd.prog w = .ok (.slice (some ⟨w.heap.size, 0, none⟩) 1 1) (w.alloc (.cells #[.slice a n c] 26)) :=
    run_buildSlice w 84 26 1 _ _ ie _ Tryd.underlying84 h1 h2 (by rw [h3]; omega) (by rw [h3]; omega) (by rw [h3]; simp [Instr.fill, Value.cells]; rw [show Array.range 1 = #[0] by rfl]; simp)
  unfold Oper.wp execOp
  simp only [ho, List.map_toArray, List.map_cons, List.map_nil, hx, Sem.run_bind, hrun, Sem.run_pure, Result.andThen_ok]
  show K (Act.put _ o.dst _) _
  rw [hd]
  exact h _ _ (Nat.le_refl _) (heap_alloc_new _ _) ((Below.refl _ _).alloc (Nat.le_refl _) _)
set_option linter.unusedSimpArgs false in
set_option maxRecDepth 100000 in
set_option maxHeartbeats 25600000 in
theorem covers16_walk {w : World} {s : List UInt8} {x : PTx} (hs : s.length = 32) (ht : TxIn w x) (hk : KsAt w)
    (haw : ∀ W : World, Below w.heap.size w W → Calls Tryd.prog 8 #[] W fun e w' => e = .returned (.bool true) ∧ Below W.heap.size W w') :
    Calls Tryd.prog 3 #[.agg (cellsOf s).toArray, .agg x.cells.toArray] w fun e w' => e = .returned (.bool true) ∧ Below w.heap.size w w' := by
  have HSL : Hid (∀ W : World, Below w.heap.size w W → Calls Tryd.prog 7 #[.agg x.cells.toArray] W fun e w' => e = .returned (.int .i64 (if smallT x = true then 0 else 1)) ∧ Below W.heap.size W w') := Lib.hid fun W hW => small8_law (ht.below hW)
  have SZX := Lib.hid (tx_sizeA ht.op.root)
  have SZXL := Lib.hid (tx_size ht.op.root)
  have SZS := Lib.hid (size_of hs)
  have HS := Lib.hid hs
  have HT := Lib.hid ht
  have HK := Lib.hid hk
  have HAW := Lib.hid haw
  clear hs ht hk haw
  go_enter Tryd.func3, Tryd.ntmps3
  go_upto_region 1 with (fail)
  have b1 : Below w.heap.size w ((w.alloc (.cells (cellsOf s).toArray 23)).alloc (.cells x.cells.toArray 31)) := ((Below.refl _ _).alloc (Nat.le_refl _) _).alloc (by simp) _
  have h1 : ((w.alloc (.cells (cellsOf s).toArray 23)).alloc (.cells x.cells.toArray 31)).heap[w.heap.size]? = some (.cells (cellsOf s).toArray 23 (0, 0)) := by
    rw [heap_alloc_old _ _ (by simp), heap_alloc_new]
  have h2 : ((w.alloc (.cells (cellsOf s).toArray 23)).alloc (.cells x.cells.toArray 31)).heap[w.heap.size + 1]? = some (.cells x.cells.toArray 31 (0, 0)) := heap_alloc_at _ _ _ (by simp)
  revert b1 h1 h2
  generalize ((w.alloc (.cells (cellsOf s).toArray 23)).alloc (.cells x.cells.toArray 31)) = w1
  obtain ⟨g, hg⟩ : ∃ g, g = w.heap.size := ⟨_, rfl⟩
  obtain ⟨g1, hg1⟩ : ∃ g1, g1 = g + 1 := ⟨_, rfl⟩
  rw [← hg, ← hg1]
  intro b1 h1 h2
  rw [hg] at b1
  have HB1 := Lib.hid b1
  have H1 := Lib.hid h1
  have H2 := Lib.hid h2
  clear b1 h1 h2 hg hg1
  by_cases hsm : smallT x = true
  rotate_left
  · rw [show (if smallT x = true then (0 : Int) else 1) = 1 from if_neg hsm] at HSL
    go_wp2_with (first | (refine wpList_load_row rfl 31 _ rfl g1 rfl 31 x.cells.toArray (0, 0) _ H2.out Tryd.underlying31 rfl SZX.out ?_) | (go_at_call 7; (with_reducible refine (HSL.out _ HB1.out).mono ?_); rintro e w2 ⟨rfl, hb⟩; have HB2 := Lib.hid (bthen HB1.out hb); have H12 := Lib.hid (keep hb H1.out); have H22 := Lib.hid (keep hb H2.out); clear hb) | (go_at_call 8; (with_reducible refine (HAW.out _ HB2.out).mono ?_); rintro e w9 ⟨rfl, hb⟩; have HB9 := Lib.hid (bthen HB2.out hb); clear hb) | fail)
    go_ret
    exact ⟨rfl, HB9.out⟩
  rw [show (if smallT x = true then (0 : Int) else 1) = 0 from if_pos hsm] at HSL
  by_cases hok : txOk x = true
  rotate_left
  · have hok0 : txOk x = false := by simpa using hok
    have HBY : Hid (∀ W : World, Below w.heap.size w W → Calls Tryd.prog 10 #[.agg x.cells.toArray] W fun e w' => ∃ (a : Option Addr) (n c : Nat), e = .returned (.tuple #[.slice a n c, .int .i64 1]) ∧ Row w' a n c (packB x) ∧ Below W.heap.size W w') := Lib.hid fun W hW => by
      have h9 := txBytes_any (HT.out.below hW)
      rw [show packE x = 1 by unfold packE; rw [hok0]; rfl] at h9
      exact h9
    have HCV := Lib.hid (fun (W : World) (hW : Below w.heap.size w W) => cover_bad (s := s) (HT.out.below hW) hok0)
    clear hok hok0
    go_upto_region 6 with (first | (go_at_call 7; (with_reducible refine (HSL.out _ HB1.out).mono ?_); rintro e w2 ⟨rfl, hb⟩; have HB2 := Lib.hid (bthen HB1.out hb); have H12 := Lib.hid (keep hb H1.out); have H22 := Lib.hid (keep hb H2.out); clear hb) | (refine wpList_load_row rfl 23 _ rfl g rfl 23 (cellsOf s).toArray (0, 0) _ H12.out Tryd.underlying23 rfl SZS.out ?_) | (go_at_call 9; (with_reducible refine (HCV.out _ HB2.out).mono ?_); rintro e w3 ⟨rfl, hb⟩; have HB3 := Lib.hid (bthen HB2.out hb); have H13 := Lib.hid (keep hb H12.out); have H23 := Lib.hid (keep hb H22.out); clear hb) | (go_at_call 10; (with_reducible refine (HBY.out _ HB3.out).mono ?_); rintro e w4 ⟨a4, n4, c4, rfl, hr, hb⟩; have HB4 := Lib.hid (bthen HB3.out hb); have H14 := Lib.hid (keep hb H13.out); have H24 := Lib.hid (keep hb H23.out); have HR4 := Lib.hid hr; clear hr hb) | (first | (refine wpList_load_row rfl 31 _ rfl g1 rfl 31 x.cells.toArray (0, 0) _ H23.out Tryd.underlying31 rfl SZX.out ?_) | (refine wpList_load_row rfl 31 _ rfl g1 rfl 31 x.cells.toArray (0, 0) _ H22.out Tryd.underlying31 rfl SZX.out ?_) | (refine wpList_load_row rfl 31 _ rfl g1 rfl 31 x.cells.toArray (0, 0) _ H2.out Tryd.underlying31 rfl SZX.out ?_)) | fail)
    go_wp2_with (first | (go_at_call 8; (with_reducible refine (HAW.out _ HB4.out).mono ?_); rintro e w9 ⟨rfl, hb⟩; have HB9 := Lib.hid (bthen HB4.out hb); clear hb) | fail)
    go_ret
    exact ⟨rfl, HB9.out⟩
  have hok1 : txOk x = true := hok
  obtain ⟨L, hL⟩ : ∃ L, txB x = L := ⟨_, rfl⟩
  obtain ⟨K, hK⟩ : ∃ K, appKey s = K := ⟨_, rfl⟩
  obtain ⟨C, hC⟩ : ∃ C, closeB K L = C := ⟨_, rfl⟩
  obtain ⟨X1, hX1⟩ : ∃ X1, sumOf (partsOf 71 [s]) = X1 := ⟨_, rfl⟩
  obtain ⟨X3, hX3⟩ : ∃ X3, sumOf (partsOf 73 [C]) = X3 := ⟨_, rfl⟩
  have hKl : K.length = 32 := by rw [← hK]; exact appKey_len s
  have hX1l : X1.length = 32 := by rw [← hX1]; exact sumOf_len _
  have hX3l : X3.length = 32 := by rw [← hX3]; exact sumOf_len _
  have hd6 : x.op.n ≤ 6000 := by
    unfold smallT at hsm
    simp only [Bool.and_eq_true, decide_eq_true_eq] at hsm
    exact hsm.2.2.2.1
  have hL6 : L.length ≤ 62000 := by rw [← hL]; exact txB_small HT.out hok1 hd6
  have hCl : C.length = 16 + L.length := by rw [← hC]; exact closeB_len _ _
  have hC16 : markB K (coverB K (C.drop 16)) = C.take 16 := by rw [← hC, closeB_drop, coverB_back, closeB_take]
  have hCd : coverB K (C.drop 16) = L := by rw [← hC, closeB_drop, coverB_back]
  have HBY : Hid (∀ W : World, Below w.heap.size w W → Calls Tryd.prog 10 #[.agg x.cells.toArray] W fun e w' => ∃ (a : Option Addr) (n c : Nat), e = .returned (.tuple #[.slice a n c, .int .i64 0]) ∧ Row w' a n c L ∧ Below W.heap.size W w') := Lib.hid fun W hW => by
    have h9 := txBytes_any (HT.out.below hW)
    rw [show packE x = 0 by unfold packE; rw [hok1]; rfl, show packB x = L by unfold packB; rw [hok1]; exact hL] at h9
    exact h9
  have HCV : Hid (∀ W : World, Below w.heap.size w W → Calls Tryd.prog 9 #[.agg (cellsOf s).toArray, .agg x.cells.toArray] W fun e w' => ∃ a c, e = .returned (.tuple #[.slice a (16 + L.length) c, .int .i64 0]) ∧ Row w' a (16 + L.length) c C ∧ Below W.heap.size W w') := Lib.hid fun W hW => by
    have h9 := cover_ok HS.out (HT.out.below hW) (HK.out.below hW) hok1 (by rw [hL]; omega)
    rw [hL, hK, hC] at h9
    exact h9
  have HCL : Hid (∀ (W : World) (a : Option Addr) (c : Nat), Below w.heap.size w W → Row W a L.length c L → Calls Tryd.prog 11 #[.agg (cellsOf K).toArray, .slice a L.length c] W fun e w' => ∃ a' c', e = .returned (.tuple #[.slice a' (16 + L.length) c', .int .i64 0]) ∧ Row w' a' (16 + L.length) c' C ∧ Below W.heap.size W w') := Lib.hid fun W a c hW hr => by
    have h9 := close_any hKl hr (by omega) (HK.out.below hW)
    rw [hC] at h9
    exact h9
  have HUN : Hid (∀ (W : World) (a : Option Addr) (c : Nat), Below w.heap.size w W → Row W a (16 + L.length) c C → Calls Tryd.prog 13 #[.agg (cellsOf s).toArray, .slice a (16 + L.length) c] W fun e w' => ∃ x2 : PTx, e = .returned (.tuple #[.agg x2.cells.toArray, .int .i64 0]) ∧ TxIn w' x2 ∧ txOk x2 = true ∧ txB x2 = L ∧ Below W.heap.size W w') := Lib.hid fun W a c hW hr => by
    have h9 := uncover_any HS.out hr (by omega) (HK.out.below hW)
    refine h9.mono fun e w' h => ?_
    rw [hK] at h
    rcases h.2 with ⟨h2, _⟩ | ⟨_, h2, _⟩ | ⟨_, _, x2, E, h3, h4, h5, h6, _⟩
    · omega
    · exact absurd hC16 h2
    · rw [hCd] at h5 h6
      by_cases hE : E = 0
      · subst hE
        exact ⟨x2, h3, h4, (h5 rfl).1, (h5 rfl).2, h.1⟩
      · exact absurd hL ((h6 hE).2 x HT.out.lens hok1)
  have HJ2 : Hid (∀ (W : World) (gg : Nat) (a : Option Addr) (n c : Nat), KsAt W → W.heap[gg]? = some (.cells #[.slice a n c] 26 (0, 0)) → Row W a n c s → Calls Tryd.prog 12 #[.int .u8 72, .slice (some ⟨gg, 0, none⟩) 1 1] W fun e w' => e = .returned (.agg (cellsOf K).toArray) ∧ Below W.heap.size W w') := Lib.hid fun W gg a n c hW hg hr => by
    have h9 := join_any 72 72 rfl (rows2_one hg hr) hW (by unfold partsOf partOf; simp only [List.flatMap_cons, List.flatMap_nil, List.length_cons, List.length_append, four_len, List.length_nil]; have := HS.out; omega)
    rw [show sumOf (partsOf 72 [s]) = K from hK] at h9
    exact h9
  have HJ1 : Hid (∀ (W : World) (gg : Nat) (a : Option Addr) (n c : Nat), KsAt W → W.heap[gg]? = some (.cells #[.slice a n c] 26 (0, 0)) → Row W a n c s → Calls Tryd.prog 12 #[.int .u8 71, .slice (some ⟨gg, 0, none⟩) 1 1] W fun e w' => e = .returned (.agg (cellsOf X1).toArray) ∧ Below W.heap.size W w') := Lib.hid fun W gg a n c hW hg hr => by
    have h9 := join_any 71 71 rfl (rows2_one hg hr) hW (by unfold partsOf partOf; simp only [List.flatMap_cons, List.flatMap_nil, List.length_cons, List.length_append, four_len, List.length_nil]; have := HS.out; omega)
    rw [hX1] at h9
    exact h9
  have HJ3 : Hid (∀ (W : World) (gg : Nat) (a : Option Addr) (n c : Nat), KsAt W → W.heap[gg]? = some (.cells #[.slice a n c] 26 (0, 0)) → Row W a n c C → Calls Tryd.prog 12 #[.int .u8 73, .slice (some ⟨gg, 0, none⟩) 1 1] W fun e w' => e = .returned (.agg (cellsOf X3).toArray) ∧ Below W.heap.size W w') := Lib.hid fun W gg a n c hW hg hr => by
    have h9 := join_any 73 73 rfl (rows2_one hg hr) hW (by unfold partsOf partOf; simp only [List.flatMap_cons, List.flatMap_nil, List.length_cons, List.length_append, four_len, List.length_nil]; omega)
    rw [hX3] at h9
    exact h9
  have HHI : Hid (∀ W : World, Below w.heap.size w W → Calls Tryd.prog 15 #[.agg (cellsOf s).toArray] W fun e w' => e = .returned (.agg (cellsOf X1).toArray) ∧ Below W.heap.size W w') := Lib.hid fun W hW => by
    have h9 := hint_any HS.out (HK.out.below hW)
    rw [hX1] at h9
    exact h9
  have HMK : Hid (∀ (W : World) (a : Option Addr) (c : Nat), Below w.heap.size w W → Row W a (16 + L.length) c C → Calls Tryd.prog 16 #[.slice a (16 + L.length) c] W fun e w' => e = .returned (.agg (cellsOf X3).toArray) ∧ Below W.heap.size W w') := Lib.hid fun W a c hW hr => by
    have h9 := appmark_any hr (HK.out.below hW) (by omega)
    rw [hX3] at h9
    exact h9
  have HSM : Hid (∀ (W : World) (y : PTx), TxIn W y → Below w.heap.size w W → txOk y = true → txB y = L → Calls Tryd.prog 14 #[.agg y.cells.toArray, .agg x.cells.toArray] W fun e w' => e = .returned (.bool true) ∧ Below W.heap.size W w') := Lib.hid fun W y hy hW h3 h4 => by
    have h9 := txSame_any hy (HT.out.below hW)
    rw [hok1, h3, h4, hL] at h9
    simpa using h9
  obtain ⟨bc, hbc⟩ : ∃ bc : ByteArray, (⟨C.toArray⟩ : ByteArray) = bc := ⟨_, rfl⟩
  obtain ⟨N, hN⟩ : ∃ N, 16 + L.length = N := ⟨_, rfl⟩
  rw [hN] at HCV HCL HUN HMK
  have HBC := Lib.hid hbc
  have HX1L := Lib.hid hX1l
  have HX3L := Lib.hid hX3l
  clear hok hok1 hL hK hC hX1 hX3 hKl hX1l hX3l hd6 hL6 hCl hC16 hCd hbc hN
  go_upto_region 5 with (first | (go_at_call 7; (with_reducible refine (HSL.out _ HB1.out).mono ?_); rintro e w2 ⟨rfl, hb⟩; have HB2 := Lib.hid (bthen HB1.out hb); have H12 := Lib.hid (keep hb H1.out); have H22 := Lib.hid (keep hb H2.out); clear hb) | (refine wpList_load_row rfl 23 _ rfl g rfl 23 (cellsOf s).toArray (0, 0) _ H12.out Tryd.underlying23 rfl SZS.out ?_) | (go_at_call 9; (with_reducible refine (HCV.out _ HB2.out).mono ?_); rintro e w3 ⟨a3, c3, rfl, hr3, hb⟩; have HB3 := Lib.hid (bthen HB2.out hb); have H13 := Lib.hid (keep hb H12.out); have H23 := Lib.hid (keep hb H22.out); have HR3 := Lib.hid hr3; clear hr3; clear hb) | (go_at_call 10; (with_reducible refine (HBY.out _ HB3.out).mono ?_); rintro e w4 ⟨a4, n4, c4, rfl, hr, hb⟩; have HB4 := Lib.hid (bthen HB3.out hb); have H14 := Lib.hid (keep hb H13.out); have H24 := Lib.hid (keep hb H23.out); have HR4 := Lib.hid hr; have HR34 := Lib.hid (HR3.out.below hb); clear hr hb) | (first | (refine wpList_load_row rfl 31 _ rfl g1 rfl 31 x.cells.toArray (0, 0) _ H23.out Tryd.underlying31 rfl SZX.out ?_) | (refine wpList_load_row rfl 31 _ rfl g1 rfl 31 x.cells.toArray (0, 0) _ H22.out Tryd.underlying31 rfl SZX.out ?_) | (refine wpList_load_row rfl 31 _ rfl g1 rfl 31 x.cells.toArray (0, 0) _ H2.out Tryd.underlying31 rfl SZX.out ?_)) | fail)
  obtain rfl : n4 = L.length := HR4.out.1.symm
  go_upto_region 7 with (fail)
  go_wp2_with fail
  have b5 : Below w4.heap.size w4 (w4.alloc (.cells #[.slice (some ⟨g, 0, none⟩) 32 32] 26)) := (Below.refl _ _).alloc (Nat.le_refl _) _
  have r1 : Row (w4.alloc (.cells #[.slice (some ⟨g, 0, none⟩) 32 32] 26)) (some ⟨g, 0, none⟩) 32 32 s := (row_all H14.out 32 HS.out.symm (by omega)).below b5
  refine (HJ2.out _ _ _ _ _ ((HK.out.below HB4.out).below b5) (heap_alloc_new _ _) r1).mono ?_
  rintro e w5 ⟨rfl, hb5⟩
  have HS5 := Lib.hid (b5.trans (hb5.mono b5.size))
  have HB5 := Lib.hid (bthen HB4.out HS5.out)
  have H15 := Lib.hid (keep HS5.out H14.out)
  have H25 := Lib.hid (keep HS5.out H24.out)
  have HR35 := Lib.hid (HR34.out.below HS5.out)
  have HR45 := Lib.hid (HR4.out.below HS5.out)
  clear b5 r1 hb5
  go_upto_region 8 with (first | (go_at_call 11; (with_reducible refine (HCL.out _ _ _ HB5.out HR45.out).mono ?_); rintro e w6 ⟨a6, c6, rfl, hr6, hb⟩; have HB6 := Lib.hid (bthen HB5.out hb); have H16 := Lib.hid (keep hb H15.out); have H26 := Lib.hid (keep hb H25.out); have HR36 := Lib.hid (HR35.out.below hb); have HR66 := Lib.hid hr6; clear hr6 hb) | fail)
  go_upto_region 9 with (first | (refine wpList_load_row rfl 23 _ rfl g rfl 23 (cellsOf s).toArray (0, 0) _ H16.out Tryd.underlying23 rfl SZS.out ?_) | (go_at_call 13; (with_reducible refine (HUN.out _ _ _ HB6.out HR36.out).mono ?_); rintro e w7 ⟨x2, rfl, hx2, q1, q2, hb⟩; have HB7 := Lib.hid (bthen HB6.out hb); have H17 := Lib.hid (keep hb H16.out); have H27 := Lib.hid (keep hb H26.out); have HR37 := Lib.hid (HR36.out.below hb); have HR67 := Lib.hid (HR66.out.below hb); have HX7 := Lib.hid hx2; have Q1 := Lib.hid q1; have Q2 := Lib.hid q2; have ZX2 := Lib.hid (PTx.len hx2.op.root); have SZ2 := Lib.hid (tx_size hx2.op.root); clear hx2 q1 q2 hb) | (refine wpList_var rfl rfl 31 rfl _ _ rfl noTx.cells.toArray Tryd.zeroTx14 rfl x2.cells (fun _ => rfl) (fun _ => rfl) ZX2.out (PTx.one _) ?_; intro v w8 hq hh hb; go_frame; have HB8 := Lib.hid (bthen HB7.out hb); have H18 := Lib.hid (keep hb H17.out); have H28 := Lib.hid (keep hb H27.out); have HR38 := Lib.hid (HR37.out.below hb); have HR68 := Lib.hid (HR67.out.below hb); have HX8 := Lib.hid (HX7.out.below hb); have HV8 := Lib.hid hh; clear hq hh hb) | fail)
  clear HB1 H1 H2 HB2 H12 H22 HB3 H13 H23 HR3 HB4 H14 H24 HR4 HR34 HS5 HB5 H15 H25 HR35 HR45 HB6 H16 H26 HR36 HR66 HB7 H17 H27 HR37 HR67 HX7 HSL HBY HCV HCL HUN HJ2
  have RX : Hid (∀ W : World, Below w8.heap.size w8 W → W.rangeAt g1 0 x.cells) := Lib.hid fun W hW => range_of (keep hW H28.out)
  have RV : Hid (∀ W : World, Below w8.heap.size w8 W → W.rangeAt v 0 x2.cells) := Lib.hid fun W hW => range_of (keep hW HV8.out)
  have RS : Hid (∀ W : World, Below w8.heap.size w8 W → W.rangeAt g 0 (cellsOf s)) := Lib.hid fun W hW => range_of (keep hW H18.out)
  have SZSL : Hid ((Tryd.prog.info? 23).map (·.size) = some (cellsOf s).length) := Lib.hid (by have h9 := SZS.out; rwa [List.size_toArray] at h9)
  refine wp_region_held_drew (S := fun w' => Below w8.heap.size w8 w') (by kernel_rfl) (below_drew (Below.refl _ _)) (fun hHeld => ?_)
  refine take_at (i := 0) (v := ?_) rfl rfl (by kernel_rfl) (by kernel_rfl) (by kernel_rfl) (fun _ _ _ h => h) (Or.inl ⟨by rfl, ?_⟩) (by assumption) ?_
  rotate_left
  · intro w0 hSw; (try dsimp only at hSw); first | (go_simp; done) | (go_simp; with_reducible rfl)
  simp only [List.setIfInBounds_toArray, List.set_cons_zero, List.set_cons_succ]
  refine take_at (i := 2) (v := ?_) rfl rfl (by kernel_rfl) (by kernel_rfl) (by kernel_rfl) (fun _ _ _ h => h) (Or.inl ⟨by rfl, ?_⟩) (by assumption) ?_
  rotate_left
  · intro w0 hSw; (try dsimp only at hSw); first | (go_simp; done) | (go_simp; with_reducible rfl)
  simp only [List.setIfInBounds_toArray, List.set_cons_zero, List.set_cons_succ]
  refine take_at (i := 1) rfl rfl (by kernel_rfl) (by kernel_rfl) (by kernel_rfl) (fun _ _ _ h => h) (yields_conv (by rfl) rfl rfl HBC.out (fun w0 hSw => HR38.out.below hSw)) (by assumption) ?_
  simp only [List.setIfInBounds_toArray, List.set_cons_zero, List.set_cons_succ]
  refine take_at (i := 3) rfl rfl (by kernel_rfl) (by kernel_rfl) (by kernel_rfl) (fun _ _ _ h => h) (yields_conv (by rfl) rfl rfl HBC.out (fun w0 hSw => HR68.out.below hSw)) (by assumption) ?_
  simp only [List.setIfInBounds_toArray, List.set_cons_zero, List.set_cons_succ]
  refine take_at (i := 4) (v := .bool true) rfl rfl (by kernel_rfl) (by kernel_rfl) (by kernel_rfl) (fun _ _ _ h => h) (Or.inl ⟨by rfl, ?_⟩) (by assumption) ?_
  · intro w0 hSw; (try dsimp only at hSw); first | (go_simp; done) | (go_simp; with_reducible rfl) | (go_simp; omega)
  simp only [List.setIfInBounds_toArray, List.set_cons_zero, List.set_cons_succ]
  refine take_at (i := 5) (v := ?_) rfl rfl (by kernel_rfl) (by kernel_rfl) (by kernel_rfl) (fun _ _ _ h => h) (Or.inl ⟨by rfl, ?_⟩) (by assumption) ?_
  rotate_left
  · intro w0 hSw; (try dsimp only at hSw); first | (go_simp; done) | (go_simp; with_reducible rfl)
  simp only [List.setIfInBounds_toArray, List.set_cons_zero, List.set_cons_succ]
  refine take_at (i := 6) (v := ?_) rfl rfl (by kernel_rfl) (by kernel_rfl) (by kernel_rfl) (fun _ _ _ h => h) (Or.inl ⟨by rfl, ?_⟩) (by assumption) ?_
  rotate_left
  · intro w0 hSw; (try dsimp only at hSw); first | (go_simp; done) | (go_simp; with_reducible rfl)
  simp only [List.setIfInBounds_toArray, List.set_cons_zero, List.set_cons_succ]
  refine take_at (i := 7) (v := ?_) rfl rfl (by kernel_rfl) (by kernel_rfl) (by kernel_rfl) (fun _ _ _ h => h) (Or.inl ⟨by rfl, ?_⟩) (by assumption) ?_
  rotate_left
  · intro w0 hSw; (try dsimp only at hSw); first | (go_simp; done) | (go_simp; with_reducible rfl)
  simp only [List.setIfInBounds_toArray, List.set_cons_zero, List.set_cons_succ]
  refine take_at (i := 8) (v := ?_) rfl rfl (by kernel_rfl) (by kernel_rfl) (by kernel_rfl) (fun _ _ _ h => h) (Or.inl ⟨by rfl, ?_⟩) (by assumption) ?_
  rotate_left
  · intro w0 hSw; (try dsimp only at hSw); first | (go_simp; done) | (go_simp; with_reducible rfl)
  simp only [List.setIfInBounds_toArray, List.set_cons_zero, List.set_cons_succ]
  refine take_at (i := 9) (v := ?_) rfl rfl (by kernel_rfl) (by kernel_rfl) (by kernel_rfl) (fun _ _ _ h => h) (Or.inl ⟨by rfl, ?_⟩) (by assumption) ?_
  rotate_left
  · intro w0 hSw; (try dsimp only at hSw); first | (go_simp; done) | (go_simp; with_reducible rfl)
  simp only [List.setIfInBounds_toArray, List.set_cons_zero, List.set_cons_succ]
  refine take_at (i := 10) (v := ?_) rfl rfl (by kernel_rfl) (by kernel_rfl) (by kernel_rfl) (fun _ _ _ h => h) (Or.inl ⟨by rfl, ?_⟩) (by assumption) ?_
  rotate_left
  · intro w0 hSw; (try dsimp only at hSw); first | (go_simp; done) | (go_simp; with_reducible rfl)
  simp only [List.setIfInBounds_toArray, List.set_cons_zero, List.set_cons_succ]
  refine take_at (i := 11) (v := ?_) rfl rfl (by kernel_rfl) (by kernel_rfl) (by kernel_rfl) (fun _ _ _ h => h) (Or.inl ⟨by rfl, ?_⟩) (by assumption) ?_
  rotate_left
  · intro w0 hSw; (try dsimp only at hSw); first | (go_simp; done) | (go_simp; with_reducible rfl)
  simp only [List.setIfInBounds_toArray, List.set_cons_zero, List.set_cons_succ]
  refine take_at (i := 12) (v := ?_) rfl rfl (by kernel_rfl) (by kernel_rfl) (by kernel_rfl) (fun _ _ _ h => h) (Or.inl ⟨by rfl, ?_⟩) (by assumption) ?_
  rotate_left
  · intro w0 hSw; (try dsimp only at hSw); first | (go_simp; done) | (go_simp; with_reducible rfl)
  simp only [List.setIfInBounds_toArray, List.set_cons_zero, List.set_cons_succ]
  refine take_at (i := 13) (v := ?_) rfl rfl (by kernel_rfl) (by kernel_rfl) (by kernel_rfl) (fun _ _ _ h => h) (Or.inl ⟨by rfl, ?_⟩) (by assumption) ?_
  rotate_left
  · intro w0 hSw; (try dsimp only at hSw); first | (go_simp; done) | (go_simp; with_reducible rfl)
  simp only [List.setIfInBounds_toArray, List.set_cons_zero, List.set_cons_succ]
  refine take_at (i := 14) (v := ?_) rfl rfl (by kernel_rfl) (by kernel_rfl) (by kernel_rfl) (fun _ _ _ h => h) (Or.inl ⟨by rfl, ?_⟩) (by assumption) ?_
  rotate_left
  · intro w0 hSw; (try dsimp only at hSw); first | (go_simp; done) | (go_simp; with_reducible rfl)
  simp only [List.setIfInBounds_toArray, List.set_cons_zero, List.set_cons_succ]
  refine take_at (i := 15) rfl rfl (by kernel_rfl) (by kernel_rfl) (by kernel_rfl) (fun _ _ _ h => h) (yieldsIf_load_mid (by rfl) _ _ rfl v 0 rfl x2.cells _ (fun w0 hSw => RV.out _ hSw) Tryd.underlying31 rfl SZ2.out) (by assumption) ?_
  simp only [List.setIfInBounds_toArray, List.set_cons_zero, List.set_cons_succ]
  refine take_at (i := 16) rfl rfl (by kernel_rfl) (by kernel_rfl) (by kernel_rfl) (fun _ _ _ h => h) (yieldsIf_load_mid (by rfl) _ _ rfl g1 0 rfl x.cells _ (fun w0 hSw => RX.out _ hSw) Tryd.underlying31 rfl SZXL.out) (by assumption) ?_
  simp only [List.setIfInBounds_toArray, List.set_cons_zero, List.set_cons_succ]
  refine wpAnyH_ready (rs := [17]) (by kernel_rfl) (by simp) ?_
  refine AllReadyH.cons rfl (fun K hK => ?_) ?_
  · go_simp
    go_wp2_with ((go_at_call 14; (with_reducible refine (HSM.out _ _ (HX8.out.below hHeld) (bthen HB8.out hHeld) Q1.out Q2.out).mono ?_); rintro e y17 ⟨rfl, hb⟩; have HBy17 := Lib.hid hb; clear hb))
    refine hK.out _ _ (by (try dsimp only); exact hHeld.trans (HBy17.out.mono hHeld.size)) (fun hHeld => ?_)
    clear hK K
    refine take_at (i := 18) (v := ?_) rfl rfl (by kernel_rfl) (by kernel_rfl) (by kernel_rfl) (fun _ _ _ h => h) (Or.inl ⟨by rfl, ?_⟩) (by assumption) ?_
    rotate_left
    · intro w0 hSw; (try dsimp only at hSw); first | (go_simp; done) | (go_simp; with_reducible rfl)
    simp only [List.setIfInBounds_toArray, List.set_cons_zero, List.set_cons_succ]
    refine take_at (i := 19) (v := ?_) rfl rfl (by kernel_rfl) (by kernel_rfl) (by kernel_rfl) (fun _ _ _ h => h) (Or.inl ⟨by rfl, ?_⟩) (by assumption) ?_
    rotate_left
    · intro w0 hSw; (try dsimp only at hSw); first | (go_simp; done) | (go_simp; with_reducible rfl)
    simp only [List.setIfInBounds_toArray, List.set_cons_zero, List.set_cons_succ]
    refine take_at (i := 20) rfl rfl (by kernel_rfl) (by kernel_rfl) (by kernel_rfl) (fun _ _ _ h => h) (yieldsIf_load_mid (by rfl) _ _ rfl g 0 rfl (cellsOf s) _ (fun w0 hSw => RS.out _ hSw) Tryd.underlying23 rfl SZSL.out) (by assumption) ?_
    simp only [List.setIfInBounds_toArray, List.set_cons_zero, List.set_cons_succ]
    refine take_at (i := 22) (v := ?_) rfl rfl (by kernel_rfl) (by kernel_rfl) (by kernel_rfl) (fun _ _ _ h => h) (Or.inl ⟨by rfl, ?_⟩) (by assumption) ?_
    rotate_left
    · intro w0 hSw; (try dsimp only at hSw); first | (go_simp; done) | (go_simp; with_reducible rfl)
    simp only [List.setIfInBounds_toArray, List.set_cons_zero, List.set_cons_succ]
    refine wpAnyH_ready (rs := [21, 23]) (by kernel_rfl) (by simp) ?_
    refine AllReadyH.cons rfl (fun K hK => ?_) ?_
    · go_simp
      go_wp2_with ((go_at_call 15; (with_reducible refine (HHI.out _ (bthen HB8.out hHeld)).mono ?_); rintro e y21 ⟨rfl, hb⟩; have HBy21 := Lib.hid hb; clear hb))
      refine hK.out _ _ (by (try dsimp only); exact hHeld.trans (HBy21.out.mono hHeld.size)) (fun hHeld => ?_)
      clear hK K
      refine wpAnyH_ready (rs := [23]) (by kernel_rfl) (by simp) ?_
      refine AllReadyH.cons rfl (fun K hK => ?_) ?_
      · refine step_row16 (d := 78) rfl (by rfl) rfl (by rfl) ?_
        intro py23 y23 hp hh hb
        have HHy23 := Lib.hid hh
        have HWy23 := Lib.hid hHeld
        have HBy23 := Lib.hid hb
        clear hp hh hb
        refine hK.out _ _ (by (try dsimp only); exact hHeld.trans (HBy23.out.mono hHeld.size)) (fun hHeld => ?_)
        clear hK K
        refine wpAnyH_ready (rs := [24]) (by kernel_rfl) (by simp) ?_
        refine AllReadyH.cons rfl (fun K hK => ?_) ?_
        · go_simp
          go_wp2_with ((go_at_call 12; (with_reducible refine (HJ1.out _ _ _ _ _ (HK.out.below (bthen HB8.out hHeld)) HHy23.out (row_all (keep hHeld H18.out) 32 HS.out.symm (by omega))).mono ?_); rintro e y24 ⟨rfl, hb⟩; have HBy24 := Lib.hid hb; clear hb))
          refine hK.out _ _ (by (try dsimp only); exact hHeld.trans (HBy24.out.mono hHeld.size)) (fun hHeld => ?_)
          clear hK K
          refine take_at (i := 25) rfl rfl (by kernel_rfl) (by kernel_rfl) (by kernel_rfl) (fun _ _ _ h => h) (yields_eql (by rfl) rfl rfl rfl HX1L.out HX1L.out true (by simp)) (by assumption) ?_
          simp only [List.setIfInBounds_toArray, List.set_cons_zero, List.set_cons_succ]
          refine take_at (i := 26) (v := ?_) rfl rfl (by kernel_rfl) (by kernel_rfl) (by kernel_rfl) (fun _ _ _ h => h) (Or.inl ⟨by rfl, ?_⟩) (by assumption) ?_
          rotate_left
          · intro w0 hSw; (try dsimp only at hSw); first | (go_simp; done) | (go_simp; with_reducible rfl)
          simp only [List.setIfInBounds_toArray, List.set_cons_zero, List.set_cons_succ]
          refine take_at (i := 27) (v := ?_) rfl rfl (by kernel_rfl) (by kernel_rfl) (by kernel_rfl) (fun _ _ _ h => h) (Or.inl ⟨by rfl, ?_⟩) (by assumption) ?_
          rotate_left
          · intro w0 hSw; (try dsimp only at hSw); first | (go_simp; done) | (go_simp; with_reducible rfl)
          simp only [List.setIfInBounds_toArray, List.set_cons_zero, List.set_cons_succ]
          refine take_at (i := 28) (v := ?_) rfl rfl (by kernel_rfl) (by kernel_rfl) (by kernel_rfl) (fun _ _ _ h => h) (Or.inl ⟨by rfl, ?_⟩) (by assumption) ?_
          rotate_left
          · intro w0 hSw; (try dsimp only at hSw); first | (go_simp; done) | (go_simp; with_reducible rfl)
          simp only [List.setIfInBounds_toArray, List.set_cons_zero, List.set_cons_succ]
          refine take_at (i := 30) (v := ?_) rfl rfl (by kernel_rfl) (by kernel_rfl) (by kernel_rfl) (fun _ _ _ h => h) (Or.inl ⟨by rfl, ?_⟩) (by assumption) ?_
          rotate_left
          · intro w0 hSw; (try dsimp only at hSw); first | (go_simp; done) | (go_simp; with_reducible rfl)
          simp only [List.setIfInBounds_toArray, List.set_cons_zero, List.set_cons_succ]
          refine wpAnyH_ready (rs := [29, 31]) (by kernel_rfl) (by simp) ?_
          refine AllReadyH.cons rfl (fun K hK => ?_) ?_
          · go_simp
            go_wp2_with ((go_at_call 16; (with_reducible refine (HMK.out _ _ _ (bthen HB8.out hHeld) (HR38.out.below hHeld)).mono ?_); rintro e y29 ⟨rfl, hb⟩; have HBy29 := Lib.hid hb; clear hb))
            refine hK.out _ _ (by (try dsimp only); exact hHeld.trans (HBy29.out.mono hHeld.size)) (fun hHeld => ?_)
            clear hK K
            refine wpAnyH_ready (rs := [31]) (by kernel_rfl) (by simp) ?_
            refine AllReadyH.cons rfl (fun K hK => ?_) ?_
            · refine step_row16 (d := 86) rfl (by rfl) rfl (by rfl) ?_
              intro py31 y31 hp hh hb
              have HHy31 := Lib.hid hh
              have HWy31 := Lib.hid hHeld
              have HBy31 := Lib.hid hb
              clear hp hh hb
              refine hK.out _ _ (by (try dsimp only); exact hHeld.trans (HBy31.out.mono hHeld.size)) (fun hHeld => ?_)
              clear hK K
              refine wpAnyH_ready (rs := [32]) (by kernel_rfl) (by simp) ?_
              refine AllReadyH.cons rfl (fun K hK => ?_) ?_
              · go_simp
                go_wp2_with ((go_at_call 12; (with_reducible refine (HJ3.out _ _ _ _ _ (HK.out.below (bthen HB8.out hHeld)) HHy31.out (HR38.out.below hHeld)).mono ?_); rintro e y32 ⟨rfl, hb⟩; have HBy32 := Lib.hid hb; clear hb))
                refine hK.out _ _ (by (try dsimp only); exact hHeld.trans (HBy32.out.mono hHeld.size)) (fun hHeld => ?_)
                clear hK K
                refine take_at (i := 33) rfl rfl (by kernel_rfl) (by kernel_rfl) (by kernel_rfl) (fun _ _ _ h => h) (yields_eql (by rfl) rfl rfl rfl HX3L.out HX3L.out true (by simp)) (by assumption) ?_
                simp only [List.setIfInBounds_toArray, List.set_cons_zero, List.set_cons_succ]
                refine take_at (i := 34) (v := ?_) rfl rfl (by kernel_rfl) (by kernel_rfl) (by kernel_rfl) (fun _ _ _ h => h) (Or.inl ⟨by rfl, ?_⟩) (by assumption) ?_
                rotate_left
                · intro w0 hSw; (try dsimp only at hSw); first | (go_simp; done) | (go_simp; with_reducible rfl)
                simp only [List.setIfInBounds_toArray, List.set_cons_zero, List.set_cons_succ]
                refine take_at (i := 35) (v := ?_) rfl rfl (by kernel_rfl) (by kernel_rfl) (by kernel_rfl) (fun _ _ _ h => h) (Or.inl ⟨by rfl, ?_⟩) (by assumption) ?_
                rotate_left
                · intro w0 hSw; (try dsimp only at hSw); first | (go_simp; done) | (go_simp; with_reducible rfl)
                simp only [List.setIfInBounds_toArray, List.set_cons_zero, List.set_cons_succ]
                refine wpAnyH_ready (rs := [36]) (by kernel_rfl) (by simp) ?_
                refine AllReadyH.cons rfl (fun K hK => ?_) ?_
                · go_simp
                  go_wp2_with ((go_at_call 8; (with_reducible refine (HAW.out _ (bthen HB8.out hHeld)).mono ?_); rintro e y36 ⟨rfl, hb⟩; have HBy36 := Lib.hid hb; clear hb))
                  refine hK.out _ _ (by (try dsimp only); exact hHeld.trans (HBy36.out.mono hHeld.size)) (fun hHeld => ?_)
                  clear hK K
                  refine take_at (i := 37) (v := ?_) rfl rfl (by kernel_rfl) (by kernel_rfl) (by kernel_rfl) (fun _ _ _ h => h) (Or.inl ⟨by rfl, ?_⟩) (by assumption) ?_
                  rotate_left
                  · intro w0 hSw; (try dsimp only at hSw); first | (go_simp; done) | (go_simp; with_reducible rfl)
                  simp only [List.setIfInBounds_toArray, List.set_cons_zero, List.set_cons_succ]
                  refine take_at (i := 38) (v := ?_) rfl rfl (by kernel_rfl) (by kernel_rfl) (by kernel_rfl) (fun _ _ _ h => h) (Or.inl ⟨by rfl, ?_⟩) (by assumption) ?_
                  rotate_left
                  · intro w0 hSw; (try dsimp only at hSw); first | (go_simp; done) | (go_simp; with_reducible rfl)
                  simp only [List.setIfInBounds_toArray, List.set_cons_zero, List.set_cons_succ]
                  refine wpAnyH_done (by kernel_rfl) ?_ _
                  have HST := Lib.hid (show Below w8.heap.size w8 y36 from hHeld)
                  clear hHeld
                  go_wp2_with fail
                  go_ret
                  exact ⟨rfl, bthen HB8.out HST.out⟩
                exact AllReadyH.nil
              exact AllReadyH.nil
            exact AllReadyH.nil
          refine AllReadyH.cons rfl (fun K hK => ?_) ?_
          · refine step_row16 (d := 86) rfl (by rfl) rfl (by rfl) ?_
            intro py31 y31 hp hh hb
            have HHy31 := Lib.hid hh
            have HWy31 := Lib.hid hHeld
            have HBy31 := Lib.hid hb
            clear hp hh hb
            refine hK.out _ _ (by (try dsimp only); exact hHeld.trans (HBy31.out.mono hHeld.size)) (fun hHeld => ?_)
            clear hK K
            refine wpAnyH_ready (rs := [29]) (by kernel_rfl) (by simp) ?_
            refine AllReadyH.cons rfl (fun K hK => ?_) ?_
            · go_simp
              go_wp2_with ((go_at_call 16; (with_reducible refine (HMK.out _ _ _ (bthen HB8.out hHeld) (HR38.out.below hHeld)).mono ?_); rintro e y29 ⟨rfl, hb⟩; have HBy29 := Lib.hid hb; clear hb))
              refine hK.out _ _ (by (try dsimp only); exact hHeld.trans (HBy29.out.mono hHeld.size)) (fun hHeld => ?_)
              clear hK K
              refine wpAnyH_ready (rs := [32]) (by kernel_rfl) (by simp) ?_
              refine AllReadyH.cons rfl (fun K hK => ?_) ?_
              · go_simp
                go_wp2_with ((go_at_call 12; (with_reducible refine (HJ3.out _ _ _ _ _ (HK.out.below (bthen HB8.out hHeld)) (keep HBy29.out HHy31.out) (HR38.out.below hHeld)).mono ?_); rintro e y32 ⟨rfl, hb⟩; have HBy32 := Lib.hid hb; clear hb))
                refine hK.out _ _ (by (try dsimp only); exact hHeld.trans (HBy32.out.mono hHeld.size)) (fun hHeld => ?_)
                clear hK K
                refine take_at (i := 33) rfl rfl (by kernel_rfl) (by kernel_rfl) (by kernel_rfl) (fun _ _ _ h => h) (yields_eql (by rfl) rfl rfl rfl HX3L.out HX3L.out true (by simp)) (by assumption) ?_
                simp only [List.setIfInBounds_toArray, List.set_cons_zero, List.set_cons_succ]
                refine take_at (i := 34) (v := ?_) rfl rfl (by kernel_rfl) (by kernel_rfl) (by kernel_rfl) (fun _ _ _ h => h) (Or.inl ⟨by rfl, ?_⟩) (by assumption) ?_
                rotate_left
                · intro w0 hSw; (try dsimp only at hSw); first | (go_simp; done) | (go_simp; with_reducible rfl)
                simp only [List.setIfInBounds_toArray, List.set_cons_zero, List.set_cons_succ]
                refine take_at (i := 35) (v := ?_) rfl rfl (by kernel_rfl) (by kernel_rfl) (by kernel_rfl) (fun _ _ _ h => h) (Or.inl ⟨by rfl, ?_⟩) (by assumption) ?_
                rotate_left
                · intro w0 hSw; (try dsimp only at hSw); first | (go_simp; done) | (go_simp; with_reducible rfl)
                simp only [List.setIfInBounds_toArray, List.set_cons_zero, List.set_cons_succ]
                refine wpAnyH_ready (rs := [36]) (by kernel_rfl) (by simp) ?_
                refine AllReadyH.cons rfl (fun K hK => ?_) ?_
                · go_simp
                  go_wp2_with ((go_at_call 8; (with_reducible refine (HAW.out _ (bthen HB8.out hHeld)).mono ?_); rintro e y36 ⟨rfl, hb⟩; have HBy36 := Lib.hid hb; clear hb))
                  refine hK.out _ _ (by (try dsimp only); exact hHeld.trans (HBy36.out.mono hHeld.size)) (fun hHeld => ?_)
                  clear hK K
                  refine take_at (i := 37) (v := ?_) rfl rfl (by kernel_rfl) (by kernel_rfl) (by kernel_rfl) (fun _ _ _ h => h) (Or.inl ⟨by rfl, ?_⟩) (by assumption) ?_
                  rotate_left
                  · intro w0 hSw; (try dsimp only at hSw); first | (go_simp; done) | (go_simp; with_reducible rfl)
                  simp only [List.setIfInBounds_toArray, List.set_cons_zero, List.set_cons_succ]
                  refine take_at (i := 38) (v := ?_) rfl rfl (by kernel_rfl) (by kernel_rfl) (by kernel_rfl) (fun _ _ _ h => h) (Or.inl ⟨by rfl, ?_⟩) (by assumption) ?_
                  rotate_left
                  · intro w0 hSw; (try dsimp only at hSw); first | (go_simp; done) | (go_simp; with_reducible rfl)
                  simp only [List.setIfInBounds_toArray, List.set_cons_zero, List.set_cons_succ]
                  refine wpAnyH_done (by kernel_rfl) ?_ _
                  have HST := Lib.hid (show Below w8.heap.size w8 y36 from hHeld)
                  clear hHeld
                  go_wp2_with fail
                  go_ret
                  exact ⟨rfl, bthen HB8.out HST.out⟩
                exact AllReadyH.nil
              exact AllReadyH.nil
            exact AllReadyH.nil
          exact AllReadyH.nil
        exact AllReadyH.nil
      exact AllReadyH.nil
    refine AllReadyH.cons rfl (fun K hK => ?_) ?_
    · refine step_row16 (d := 78) rfl (by rfl) rfl (by rfl) ?_
      intro py23 y23 hp hh hb
      have HHy23 := Lib.hid hh
      have HWy23 := Lib.hid hHeld
      have HBy23 := Lib.hid hb
      clear hp hh hb
      refine hK.out _ _ (by (try dsimp only); exact hHeld.trans (HBy23.out.mono hHeld.size)) (fun hHeld => ?_)
      clear hK K
      refine wpAnyH_ready (rs := [21]) (by kernel_rfl) (by simp) ?_
      refine AllReadyH.cons rfl (fun K hK => ?_) ?_
      · go_simp
        go_wp2_with ((go_at_call 15; (with_reducible refine (HHI.out _ (bthen HB8.out hHeld)).mono ?_); rintro e y21 ⟨rfl, hb⟩; have HBy21 := Lib.hid hb; clear hb))
        refine hK.out _ _ (by (try dsimp only); exact hHeld.trans (HBy21.out.mono hHeld.size)) (fun hHeld => ?_)
        clear hK K
        refine wpAnyH_ready (rs := [24]) (by kernel_rfl) (by simp) ?_
        refine AllReadyH.cons rfl (fun K hK => ?_) ?_
        · go_simp
          go_wp2_with ((go_at_call 12; (with_reducible refine (HJ1.out _ _ _ _ _ (HK.out.below (bthen HB8.out hHeld)) (keep HBy21.out HHy23.out) (row_all (keep hHeld H18.out) 32 HS.out.symm (by omega))).mono ?_); rintro e y24 ⟨rfl, hb⟩; have HBy24 := Lib.hid hb; clear hb))
          refine hK.out _ _ (by (try dsimp only); exact hHeld.trans (HBy24.out.mono hHeld.size)) (fun hHeld => ?_)
          clear hK K
          refine take_at (i := 25) rfl rfl (by kernel_rfl) (by kernel_rfl) (by kernel_rfl) (fun _ _ _ h => h) (yields_eql (by rfl) rfl rfl rfl HX1L.out HX1L.out true (by simp)) (by assumption) ?_
          simp only [List.setIfInBounds_toArray, List.set_cons_zero, List.set_cons_succ]
          refine take_at (i := 26) (v := ?_) rfl rfl (by kernel_rfl) (by kernel_rfl) (by kernel_rfl) (fun _ _ _ h => h) (Or.inl ⟨by rfl, ?_⟩) (by assumption) ?_
          rotate_left
          · intro w0 hSw; (try dsimp only at hSw); first | (go_simp; done) | (go_simp; with_reducible rfl)
          simp only [List.setIfInBounds_toArray, List.set_cons_zero, List.set_cons_succ]
          refine take_at (i := 27) (v := ?_) rfl rfl (by kernel_rfl) (by kernel_rfl) (by kernel_rfl) (fun _ _ _ h => h) (Or.inl ⟨by rfl, ?_⟩) (by assumption) ?_
          rotate_left
          · intro w0 hSw; (try dsimp only at hSw); first | (go_simp; done) | (go_simp; with_reducible rfl)
          simp only [List.setIfInBounds_toArray, List.set_cons_zero, List.set_cons_succ]
          refine take_at (i := 28) (v := ?_) rfl rfl (by kernel_rfl) (by kernel_rfl) (by kernel_rfl) (fun _ _ _ h => h) (Or.inl ⟨by rfl, ?_⟩) (by assumption) ?_
          rotate_left
          · intro w0 hSw; (try dsimp only at hSw); first | (go_simp; done) | (go_simp; with_reducible rfl)
          simp only [List.setIfInBounds_toArray, List.set_cons_zero, List.set_cons_succ]
          refine take_at (i := 30) (v := ?_) rfl rfl (by kernel_rfl) (by kernel_rfl) (by kernel_rfl) (fun _ _ _ h => h) (Or.inl ⟨by rfl, ?_⟩) (by assumption) ?_
          rotate_left
          · intro w0 hSw; (try dsimp only at hSw); first | (go_simp; done) | (go_simp; with_reducible rfl)
          simp only [List.setIfInBounds_toArray, List.set_cons_zero, List.set_cons_succ]
          refine wpAnyH_ready (rs := [29, 31]) (by kernel_rfl) (by simp) ?_
          refine AllReadyH.cons rfl (fun K hK => ?_) ?_
          · go_simp
            go_wp2_with ((go_at_call 16; (with_reducible refine (HMK.out _ _ _ (bthen HB8.out hHeld) (HR38.out.below hHeld)).mono ?_); rintro e y29 ⟨rfl, hb⟩; have HBy29 := Lib.hid hb; clear hb))
            refine hK.out _ _ (by (try dsimp only); exact hHeld.trans (HBy29.out.mono hHeld.size)) (fun hHeld => ?_)
            clear hK K
            refine wpAnyH_ready (rs := [31]) (by kernel_rfl) (by simp) ?_
            refine AllReadyH.cons rfl (fun K hK => ?_) ?_
            · refine step_row16 (d := 86) rfl (by rfl) rfl (by rfl) ?_
              intro py31 y31 hp hh hb
              have HHy31 := Lib.hid hh
              have HWy31 := Lib.hid hHeld
              have HBy31 := Lib.hid hb
              clear hp hh hb
              refine hK.out _ _ (by (try dsimp only); exact hHeld.trans (HBy31.out.mono hHeld.size)) (fun hHeld => ?_)
              clear hK K
              refine wpAnyH_ready (rs := [32]) (by kernel_rfl) (by simp) ?_
              refine AllReadyH.cons rfl (fun K hK => ?_) ?_
              · go_simp
                go_wp2_with ((go_at_call 12; (with_reducible refine (HJ3.out _ _ _ _ _ (HK.out.below (bthen HB8.out hHeld)) HHy31.out (HR38.out.below hHeld)).mono ?_); rintro e y32 ⟨rfl, hb⟩; have HBy32 := Lib.hid hb; clear hb))
                refine hK.out _ _ (by (try dsimp only); exact hHeld.trans (HBy32.out.mono hHeld.size)) (fun hHeld => ?_)
                clear hK K
                refine take_at (i := 33) rfl rfl (by kernel_rfl) (by kernel_rfl) (by kernel_rfl) (fun _ _ _ h => h) (yields_eql (by rfl) rfl rfl rfl HX3L.out HX3L.out true (by simp)) (by assumption) ?_
                simp only [List.setIfInBounds_toArray, List.set_cons_zero, List.set_cons_succ]
                refine take_at (i := 34) (v := ?_) rfl rfl (by kernel_rfl) (by kernel_rfl) (by kernel_rfl) (fun _ _ _ h => h) (Or.inl ⟨by rfl, ?_⟩) (by assumption) ?_
                rotate_left
                · intro w0 hSw; (try dsimp only at hSw); first | (go_simp; done) | (go_simp; with_reducible rfl)
                simp only [List.setIfInBounds_toArray, List.set_cons_zero, List.set_cons_succ]
                refine take_at (i := 35) (v := ?_) rfl rfl (by kernel_rfl) (by kernel_rfl) (by kernel_rfl) (fun _ _ _ h => h) (Or.inl ⟨by rfl, ?_⟩) (by assumption) ?_
                rotate_left
                · intro w0 hSw; (try dsimp only at hSw); first | (go_simp; done) | (go_simp; with_reducible rfl)
                simp only [List.setIfInBounds_toArray, List.set_cons_zero, List.set_cons_succ]
                refine wpAnyH_ready (rs := [36]) (by kernel_rfl) (by simp) ?_
                refine AllReadyH.cons rfl (fun K hK => ?_) ?_
                · go_simp
                  go_wp2_with ((go_at_call 8; (with_reducible refine (HAW.out _ (bthen HB8.out hHeld)).mono ?_); rintro e y36 ⟨rfl, hb⟩; have HBy36 := Lib.hid hb; clear hb))
                  refine hK.out _ _ (by (try dsimp only); exact hHeld.trans (HBy36.out.mono hHeld.size)) (fun hHeld => ?_)
                  clear hK K
                  refine take_at (i := 37) (v := ?_) rfl rfl (by kernel_rfl) (by kernel_rfl) (by kernel_rfl) (fun _ _ _ h => h) (Or.inl ⟨by rfl, ?_⟩) (by assumption) ?_
                  rotate_left
                  · intro w0 hSw; (try dsimp only at hSw); first | (go_simp; done) | (go_simp; with_reducible rfl)
                  simp only [List.setIfInBounds_toArray, List.set_cons_zero, List.set_cons_succ]
                  refine take_at (i := 38) (v := ?_) rfl rfl (by kernel_rfl) (by kernel_rfl) (by kernel_rfl) (fun _ _ _ h => h) (Or.inl ⟨by rfl, ?_⟩) (by assumption) ?_
                  rotate_left
                  · intro w0 hSw; (try dsimp only at hSw); first | (go_simp; done) | (go_simp; with_reducible rfl)
                  simp only [List.setIfInBounds_toArray, List.set_cons_zero, List.set_cons_succ]
                  refine wpAnyH_done (by kernel_rfl) ?_ _
                  have HST := Lib.hid (show Below w8.heap.size w8 y36 from hHeld)
                  clear hHeld
                  go_wp2_with fail
                  go_ret
                  exact ⟨rfl, bthen HB8.out HST.out⟩
                exact AllReadyH.nil
              exact AllReadyH.nil
            exact AllReadyH.nil
          refine AllReadyH.cons rfl (fun K hK => ?_) ?_
          · refine step_row16 (d := 86) rfl (by rfl) rfl (by rfl) ?_
            intro py31 y31 hp hh hb
            have HHy31 := Lib.hid hh
            have HWy31 := Lib.hid hHeld
            have HBy31 := Lib.hid hb
            clear hp hh hb
            refine hK.out _ _ (by (try dsimp only); exact hHeld.trans (HBy31.out.mono hHeld.size)) (fun hHeld => ?_)
            clear hK K
            refine wpAnyH_ready (rs := [29]) (by kernel_rfl) (by simp) ?_
            refine AllReadyH.cons rfl (fun K hK => ?_) ?_
            · go_simp
              go_wp2_with ((go_at_call 16; (with_reducible refine (HMK.out _ _ _ (bthen HB8.out hHeld) (HR38.out.below hHeld)).mono ?_); rintro e y29 ⟨rfl, hb⟩; have HBy29 := Lib.hid hb; clear hb))
              refine hK.out _ _ (by (try dsimp only); exact hHeld.trans (HBy29.out.mono hHeld.size)) (fun hHeld => ?_)
              clear hK K
              refine wpAnyH_ready (rs := [32]) (by kernel_rfl) (by simp) ?_
              refine AllReadyH.cons rfl (fun K hK => ?_) ?_
              · go_simp
                go_wp2_with ((go_at_call 12; (with_reducible refine (HJ3.out _ _ _ _ _ (HK.out.below (bthen HB8.out hHeld)) (keep HBy29.out HHy31.out) (HR38.out.below hHeld)).mono ?_); rintro e y32 ⟨rfl, hb⟩; have HBy32 := Lib.hid hb; clear hb))
                refine hK.out _ _ (by (try dsimp only); exact hHeld.trans (HBy32.out.mono hHeld.size)) (fun hHeld => ?_)
                clear hK K
                refine take_at (i := 33) rfl rfl (by kernel_rfl) (by kernel_rfl) (by kernel_rfl) (fun _ _ _ h => h) (yields_eql (by rfl) rfl rfl rfl HX3L.out HX3L.out true (by simp)) (by assumption) ?_
                simp only [List.setIfInBounds_toArray, List.set_cons_zero, List.set_cons_succ]
                refine take_at (i := 34) (v := ?_) rfl rfl (by kernel_rfl) (by kernel_rfl) (by kernel_rfl) (fun _ _ _ h => h) (Or.inl ⟨by rfl, ?_⟩) (by assumption) ?_
                rotate_left
                · intro w0 hSw; (try dsimp only at hSw); first | (go_simp; done) | (go_simp; with_reducible rfl)
                simp only [List.setIfInBounds_toArray, List.set_cons_zero, List.set_cons_succ]
                refine take_at (i := 35) (v := ?_) rfl rfl (by kernel_rfl) (by kernel_rfl) (by kernel_rfl) (fun _ _ _ h => h) (Or.inl ⟨by rfl, ?_⟩) (by assumption) ?_
                rotate_left
                · intro w0 hSw; (try dsimp only at hSw); first | (go_simp; done) | (go_simp; with_reducible rfl)
                simp only [List.setIfInBounds_toArray, List.set_cons_zero, List.set_cons_succ]
                refine wpAnyH_ready (rs := [36]) (by kernel_rfl) (by simp) ?_
                refine AllReadyH.cons rfl (fun K hK => ?_) ?_
                · go_simp
                  go_wp2_with ((go_at_call 8; (with_reducible refine (HAW.out _ (bthen HB8.out hHeld)).mono ?_); rintro e y36 ⟨rfl, hb⟩; have HBy36 := Lib.hid hb; clear hb))
                  refine hK.out _ _ (by (try dsimp only); exact hHeld.trans (HBy36.out.mono hHeld.size)) (fun hHeld => ?_)
                  clear hK K
                  refine take_at (i := 37) (v := ?_) rfl rfl (by kernel_rfl) (by kernel_rfl) (by kernel_rfl) (fun _ _ _ h => h) (Or.inl ⟨by rfl, ?_⟩) (by assumption) ?_
                  rotate_left
                  · intro w0 hSw; (try dsimp only at hSw); first | (go_simp; done) | (go_simp; with_reducible rfl)
                  simp only [List.setIfInBounds_toArray, List.set_cons_zero, List.set_cons_succ]
                  refine take_at (i := 38) (v := ?_) rfl rfl (by kernel_rfl) (by kernel_rfl) (by kernel_rfl) (fun _ _ _ h => h) (Or.inl ⟨by rfl, ?_⟩) (by assumption) ?_
                  rotate_left
                  · intro w0 hSw; (try dsimp only at hSw); first | (go_simp; done) | (go_simp; with_reducible rfl)
                  simp only [List.setIfInBounds_toArray, List.set_cons_zero, List.set_cons_succ]
                  refine wpAnyH_done (by kernel_rfl) ?_ _
                  have HST := Lib.hid (show Below w8.heap.size w8 y36 from hHeld)
                  clear hHeld
                  go_wp2_with fail
                  go_ret
                  exact ⟨rfl, bthen HB8.out HST.out⟩
                exact AllReadyH.nil
              exact AllReadyH.nil
            exact AllReadyH.nil
          exact AllReadyH.nil
        exact AllReadyH.nil
      exact AllReadyH.nil
    exact AllReadyH.nil
  exact AllReadyH.nil
end Go.Proofs.YtnepcjnnlfhplaaDoor
