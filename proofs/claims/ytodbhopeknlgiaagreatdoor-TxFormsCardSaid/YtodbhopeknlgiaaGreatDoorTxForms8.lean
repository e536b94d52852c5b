/- TxForms, walked. -/
import Derived.Test.YtodbhopeknlgiaaGreatDoorAwake8
import Derived.Test.YtodbhopeknlgiaaGreatDoorLaw8Small
import Derived.Test.YtodbhopeknlgiaaGreatDoorLaw8Right
import Derived.Test.YtodbhopeknlgiaaGreatDoorLaw8Front
import Derived.Test.YtodbhopeknlgiaaGreatDoorMemory
namespace Go.Proofs.YtodbhopeknlgiaaGreatDoor
open Go.RowKit

theorem Tryz.zeroRow8 : (Tryz.prog.info? 26).map (fun i => (i.zero, i.size, i.bytes)) = some (some (.slice none 0 0), 1, 24) := by kernel_rfl
/-- A slice literal of one slice of bytes, in a region. -/
theorem step_row8 {ops : Array Oper} {o : Oper} {tmps : Array Value} {ds : List Deferred} {w : World} {K : Act → World → Prop} {Q : Exit → Act → World → Prop} {E : Prop} {d : Nat} {x : Operand} {a : Option Addr} {n c : Nat} (hd : o.dst = some d) (hw : Region.wanted o (yielded ops tmps) = true) (ho : o.op = .buildSlice 73 1 #[(0, x)])
    (hx : Act.eval { tmps := tmps, defers := ds } x = .slice a n c)
    (h : ∀ (p : Nat) (w' : World), w.heap.size ≤ p → w'.heap[p]? = some (.cells #[.slice a n c] 26 (0, 0)) → Below w.heap.size w w' → K { tmps := tmps.setIfInBounds d (.slice (some ⟨p, 0, none⟩) 1 1), defers := ds } w') :
    if Region.wanted o (yielded ops tmps) = true then Oper.wp Tryz.prog o { tmps := tmps, defers := ds } w K Q else E := by
  rw [if_pos hw]
  obtain ⟨ie, h1, h2, h3, _⟩ := info_parts Tryz.zeroRow8
  have hrun : (Instr.buildSlice 73 1 #[(0, .slice a n c)]).run Tryz.prog w = .ok (.slice (some ⟨w.heap.size, 0, none⟩) 1 1) (w.alloc (.cells #[.slice a n c] 26)) :=
    run_buildSlice w 73 26 1 _ _ ie _ Tryz.underlying73 h1 h2 (by rw [h3]; omega) (by rw [h3]; omega) (by rw [h3]; simp [Instr.fill, Value.cells]; rw [show Array.range 1 = #[0] by rfl]; simp)
  unfold Oper.wp execOp
  simp only [ho, List.map_toArray, List.map_cons, List.map_nil, hx, Sem.run_bind, hrun, Sem.run_pure, Result.andThen_ok]
  show K (Act.put _ o.dst _) _
  rw [hd]
  exact h _ _ (Nat.le_refl _) (heap_alloc_new _ _) ((Below.refl _ _).alloc (Nat.le_refl _) _)
/-- What is small has a front of few bytes. -/
theorem small_few {w : World} {x : PTx} (sh : Bool) (h : TxIn w x) (hs : smallT x = true) : FrontFew sh x := by
  unfold smallT at hs
  simp only [Bool.and_eq_true, decide_eq_true_eq, List.all_eq_true] at hs
  obtain ⟨h1, h2, h3, h4, h5, h6⟩ := hs
  refine frontFew sh h h1 h2 h5 (fun y hy => ?_) (by omega)
  have h9 := h6 y hy
  unfold fewO at h9
  simp only [Bool.and_eq_true, decide_eq_true_eq, List.all_eq_true] at h9
  exact h9
/-- The bytes of a transaction that may be, front and signs. -/
theorem txB_parts {w : World} {x : PTx} (h : TxIn w x) (hk : txOk x = true) : (frontB true x).length ≤ 900000 ∧ (numB (x.sn : Int) ++ signsB x.signs).length ≤ 700 ∧ (signsB x.signs).length ≤ 656 ∧ packB x = frontB true x ++ (numB (x.sn : Int) ++ signsB x.signs) := by
  have h9 := signsB_size (xs := x.signs) (fun y hy => (show SignIn y from h.signs.2.2.2.2.1 y hy).sum)
  have h1 : x.sn ≤ 16 := (txOk_parts hk).2.2.1
  have h8 : x.signs.length * 41 ≤ 16 * 41 := Nat.mul_le_mul_right _ (by rw [h.signs.1]; exact h1)
  have h7 := numB_le (x.sn : Int)
  refine ⟨(frontOk true h hk).len, by rw [List.length_append]; omega, by omega, ?_⟩
  unfold packB
  rw [if_pos hk]
  unfold txB
  rw [h.signs.1]
theorem same_is {x y : PTx} (h1 : txOk x = true) (h2 : txOk y = true) : (txOk x && (txOk y && decide (txB x = txB y))) = decide (packB x = packB y) := by
  unfold packB
  rw [h1, h2, if_pos rfl, if_pos rfl, Bool.true_and, Bool.true_and]
theorem cat_of (l m : List UInt8) : (⟨l.toArray⟩ : ByteArray) ++ (⟨m.toArray⟩ : ByteArray) = ⟨(l ++ m).toArray⟩ := by
  apply ByteArray.ext
  simp [ByteArray.data_append]
set_option linter.unusedSimpArgs false in
set_option maxRecDepth 100000 in
set_option maxHeartbeats 25600000 in
theorem txForms_walk {w : World} {x y : PTx} (hx : TxIn w x) (hy : TxIn w y) (hk : KsAt w) :
    Calls Tryz.prog 3 #[.agg x.cells.toArray, .agg y.cells.toArray] w fun e w' => e = .returned (.bool true) ∧ Below w.heap.size w w' := by
  have b1 : Below w.heap.size w ((w.alloc (.cells x.cells.toArray 31)).alloc (.cells y.cells.toArray 31)) := ((Below.refl _ _).alloc (Nat.le_refl _) _).alloc (by simp) _
  have h1 : ((w.alloc (.cells x.cells.toArray 31)).alloc (.cells y.cells.toArray 31)).heap[w.heap.size]? = some (.cells x.cells.toArray 31 (0, 0)) := by
    rw [heap_alloc_old _ _ (by simp), heap_alloc_new]
  have h2 : ((w.alloc (.cells x.cells.toArray 31)).alloc (.cells y.cells.toArray 31)).heap[w.heap.size + 1]? = some (.cells y.cells.toArray 31 (0, 0)) := heap_alloc_at _ _ _ (by simp)
  have SX := Lib.hid (tx_size hx.op.root)
  have SY := Lib.hid (tx_size hy.op.root)
  have SO := Lib.hid (op_size hx.op.root)
  have HRO := Lib.hid hx.op.root
  have HX := Lib.hid hx
  have HY := Lib.hid hy
  have HK := Lib.hid hk
  have HAW := Lib.hid (fun (W : World) (hW : Below w.heap.size w W) => awake8_any (hk.below hW))
  clear hx hy hk
  go_enter Tryz.func3, Tryz.ntmps3
  go_upto_region 1 with (fail)
  revert b1 h1 h2
  generalize ((w.alloc (.cells x.cells.toArray 31)).alloc (.cells y.cells.toArray 31)) = w1
  obtain ⟨g, hg⟩ : ∃ g, g = w.heap.size := ⟨_, rfl⟩
  rw [← hg]
  intro b1 h1 h2
  rw [hg] at b1
  have HB1 := Lib.hid b1
  have hlt := lt_of_block h1
  have hlt2 := lt_of_block h2
  have HX1 := Lib.hid (HX.out.below b1)
  have HY1 := Lib.hid (HY.out.below b1)
  have HK1 := Lib.hid (HK.out.below b1)
  have RX : Hid (∀ W : World, Below w1.heap.size w1 W → W.rangeAt g 0 x.cells) := Lib.hid (fun W hW => range_of ((hW.block g hlt).trans h1))
  have RY : Hid (∀ W : World, Below w1.heap.size w1 W → W.rangeAt (g + 1) 0 y.cells) := Lib.hid (fun W hW => range_of ((hW.block (g + 1) hlt2).trans h2))
  have HLT := Lib.hid hlt
  have RX1 := Lib.hid (RX.out _ (Below.refl _ _))
  have HSX := Lib.hid (fun (W : World) (hW : Below w1.heap.size w1 W) => small8_law (HX1.out.below hW))
  have HSY := Lib.hid (fun (W : World) (hW : Below w1.heap.size w1 W) => small8_law (HY1.out.below hW))
  clear b1 h1 h2 hg hlt hlt2 HX HY HK
  by_cases hs : smallT x = true
  rotate_left
  · rw [if_neg hs] at HSX
    clear hs
    go_wp2_with (first | (refine wpList_mid_wanted (by rfl) 31 _ rfl g 0 rfl x.cells _ RX1.out Tryz.underlying31 rfl SX.out ?_) | fail)
    refine (HSX.out _ (Below.refl _ _)).mono ?_
    rintro e w2 ⟨rfl, hb2⟩
    have HB2 := Lib.hid (HB1.out.trans (hb2.mono HB1.out.size))
    clear hb2 HSX HSY
    go_wp2_with (first | (go_at_call 6; (with_reducible refine (HAW.out _ HB2.out).mono ?_); rintro e wz ⟨rfl, hbz⟩; have HBZ := Lib.hid hbz; clear hbz) | fail)
    go_ret
    exact ⟨rfl, HB2.out.trans (HBZ.out.mono HB2.out.size)⟩
  rw [if_pos hs] at HSX
  have HF0 := Lib.hid (small_few false HX1.out hs)
  have HF1 := Lib.hid (small_few true HX1.out hs)
  clear hs
  go_wp2_with (first | (refine wpList_mid_wanted (by rfl) 31 _ rfl g 0 rfl x.cells _ RX1.out Tryz.underlying31 rfl SX.out ?_) | fail)
  refine (HSX.out _ (Below.refl _ _)).mono ?_
  rintro e w2 ⟨rfl, hb2⟩
  have HB2 := Lib.hid hb2
  have RY2 := Lib.hid (RY.out _ hb2)
  clear hb2 HSX RX1
  by_cases hs : smallT y = true
  rotate_left
  · rw [if_neg hs] at HSY
    clear hs
    go_wp2_with (first | (refine wpList_mid_wanted (by rfl) 31 _ rfl (g + 1) 0 rfl y.cells _ RY2.out Tryz.underlying31 rfl SY.out ?_) | fail)
    refine (HSY.out _ HB2.out).mono ?_
    rintro e w3 ⟨rfl, hb3⟩
    have HB3 := Lib.hid (HB1.out.trans ((HB2.out.trans (hb3.mono HB2.out.size)).mono HB1.out.size))
    clear hb3 HSY
    go_wp2_with (first | (go_at_call 6; (with_reducible refine (HAW.out _ HB3.out).mono ?_); rintro e wz ⟨rfl, hbz⟩; have HBZ := Lib.hid hbz; clear hbz) | fail)
    go_ret
    exact ⟨rfl, HB3.out.trans (HBZ.out.mono HB3.out.size)⟩
  rw [if_pos hs] at HSY
  clear hs
  go_wp2_with (first | (refine wpList_mid_wanted (by rfl) 31 _ rfl (g + 1) 0 rfl y.cells _ RY2.out Tryz.underlying31 rfl SY.out ?_) | fail)
  refine (HSY.out _ HB2.out).mono ?_
  rintro e w3 ⟨rfl, hb3⟩
  have HB3 := Lib.hid (HB2.out.trans (hb3.mono HB2.out.size))
  clear hb3 HSY RY2 HB2
  -- what each function tells
  obtain ⟨kx, hkx⟩ : ∃ k, txOk x = k := ⟨_, rfl⟩
  obtain ⟨ky, hky⟩ : ∃ k, txOk y = k := ⟨_, rfl⟩
  obtain ⟨ko, hko⟩ : ∃ k, opOk x.op = k := ⟨_, rfl⟩
  obtain ⟨F, hF⟩ : ∃ F, frontB false x = F := ⟨_, rfl⟩
  obtain ⟨ex, hex⟩ : ∃ E, packE x = E := ⟨_, rfl⟩
  obtain ⟨ey, hey⟩ : ∃ E, packE y = E := ⟨_, rfl⟩
  obtain ⟨px, hpx⟩ : ∃ E, packB x = E := ⟨_, rfl⟩
  obtain ⟨py, hpy⟩ : ∃ E, packB y = E := ⟨_, rfl⟩
  obtain ⟨D, hD⟩ : ∃ D, (txOk x && (txOk y && decide (txB x = txB y))) = D := ⟨_, rfl⟩
  have HRX := Lib.hid (fun (W : World) (hW : Below w1.heap.size w1 W) => txRight_any (HX1.out.below hW))
  have HLX := Lib.hid (fun (W : World) (hW : Below w1.heap.size w1 W) => right_law (HX1.out.below hW))
  have HLY := Lib.hid (fun (W : World) (hW : Below w1.heap.size w1 W) => right_law (HY1.out.below hW))
  have HOC := Lib.hid (fun (W : World) (hW : Below w1.heap.size w1 W) => rightOp_any (HX1.out.below hW).op)
  have HOL := Lib.hid (fun (W : World) (hW : Below w1.heap.size w1 W) => rightOp_law (HX1.out.below hW).op)
  have HFL := Lib.hid (fun (W : World) (hW : Below w1.heap.size w1 W) => front_law (sh := false) (HX1.out.below hW) HF0.out.ins HF0.out.outs HF0.out.pre HF0.out.ways HF0.out.data HF0.out.len)
  have HFT := Lib.hid (fun (W : World) (hW : Below w1.heap.size w1 W) => front_law (sh := true) (HX1.out.below hW) HF1.out.ins HF1.out.outs HF1.out.pre HF1.out.ways HF1.out.data HF1.out.len)
  have HSU := Lib.hid (fun (W : World) (hW : Below w1.heap.size w1 W) => txSum_any (HX1.out.below hW) (HK1.out.below hW) HF0.out)
  have HBX := Lib.hid (fun (W : World) (hW : Below w1.heap.size w1 W) => txBytes_any (HX1.out.below hW))
  have HBY := Lib.hid (fun (W : World) (hW : Below w1.heap.size w1 W) => txBytes_any (HY1.out.below hW))
  have HSA := Lib.hid (fun (W : World) (hW : Below w1.heap.size w1 W) => txSame_any (HX1.out.below hW) (HY1.out.below hW))
  have hlen : (partsOf 41 [F]).length ≤ 1125899906842624 := by
    have := HF0.out.len
    rw [hF] at this
    unfold partsOf partOf
    simp only [List.flatMap_cons, List.flatMap_nil, List.length_cons, List.length_append, four_len, List.length_nil]
    omega
  have e : txSum x = sumOf (partsOf 41 [F]) := by unfold txSum; rw [hF]
  obtain ⟨s, hs, hsl, hj⟩ : ∃ s, sumOf (partsOf 41 [F]) = s ∧ s.length = 32 ∧ ∀ (W : World) (a : Option Addr) (n c : Nat), Rows2 W a n c [F] → KsAt W → Calls Tryz.prog 12 #[.int .u8 41, .slice a n c] W fun e w' => e = .returned (.agg (cellsOf s).toArray) ∧ Below W.heap.size W w' := ⟨_, rfl, sumOf_len _, fun W a n c hr hK => join_any 41 41 rfl hr hK hlen⟩
  rw [e, hs] at HSU
  rw [hkx] at HRX HLX
  rw [hky] at HLY
  rw [hko] at HOC HOL
  rw [hF] at HFL
  rw [hex, hpx] at HBX
  rw [hey, hpy] at HBY
  rw [hD] at HSA
  have q1 : ∀ W : World, (Op.equalIn 10000 25 (.agg (cellsOf s).toArray) (.agg (cellsOf s).toArray)).run Tryz.prog W = .ok true W := fun W => by rw [run_eqSums s s hsl hsl W]; simp
  have HJ := Lib.hid hj
  have HKX := Lib.hid hkx
  have HKY := Lib.hid hky
  have HEX := Lib.hid hex
  have HEY := Lib.hid hey
  have HPXE := Lib.hid hpx
  have HPYE := Lib.hid hpy
  have HD := Lib.hid hD
  clear hlen e hs hsl hj hF hkx hky hko hex hey hpx hpy hD HF0 HF1
  go_upto_region 3 with (fail)
  go_cut [44] from 22 to 44 (fun u w' => u = .bool false ∧ Below w1.heap.size w1 w')
  case first =>
    refine wp_region_held_drew (S := fun w' => Below w1.heap.size w1 w') (by kernel_rfl) (below_drew HB3.out) (fun hHeld => ?_)
    refine take_at (i := 0) rfl rfl (by kernel_rfl) (by kernel_rfl) (by kernel_rfl) (fun _ _ _ h => h) (yieldsIf_load_mid (by rfl) _ _ rfl g 0 rfl x.cells _ (fun w0 hSw => RX.out _ hSw) Tryz.underlying31 rfl SX.out) (by assumption) ?_
    simp only [List.setIfInBounds_toArray, List.set_cons_zero, List.set_cons_succ]
    refine take_at (i := 2) rfl rfl (by kernel_rfl) (by kernel_rfl) (by kernel_rfl) (fun _ _ _ h => h) (yieldsIf_load_mid (by rfl) _ _ rfl g 0 rfl x.cells _ (fun w0 hSw => RX.out _ hSw) Tryz.underlying31 rfl SX.out) (by assumption) ?_
    simp only [List.setIfInBounds_toArray, List.set_cons_zero, List.set_cons_succ]
    refine wpAnyH_ready (rs := [1]) (by kernel_rfl) (by simp) ?_
    refine AllReadyH.cons rfl (fun K hK => ?_) ?_
    · go_simp
      go_wp2_with ((go_at_call 7; (with_reducible refine (HRX.out _ hHeld).mono ?_); rintro e y1 ⟨rfl, hb⟩; have HBy1 := Lib.hid hb; clear hb))
      refine hK.out _ _ (by (try dsimp only); exact hHeld.trans (HBy1.out.mono hHeld.size)) (fun hHeld => ?_)
      clear hK K
      refine wpAnyH_ready (rs := [3]) (by kernel_rfl) (by simp) ?_
      refine AllReadyH.cons rfl (fun K hK => ?_) ?_
      · go_simp
        go_wp2_with ((go_at_call 8; (with_reducible refine (HLX.out _ hHeld).mono ?_); rintro e y3 ⟨rfl, hb⟩; have HBy3 := Lib.hid hb; clear hb))
        refine hK.out _ _ (by (try dsimp only); exact hHeld.trans (HBy3.out.mono hHeld.size)) (fun hHeld => ?_)
        clear hK K
        refine take_at (i := 4) (v := .bool false) rfl rfl (by kernel_rfl) (by kernel_rfl) (by kernel_rfl) (fun _ _ _ h => h) (Or.inl ⟨by rfl, ?_⟩) (by assumption) ?_
        · intro w0 hSw; (try dsimp only at hSw); cases kx <;> (go_simp; done)
        simp only [List.setIfInBounds_toArray, List.set_cons_zero, List.set_cons_succ]
        refine take_at (i := 5) (v := ?_) rfl rfl (by kernel_rfl) (by kernel_rfl) (by kernel_rfl) (fun _ _ _ h => h) (Or.inl ⟨by rfl, ?_⟩) (by assumption) ?_
        rotate_left
        · intro w0 hSw; (try dsimp only at hSw); first | (go_simp; done) | (go_simp; with_reducible rfl)
        simp only [List.setIfInBounds_toArray, List.set_cons_zero, List.set_cons_succ]
        refine take_at (i := 6) (v := ?_) rfl rfl (by kernel_rfl) (by kernel_rfl) (by kernel_rfl) (fun _ _ _ h => h) (Or.inl ⟨by rfl, ?_⟩) (by assumption) ?_
        rotate_left
        · intro w0 hSw; (try dsimp only at hSw); first | (go_simp; done) | (go_simp; with_reducible rfl)
        simp only [List.setIfInBounds_toArray, List.set_cons_zero, List.set_cons_succ]
        refine take_at (i := 7) rfl rfl (by kernel_rfl) (by kernel_rfl) (by kernel_rfl) (fun _ _ _ h => h) (yieldsIf_load_mid (by rfl) _ _ rfl g 2 rfl x.op.cells _ (fun w0 hSw => tx_op0 (RX.out _ hSw)) Tryz.underlying28 rfl SO.out) (by assumption) ?_
        simp only [List.setIfInBounds_toArray, List.set_cons_zero, List.set_cons_succ]
        refine take_at (i := 9) (v := ?_) rfl rfl (by kernel_rfl) (by kernel_rfl) (by kernel_rfl) (fun _ _ _ h => h) (Or.inl ⟨by rfl, ?_⟩) (by assumption) ?_
        rotate_left
        · intro w0 hSw; (try dsimp only at hSw); first | (go_simp; done) | (go_simp; with_reducible rfl)
        simp only [List.setIfInBounds_toArray, List.set_cons_zero, List.set_cons_succ]
        refine take_at (i := 10) rfl rfl (by kernel_rfl) (by kernel_rfl) (by kernel_rfl) (fun _ _ _ h => h) (yieldsIf_load_mid (by rfl) _ _ rfl g 2 rfl x.op.cells _ (fun w0 hSw => tx_op0 (RX.out _ hSw)) Tryz.underlying28 rfl SO.out) (by assumption) ?_
        simp only [List.setIfInBounds_toArray, List.set_cons_zero, List.set_cons_succ]
        refine wpAnyH_ready (rs := [8]) (by kernel_rfl) (by simp) ?_
        refine AllReadyH.cons rfl (fun K hK => ?_) ?_
        · go_simp
          go_wp2_with ((go_at_call 9; (with_reducible refine (HOC.out _ hHeld).mono ?_); rintro e y8 ⟨rfl, hb⟩; have HBy8 := Lib.hid hb; clear hb))
          refine hK.out _ _ (by (try dsimp only); exact hHeld.trans (HBy8.out.mono hHeld.size)) (fun hHeld => ?_)
          clear hK K
          refine wpAnyH_ready (rs := [11]) (by kernel_rfl) (by simp) ?_
          refine AllReadyH.cons rfl (fun K hK => ?_) ?_
          · go_simp
            go_wp2_with ((go_at_call 10; (with_reducible refine (HOL.out _ hHeld).mono ?_); rintro e y11 ⟨rfl, hb⟩; have HBy11 := Lib.hid hb; clear hb))
            refine hK.out _ _ (by (try dsimp only); exact hHeld.trans (HBy11.out.mono hHeld.size)) (fun hHeld => ?_)
            clear hK K
            refine take_at (i := 12) (v := .bool false) rfl rfl (by kernel_rfl) (by kernel_rfl) (by kernel_rfl) (fun _ _ _ h => h) (Or.inl ⟨by rfl, ?_⟩) (by assumption) ?_
            · intro w0 hSw; (try dsimp only at hSw); cases ko <;> (go_simp; done)
            simp only [List.setIfInBounds_toArray, List.set_cons_zero, List.set_cons_succ]
            refine take_at (i := 13) (v := ?_) rfl rfl (by kernel_rfl) (by kernel_rfl) (by kernel_rfl) (fun _ _ _ h => h) (Or.inl ⟨by rfl, ?_⟩) (by assumption) ?_
            rotate_left
            · intro w0 hSw; (try dsimp only at hSw); first | (go_simp; done) | (go_simp; with_reducible rfl)
            simp only [List.setIfInBounds_toArray, List.set_cons_zero, List.set_cons_succ]
            refine take_at (i := 14) (v := ?_) rfl rfl (by kernel_rfl) (by kernel_rfl) (by kernel_rfl) (fun _ _ _ h => h) (Or.inl ⟨by rfl, ?_⟩) (by assumption) ?_
            rotate_left
            · intro w0 hSw; (try dsimp only at hSw); first | (go_simp; done) | (go_simp; with_reducible rfl)
            simp only [List.setIfInBounds_toArray, List.set_cons_zero, List.set_cons_succ]
            refine take_at (i := 15) rfl rfl (by kernel_rfl) (by kernel_rfl) (by kernel_rfl) (fun _ _ _ h => h) (yieldsIf_load_mid (by rfl) _ _ rfl g 0 rfl x.cells _ (fun w0 hSw => RX.out _ hSw) Tryz.underlying31 rfl SX.out) (by assumption) ?_
            simp only [List.setIfInBounds_toArray, List.set_cons_zero, List.set_cons_succ]
            refine take_at (i := 17) rfl rfl (by kernel_rfl) (by kernel_rfl) (by kernel_rfl) (fun _ _ _ h => h) (yieldsIf_load_mid (by rfl) _ _ rfl g 0 rfl x.cells _ (fun w0 hSw => RX.out _ hSw) Tryz.underlying31 rfl SX.out) (by assumption) ?_
            simp only [List.setIfInBounds_toArray, List.set_cons_zero, List.set_cons_succ]
            refine wpAnyH_ready (rs := [16]) (by kernel_rfl) (by simp) ?_
            refine AllReadyH.cons rfl (fun K hK => ?_) ?_
            · go_simp
              go_wp2_with ((go_at_call 11; (with_reducible refine (HSU.out _ hHeld).mono ?_); rintro e y16 ⟨rfl, hb⟩; have HBy16 := Lib.hid hb; clear hb))
              refine hK.out _ _ (by (try dsimp only); exact hHeld.trans (HBy16.out.mono hHeld.size)) (fun hHeld => ?_)
              clear hK K
              refine wpAnyH_ready (rs := [18]) (by kernel_rfl) (by simp) ?_
              refine AllReadyH.cons rfl (fun K hK => ?_) ?_
              · go_simp
                go_wp2_with ((go_at_call 13; (with_reducible refine (HFL.out _ hHeld).mono ?_); rintro e y18 ⟨a8, n8, c8, rfl, hr, hb⟩; have HBy18 := Lib.hid hb; have HR8 := Lib.hid hr; clear hr; clear hb))
                refine hK.out _ _ (by (try dsimp only); exact hHeld.trans (HBy18.out.mono hHeld.size)) (fun hHeld => ?_)
                clear hK K
                refine wpAnyH_ready (rs := [19]) (by kernel_rfl) (by simp) ?_
                refine AllReadyH.cons rfl (fun K hK => ?_) ?_
                · refine step_row8 (d := 41) rfl (by rfl) rfl (by rfl) ?_
                  intro p y19 hp hh hb
                  have HH19 := Lib.hid hh
                  have HR9 := Lib.hid (HR8.out.below hb)
                  have HBy19 := Lib.hid hb
                  clear hp hh hb
                  refine hK.out _ _ (by (try dsimp only); exact hHeld.trans (HBy19.out.mono hHeld.size)) (fun hHeld => ?_)
                  clear hK K
                  refine wpAnyH_ready (rs := [20]) (by kernel_rfl) (by simp) ?_
                  refine AllReadyH.cons rfl (fun K hK => ?_) ?_
                  · go_simp
                    go_wp2_with ((go_at_call 12; (with_reducible refine (HJ.out _ _ _ _ (rows2_one HH19.out HR9.out) (HK1.out.below hHeld)).mono ?_); rintro e y20 ⟨rfl, hb⟩; have HBy20 := Lib.hid hb; clear hb))
                    refine hK.out _ _ (by (try dsimp only); exact hHeld.trans (HBy20.out.mono hHeld.size)) (fun hHeld => ?_)
                    clear hK K
                    refine take_at (i := 21) (v := .bool false) rfl rfl (by kernel_rfl) (by kernel_rfl) (by kernel_rfl) (fun _ _ _ h => h) (Or.inl ⟨by rfl, ?_⟩) (by assumption) ?_
                    · intro w0 hSw; (try dsimp only at hSw); first | (go_simp; done) | (go_simp; with_reducible rfl) | (go_simp; omega)
                    simp only [List.setIfInBounds_toArray, List.set_cons_zero, List.set_cons_succ]
                    refine take_at (i := 22) (v := ?_) rfl rfl (by kernel_rfl) (by kernel_rfl) (by kernel_rfl) (fun _ _ _ h => h) (Or.inl ⟨by rfl, ?_⟩) (by assumption) ?_
                    rotate_left
                    · intro w0 hSw; (try dsimp only at hSw); first | (go_simp; done) | (go_simp; with_reducible rfl)
                    simp only [List.setIfInBounds_toArray, List.set_cons_zero, List.set_cons_succ]
                    refine wpAnyH_done (by kernel_rfl) ?_ _
                    have HST := Lib.hid (show Below w1.heap.size w1 y20 from hHeld)
                    clear hHeld
                    go_wp2_with fail
                    go_meet
                    exact ⟨rfl, HST.out⟩
                  exact AllReadyH.nil
                exact AllReadyH.nil
              exact AllReadyH.nil
            exact AllReadyH.nil
          exact AllReadyH.nil
        exact AllReadyH.nil
      exact AllReadyH.nil
    exact AllReadyH.nil
  case rest =>
  obtain ⟨rfl, hb4⟩ := hcut
  have HB4 := Lib.hid hb4
  have RX4 := Lib.hid (RX.out _ hb4)
  clear hb4 HB3 q1 HJ HSU HFL HOC HOL HRX SO
  go_wp2_with (first | (refine wpList_load_mid rfl 31 _ rfl g 0 rfl x.cells _ RX4.out Tryz.underlying31 rfl SX.out ?_) | fail)
  refine (HBX.out _ HB4.out).mono ?_
  rintro e w4 ⟨ax, nx, cx, rfl, hr4, hb5⟩
  have HB5 := Lib.hid (HB4.out.trans (hb5.mono HB4.out.size))
  have HR4 := Lib.hid hr4
  have RY4 := Lib.hid (RY.out _ HB5.out)
  clear hr4 hb5 HB4 RX4 HBX
  go_wp2_with (first | (refine wpList_load_mid rfl 31 _ rfl (g + 1) 0 rfl y.cells _ RY4.out Tryz.underlying31 rfl SY.out ?_) | fail)
  refine (HBY.out _ HB5.out).mono ?_
  rintro e w5 ⟨ay, ny, cy, rfl, hr5, hb6⟩
  replace HB5 : Hid (Below w1.heap.size w1 w5) := Lib.hid (HB5.out.trans (hb6.mono HB5.out.size))
  have HPX := Lib.hid (HR4.out.below hb6)
  have HPY := Lib.hid hr5
  clear hr5 hb6 HR4 RY4 HBY
  obtain ⟨sx, hsx⟩ : ∃ s : ByteArray, (⟨px.toArray⟩ : ByteArray) = s := ⟨_, rfl⟩
  have HSTX := Lib.hid hsx
  clear hsx
  go_upto_region 7 with (fail)
  go_cut [78] from 55 to 78 (fun u w' => u = .bool false ∧ Below w5.heap.size w5 w')
  case first =>
    cases kx
    · obtain rfl : D = false := by rw [← HD.out, HKX.out]; rfl
      clear HD
      cases ky
      · obtain rfl : ey = 1 := by rw [← HEY.out]; unfold packE; rw [HKY.out]; rfl
        clear HEY
        refine wp_region_held_drew (S := fun w' => Below w5.heap.size w5 w') (by kernel_rfl) (below_drew (Below.refl _ _)) (fun hHeld => ?_)
        refine take_at (i := 0) rfl rfl (by kernel_rfl) (by kernel_rfl) (by kernel_rfl) (fun _ _ _ h => h) (yieldsIf_load_mid (by rfl) _ _ rfl g 0 rfl x.cells _ (fun w0 hSw => RX.out _ (HB5.out.trans (hSw.mono HB5.out.size))) Tryz.underlying31 rfl SX.out) (by assumption) ?_
        simp only [List.setIfInBounds_toArray, List.set_cons_zero, List.set_cons_succ]
        refine take_at (i := 1) rfl rfl (by kernel_rfl) (by kernel_rfl) (by kernel_rfl) (fun _ _ _ h => h) (yieldsIf_load_mid (by rfl) _ _ rfl (g + 1) 0 rfl y.cells _ (fun w0 hSw => RY.out _ (HB5.out.trans (hSw.mono HB5.out.size))) Tryz.underlying31 rfl SY.out) (by assumption) ?_
        simp only [List.setIfInBounds_toArray, List.set_cons_zero, List.set_cons_succ]
        refine take_at (i := 3) rfl rfl (by kernel_rfl) (by kernel_rfl) (by kernel_rfl) (fun _ _ _ h => h) (yieldsIf_load_mid (by rfl) _ _ rfl g 0 rfl x.cells _ (fun w0 hSw => RX.out _ (HB5.out.trans (hSw.mono HB5.out.size))) Tryz.underlying31 rfl SX.out) (by assumption) ?_
        simp only [List.setIfInBounds_toArray, List.set_cons_zero, List.set_cons_succ]
        refine wpAnyH_ready (rs := [2]) (by kernel_rfl) (by simp) ?_
        refine AllReadyH.cons rfl (fun K hK => ?_) ?_
        · go_simp
          go_wp2_with ((go_at_call 15; (with_reducible refine (HSA.out _ (HB5.out.trans (hHeld.mono HB5.out.size))).mono ?_); rintro e y2 ⟨rfl, hb⟩; have HBy2 := Lib.hid hb; clear hb))
          refine hK.out _ _ (by (try dsimp only); exact hHeld.trans (HBy2.out.mono hHeld.size)) (fun hHeld => ?_)
          clear hK K
          refine wpAnyH_ready (rs := [4]) (by kernel_rfl) (by simp) ?_
          refine AllReadyH.cons rfl (fun K hK => ?_) ?_
          · go_simp
            go_wp2_with ((go_at_call 8; (with_reducible refine (HLX.out _ (HB5.out.trans (hHeld.mono HB5.out.size))).mono ?_); rintro e y4 ⟨rfl, hb⟩; have HBy4 := Lib.hid hb; clear hb))
            refine hK.out _ _ (by (try dsimp only); exact hHeld.trans (HBy4.out.mono hHeld.size)) (fun hHeld => ?_)
            clear hK K
            refine take_at (i := 5) (v := ?_) rfl rfl (by kernel_rfl) (by kernel_rfl) (by kernel_rfl) (fun _ _ _ h => h) (Or.inl ⟨by rfl, ?_⟩) (by assumption) ?_
            rotate_left
            · intro w0 hSw; (try dsimp only at hSw); first | (go_simp; done) | (go_simp; with_reducible rfl)
            simp only [List.setIfInBounds_toArray, List.set_cons_zero, List.set_cons_succ]
            refine take_at (i := 6) (v := undef) rfl rfl (by kernel_rfl) (by kernel_rfl) (by kernel_rfl) (fun _ _ _ h => h) (Or.inr ⟨by rfl, rfl⟩) (by assumption) ?_
            simp only [List.setIfInBounds_toArray, List.set_cons_zero, List.set_cons_succ]
            refine take_at (i := 7) (v := undef) rfl rfl (by kernel_rfl) (by kernel_rfl) (by kernel_rfl) (fun _ _ _ h => h) (Or.inr ⟨by rfl, rfl⟩) (by assumption) ?_
            simp only [List.setIfInBounds_toArray, List.set_cons_zero, List.set_cons_succ]
            refine take_at (i := 8) (v := ?_) rfl rfl (by kernel_rfl) (by kernel_rfl) (by kernel_rfl) (fun _ _ _ h => h) (Or.inl ⟨by rfl, ?_⟩) (by assumption) ?_
            rotate_left
            · intro w0 hSw; (try dsimp only at hSw); first | (go_simp; done) | (go_simp; with_reducible rfl)
            simp only [List.setIfInBounds_toArray, List.set_cons_zero, List.set_cons_succ]
            refine take_at (i := 9) (v := ?_) rfl rfl (by kernel_rfl) (by kernel_rfl) (by kernel_rfl) (fun _ _ _ h => h) (Or.inl ⟨by rfl, ?_⟩) (by assumption) ?_
            rotate_left
            · intro w0 hSw; (try dsimp only at hSw); first | (go_simp; done) | (go_simp; with_reducible rfl)
            simp only [List.setIfInBounds_toArray, List.set_cons_zero, List.set_cons_succ]
            refine take_at (i := 10) (v := undef) rfl rfl (by kernel_rfl) (by kernel_rfl) (by kernel_rfl) (fun _ _ _ h => h) (Or.inr ⟨by rfl, rfl⟩) (by assumption) ?_
            simp only [List.setIfInBounds_toArray, List.set_cons_zero, List.set_cons_succ]
            refine take_at (i := 11) (v := undef) rfl rfl (by kernel_rfl) (by kernel_rfl) (by kernel_rfl) (fun _ _ _ h => h) (Or.inr ⟨by rfl, rfl⟩) (by assumption) ?_
            simp only [List.setIfInBounds_toArray, List.set_cons_zero, List.set_cons_succ]
            refine take_at (i := 12) (v := undef) rfl rfl (by kernel_rfl) (by kernel_rfl) (by kernel_rfl) (fun _ _ _ h => h) (Or.inr ⟨by rfl, rfl⟩) (by assumption) ?_
            simp only [List.setIfInBounds_toArray, List.set_cons_zero, List.set_cons_succ]
            refine take_at (i := 13) (v := undef) rfl rfl (by kernel_rfl) (by kernel_rfl) (by kernel_rfl) (fun _ _ _ h => h) (Or.inr ⟨by rfl, rfl⟩) (by assumption) ?_
            simp only [List.setIfInBounds_toArray, List.set_cons_zero, List.set_cons_succ]
            refine take_at (i := 14) (v := undef) rfl rfl (by kernel_rfl) (by kernel_rfl) (by kernel_rfl) (fun _ _ _ h => h) (Or.inr ⟨by rfl, rfl⟩) (by assumption) ?_
            simp only [List.setIfInBounds_toArray, List.set_cons_zero, List.set_cons_succ]
            refine take_at (i := 15) (v := ?_) rfl rfl (by kernel_rfl) (by kernel_rfl) (by kernel_rfl) (fun _ _ _ h => h) (Or.inl ⟨by rfl, ?_⟩) (by assumption) ?_
            rotate_left
            · intro w0 hSw; (try dsimp only at hSw); first | (go_simp; done) | (go_simp; with_reducible rfl)
            simp only [List.setIfInBounds_toArray, List.set_cons_zero, List.set_cons_succ]
            refine take_at (i := 16) (v := ?_) rfl rfl (by kernel_rfl) (by kernel_rfl) (by kernel_rfl) (fun _ _ _ h => h) (Or.inl ⟨by rfl, ?_⟩) (by assumption) ?_
            rotate_left
            · intro w0 hSw; (try dsimp only at hSw); first | (go_simp; done) | (go_simp; with_reducible rfl)
            simp only [List.setIfInBounds_toArray, List.set_cons_zero, List.set_cons_succ]
            refine take_at (i := 17) (v := ?_) rfl rfl (by kernel_rfl) (by kernel_rfl) (by kernel_rfl) (fun _ _ _ h => h) (Or.inl ⟨by rfl, ?_⟩) (by assumption) ?_
            rotate_left
            · intro w0 hSw; (try dsimp only at hSw); first | (go_simp; done) | (go_simp; with_reducible rfl)
            simp only [List.setIfInBounds_toArray, List.set_cons_zero, List.set_cons_succ]
            refine take_at (i := 18) (v := ?_) rfl rfl (by kernel_rfl) (by kernel_rfl) (by kernel_rfl) (fun _ _ _ h => h) (Or.inl ⟨by rfl, ?_⟩) (by assumption) ?_
            rotate_left
            · intro w0 hSw; (try dsimp only at hSw); first | (go_simp; done) | (go_simp; with_reducible rfl)
            simp only [List.setIfInBounds_toArray, List.set_cons_zero, List.set_cons_succ]
            refine take_at (i := 19) (v := ?_) rfl rfl (by kernel_rfl) (by kernel_rfl) (by kernel_rfl) (fun _ _ _ h => h) (Or.inl ⟨by rfl, ?_⟩) (by assumption) ?_
            rotate_left
            · intro w0 hSw; (try dsimp only at hSw); first | (go_simp; done) | (go_simp; with_reducible rfl)
            simp only [List.setIfInBounds_toArray, List.set_cons_zero, List.set_cons_succ]
            refine take_at (i := 20) rfl rfl (by kernel_rfl) (by kernel_rfl) (by kernel_rfl) (fun _ _ _ h => h) (yieldsIf_load_mid (by rfl) _ _ rfl (g + 1) 0 rfl y.cells _ (fun w0 hSw => RY.out _ (HB5.out.trans (hSw.mono HB5.out.size))) Tryz.underlying31 rfl SY.out) (by assumption) ?_
            simp only [List.setIfInBounds_toArray, List.set_cons_zero, List.set_cons_succ]
            refine wpAnyH_ready (rs := [21]) (by kernel_rfl) (by simp) ?_
            refine AllReadyH.cons rfl (fun K hK => ?_) ?_
            · go_simp
              go_wp2_with ((go_at_call 8; (with_reducible refine (HLY.out _ (HB5.out.trans (hHeld.mono HB5.out.size))).mono ?_); rintro e y21 ⟨rfl, hb⟩; have HBy21 := Lib.hid hb; clear hb))
              refine hK.out _ _ (by (try dsimp only); exact hHeld.trans (HBy21.out.mono hHeld.size)) (fun hHeld => ?_)
              clear hK K
              refine take_at (i := 22) (v := ?_) rfl rfl (by kernel_rfl) (by kernel_rfl) (by kernel_rfl) (fun _ _ _ h => h) (Or.inl ⟨by rfl, ?_⟩) (by assumption) ?_
              rotate_left
              · intro w0 hSw; (try dsimp only at hSw); first | (go_simp; done) | (go_simp; with_reducible rfl)
              simp only [List.setIfInBounds_toArray, List.set_cons_zero, List.set_cons_succ]
              refine take_at (i := 23) (v := ?_) rfl rfl (by kernel_rfl) (by kernel_rfl) (by kernel_rfl) (fun _ _ _ h => h) (Or.inl ⟨by rfl, ?_⟩) (by assumption) ?_
              rotate_left
              · intro w0 hSw; (try dsimp only at hSw); first | (go_simp; done) | (go_simp; with_reducible rfl)
              simp only [List.setIfInBounds_toArray, List.set_cons_zero, List.set_cons_succ]
              refine wpAnyH_done (by kernel_rfl) ?_ _
              have HST := Lib.hid (show Below w5.heap.size w5 y21 from hHeld)
              clear hHeld
              go_wp2_with fail
              go_meet
              exact ⟨rfl, HST.out⟩
            exact AllReadyH.nil
          exact AllReadyH.nil
        exact AllReadyH.nil
      · obtain rfl : ey = 0 := by rw [← HEY.out]; unfold packE; rw [HKY.out]; rfl
        clear HEY
        refine wp_region_held_drew (S := fun w' => Below w5.heap.size w5 w') (by kernel_rfl) (below_drew (Below.refl _ _)) (fun hHeld => ?_)
        refine take_at (i := 0) rfl rfl (by kernel_rfl) (by kernel_rfl) (by kernel_rfl) (fun _ _ _ h => h) (yieldsIf_load_mid (by rfl) _ _ rfl g 0 rfl x.cells _ (fun w0 hSw => RX.out _ (HB5.out.trans (hSw.mono HB5.out.size))) Tryz.underlying31 rfl SX.out) (by assumption) ?_
        simp only [List.setIfInBounds_toArray, List.set_cons_zero, List.set_cons_succ]
        refine take_at (i := 1) rfl rfl (by kernel_rfl) (by kernel_rfl) (by kernel_rfl) (fun _ _ _ h => h) (yieldsIf_load_mid (by rfl) _ _ rfl (g + 1) 0 rfl y.cells _ (fun w0 hSw => RY.out _ (HB5.out.trans (hSw.mono HB5.out.size))) Tryz.underlying31 rfl SY.out) (by assumption) ?_
        simp only [List.setIfInBounds_toArray, List.set_cons_zero, List.set_cons_succ]
        refine take_at (i := 3) rfl rfl (by kernel_rfl) (by kernel_rfl) (by kernel_rfl) (fun _ _ _ h => h) (yieldsIf_load_mid (by rfl) _ _ rfl g 0 rfl x.cells _ (fun w0 hSw => RX.out _ (HB5.out.trans (hSw.mono HB5.out.size))) Tryz.underlying31 rfl SX.out) (by assumption) ?_
        simp only [List.setIfInBounds_toArray, List.set_cons_zero, List.set_cons_succ]
        refine wpAnyH_ready (rs := [2]) (by kernel_rfl) (by simp) ?_
        refine AllReadyH.cons rfl (fun K hK => ?_) ?_
        · go_simp
          go_wp2_with ((go_at_call 15; (with_reducible refine (HSA.out _ (HB5.out.trans (hHeld.mono HB5.out.size))).mono ?_); rintro e y2 ⟨rfl, hb⟩; have HBy2 := Lib.hid hb; clear hb))
          refine hK.out _ _ (by (try dsimp only); exact hHeld.trans (HBy2.out.mono hHeld.size)) (fun hHeld => ?_)
          clear hK K
          refine wpAnyH_ready (rs := [4]) (by kernel_rfl) (by simp) ?_
          refine AllReadyH.cons rfl (fun K hK => ?_) ?_
          · go_simp
            go_wp2_with ((go_at_call 8; (with_reducible refine (HLX.out _ (HB5.out.trans (hHeld.mono HB5.out.size))).mono ?_); rintro e y4 ⟨rfl, hb⟩; have HBy4 := Lib.hid hb; clear hb))
            refine hK.out _ _ (by (try dsimp only); exact hHeld.trans (HBy4.out.mono hHeld.size)) (fun hHeld => ?_)
            clear hK K
            refine take_at (i := 5) (v := ?_) rfl rfl (by kernel_rfl) (by kernel_rfl) (by kernel_rfl) (fun _ _ _ h => h) (Or.inl ⟨by rfl, ?_⟩) (by assumption) ?_
            rotate_left
            · intro w0 hSw; (try dsimp only at hSw); first | (go_simp; done) | (go_simp; with_reducible rfl)
            simp only [List.setIfInBounds_toArray, List.set_cons_zero, List.set_cons_succ]
            refine take_at (i := 6) (v := undef) rfl rfl (by kernel_rfl) (by kernel_rfl) (by kernel_rfl) (fun _ _ _ h => h) (Or.inr ⟨by rfl, rfl⟩) (by assumption) ?_
            simp only [List.setIfInBounds_toArray, List.set_cons_zero, List.set_cons_succ]
            refine take_at (i := 7) (v := undef) rfl rfl (by kernel_rfl) (by kernel_rfl) (by kernel_rfl) (fun _ _ _ h => h) (Or.inr ⟨by rfl, rfl⟩) (by assumption) ?_
            simp only [List.setIfInBounds_toArray, List.set_cons_zero, List.set_cons_succ]
            refine take_at (i := 8) (v := ?_) rfl rfl (by kernel_rfl) (by kernel_rfl) (by kernel_rfl) (fun _ _ _ h => h) (Or.inl ⟨by rfl, ?_⟩) (by assumption) ?_
            rotate_left
            · intro w0 hSw; (try dsimp only at hSw); first | (go_simp; done) | (go_simp; with_reducible rfl)
            simp only [List.setIfInBounds_toArray, List.set_cons_zero, List.set_cons_succ]
            refine take_at (i := 9) (v := ?_) rfl rfl (by kernel_rfl) (by kernel_rfl) (by kernel_rfl) (fun _ _ _ h => h) (Or.inl ⟨by rfl, ?_⟩) (by assumption) ?_
            rotate_left
            · intro w0 hSw; (try dsimp only at hSw); first | (go_simp; done) | (go_simp; with_reducible rfl)
            simp only [List.setIfInBounds_toArray, List.set_cons_zero, List.set_cons_succ]
            refine take_at (i := 10) (v := undef) rfl rfl (by kernel_rfl) (by kernel_rfl) (by kernel_rfl) (fun _ _ _ h => h) (Or.inr ⟨by rfl, rfl⟩) (by assumption) ?_
            simp only [List.setIfInBounds_toArray, List.set_cons_zero, List.set_cons_succ]
            refine take_at (i := 11) (v := undef) rfl rfl (by kernel_rfl) (by kernel_rfl) (by kernel_rfl) (fun _ _ _ h => h) (Or.inr ⟨by rfl, rfl⟩) (by assumption) ?_
            simp only [List.setIfInBounds_toArray, List.set_cons_zero, List.set_cons_succ]
            refine take_at (i := 12) (v := undef) rfl rfl (by kernel_rfl) (by kernel_rfl) (by kernel_rfl) (fun _ _ _ h => h) (Or.inr ⟨by rfl, rfl⟩) (by assumption) ?_
            simp only [List.setIfInBounds_toArray, List.set_cons_zero, List.set_cons_succ]
            refine take_at (i := 13) (v := undef) rfl rfl (by kernel_rfl) (by kernel_rfl) (by kernel_rfl) (fun _ _ _ h => h) (Or.inr ⟨by rfl, rfl⟩) (by assumption) ?_
            simp only [List.setIfInBounds_toArray, List.set_cons_zero, List.set_cons_succ]
            refine take_at (i := 14) (v := undef) rfl rfl (by kernel_rfl) (by kernel_rfl) (by kernel_rfl) (fun _ _ _ h => h) (Or.inr ⟨by rfl, rfl⟩) (by assumption) ?_
            simp only [List.setIfInBounds_toArray, List.set_cons_zero, List.set_cons_succ]
            refine take_at (i := 15) (v := ?_) rfl rfl (by kernel_rfl) (by kernel_rfl) (by kernel_rfl) (fun _ _ _ h => h) (Or.inl ⟨by rfl, ?_⟩) (by assumption) ?_
            rotate_left
            · intro w0 hSw; (try dsimp only at hSw); first | (go_simp; done) | (go_simp; with_reducible rfl)
            simp only [List.setIfInBounds_toArray, List.set_cons_zero, List.set_cons_succ]
            refine take_at (i := 16) (v := ?_) rfl rfl (by kernel_rfl) (by kernel_rfl) (by kernel_rfl) (fun _ _ _ h => h) (Or.inl ⟨by rfl, ?_⟩) (by assumption) ?_
            rotate_left
            · intro w0 hSw; (try dsimp only at hSw); first | (go_simp; done) | (go_simp; with_reducible rfl)
            simp only [List.setIfInBounds_toArray, List.set_cons_zero, List.set_cons_succ]
            refine take_at (i := 17) (v := ?_) rfl rfl (by kernel_rfl) (by kernel_rfl) (by kernel_rfl) (fun _ _ _ h => h) (Or.inl ⟨by rfl, ?_⟩) (by assumption) ?_
            rotate_left
            · intro w0 hSw; (try dsimp only at hSw); first | (go_simp; done) | (go_simp; with_reducible rfl)
            simp only [List.setIfInBounds_toArray, List.set_cons_zero, List.set_cons_succ]
            refine take_at (i := 18) (v := ?_) rfl rfl (by kernel_rfl) (by kernel_rfl) (by kernel_rfl) (fun _ _ _ h => h) (Or.inl ⟨by rfl, ?_⟩) (by assumption) ?_
            rotate_left
            · intro w0 hSw; (try dsimp only at hSw); first | (go_simp; done) | (go_simp; with_reducible rfl)
            simp only [List.setIfInBounds_toArray, List.set_cons_zero, List.set_cons_succ]
            refine take_at (i := 19) (v := ?_) rfl rfl (by kernel_rfl) (by kernel_rfl) (by kernel_rfl) (fun _ _ _ h => h) (Or.inl ⟨by rfl, ?_⟩) (by assumption) ?_
            rotate_left
            · intro w0 hSw; (try dsimp only at hSw); first | (go_simp; done) | (go_simp; with_reducible rfl)
            simp only [List.setIfInBounds_toArray, List.set_cons_zero, List.set_cons_succ]
            refine take_at (i := 20) rfl rfl (by kernel_rfl) (by kernel_rfl) (by kernel_rfl) (fun _ _ _ h => h) (yieldsIf_load_mid (by rfl) _ _ rfl (g + 1) 0 rfl y.cells _ (fun w0 hSw => RY.out _ (HB5.out.trans (hSw.mono HB5.out.size))) Tryz.underlying31 rfl SY.out) (by assumption) ?_
            simp only [List.setIfInBounds_toArray, List.set_cons_zero, List.set_cons_succ]
            refine wpAnyH_ready (rs := [21]) (by kernel_rfl) (by simp) ?_
            refine AllReadyH.cons rfl (fun K hK => ?_) ?_
            · go_simp
              go_wp2_with ((go_at_call 8; (with_reducible refine (HLY.out _ (HB5.out.trans (hHeld.mono HB5.out.size))).mono ?_); rintro e y21 ⟨rfl, hb⟩; have HBy21 := Lib.hid hb; clear hb))
              refine hK.out _ _ (by (try dsimp only); exact hHeld.trans (HBy21.out.mono hHeld.size)) (fun hHeld => ?_)
              clear hK K
              refine take_at (i := 22) (v := ?_) rfl rfl (by kernel_rfl) (by kernel_rfl) (by kernel_rfl) (fun _ _ _ h => h) (Or.inl ⟨by rfl, ?_⟩) (by assumption) ?_
              rotate_left
              · intro w0 hSw; (try dsimp only at hSw); first | (go_simp; done) | (go_simp; with_reducible rfl)
              simp only [List.setIfInBounds_toArray, List.set_cons_zero, List.set_cons_succ]
              refine take_at (i := 23) (v := ?_) rfl rfl (by kernel_rfl) (by kernel_rfl) (by kernel_rfl) (fun _ _ _ h => h) (Or.inl ⟨by rfl, ?_⟩) (by assumption) ?_
              rotate_left
              · intro w0 hSw; (try dsimp only at hSw); first | (go_simp; done) | (go_simp; with_reducible rfl)
              simp only [List.setIfInBounds_toArray, List.set_cons_zero, List.set_cons_succ]
              refine wpAnyH_done (by kernel_rfl) ?_ _
              have HST := Lib.hid (show Below w5.heap.size w5 y21 from hHeld)
              clear hHeld
              go_wp2_with fail
              go_meet
              exact ⟨rfl, HST.out⟩
            exact AllReadyH.nil
          exact AllReadyH.nil
        exact AllReadyH.nil
    · cases ky
      · obtain rfl : D = false := by rw [← HD.out, HKX.out, HKY.out]; rfl
        obtain rfl : ey = 1 := by rw [← HEY.out]; unfold packE; rw [HKY.out]; rfl
        clear HEY HD
        refine wp_region_held_drew (S := fun w' => Below w5.heap.size w5 w') (by kernel_rfl) (below_drew (Below.refl _ _)) (fun hHeld => ?_)
        refine take_at (i := 0) rfl rfl (by kernel_rfl) (by kernel_rfl) (by kernel_rfl) (fun _ _ _ h => h) (yieldsIf_load_mid (by rfl) _ _ rfl g 0 rfl x.cells _ (fun w0 hSw => RX.out _ (HB5.out.trans (hSw.mono HB5.out.size))) Tryz.underlying31 rfl SX.out) (by assumption) ?_
        simp only [List.setIfInBounds_toArray, List.set_cons_zero, List.set_cons_succ]
        refine take_at (i := 1) rfl rfl (by kernel_rfl) (by kernel_rfl) (by kernel_rfl) (fun _ _ _ h => h) (yieldsIf_load_mid (by rfl) _ _ rfl (g + 1) 0 rfl y.cells _ (fun w0 hSw => RY.out _ (HB5.out.trans (hSw.mono HB5.out.size))) Tryz.underlying31 rfl SY.out) (by assumption) ?_
        simp only [List.setIfInBounds_toArray, List.set_cons_zero, List.set_cons_succ]
        refine take_at (i := 3) rfl rfl (by kernel_rfl) (by kernel_rfl) (by kernel_rfl) (fun _ _ _ h => h) (yieldsIf_load_mid (by rfl) _ _ rfl g 0 rfl x.cells _ (fun w0 hSw => RX.out _ (HB5.out.trans (hSw.mono HB5.out.size))) Tryz.underlying31 rfl SX.out) (by assumption) ?_
        simp only [List.setIfInBounds_toArray, List.set_cons_zero, List.set_cons_succ]
        refine wpAnyH_ready (rs := [2]) (by kernel_rfl) (by simp) ?_
        refine AllReadyH.cons rfl (fun K hK => ?_) ?_
        · go_simp
          go_wp2_with ((go_at_call 15; (with_reducible refine (HSA.out _ (HB5.out.trans (hHeld.mono HB5.out.size))).mono ?_); rintro e y2 ⟨rfl, hb⟩; have HBy2 := Lib.hid hb; clear hb))
          refine hK.out _ _ (by (try dsimp only); exact hHeld.trans (HBy2.out.mono hHeld.size)) (fun hHeld => ?_)
          clear hK K
          refine wpAnyH_ready (rs := [4]) (by kernel_rfl) (by simp) ?_
          refine AllReadyH.cons rfl (fun K hK => ?_) ?_
          · go_simp
            go_wp2_with ((go_at_call 8; (with_reducible refine (HLX.out _ (HB5.out.trans (hHeld.mono HB5.out.size))).mono ?_); rintro e y4 ⟨rfl, hb⟩; have HBy4 := Lib.hid hb; clear hb))
            refine hK.out _ _ (by (try dsimp only); exact hHeld.trans (HBy4.out.mono hHeld.size)) (fun hHeld => ?_)
            clear hK K
            refine take_at (i := 5) (v := ?_) rfl rfl (by kernel_rfl) (by kernel_rfl) (by kernel_rfl) (fun _ _ _ h => h) (Or.inl ⟨by rfl, ?_⟩) (by assumption) ?_
            rotate_left
            · intro w0 hSw; (try dsimp only at hSw); first | (go_simp; done) | (go_simp; with_reducible rfl)
            simp only [List.setIfInBounds_toArray, List.set_cons_zero, List.set_cons_succ]
            refine take_at (i := 6) rfl rfl (by kernel_rfl) (by kernel_rfl) (by kernel_rfl) (fun _ _ _ h => h) (yieldsIf_load_mid (by rfl) _ _ rfl (g + 1) 0 rfl y.cells _ (fun w0 hSw => RY.out _ (HB5.out.trans (hSw.mono HB5.out.size))) Tryz.underlying31 rfl SY.out) (by assumption) ?_
            simp only [List.setIfInBounds_toArray, List.set_cons_zero, List.set_cons_succ]
            refine wpAnyH_ready (rs := [7]) (by kernel_rfl) (by simp) ?_
            refine AllReadyH.cons rfl (fun K hK => ?_) ?_
            · go_simp
              go_wp2_with ((go_at_call 8; (with_reducible refine (HLY.out _ (HB5.out.trans (hHeld.mono HB5.out.size))).mono ?_); rintro e y7 ⟨rfl, hb⟩; have HBy7 := Lib.hid hb; clear hb))
              refine hK.out _ _ (by (try dsimp only); exact hHeld.trans (HBy7.out.mono hHeld.size)) (fun hHeld => ?_)
              clear hK K
              refine take_at (i := 8) (v := ?_) rfl rfl (by kernel_rfl) (by kernel_rfl) (by kernel_rfl) (fun _ _ _ h => h) (Or.inl ⟨by rfl, ?_⟩) (by assumption) ?_
              rotate_left
              · intro w0 hSw; (try dsimp only at hSw); first | (go_simp; done) | (go_simp; with_reducible rfl)
              simp only [List.setIfInBounds_toArray, List.set_cons_zero, List.set_cons_succ]
              refine take_at (i := 9) (v := ?_) rfl rfl (by kernel_rfl) (by kernel_rfl) (by kernel_rfl) (fun _ _ _ h => h) (Or.inl ⟨by rfl, ?_⟩) (by assumption) ?_
              rotate_left
              · intro w0 hSw; (try dsimp only at hSw); first | (go_simp; done) | (go_simp; with_reducible rfl)
              simp only [List.setIfInBounds_toArray, List.set_cons_zero, List.set_cons_succ]
              refine take_at (i := 10) (v := undef) rfl rfl (by kernel_rfl) (by kernel_rfl) (by kernel_rfl) (fun _ _ _ h => h) (Or.inr ⟨by rfl, rfl⟩) (by assumption) ?_
              simp only [List.setIfInBounds_toArray, List.set_cons_zero, List.set_cons_succ]
              refine take_at (i := 11) (v := undef) rfl rfl (by kernel_rfl) (by kernel_rfl) (by kernel_rfl) (fun _ _ _ h => h) (Or.inr ⟨by rfl, rfl⟩) (by assumption) ?_
              simp only [List.setIfInBounds_toArray, List.set_cons_zero, List.set_cons_succ]
              refine take_at (i := 12) (v := undef) rfl rfl (by kernel_rfl) (by kernel_rfl) (by kernel_rfl) (fun _ _ _ h => h) (Or.inr ⟨by rfl, rfl⟩) (by assumption) ?_
              simp only [List.setIfInBounds_toArray, List.set_cons_zero, List.set_cons_succ]
              refine take_at (i := 13) (v := undef) rfl rfl (by kernel_rfl) (by kernel_rfl) (by kernel_rfl) (fun _ _ _ h => h) (Or.inr ⟨by rfl, rfl⟩) (by assumption) ?_
              simp only [List.setIfInBounds_toArray, List.set_cons_zero, List.set_cons_succ]
              refine take_at (i := 14) (v := undef) rfl rfl (by kernel_rfl) (by kernel_rfl) (by kernel_rfl) (fun _ _ _ h => h) (Or.inr ⟨by rfl, rfl⟩) (by assumption) ?_
              simp only [List.setIfInBounds_toArray, List.set_cons_zero, List.set_cons_succ]
              refine take_at (i := 15) (v := ?_) rfl rfl (by kernel_rfl) (by kernel_rfl) (by kernel_rfl) (fun _ _ _ h => h) (Or.inl ⟨by rfl, ?_⟩) (by assumption) ?_
              rotate_left
              · intro w0 hSw; (try dsimp only at hSw); first | (go_simp; done) | (go_simp; with_reducible rfl)
              simp only [List.setIfInBounds_toArray, List.set_cons_zero, List.set_cons_succ]
              refine take_at (i := 16) (v := ?_) rfl rfl (by kernel_rfl) (by kernel_rfl) (by kernel_rfl) (fun _ _ _ h => h) (Or.inl ⟨by rfl, ?_⟩) (by assumption) ?_
              rotate_left
              · intro w0 hSw; (try dsimp only at hSw); first | (go_simp; done) | (go_simp; with_reducible rfl)
              simp only [List.setIfInBounds_toArray, List.set_cons_zero, List.set_cons_succ]
              refine take_at (i := 17) (v := ?_) rfl rfl (by kernel_rfl) (by kernel_rfl) (by kernel_rfl) (fun _ _ _ h => h) (Or.inl ⟨by rfl, ?_⟩) (by assumption) ?_
              rotate_left
              · intro w0 hSw; (try dsimp only at hSw); first | (go_simp; done) | (go_simp; with_reducible rfl)
              simp only [List.setIfInBounds_toArray, List.set_cons_zero, List.set_cons_succ]
              refine take_at (i := 18) (v := ?_) rfl rfl (by kernel_rfl) (by kernel_rfl) (by kernel_rfl) (fun _ _ _ h => h) (Or.inl ⟨by rfl, ?_⟩) (by assumption) ?_
              rotate_left
              · intro w0 hSw; (try dsimp only at hSw); first | (go_simp; done) | (go_simp; with_reducible rfl)
              simp only [List.setIfInBounds_toArray, List.set_cons_zero, List.set_cons_succ]
              refine take_at (i := 19) (v := ?_) rfl rfl (by kernel_rfl) (by kernel_rfl) (by kernel_rfl) (fun _ _ _ h => h) (Or.inl ⟨by rfl, ?_⟩) (by assumption) ?_
              rotate_left
              · intro w0 hSw; (try dsimp only at hSw); first | (go_simp; done) | (go_simp; with_reducible rfl)
              simp only [List.setIfInBounds_toArray, List.set_cons_zero, List.set_cons_succ]
              refine take_at (i := 20) rfl rfl (by kernel_rfl) (by kernel_rfl) (by kernel_rfl) (fun _ _ _ h => h) (yieldsIf_load_mid (by rfl) _ _ rfl (g + 1) 0 rfl y.cells _ (fun w0 hSw => RY.out _ (HB5.out.trans (hSw.mono HB5.out.size))) Tryz.underlying31 rfl SY.out) (by assumption) ?_
              simp only [List.setIfInBounds_toArray, List.set_cons_zero, List.set_cons_succ]
              refine wpAnyH_ready (rs := [21]) (by kernel_rfl) (by simp) ?_
              refine AllReadyH.cons rfl (fun K hK => ?_) ?_
              · go_simp
                go_wp2_with ((go_at_call 8; (with_reducible refine (HLY.out _ (HB5.out.trans (hHeld.mono HB5.out.size))).mono ?_); rintro e y21 ⟨rfl, hb⟩; have HBy21 := Lib.hid hb; clear hb))
                refine hK.out _ _ (by (try dsimp only); exact hHeld.trans (HBy21.out.mono hHeld.size)) (fun hHeld => ?_)
                clear hK K
                refine take_at (i := 22) (v := ?_) rfl rfl (by kernel_rfl) (by kernel_rfl) (by kernel_rfl) (fun _ _ _ h => h) (Or.inl ⟨by rfl, ?_⟩) (by assumption) ?_
                rotate_left
                · intro w0 hSw; (try dsimp only at hSw); first | (go_simp; done) | (go_simp; with_reducible rfl)
                simp only [List.setIfInBounds_toArray, List.set_cons_zero, List.set_cons_succ]
                refine take_at (i := 23) (v := ?_) rfl rfl (by kernel_rfl) (by kernel_rfl) (by kernel_rfl) (fun _ _ _ h => h) (Or.inl ⟨by rfl, ?_⟩) (by assumption) ?_
                rotate_left
                · intro w0 hSw; (try dsimp only at hSw); first | (go_simp; done) | (go_simp; with_reducible rfl)
                simp only [List.setIfInBounds_toArray, List.set_cons_zero, List.set_cons_succ]
                refine wpAnyH_done (by kernel_rfl) ?_ _
                have HST := Lib.hid (show Below w5.heap.size w5 y21 from hHeld)
                clear hHeld
                go_wp2_with fail
                go_meet
                exact ⟨rfl, HST.out⟩
              exact AllReadyH.nil
            exact AllReadyH.nil
          exact AllReadyH.nil
        exact AllReadyH.nil
      · obtain rfl : ey = 0 := by rw [← HEY.out]; unfold packE; rw [HKY.out]; rfl
        have hd := same_is HKX.out HKY.out
        rw [HD.out, HPXE.out, HPYE.out] at hd
        clear HEY HD
        by_cases hpp : px = py
        · rw [decide_eq_true hpp] at hd
          subst hd
          rw [← hpp] at HPY
          clear hpp
          refine wp_region_held_drew (S := fun w' => Below w5.heap.size w5 w') (by kernel_rfl) (below_drew (Below.refl _ _)) (fun hHeld => ?_)
          refine take_at (i := 0) rfl rfl (by kernel_rfl) (by kernel_rfl) (by kernel_rfl) (fun _ _ _ h => h) (yieldsIf_load_mid (by rfl) _ _ rfl g 0 rfl x.cells _ (fun w0 hSw => RX.out _ (HB5.out.trans (hSw.mono HB5.out.size))) Tryz.underlying31 rfl SX.out) (by assumption) ?_
          simp only [List.setIfInBounds_toArray, List.set_cons_zero, List.set_cons_succ]
          refine take_at (i := 1) rfl rfl (by kernel_rfl) (by kernel_rfl) (by kernel_rfl) (fun _ _ _ h => h) (yieldsIf_load_mid (by rfl) _ _ rfl (g + 1) 0 rfl y.cells _ (fun w0 hSw => RY.out _ (HB5.out.trans (hSw.mono HB5.out.size))) Tryz.underlying31 rfl SY.out) (by assumption) ?_
          simp only [List.setIfInBounds_toArray, List.set_cons_zero, List.set_cons_succ]
          refine take_at (i := 3) rfl rfl (by kernel_rfl) (by kernel_rfl) (by kernel_rfl) (fun _ _ _ h => h) (yieldsIf_load_mid (by rfl) _ _ rfl g 0 rfl x.cells _ (fun w0 hSw => RX.out _ (HB5.out.trans (hSw.mono HB5.out.size))) Tryz.underlying31 rfl SX.out) (by assumption) ?_
          simp only [List.setIfInBounds_toArray, List.set_cons_zero, List.set_cons_succ]
          refine wpAnyH_ready (rs := [2]) (by kernel_rfl) (by simp) ?_
          refine AllReadyH.cons rfl (fun K hK => ?_) ?_
          · go_simp
            go_wp2_with ((go_at_call 15; (with_reducible refine (HSA.out _ (HB5.out.trans (hHeld.mono HB5.out.size))).mono ?_); rintro e y2 ⟨rfl, hb⟩; have HBy2 := Lib.hid hb; clear hb))
            refine hK.out _ _ (by (try dsimp only); exact hHeld.trans (HBy2.out.mono hHeld.size)) (fun hHeld => ?_)
            clear hK K
            refine wpAnyH_ready (rs := [4]) (by kernel_rfl) (by simp) ?_
            refine AllReadyH.cons rfl (fun K hK => ?_) ?_
            · go_simp
              go_wp2_with ((go_at_call 8; (with_reducible refine (HLX.out _ (HB5.out.trans (hHeld.mono HB5.out.size))).mono ?_); rintro e y4 ⟨rfl, hb⟩; have HBy4 := Lib.hid hb; clear hb))
              refine hK.out _ _ (by (try dsimp only); exact hHeld.trans (HBy4.out.mono hHeld.size)) (fun hHeld => ?_)
              clear hK K
              refine take_at (i := 5) (v := ?_) rfl rfl (by kernel_rfl) (by kernel_rfl) (by kernel_rfl) (fun _ _ _ h => h) (Or.inl ⟨by rfl, ?_⟩) (by assumption) ?_
              rotate_left
              · intro w0 hSw; (try dsimp only at hSw); first | (go_simp; done) | (go_simp; with_reducible rfl)
              simp only [List.setIfInBounds_toArray, List.set_cons_zero, List.set_cons_succ]
              refine take_at (i := 6) rfl rfl (by kernel_rfl) (by kernel_rfl) (by kernel_rfl) (fun _ _ _ h => h) (yieldsIf_load_mid (by rfl) _ _ rfl (g + 1) 0 rfl y.cells _ (fun w0 hSw => RY.out _ (HB5.out.trans (hSw.mono HB5.out.size))) Tryz.underlying31 rfl SY.out) (by assumption) ?_
              simp only [List.setIfInBounds_toArray, List.set_cons_zero, List.set_cons_succ]
              refine wpAnyH_ready (rs := [7]) (by kernel_rfl) (by simp) ?_
              refine AllReadyH.cons rfl (fun K hK => ?_) ?_
              · go_simp
                go_wp2_with ((go_at_call 8; (with_reducible refine (HLY.out _ (HB5.out.trans (hHeld.mono HB5.out.size))).mono ?_); rintro e y7 ⟨rfl, hb⟩; have HBy7 := Lib.hid hb; clear hb))
                refine hK.out _ _ (by (try dsimp only); exact hHeld.trans (HBy7.out.mono hHeld.size)) (fun hHeld => ?_)
                clear hK K
                refine take_at (i := 8) (v := ?_) rfl rfl (by kernel_rfl) (by kernel_rfl) (by kernel_rfl) (fun _ _ _ h => h) (Or.inl ⟨by rfl, ?_⟩) (by assumption) ?_
                rotate_left
                · intro w0 hSw; (try dsimp only at hSw); first | (go_simp; done) | (go_simp; with_reducible rfl)
                simp only [List.setIfInBounds_toArray, List.set_cons_zero, List.set_cons_succ]
                refine take_at (i := 9) (v := ?_) rfl rfl (by kernel_rfl) (by kernel_rfl) (by kernel_rfl) (fun _ _ _ h => h) (Or.inl ⟨by rfl, ?_⟩) (by assumption) ?_
                rotate_left
                · intro w0 hSw; (try dsimp only at hSw); first | (go_simp; done) | (go_simp; with_reducible rfl)
                simp only [List.setIfInBounds_toArray, List.set_cons_zero, List.set_cons_succ]
                refine take_at (i := 10) (v := ?_) rfl rfl (by kernel_rfl) (by kernel_rfl) (by kernel_rfl) (fun _ _ _ h => h) (Or.inl ⟨by rfl, ?_⟩) (by assumption) ?_
                rotate_left
                · intro w0 hSw; (try dsimp only at hSw); first | (go_simp; done) | (go_simp; with_reducible rfl)
                simp only [List.setIfInBounds_toArray, List.set_cons_zero, List.set_cons_succ]
                refine take_at (i := 11) rfl rfl (by kernel_rfl) (by kernel_rfl) (by kernel_rfl) (fun _ _ _ h => h) (yields_conv (by rfl) rfl (by rfl) HSTX.out (fun w0 hSw => HPX.out.below hSw)) (by assumption) ?_
                simp only [List.setIfInBounds_toArray, List.set_cons_zero, List.set_cons_succ]
                refine take_at (i := 12) (v := ?_) rfl rfl (by kernel_rfl) (by kernel_rfl) (by kernel_rfl) (fun _ _ _ h => h) (Or.inl ⟨by rfl, ?_⟩) (by assumption) ?_
                rotate_left
                · intro w0 hSw; (try dsimp only at hSw); first | (go_simp; done) | (go_simp; with_reducible rfl)
                simp only [List.setIfInBounds_toArray, List.set_cons_zero, List.set_cons_succ]
                refine take_at (i := 13) rfl rfl (by kernel_rfl) (by kernel_rfl) (by kernel_rfl) (fun _ _ _ h => h) (yields_conv (by rfl) rfl (by rfl) HSTX.out (fun w0 hSw => HPY.out.below hSw)) (by assumption) ?_
                simp only [List.setIfInBounds_toArray, List.set_cons_zero, List.set_cons_succ]
                refine take_at (i := 14) (v := .bool true) rfl rfl (by kernel_rfl) (by kernel_rfl) (by kernel_rfl) (fun _ _ _ h => h) (Or.inl ⟨by rfl, ?_⟩) (by assumption) ?_
                · intro w0 hSw; (try dsimp only at hSw); first | (go_simp; done) | (go_simp; with_reducible rfl) | (go_simp; omega)
                simp only [List.setIfInBounds_toArray, List.set_cons_zero, List.set_cons_succ]
                refine take_at (i := 15) (v := ?_) rfl rfl (by kernel_rfl) (by kernel_rfl) (by kernel_rfl) (fun _ _ _ h => h) (Or.inl ⟨by rfl, ?_⟩) (by assumption) ?_
                rotate_left
                · intro w0 hSw; (try dsimp only at hSw); first | (go_simp; done) | (go_simp; with_reducible rfl)
                simp only [List.setIfInBounds_toArray, List.set_cons_zero, List.set_cons_succ]
                refine take_at (i := 16) (v := ?_) rfl rfl (by kernel_rfl) (by kernel_rfl) (by kernel_rfl) (fun _ _ _ h => h) (Or.inl ⟨by rfl, ?_⟩) (by assumption) ?_
                rotate_left
                · intro w0 hSw; (try dsimp only at hSw); first | (go_simp; done) | (go_simp; with_reducible rfl)
                simp only [List.setIfInBounds_toArray, List.set_cons_zero, List.set_cons_succ]
                refine take_at (i := 17) (v := ?_) rfl rfl (by kernel_rfl) (by kernel_rfl) (by kernel_rfl) (fun _ _ _ h => h) (Or.inl ⟨by rfl, ?_⟩) (by assumption) ?_
                rotate_left
                · intro w0 hSw; (try dsimp only at hSw); first | (go_simp; done) | (go_simp; with_reducible rfl)
                simp only [List.setIfInBounds_toArray, List.set_cons_zero, List.set_cons_succ]
                refine take_at (i := 18) (v := ?_) rfl rfl (by kernel_rfl) (by kernel_rfl) (by kernel_rfl) (fun _ _ _ h => h) (Or.inl ⟨by rfl, ?_⟩) (by assumption) ?_
                rotate_left
                · intro w0 hSw; (try dsimp only at hSw); first | (go_simp; done) | (go_simp; with_reducible rfl)
                simp only [List.setIfInBounds_toArray, List.set_cons_zero, List.set_cons_succ]
                refine take_at (i := 19) (v := ?_) rfl rfl (by kernel_rfl) (by kernel_rfl) (by kernel_rfl) (fun _ _ _ h => h) (Or.inl ⟨by rfl, ?_⟩) (by assumption) ?_
                rotate_left
                · intro w0 hSw; (try dsimp only at hSw); first | (go_simp; done) | (go_simp; with_reducible rfl)
                simp only [List.setIfInBounds_toArray, List.set_cons_zero, List.set_cons_succ]
                refine take_at (i := 20) rfl rfl (by kernel_rfl) (by kernel_rfl) (by kernel_rfl) (fun _ _ _ h => h) (yieldsIf_load_mid (by rfl) _ _ rfl (g + 1) 0 rfl y.cells _ (fun w0 hSw => RY.out _ (HB5.out.trans (hSw.mono HB5.out.size))) Tryz.underlying31 rfl SY.out) (by assumption) ?_
                simp only [List.setIfInBounds_toArray, List.set_cons_zero, List.set_cons_succ]
                refine wpAnyH_ready (rs := [21]) (by kernel_rfl) (by simp) ?_
                refine AllReadyH.cons rfl (fun K hK => ?_) ?_
                · go_simp
                  go_wp2_with ((go_at_call 8; (with_reducible refine (HLY.out _ (HB5.out.trans (hHeld.mono HB5.out.size))).mono ?_); rintro e y21 ⟨rfl, hb⟩; have HBy21 := Lib.hid hb; clear hb))
                  refine hK.out _ _ (by (try dsimp only); exact hHeld.trans (HBy21.out.mono hHeld.size)) (fun hHeld => ?_)
                  clear hK K
                  refine take_at (i := 22) (v := ?_) rfl rfl (by kernel_rfl) (by kernel_rfl) (by kernel_rfl) (fun _ _ _ h => h) (Or.inl ⟨by rfl, ?_⟩) (by assumption) ?_
                  rotate_left
                  · intro w0 hSw; (try dsimp only at hSw); first | (go_simp; done) | (go_simp; with_reducible rfl)
                  simp only [List.setIfInBounds_toArray, List.set_cons_zero, List.set_cons_succ]
                  refine take_at (i := 23) (v := ?_) rfl rfl (by kernel_rfl) (by kernel_rfl) (by kernel_rfl) (fun _ _ _ h => h) (Or.inl ⟨by rfl, ?_⟩) (by assumption) ?_
                  rotate_left
                  · intro w0 hSw; (try dsimp only at hSw); first | (go_simp; done) | (go_simp; with_reducible rfl)
                  simp only [List.setIfInBounds_toArray, List.set_cons_zero, List.set_cons_succ]
                  refine wpAnyH_done (by kernel_rfl) ?_ _
                  have HST := Lib.hid (show Below w5.heap.size w5 y21 from hHeld)
                  clear hHeld
                  go_wp2_with fail
                  go_meet
                  exact ⟨rfl, HST.out⟩
                exact AllReadyH.nil
              exact AllReadyH.nil
            exact AllReadyH.nil
          exact AllReadyH.nil
        · rw [decide_eq_false hpp] at hd
          subst hd
          obtain ⟨sy, hsy⟩ : ∃ s : ByteArray, (⟨py.toArray⟩ : ByteArray) = s := ⟨_, rfl⟩
          have hne : ¬ sx.toList = sy.toList := by
            rw [← HSTX.out, ← hsy, ByteArray.toList_eq, ByteArray.toList_eq]
            exact hpp
          have HSTY := Lib.hid hsy
          clear hsy hpp
          refine wp_region_held_drew (S := fun w' => Below w5.heap.size w5 w') (by kernel_rfl) (below_drew (Below.refl _ _)) (fun hHeld => ?_)
          refine take_at (i := 0) rfl rfl (by kernel_rfl) (by kernel_rfl) (by kernel_rfl) (fun _ _ _ h => h) (yieldsIf_load_mid (by rfl) _ _ rfl g 0 rfl x.cells _ (fun w0 hSw => RX.out _ (HB5.out.trans (hSw.mono HB5.out.size))) Tryz.underlying31 rfl SX.out) (by assumption) ?_
          simp only [List.setIfInBounds_toArray, List.set_cons_zero, List.set_cons_succ]
          refine take_at (i := 1) rfl rfl (by kernel_rfl) (by kernel_rfl) (by kernel_rfl) (fun _ _ _ h => h) (yieldsIf_load_mid (by rfl) _ _ rfl (g + 1) 0 rfl y.cells _ (fun w0 hSw => RY.out _ (HB5.out.trans (hSw.mono HB5.out.size))) Tryz.underlying31 rfl SY.out) (by assumption) ?_
          simp only [List.setIfInBounds_toArray, List.set_cons_zero, List.set_cons_succ]
          refine take_at (i := 3) rfl rfl (by kernel_rfl) (by kernel_rfl) (by kernel_rfl) (fun _ _ _ h => h) (yieldsIf_load_mid (by rfl) _ _ rfl g 0 rfl x.cells _ (fun w0 hSw => RX.out _ (HB5.out.trans (hSw.mono HB5.out.size))) Tryz.underlying31 rfl SX.out) (by assumption) ?_
          simp only [List.setIfInBounds_toArray, List.set_cons_zero, List.set_cons_succ]
          refine wpAnyH_ready (rs := [2]) (by kernel_rfl) (by simp) ?_
          refine AllReadyH.cons rfl (fun K hK => ?_) ?_
          · go_simp
            go_wp2_with ((go_at_call 15; (with_reducible refine (HSA.out _ (HB5.out.trans (hHeld.mono HB5.out.size))).mono ?_); rintro e y2 ⟨rfl, hb⟩; have HBy2 := Lib.hid hb; clear hb))
            refine hK.out _ _ (by (try dsimp only); exact hHeld.trans (HBy2.out.mono hHeld.size)) (fun hHeld => ?_)
            clear hK K
            refine wpAnyH_ready (rs := [4]) (by kernel_rfl) (by simp) ?_
            refine AllReadyH.cons rfl (fun K hK => ?_) ?_
            · go_simp
              go_wp2_with ((go_at_call 8; (with_reducible refine (HLX.out _ (HB5.out.trans (hHeld.mono HB5.out.size))).mono ?_); rintro e y4 ⟨rfl, hb⟩; have HBy4 := Lib.hid hb; clear hb))
              refine hK.out _ _ (by (try dsimp only); exact hHeld.trans (HBy4.out.mono hHeld.size)) (fun hHeld => ?_)
              clear hK K
              refine take_at (i := 5) (v := ?_) rfl rfl (by kernel_rfl) (by kernel_rfl) (by kernel_rfl) (fun _ _ _ h => h) (Or.inl ⟨by rfl, ?_⟩) (by assumption) ?_
              rotate_left
              · intro w0 hSw; (try dsimp only at hSw); first | (go_simp; done) | (go_simp; with_reducible rfl)
              simp only [List.setIfInBounds_toArray, List.set_cons_zero, List.set_cons_succ]
              refine take_at (i := 6) rfl rfl (by kernel_rfl) (by kernel_rfl) (by kernel_rfl) (fun _ _ _ h => h) (yieldsIf_load_mid (by rfl) _ _ rfl (g + 1) 0 rfl y.cells _ (fun w0 hSw => RY.out _ (HB5.out.trans (hSw.mono HB5.out.size))) Tryz.underlying31 rfl SY.out) (by assumption) ?_
              simp only [List.setIfInBounds_toArray, List.set_cons_zero, List.set_cons_succ]
              refine wpAnyH_ready (rs := [7]) (by kernel_rfl) (by simp) ?_
              refine AllReadyH.cons rfl (fun K hK => ?_) ?_
              · go_simp
                go_wp2_with ((go_at_call 8; (with_reducible refine (HLY.out _ (HB5.out.trans (hHeld.mono HB5.out.size))).mono ?_); rintro e y7 ⟨rfl, hb⟩; have HBy7 := Lib.hid hb; clear hb))
                refine hK.out _ _ (by (try dsimp only); exact hHeld.trans (HBy7.out.mono hHeld.size)) (fun hHeld => ?_)
                clear hK K
                refine take_at (i := 8) (v := ?_) rfl rfl (by kernel_rfl) (by kernel_rfl) (by kernel_rfl) (fun _ _ _ h => h) (Or.inl ⟨by rfl, ?_⟩) (by assumption) ?_
                rotate_left
                · intro w0 hSw; (try dsimp only at hSw); first | (go_simp; done) | (go_simp; with_reducible rfl)
                simp only [List.setIfInBounds_toArray, List.set_cons_zero, List.set_cons_succ]
                refine take_at (i := 9) (v := ?_) rfl rfl (by kernel_rfl) (by kernel_rfl) (by kernel_rfl) (fun _ _ _ h => h) (Or.inl ⟨by rfl, ?_⟩) (by assumption) ?_
                rotate_left
                · intro w0 hSw; (try dsimp only at hSw); first | (go_simp; done) | (go_simp; with_reducible rfl)
                simp only [List.setIfInBounds_toArray, List.set_cons_zero, List.set_cons_succ]
                refine take_at (i := 10) (v := ?_) rfl rfl (by kernel_rfl) (by kernel_rfl) (by kernel_rfl) (fun _ _ _ h => h) (Or.inl ⟨by rfl, ?_⟩) (by assumption) ?_
                rotate_left
                · intro w0 hSw; (try dsimp only at hSw); first | (go_simp; done) | (go_simp; with_reducible rfl)
                simp only [List.setIfInBounds_toArray, List.set_cons_zero, List.set_cons_succ]
                refine take_at (i := 11) rfl rfl (by kernel_rfl) (by kernel_rfl) (by kernel_rfl) (fun _ _ _ h => h) (yields_conv (by rfl) rfl (by rfl) HSTX.out (fun w0 hSw => HPX.out.below hSw)) (by assumption) ?_
                simp only [List.setIfInBounds_toArray, List.set_cons_zero, List.set_cons_succ]
                refine take_at (i := 12) (v := ?_) rfl rfl (by kernel_rfl) (by kernel_rfl) (by kernel_rfl) (fun _ _ _ h => h) (Or.inl ⟨by rfl, ?_⟩) (by assumption) ?_
                rotate_left
                · intro w0 hSw; (try dsimp only at hSw); first | (go_simp; done) | (go_simp; with_reducible rfl)
                simp only [List.setIfInBounds_toArray, List.set_cons_zero, List.set_cons_succ]
                refine take_at (i := 13) rfl rfl (by kernel_rfl) (by kernel_rfl) (by kernel_rfl) (fun _ _ _ h => h) (yields_conv (by rfl) rfl (by rfl) HSTY.out (fun w0 hSw => HPY.out.below hSw)) (by assumption) ?_
                simp only [List.setIfInBounds_toArray, List.set_cons_zero, List.set_cons_succ]
                refine take_at (i := 14) (v := .bool false) rfl rfl (by kernel_rfl) (by kernel_rfl) (by kernel_rfl) (fun _ _ _ h => h) (Or.inl ⟨by rfl, ?_⟩) (by assumption) ?_
                · intro w0 hSw; (try dsimp only at hSw); first | (go_simp; done) | (go_simp; with_reducible rfl) | (go_simp; omega)
                simp only [List.setIfInBounds_toArray, List.set_cons_zero, List.set_cons_succ]
                refine take_at (i := 15) (v := ?_) rfl rfl (by kernel_rfl) (by kernel_rfl) (by kernel_rfl) (fun _ _ _ h => h) (Or.inl ⟨by rfl, ?_⟩) (by assumption) ?_
                rotate_left
                · intro w0 hSw; (try dsimp only at hSw); first | (go_simp; done) | (go_simp; with_reducible rfl)
                simp only [List.setIfInBounds_toArray, List.set_cons_zero, List.set_cons_succ]
                refine take_at (i := 16) (v := ?_) rfl rfl (by kernel_rfl) (by kernel_rfl) (by kernel_rfl) (fun _ _ _ h => h) (Or.inl ⟨by rfl, ?_⟩) (by assumption) ?_
                rotate_left
                · intro w0 hSw; (try dsimp only at hSw); first | (go_simp; done) | (go_simp; with_reducible rfl)
                simp only [List.setIfInBounds_toArray, List.set_cons_zero, List.set_cons_succ]
                refine take_at (i := 17) (v := ?_) rfl rfl (by kernel_rfl) (by kernel_rfl) (by kernel_rfl) (fun _ _ _ h => h) (Or.inl ⟨by rfl, ?_⟩) (by assumption) ?_
                rotate_left
                · intro w0 hSw; (try dsimp only at hSw); first | (go_simp; done) | (go_simp; with_reducible rfl)
                simp only [List.setIfInBounds_toArray, List.set_cons_zero, List.set_cons_succ]
                refine take_at (i := 18) (v := ?_) rfl rfl (by kernel_rfl) (by kernel_rfl) (by kernel_rfl) (fun _ _ _ h => h) (Or.inl ⟨by rfl, ?_⟩) (by assumption) ?_
                rotate_left
                · intro w0 hSw; (try dsimp only at hSw); first | (go_simp; done) | (go_simp; with_reducible rfl)
                simp only [List.setIfInBounds_toArray, List.set_cons_zero, List.set_cons_succ]
                refine take_at (i := 19) (v := ?_) rfl rfl (by kernel_rfl) (by kernel_rfl) (by kernel_rfl) (fun _ _ _ h => h) (Or.inl ⟨by rfl, ?_⟩) (by assumption) ?_
                rotate_left
                · intro w0 hSw; (try dsimp only at hSw); first | (go_simp; done) | (go_simp; with_reducible rfl)
                simp only [List.setIfInBounds_toArray, List.set_cons_zero, List.set_cons_succ]
                refine take_at (i := 20) rfl rfl (by kernel_rfl) (by kernel_rfl) (by kernel_rfl) (fun _ _ _ h => h) (yieldsIf_load_mid (by rfl) _ _ rfl (g + 1) 0 rfl y.cells _ (fun w0 hSw => RY.out _ (HB5.out.trans (hSw.mono HB5.out.size))) Tryz.underlying31 rfl SY.out) (by assumption) ?_
                simp only [List.setIfInBounds_toArray, List.set_cons_zero, List.set_cons_succ]
                refine wpAnyH_ready (rs := [21]) (by kernel_rfl) (by simp) ?_
                refine AllReadyH.cons rfl (fun K hK => ?_) ?_
                · go_simp
                  go_wp2_with ((go_at_call 8; (with_reducible refine (HLY.out _ (HB5.out.trans (hHeld.mono HB5.out.size))).mono ?_); rintro e y21 ⟨rfl, hb⟩; have HBy21 := Lib.hid hb; clear hb))
                  refine hK.out _ _ (by (try dsimp only); exact hHeld.trans (HBy21.out.mono hHeld.size)) (fun hHeld => ?_)
                  clear hK K
                  refine take_at (i := 22) (v := ?_) rfl rfl (by kernel_rfl) (by kernel_rfl) (by kernel_rfl) (fun _ _ _ h => h) (Or.inl ⟨by rfl, ?_⟩) (by assumption) ?_
                  rotate_left
                  · intro w0 hSw; (try dsimp only at hSw); first | (go_simp; done) | (go_simp; with_reducible rfl)
                  simp only [List.setIfInBounds_toArray, List.set_cons_zero, List.set_cons_succ]
                  refine take_at (i := 23) (v := ?_) rfl rfl (by kernel_rfl) (by kernel_rfl) (by kernel_rfl) (fun _ _ _ h => h) (Or.inl ⟨by rfl, ?_⟩) (by assumption) ?_
                  rotate_left
                  · intro w0 hSw; (try dsimp only at hSw); first | (go_simp; done) | (go_simp; with_reducible rfl)
                  simp only [List.setIfInBounds_toArray, List.set_cons_zero, List.set_cons_succ]
                  refine wpAnyH_done (by kernel_rfl) ?_ _
                  have HST := Lib.hid (show Below w5.heap.size w5 y21 from hHeld)
                  clear hHeld
                  go_wp2_with fail
                  go_meet
                  exact ⟨rfl, HST.out⟩
                exact AllReadyH.nil
              exact AllReadyH.nil
            exact AllReadyH.nil
          exact AllReadyH.nil
  case rest =>
  obtain ⟨rfl, hb6⟩ := hcut
  have HB6 := Lib.hid (HB5.out.trans (hb6.mono HB5.out.size))
  have HPX6 := Lib.hid (HPX.out.below hb6)
  have RX6 := Lib.hid (RX.out _ HB6.out)
  clear hb6 HPX HPY HB5 HSA HLY HEY HKY HPYE HD
  cases kx
  · obtain rfl : ex = 1 := by rw [← HEX.out]; unfold packE; rw [HKX.out]; rfl
    obtain rfl : px = [] := by rw [← HPXE.out]; unfold packB; rw [HKX.out]; rfl
    obtain rfl : nx = 0 := HPX6.out.1.symm
    go_wp2_with (first | (refine wpList_load_mid rfl 31 _ rfl g 0 rfl x.cells _ RX6.out Tryz.underlying31 rfl SX.out ?_) | fail)
    refine (HLX.out _ HB6.out).mono ?_
    rintro e w7 ⟨rfl, hb7⟩
    have HB7 := Lib.hid (HB1.out.trans ((HB6.out.trans (hb7.mono HB6.out.size)).mono HB1.out.size))
    clear hb7 RX6
    go_wp2_with (first | (go_at_call 6; (with_reducible refine (HAW.out _ HB7.out).mono ?_); rintro e wz ⟨rfl, hbz⟩; have HBZ := Lib.hid hbz; clear hbz) | fail)
    go_ret
    exact ⟨rfl, HB7.out.trans (HBZ.out.mono HB7.out.size)⟩
  · obtain rfl : ex = 0 := by rw [← HEX.out]; unfold packE; rw [HKX.out]; rfl
    obtain ⟨hf9, hq9, hz9, hp9⟩ := txB_parts HX1.out HKX.out
    have hsn : x.sn ≤ 16 := (txOk_parts HKX.out).2.2.1
    obtain ⟨FT, hFT⟩ : ∃ F, frontB true x = F := ⟨_, rfl⟩
    rw [hFT] at HFT hp9 hf9
    have HSZ := Lib.hid hz9
    have HSG := Lib.hid hq9
    have HPP := Lib.hid (HPXE.out.symm.trans hp9)
    have HFN := Lib.hid hf9
    clear hf9 hq9 hz9 hp9 hFT HEX
    go_wp2_with (first | (refine wpList_load_mid rfl 31 _ rfl g 0 rfl x.cells _ RX6.out Tryz.underlying31 rfl SX.out ?_) | fail)
    refine (HLX.out _ HB6.out).mono ?_
    rintro e w7 ⟨rfl, hb7⟩
    have HB7 := Lib.hid (HB6.out.trans (hb7.mono HB6.out.size))
    have HPX7 := Lib.hid (HPX6.out.below hb7)
    clear hb7 RX6 HPX6 HB6 HLX
    go_upto_region 12 with (fail)
    have b8 : Below w7.heap.size w7 (w7.alloc (.cells #[.pointer none, .int .i64 0] 45)) := (Below.refl _ _).alloc (Nat.le_refl _) _
    have h8 := heap_alloc_new w7 (.cells #[.pointer none, .int .i64 0] 45)
    revert b8 h8
    generalize (w7.alloc (.cells #[.pointer none, .int .i64 0] 45)) = w8
    obtain ⟨pb, hpb⟩ : ∃ pb, pb = w7.heap.size := ⟨_, rfl⟩
    rw [← hpb]
    intro b8 h8
    have hz8 : pb ≤ w8.heap.size := by rw [hpb]; exact b8.size
    have HP8 : Hid (PenAt w8 pb pb []) := Lib.hid (.inl ⟨h8, rfl⟩)
    have HB8 := Lib.hid b8
    have HLOW : Hid (∀ W : World, Below pb w7 W → Below w1.heap.size w1 W) := Lib.hid (fun W hW => HB7.out.trans (hW.mono (by rw [hpb]; exact HB7.out.size)))
    have HPW : Hid (∀ W : World, Below pb w7 W → Row W ax nx cx px) := Lib.hid (fun W hW => HPX7.out.below (by rw [← hpb]; exact hW))
    obtain ⟨A, hA⟩ : ∃ A, A = x.sa := ⟨_, rfl⟩
    have HA := Lib.hid hA
    have HC : Hid (∀ W : World, Below pb w7 W → W.cell? ⟨g, 39, none⟩ = some (.slice A x.sn x.sc)) := Lib.hid (fun W hW => by have h9 := tx_signs HRO.out (RX.out _ (HLOW.out _ hW)); rw [Nat.zero_add] at h9; rw [hA]; exact h9)
    have c39 := HC.out _ b8
    have hs63 : (x.sn : Int) ≤ 9223372036854775807 := by omega
    have HL0 : Hid (([] : List UInt8).length + 9 ≤ 140737488355328) := Lib.hid (by simp)
    clear hpb b8 h8 hA HPX7
    go_wp2_with fail
    refine (pnum_typed (x.sn : Int) HP8.out hz8 HL0.out hs63).mono ?_
    rintro e wa ⟨rfl, hpa, hba, _⟩
    rw [List.nil_append] at hpa
    have HPA := Lib.hid hpa
    have HBA : Hid (Below pb w7 wa) := Lib.hid (HB8.out.trans (hba.below (Nat.le_refl _)))
    clear c39 hpa hba HP8 HB8 hz8 HL0
    go_upto_region 14 with (fail)
    go_loopw [10] (fun i wr => ∃ k : Nat, k ≤ x.sn ∧ i = .int .i64 k ∧ PenAt wr pb pb (numB (x.sn : Int) ++ signsB (x.signs.take k)) ∧ Below pb w7 wr) (fun i _ => x.sn - (intOf i).toNat)
    case atStart => exact ⟨0, Nat.zero_le _, rfl, by have h9 := HPA.out; simpa [signsB] using h9, HBA.out⟩
    case round =>
      obtain ⟨k, hk, rfl, hpk, hbk⟩ := hrel
      have HPK := Lib.hid hpk
      have HBK := Lib.hid hbk
      have hbzr : pb ≤ wr.heap.size := Nat.le_of_lt hpk.lt
      have c39 := HC.out _ hbk
      clear hpk hbk HPA HBA
      by_cases hkn : k < x.sn
      · have f1 : (k : Int) < (x.sn : Int) := by omega
        have f0 : (0 : Int) ≤ (k : Int) := by omega
        have ft : ((k : Int)).toNat = k := by omega
        have hkl : k < x.signs.length := by rw [HX1.out.signs.1]; exact hkn
        have hsg := HX1.out.signs
        obtain ⟨b1, o1, e1, hltb, hc1⟩ := hsg.2.2.2.2.2 (by omega)
        have hrx : w1.rangeAt b1 (o1 + k * 33) (x.signs.getD k noSign).cells := hc1 k hkn
        have hy1 : SignIn (x.signs.getD k noSign) := hsg.get hkn
        have hnx := signsB_take hkl
        have hll := signsB_le (xs := x.signs) (k := k + 1)
        rw [hnx] at hll
        revert hrx hy1 hnx hll
        generalize x.signs.getD k noSign = q
        intro hrx hy1 hnx hll
        obtain ⟨P, hP⟩ : ∃ P, P = numB (x.sn : Int) ++ signsB (x.signs.take k) := ⟨_, rfl⟩
        have HNX : Hid (numB (x.sn : Int) ++ signsB (x.signs.take (k + 1)) = P ++ signB q) := Lib.hid (by rw [hnx, hP]; simp only [List.append_assoc])
        have HLW : Hid (P.length + 100 ≤ 1000000) := Lib.hid (by
          have h8 := numB_le (x.sn : Int)
          have h7 := HSZ.out
          rw [hP]
          simp only [List.length_append] at hll ⊢
          omega)
        rw [← hP] at HPK
        rw [← HA.out] at e1
        subst e1
        have HBUT : Hid (∀ W : World, But pb pb wr W → Below pb w7 W) := Lib.hid (fun W hW => HBK.out.trans (hW.below (Nat.le_refl _)))
        have HRY : Hid (∀ W : World, But pb pb wr W → W.rangeAt b1 (o1 + k * 33) q.cells) := Lib.hid (fun W hW => rangeAt_below hrx hltb (HLOW.out _ (HBUT.out _ hW)))
        have HC39 : Hid (∀ W : World, But pb pb wr W → W.cell? ⟨g, 39, none⟩ = some (.slice (some ⟨b1, o1, none⟩) x.sn x.sc)) := Lib.hid (fun W hW => HC.out _ (HBUT.out _ hW))
        have SSM := Lib.hid (sumLen hy1.sum)
        have HSM := Lib.hid hy1.sum
        have HFK : Hid (q.key ≤ 9223372036854775807) := Lib.hid hy1.key.2
        have HPEN0 : Hid (PenAt wr.drew pb pb P) := Lib.hid (HPK.out.below hbzr (below_drew (Below.refl _ _)))
        clear hc1 hrx hy1 hnx hll hP hkl hsg HPK
        go_upto_region 16 with (fail)
        clear c39
        refine wp_region_held_drew (S := fun w' => PStep pb pb wr w') (by kernel_rfl) (⟨But.of (below_drew (Below.refl _ _)), fun _ _ _ _ _ _ _ _ => rfl⟩) (fun hHeld => ?_)
        refine take_at (i := 0) (v := ?_) rfl rfl (by kernel_rfl) (by kernel_rfl) (by kernel_rfl) (fun _ _ _ h => h) (Or.inl ⟨by rfl, ?_⟩) (by assumption) ?_
        rotate_left
        · intro w0 hSw; (try dsimp only at hSw); first | (go_simp; done) | (go_simp; with_reducible rfl)
        simp only [List.setIfInBounds_toArray, List.set_cons_zero, List.set_cons_succ]
        refine take_at (i := 1) rfl rfl (by kernel_rfl) (by kernel_rfl) (by kernel_rfl) (fun _ _ _ h => h) (yields_cell (by rfl) rfl rfl (b := g) (o := 39) (fun w0 hSw => HC39.out _ hSw.1) Tryz.isAgg29) (by assumption) ?_
        simp only [List.setIfInBounds_toArray, List.set_cons_zero, List.set_cons_succ]
        refine take_at (i := 2) (v := ?_) rfl rfl (by kernel_rfl) (by kernel_rfl) (by kernel_rfl) (fun _ _ _ h => h) (Or.inl ⟨by rfl, ?_⟩) (by assumption) ?_
        rotate_left
        · intro w0 hSw; (try dsimp only at hSw); first | (go_simp; done) | (go_simp; with_reducible rfl)
        simp only [List.setIfInBounds_toArray, List.set_cons_zero, List.set_cons_succ]
        refine take_at (i := 3) (v := ?_) rfl rfl (by kernel_rfl) (by kernel_rfl) (by kernel_rfl) (fun _ _ _ h => h) (Or.inl ⟨by rfl, ?_⟩) (by assumption) ?_
        rotate_left
        · intro w0 hSw; (try dsimp only at hSw); first | (go_simp; done) | (go_simp; with_reducible rfl)
        simp only [List.setIfInBounds_toArray, List.set_cons_zero, List.set_cons_succ]
        refine take_at (i := 4) (v := ?_) rfl rfl (by kernel_rfl) (by kernel_rfl) (by kernel_rfl) (fun _ _ _ h => h) (Or.inl ⟨by rfl, ?_⟩) (by assumption) ?_
        rotate_left
        · intro w0 hSw; (try dsimp only at hSw); first | (go_simp; done) | (go_simp; with_reducible rfl)
        simp only [List.setIfInBounds_toArray, List.set_cons_zero, List.set_cons_succ]
        refine take_at (i := 5) rfl rfl (by kernel_rfl) (by kernel_rfl) (by kernel_rfl) (fun _ _ _ h => h) (yields_cell (by rfl) rfl rfl (b := b1) (o := o1 + k * 33) (fun w0 hSw => sign_key (HRY.out _ hSw.1)) Tryz.isAgg3) (by assumption) ?_
        simp only [List.setIfInBounds_toArray, List.set_cons_zero, List.set_cons_succ]
        refine take_at (i := 7) (v := ?_) rfl rfl (by kernel_rfl) (by kernel_rfl) (by kernel_rfl) (fun _ _ _ h => h) (Or.inl ⟨by rfl, ?_⟩) (by assumption) ?_
        rotate_left
        · intro w0 hSw; (try dsimp only at hSw); first | (go_simp; done) | (go_simp; with_reducible rfl)
        simp only [List.setIfInBounds_toArray, List.set_cons_zero, List.set_cons_succ]
        refine take_at (i := 8) rfl rfl (by kernel_rfl) (by kernel_rfl) (by kernel_rfl) (fun _ _ _ h => h) (yields_cell (by rfl) rfl rfl (b := g) (o := 39) (fun w0 hSw => HC39.out _ hSw.1) Tryz.isAgg29) (by assumption) ?_
        simp only [List.setIfInBounds_toArray, List.set_cons_zero, List.set_cons_succ]
        refine take_at (i := 9) (v := ?_) rfl rfl (by kernel_rfl) (by kernel_rfl) (by kernel_rfl) (fun _ _ _ h => h) (Or.inl ⟨by rfl, ?_⟩) (by assumption) ?_
        rotate_left
        · intro w0 hSw; (try dsimp only at hSw); first | (go_simp; done) | (go_simp; with_reducible rfl)
        simp only [List.setIfInBounds_toArray, List.set_cons_zero, List.set_cons_succ]
        refine take_at (i := 10) (v := ?_) rfl rfl (by kernel_rfl) (by kernel_rfl) (by kernel_rfl) (fun _ _ _ h => h) (Or.inl ⟨by rfl, ?_⟩) (by assumption) ?_
        rotate_left
        · intro w0 hSw; (try dsimp only at hSw); first | (go_simp; done) | (go_simp; with_reducible rfl)
        simp only [List.setIfInBounds_toArray, List.set_cons_zero, List.set_cons_succ]
        refine take_at (i := 11) (v := ?_) rfl rfl (by kernel_rfl) (by kernel_rfl) (by kernel_rfl) (fun _ _ _ h => h) (Or.inl ⟨by rfl, ?_⟩) (by assumption) ?_
        rotate_left
        · intro w0 hSw; (try dsimp only at hSw); first | (go_simp; done) | (go_simp; with_reducible rfl)
        simp only [List.setIfInBounds_toArray, List.set_cons_zero, List.set_cons_succ]
        refine take_at (i := 12) rfl rfl (by kernel_rfl) (by kernel_rfl) (by kernel_rfl) (fun _ _ _ h => h) (yieldsIf_load_mid (by rfl) _ _ rfl b1 (o1 + k * 33 + 1) rfl (cellsOf q.sum) _ (fun w0 hSw => sign_sum (HRY.out _ hSw.1)) Tryz.underlying25 rfl SSM.out) (by assumption) ?_
        simp only [List.setIfInBounds_toArray, List.set_cons_zero, List.set_cons_succ]
        refine wpAnyH_ready (rs := [6]) (by kernel_rfl) (by simp) ?_
        refine AllReadyH.cons rfl (fun K hK => ?_) ?_
        · have HZwrdrew : Hid (pb ≤ (wr.drew).heap.size) := Lib.hid (Nat.le_trans hbzr hHeld.1.size)
          go_simp
          go_wp2_with ((go_at_call 16; (with_reducible refine (pnum_typed q.key HPEN0.out HZwrdrew.out (by have := HLW.out; omega) HFK.out).mono ?_); rintro e y6 ⟨rfl, hp, hb, hk⟩; have HPy6 := Lib.hid hp; have HSy6 : Hid (PStep pb pb _ y6) := Lib.hid ⟨hb, hk⟩; clear hp hb hk))
          refine hK.out _ _ (by (try dsimp only); exact ⟨hHeld.1.trans HSy6.out.1, hHeld.2.trans HSy6.out.2⟩) (fun hHeld => ?_)
          clear hK K
          refine wpAnyH_ready (rs := [13]) (by kernel_rfl) (by simp) ?_
          refine AllReadyH.cons rfl (fun K hK => ?_) ?_
          · have HZy6 : Hid (pb ≤ (y6).heap.size) := Lib.hid (Nat.le_trans hbzr hHeld.1.size)
            go_simp
            go_wp2_with ((go_at_call 17; (with_reducible refine (psum_typed _ HSM.out HPy6.out HZy6.out (by have h0 := HLW.out; have h1 := numB_le q.key; rw [List.length_append]; omega)).mono ?_); rintro e y13 ⟨rfl, hp, hb, hk⟩; have HPy13 := Lib.hid hp; have HSy13 : Hid (PStep pb pb _ y13) := Lib.hid ⟨hb, hk⟩; clear hp hb hk))
            refine hK.out _ _ (by (try dsimp only); exact ⟨hHeld.1.trans HSy13.out.1, hHeld.2.trans HSy13.out.2⟩) (fun hHeld => ?_)
            clear hK K
            refine wpAnyH_done (by kernel_rfl) ?_ _
            have HST := Lib.hid (show PStep pb pb wr y13 from hHeld)
            clear hHeld
            have HBY := Lib.hid (HBK.out.trans (HST.out.1.below (Nat.le_refl _)))
            have HPE : Hid (PenAt y13 pb pb (numB (x.sn : Int) ++ signsB (x.signs.take (k + 1)))) := Lib.hid (by have h9 := HPy13.out; rw [HNX.out]; unfold signB; simpa using h9)
            go_wp2_with fail
            go_roundw
            case rel => exact ⟨k + 1, by omega, by go_num, HPE.out, HBY.out⟩
            case measure => simp [intOf]; omega
          exact AllReadyH.nil
        exact AllReadyH.nil
      · obtain rfl : k = x.sn := by omega
        have f1 : ¬ ((x.sn : Int) < (x.sn : Int)) := by omega
        have htk : x.signs.take x.sn = x.signs := List.take_of_length_le (by rw [HX1.out.signs.1]; exact Nat.le_refl _)
        rw [htk] at HPK
        obtain ⟨Q, hQ⟩ : ∃ Q, numB (x.sn : Int) ++ signsB x.signs = Q := ⟨_, rfl⟩
        rw [hQ] at HPK HSG HPP
        have HRW := Lib.hid (HPW.out _ HBK.out)
        have hnx6 : nx ≤ 1000000 := by
          have h9 := HRW.out.1
          rw [HPP.out, List.length_append] at h9
          have h8 := HFN.out
          have h7 := HSG.out
          omega
        have HRD := Lib.hid (txRead_any HRW.out hnx6)
        have HXR := Lib.hid (HX1.out.below (HLOW.out _ HBK.out))
        have HBWR := Lib.hid (HLOW.out _ HBK.out)
        clear htk hQ HPW HBK HLOW HC
        go_wp2_with fail
        refine HRD.out.mono ?_
        rintro e w6 ⟨z, E, rfl, hz, hb6, hE0, hE1⟩
        have hpt : packB x = txB x := by unfold packB; rw [if_pos HKX.out]
        obtain rfl : E = 0 := Classical.byContradiction fun h => (hE1 h).2 x HXR.out.lens HKX.out (by rw [← hpt]; exact HPXE.out)
        obtain ⟨hzk, hzb⟩ := hE0 rfl
        have hsm : (txOk z && (txOk x && decide (txB z = txB x))) = true := by rw [hzk, HKX.out, hzb, ← HPXE.out, hpt]; simp
        have HSM := Lib.hid hsm
        have HB6 := Lib.hid (HBWR.out.trans (hb6.mono HBWR.out.size))
        have HP6 := Lib.hid (HPK.out.below hbzr hb6)
        have hb66 : pb ≤ w6.heap.size := Nat.le_trans hbzr hb6.size
        have HPX6 := Lib.hid (HRW.out.below hb6)
        have HZ6 := Lib.hid hz
        have SZ := Lib.hid (tx_size hz.op.root)
        have AZ := Lib.hid (tx_sizeA hz.op.root)
        have ZZ : Hid (noTx.cells.toArray.size = z.cells.toArray.size) := Lib.hid (by rw [List.size_toArray, List.size_toArray, PTx.len hz.op.root]; rfl)
        clear hz hb6 hE0 hE1 hzk hzb hsm hpt HRD HRW HBWR HPK HXR hnx6 c39
        go_upto_region 18 with (first | (refine wpList_store_row rfl 31 _ _ rfl w6.heap.size z.cells.toArray rfl rfl 31 noTx.cells.toArray (heap_alloc_new _ _) AZ.out ZZ.out (all_oneCell_toArray z.one) ?_) | fail)
        rw [← noTx_is, layT_is]
        have h5 := layT_heap 31 noTx.cells w6 z.cells
        have b5 := layT_self 31 noTx.cells w6 z.cells
        revert h5 b5
        generalize layT 31 noTx.cells w6 z.cells = w9
        obtain ⟨g9, hg5⟩ : ∃ g5, g5 = w6.heap.size := ⟨_, rfl⟩
        rw [← hg5]
        intro h5 b5
        rw [hg5] at b5
        have H5 := Lib.hid h5
        have HB9 := Lib.hid (HB6.out.trans (b5.mono HB6.out.size))
        have HBW9 : Hid (Below w.heap.size w w9) := Lib.hid (HB1.out.trans (HB9.out.mono HB1.out.size))
        have HPX9 := Lib.hid (HPX6.out.below b5)
        have HP9 := Lib.hid (HP6.out.below hb66 b5)
        have hz9 : pb ≤ w9.heap.size := Nat.le_trans hb66 b5.size
        have RZ : Hid (∀ W : World, Below w9.heap.size w9 W → W.rangeAt g9 0 z.cells) := Lib.hid (fun W hW => range_of ((hW.block g9 (lt_of_block h5)).trans h5))
        have HZ9 := Lib.hid (HZ6.out.below b5)
        have HSZ := Lib.hid (fun (W : World) (hW : Below w9.heap.size w9 W) => txSame_any (HZ9.out.below hW) ((HX1.out.below HB9.out).below hW))
        rw [HSM.out] at HSZ
        have HPB := Lib.hid (fun (W : World) (hW : Below w9.heap.size w9 W) => bytes_any (HP9.out.below hz9 hW) (by have := HSG.out; omega))
        obtain ⟨sf, hsf⟩ : ∃ s : ByteArray, (⟨FT.toArray⟩ : ByteArray) = s := ⟨_, rfl⟩
        obtain ⟨sp, hsp⟩ : ∃ s : ByteArray, (⟨Q.toArray⟩ : ByteArray) = s := ⟨_, rfl⟩
        have HCAT : Hid (sf ++ sp = sx) := Lib.hid (by rw [← hsf, ← hsp, ← HSTX.out, HPP.out]; exact cat_of _ _)
        have HSIZ : Hid (sf.size + sp.size ≤ 2000000) := Lib.hid (by
          rw [← hsf, ← hsp]
          show FT.toArray.size + Q.toArray.size ≤ 2000000
          rw [List.size_toArray, List.size_toArray]
          have h8 := HFN.out
          have h7 := HSG.out
          omega)
        have HSTF := Lib.hid hsf
        have HSTP := Lib.hid hsp
        clear h5 b5 hg5 hsf hsp HB6 HPX6 HP6 HZ6 HSM AZ ZZ H5 HPP HFN HSG hb66
        try simp only [Act.put]
        refine wp_region_held_drew (S := fun w' => Below w9.heap.size w9 w') (by kernel_rfl) (below_drew (Below.refl _ _)) (fun hHeld => ?_)
        refine take_at (i := 0) (v := ?_) rfl rfl (by kernel_rfl) (by kernel_rfl) (by kernel_rfl) (fun _ _ _ h => h) (Or.inl ⟨by rfl, ?_⟩) (by assumption) ?_
        rotate_left
        · intro w0 hSw; (try dsimp only at hSw); first | (go_simp; done) | (go_simp; with_reducible rfl)
        simp only [List.setIfInBounds_toArray, List.set_cons_zero, List.set_cons_succ]
        refine take_at (i := 1) (v := ?_) rfl rfl (by kernel_rfl) (by kernel_rfl) (by kernel_rfl) (fun _ _ _ h => h) (Or.inl ⟨by rfl, ?_⟩) (by assumption) ?_
        rotate_left
        · intro w0 hSw; (try dsimp only at hSw); first | (go_simp; done) | (go_simp; with_reducible rfl)
        simp only [List.setIfInBounds_toArray, List.set_cons_zero, List.set_cons_succ]
        refine take_at (i := 2) (v := ?_) rfl rfl (by kernel_rfl) (by kernel_rfl) (by kernel_rfl) (fun _ _ _ h => h) (Or.inl ⟨by rfl, ?_⟩) (by assumption) ?_
        rotate_left
        · intro w0 hSw; (try dsimp only at hSw); first | (go_simp; done) | (go_simp; with_reducible rfl)
        simp only [List.setIfInBounds_toArray, List.set_cons_zero, List.set_cons_succ]
        refine take_at (i := 3) (v := ?_) rfl rfl (by kernel_rfl) (by kernel_rfl) (by kernel_rfl) (fun _ _ _ h => h) (Or.inl ⟨by rfl, ?_⟩) (by assumption) ?_
        rotate_left
        · intro w0 hSw; (try dsimp only at hSw); first | (go_simp; done) | (go_simp; with_reducible rfl)
        simp only [List.setIfInBounds_toArray, List.set_cons_zero, List.set_cons_succ]
        refine take_at (i := 4) rfl rfl (by kernel_rfl) (by kernel_rfl) (by kernel_rfl) (fun _ _ _ h => h) (yields_conv (by rfl) rfl (by rfl) HSTX.out (fun w0 hSw => HPX9.out.below hSw)) (by assumption) ?_
        simp only [List.setIfInBounds_toArray, List.set_cons_zero, List.set_cons_succ]
        refine take_at (i := 5) rfl rfl (by kernel_rfl) (by kernel_rfl) (by kernel_rfl) (fun _ _ _ h => h) (yieldsIf_load_mid (by rfl) _ _ rfl g 0 rfl x.cells _ (fun w0 hSw => RX.out _ (HB9.out.trans (hSw.mono HB9.out.size))) Tryz.underlying31 rfl SX.out) (by assumption) ?_
        simp only [List.setIfInBounds_toArray, List.set_cons_zero, List.set_cons_succ]
        refine wpAnyH_ready (rs := [6]) (by kernel_rfl) (by simp) ?_
        refine AllReadyH.cons rfl (fun K hK => ?_) ?_
        · go_simp
          go_wp2_with ((go_at_call 13; (with_reducible refine (HFT.out _ (HB9.out.trans (hHeld.mono HB9.out.size))).mono ?_); rintro e y6 ⟨a6, n6, c6, rfl, hr, hb⟩; have HBy6 := Lib.hid hb; have HR6 := Lib.hid hr; clear hr; clear hb))
          refine hK.out _ _ (by (try dsimp only); exact hHeld.trans (HBy6.out.mono hHeld.size)) (fun hHeld => ?_)
          clear hK K
          refine wpAnyH_ready (rs := [7, 8]) (by kernel_rfl) (by simp) ?_
          refine AllReadyH.cons rfl (fun K hK => ?_) ?_
          · refine step_conv (d := 129) rfl (by rfl) rfl (by rfl) HSTF.out HR6.out ?_
            refine hK.out _ _ (by (try dsimp only); exact hHeld) (fun hHeld => ?_)
            clear hK K
            refine wpAnyH_ready (rs := [8]) (by kernel_rfl) (by simp) ?_
            refine AllReadyH.cons rfl (fun K hK => ?_) ?_
            · go_simp
              go_wp2_with ((go_at_call 19; (with_reducible refine (HPB.out _ hHeld).mono ?_); rintro e y8 ⟨a7, n7, c7, rfl, hr, _, hb⟩; have HBy8 := Lib.hid hb; have HR7 := Lib.hid hr; clear hr; clear hb))
              refine hK.out _ _ (by (try dsimp only); exact hHeld.trans (HBy8.out.mono hHeld.size)) (fun hHeld => ?_)
              clear hK K
              refine wpAnyH_ready (rs := [9]) (by kernel_rfl) (by simp) ?_
              refine AllReadyH.cons rfl (fun K hK => ?_) ?_
              · refine step_conv (d := 131) rfl (by rfl) rfl (by rfl) HSTP.out HR7.out ?_
                refine hK.out _ _ (by (try dsimp only); exact hHeld) (fun hHeld => ?_)
                clear hK K
                refine take_at (i := 10) (v := .string sx) rfl rfl (by kernel_rfl) (by kernel_rfl) (by kernel_rfl) (fun _ _ _ h => h) (Or.inl ⟨by rfl, ?_⟩) (by assumption) ?_
                · intro w0 hSw; (try dsimp only at hSw); go_simp; rw [if_neg (by have := HSIZ.out; omega), HCAT.out]
                simp only [List.setIfInBounds_toArray, List.set_cons_zero, List.set_cons_succ]
                refine take_at (i := 11) (v := .bool true) rfl rfl (by kernel_rfl) (by kernel_rfl) (by kernel_rfl) (fun _ _ _ h => h) (Or.inl ⟨by rfl, ?_⟩) (by assumption) ?_
                · intro w0 hSw; (try dsimp only at hSw); first | (go_simp; done) | (go_simp; with_reducible rfl) | (go_simp; omega)
                simp only [List.setIfInBounds_toArray, List.set_cons_zero, List.set_cons_succ]
                refine take_at (i := 12) (v := ?_) rfl rfl (by kernel_rfl) (by kernel_rfl) (by kernel_rfl) (fun _ _ _ h => h) (Or.inl ⟨by rfl, ?_⟩) (by assumption) ?_
                rotate_left
                · intro w0 hSw; (try dsimp only at hSw); first | (go_simp; done) | (go_simp; with_reducible rfl)
                simp only [List.setIfInBounds_toArray, List.set_cons_zero, List.set_cons_succ]
                refine take_at (i := 13) (v := ?_) rfl rfl (by kernel_rfl) (by kernel_rfl) (by kernel_rfl) (fun _ _ _ h => h) (Or.inl ⟨by rfl, ?_⟩) (by assumption) ?_
                rotate_left
                · intro w0 hSw; (try dsimp only at hSw); first | (go_simp; done) | (go_simp; with_reducible rfl)
                simp only [List.setIfInBounds_toArray, List.set_cons_zero, List.set_cons_succ]
                refine take_at (i := 14) (v := ?_) rfl rfl (by kernel_rfl) (by kernel_rfl) (by kernel_rfl) (fun _ _ _ h => h) (Or.inl ⟨by rfl, ?_⟩) (by assumption) ?_
                rotate_left
                · intro w0 hSw; (try dsimp only at hSw); first | (go_simp; done) | (go_simp; with_reducible rfl)
                simp only [List.setIfInBounds_toArray, List.set_cons_zero, List.set_cons_succ]
                refine take_at (i := 15) (v := ?_) rfl rfl (by kernel_rfl) (by kernel_rfl) (by kernel_rfl) (fun _ _ _ h => h) (Or.inl ⟨by rfl, ?_⟩) (by assumption) ?_
                rotate_left
                · intro w0 hSw; (try dsimp only at hSw); first | (go_simp; done) | (go_simp; with_reducible rfl)
                simp only [List.setIfInBounds_toArray, List.set_cons_zero, List.set_cons_succ]
                refine take_at (i := 16) (v := ?_) rfl rfl (by kernel_rfl) (by kernel_rfl) (by kernel_rfl) (fun _ _ _ h => h) (Or.inl ⟨by rfl, ?_⟩) (by assumption) ?_
                rotate_left
                · intro w0 hSw; (try dsimp only at hSw); first | (go_simp; done) | (go_simp; with_reducible rfl)
                simp only [List.setIfInBounds_toArray, List.set_cons_zero, List.set_cons_succ]
                refine take_at (i := 17) (v := ?_) rfl rfl (by kernel_rfl) (by kernel_rfl) (by kernel_rfl) (fun _ _ _ h => h) (Or.inl ⟨by rfl, ?_⟩) (by assumption) ?_
                rotate_left
                · intro w0 hSw; (try dsimp only at hSw); first | (go_simp; done) | (go_simp; with_reducible rfl)
                simp only [List.setIfInBounds_toArray, List.set_cons_zero, List.set_cons_succ]
                refine take_at (i := 18) rfl rfl (by kernel_rfl) (by kernel_rfl) (by kernel_rfl) (fun _ _ _ h => h) (yieldsIf_load_mid (by rfl) _ _ rfl g9 0 rfl z.cells _ (fun w0 hSw => RZ.out _ hSw) Tryz.underlying31 rfl SZ.out) (by assumption) ?_
                simp only [List.setIfInBounds_toArray, List.set_cons_zero, List.set_cons_succ]
                refine take_at (i := 19) rfl rfl (by kernel_rfl) (by kernel_rfl) (by kernel_rfl) (fun _ _ _ h => h) (yieldsIf_load_mid (by rfl) _ _ rfl g 0 rfl x.cells _ (fun w0 hSw => RX.out _ (HB9.out.trans (hSw.mono HB9.out.size))) Tryz.underlying31 rfl SX.out) (by assumption) ?_
                simp only [List.setIfInBounds_toArray, List.set_cons_zero, List.set_cons_succ]
                refine wpAnyH_ready (rs := [20]) (by kernel_rfl) (by simp) ?_
                refine AllReadyH.cons rfl (fun K hK => ?_) ?_
                · go_simp
                  go_wp2_with ((go_at_call 15; (with_reducible refine (HSZ.out _ hHeld).mono ?_); rintro e y20 ⟨rfl, hb⟩; have HBy20 := Lib.hid hb; clear hb))
                  refine hK.out _ _ (by (try dsimp only); exact hHeld.trans (HBy20.out.mono hHeld.size)) (fun hHeld => ?_)
                  clear hK K
                  refine take_at (i := 21) (v := ?_) rfl rfl (by kernel_rfl) (by kernel_rfl) (by kernel_rfl) (fun _ _ _ h => h) (Or.inl ⟨by rfl, ?_⟩) (by assumption) ?_
                  rotate_left
                  · intro w0 hSw; (try dsimp only at hSw); first | (go_simp; done) | (go_simp; with_reducible rfl)
                  simp only [List.setIfInBounds_toArray, List.set_cons_zero, List.set_cons_succ]
                  refine take_at (i := 22) (v := ?_) rfl rfl (by kernel_rfl) (by kernel_rfl) (by kernel_rfl) (fun _ _ _ h => h) (Or.inl ⟨by rfl, ?_⟩) (by assumption) ?_
                  rotate_left
                  · intro w0 hSw; (try dsimp only at hSw); first | (go_simp; done) | (go_simp; with_reducible rfl)
                  simp only [List.setIfInBounds_toArray, List.set_cons_zero, List.set_cons_succ]
                  refine wpAnyH_ready (rs := [23]) (by kernel_rfl) (by simp) ?_
                  refine AllReadyH.cons rfl (fun K hK => ?_) ?_
                  · go_simp
                    go_wp2_with ((go_at_call 6; (with_reducible refine (HAW.out _ (HBW9.out.trans (hHeld.mono HBW9.out.size))).mono ?_); rintro e y23 ⟨rfl, hb⟩; have HBy23 := Lib.hid hb; clear hb))
                    refine hK.out _ _ (by (try dsimp only); exact hHeld.trans (HBy23.out.mono hHeld.size)) (fun hHeld => ?_)
                    clear hK K
                    refine take_at (i := 24) (v := ?_) rfl rfl (by kernel_rfl) (by kernel_rfl) (by kernel_rfl) (fun _ _ _ h => h) (Or.inl ⟨by rfl, ?_⟩) (by assumption) ?_
                    rotate_left
                    · intro w0 hSw; (try dsimp only at hSw); first | (go_simp; done) | (go_simp; with_reducible rfl)
                    simp only [List.setIfInBounds_toArray, List.set_cons_zero, List.set_cons_succ]
                    refine take_at (i := 25) (v := ?_) rfl rfl (by kernel_rfl) (by kernel_rfl) (by kernel_rfl) (fun _ _ _ h => h) (Or.inl ⟨by rfl, ?_⟩) (by assumption) ?_
                    rotate_left
                    · intro w0 hSw; (try dsimp only at hSw); first | (go_simp; done) | (go_simp; with_reducible rfl)
                    simp only [List.setIfInBounds_toArray, List.set_cons_zero, List.set_cons_succ]
                    refine wpAnyH_done (by kernel_rfl) ?_ _
                    have HST := Lib.hid (show Below w9.heap.size w9 y23 from hHeld)
                    clear hHeld
                    go_wp2_with fail
                    go_ret
                    exact ⟨rfl, HBW9.out.trans (HST.out.mono HBW9.out.size)⟩
                  exact AllReadyH.nil
                exact AllReadyH.nil
              exact AllReadyH.nil
            exact AllReadyH.nil
          refine AllReadyH.cons rfl (fun K hK => ?_) ?_
          · go_simp
            go_wp2_with ((go_at_call 19; (with_reducible refine (HPB.out _ hHeld).mono ?_); rintro e y8 ⟨a7, n7, c7, rfl, hr, _, hb⟩; have HBy8 := Lib.hid hb; have HR7 := Lib.hid hr; clear hr; clear hb))
            refine hK.out _ _ (by (try dsimp only); exact hHeld.trans (HBy8.out.mono hHeld.size)) (fun hHeld => ?_)
            clear hK K
            refine wpAnyH_ready (rs := [7, 9]) (by kernel_rfl) (by simp) ?_
            refine AllReadyH.cons rfl (fun K hK => ?_) ?_
            · refine step_conv (d := 129) rfl (by rfl) rfl (by rfl) HSTF.out (HR6.out.below HBy8.out) ?_
              refine hK.out _ _ (by (try dsimp only); exact hHeld) (fun hHeld => ?_)
              clear hK K
              refine wpAnyH_ready (rs := [9]) (by kernel_rfl) (by simp) ?_
              refine AllReadyH.cons rfl (fun K hK => ?_) ?_
              · refine step_conv (d := 131) rfl (by rfl) rfl (by rfl) HSTP.out HR7.out ?_
                refine hK.out _ _ (by (try dsimp only); exact hHeld) (fun hHeld => ?_)
                clear hK K
                refine take_at (i := 10) (v := .string sx) rfl rfl (by kernel_rfl) (by kernel_rfl) (by kernel_rfl) (fun _ _ _ h => h) (Or.inl ⟨by rfl, ?_⟩) (by assumption) ?_
                · intro w0 hSw; (try dsimp only at hSw); go_simp; rw [if_neg (by have := HSIZ.out; omega), HCAT.out]
                simp only [List.setIfInBounds_toArray, List.set_cons_zero, List.set_cons_succ]
                refine take_at (i := 11) (v := .bool true) rfl rfl (by kernel_rfl) (by kernel_rfl) (by kernel_rfl) (fun _ _ _ h => h) (Or.inl ⟨by rfl, ?_⟩) (by assumption) ?_
                · intro w0 hSw; (try dsimp only at hSw); first | (go_simp; done) | (go_simp; with_reducible rfl) | (go_simp; omega)
                simp only [List.setIfInBounds_toArray, List.set_cons_zero, List.set_cons_succ]
                refine take_at (i := 12) (v := ?_) rfl rfl (by kernel_rfl) (by kernel_rfl) (by kernel_rfl) (fun _ _ _ h => h) (Or.inl ⟨by rfl, ?_⟩) (by assumption) ?_
                rotate_left
                · intro w0 hSw; (try dsimp only at hSw); first | (go_simp; done) | (go_simp; with_reducible rfl)
                simp only [List.setIfInBounds_toArray, List.set_cons_zero, List.set_cons_succ]
                refine take_at (i := 13) (v := ?_) rfl rfl (by kernel_rfl) (by kernel_rfl) (by kernel_rfl) (fun _ _ _ h => h) (Or.inl ⟨by rfl, ?_⟩) (by assumption) ?_
                rotate_left
                · intro w0 hSw; (try dsimp only at hSw); first | (go_simp; done) | (go_simp; with_reducible rfl)
                simp only [List.setIfInBounds_toArray, List.set_cons_zero, List.set_cons_succ]
                refine take_at (i := 14) (v := ?_) rfl rfl (by kernel_rfl) (by kernel_rfl) (by kernel_rfl) (fun _ _ _ h => h) (Or.inl ⟨by rfl, ?_⟩) (by assumption) ?_
                rotate_left
                · intro w0 hSw; (try dsimp only at hSw); first | (go_simp; done) | (go_simp; with_reducible rfl)
                simp only [List.setIfInBounds_toArray, List.set_cons_zero, List.set_cons_succ]
                refine take_at (i := 15) (v := ?_) rfl rfl (by kernel_rfl) (by kernel_rfl) (by kernel_rfl) (fun _ _ _ h => h) (Or.inl ⟨by rfl, ?_⟩) (by assumption) ?_
                rotate_left
                · intro w0 hSw; (try dsimp only at hSw); first | (go_simp; done) | (go_simp; with_reducible rfl)
                simp only [List.setIfInBounds_toArray, List.set_cons_zero, List.set_cons_succ]
                refine take_at (i := 16) (v := ?_) rfl rfl (by kernel_rfl) (by kernel_rfl) (by kernel_rfl) (fun _ _ _ h => h) (Or.inl ⟨by rfl, ?_⟩) (by assumption) ?_
                rotate_left
                · intro w0 hSw; (try dsimp only at hSw); first | (go_simp; done) | (go_simp; with_reducible rfl)
                simp only [List.setIfInBounds_toArray, List.set_cons_zero, List.set_cons_succ]
                refine take_at (i := 17) (v := ?_) rfl rfl (by kernel_rfl) (by kernel_rfl) (by kernel_rfl) (fun _ _ _ h => h) (Or.inl ⟨by rfl, ?_⟩) (by assumption) ?_
                rotate_left
                · intro w0 hSw; (try dsimp only at hSw); first | (go_simp; done) | (go_simp; with_reducible rfl)
                simp only [List.setIfInBounds_toArray, List.set_cons_zero, List.set_cons_succ]
                refine take_at (i := 18) rfl rfl (by kernel_rfl) (by kernel_rfl) (by kernel_rfl) (fun _ _ _ h => h) (yieldsIf_load_mid (by rfl) _ _ rfl g9 0 rfl z.cells _ (fun w0 hSw => RZ.out _ hSw) Tryz.underlying31 rfl SZ.out) (by assumption) ?_
                simp only [List.setIfInBounds_toArray, List.set_cons_zero, List.set_cons_succ]
                refine take_at (i := 19) rfl rfl (by kernel_rfl) (by kernel_rfl) (by kernel_rfl) (fun _ _ _ h => h) (yieldsIf_load_mid (by rfl) _ _ rfl g 0 rfl x.cells _ (fun w0 hSw => RX.out _ (HB9.out.trans (hSw.mono HB9.out.size))) Tryz.underlying31 rfl SX.out) (by assumption) ?_
                simp only [List.setIfInBounds_toArray, List.set_cons_zero, List.set_cons_succ]
                refine wpAnyH_ready (rs := [20]) (by kernel_rfl) (by simp) ?_
                refine AllReadyH.cons rfl (fun K hK => ?_) ?_
                · go_simp
                  go_wp2_with ((go_at_call 15; (with_reducible refine (HSZ.out _ hHeld).mono ?_); rintro e y20 ⟨rfl, hb⟩; have HBy20 := Lib.hid hb; clear hb))
                  refine hK.out _ _ (by (try dsimp only); exact hHeld.trans (HBy20.out.mono hHeld.size)) (fun hHeld => ?_)
                  clear hK K
                  refine take_at (i := 21) (v := ?_) rfl rfl (by kernel_rfl) (by kernel_rfl) (by kernel_rfl) (fun _ _ _ h => h) (Or.inl ⟨by rfl, ?_⟩) (by assumption) ?_
                  rotate_left
                  · intro w0 hSw; (try dsimp only at hSw); first | (go_simp; done) | (go_simp; with_reducible rfl)
                  simp only [List.setIfInBounds_toArray, List.set_cons_zero, List.set_cons_succ]
                  refine take_at (i := 22) (v := ?_) rfl rfl (by kernel_rfl) (by kernel_rfl) (by kernel_rfl) (fun _ _ _ h => h) (Or.inl ⟨by rfl, ?_⟩) (by assumption) ?_
                  rotate_left
                  · intro w0 hSw; (try dsimp only at hSw); first | (go_simp; done) | (go_simp; with_reducible rfl)
                  simp only [List.setIfInBounds_toArray, List.set_cons_zero, List.set_cons_succ]
                  refine wpAnyH_ready (rs := [23]) (by kernel_rfl) (by simp) ?_
                  refine AllReadyH.cons rfl (fun K hK => ?_) ?_
                  · go_simp
                    go_wp2_with ((go_at_call 6; (with_reducible refine (HAW.out _ (HBW9.out.trans (hHeld.mono HBW9.out.size))).mono ?_); rintro e y23 ⟨rfl, hb⟩; have HBy23 := Lib.hid hb; clear hb))
                    refine hK.out _ _ (by (try dsimp only); exact hHeld.trans (HBy23.out.mono hHeld.size)) (fun hHeld => ?_)
                    clear hK K
                    refine take_at (i := 24) (v := ?_) rfl rfl (by kernel_rfl) (by kernel_rfl) (by kernel_rfl) (fun _ _ _ h => h) (Or.inl ⟨by rfl, ?_⟩) (by assumption) ?_
                    rotate_left
                    · intro w0 hSw; (try dsimp only at hSw); first | (go_simp; done) | (go_simp; with_reducible rfl)
                    simp only [List.setIfInBounds_toArray, List.set_cons_zero, List.set_cons_succ]
                    refine take_at (i := 25) (v := ?_) rfl rfl (by kernel_rfl) (by kernel_rfl) (by kernel_rfl) (fun _ _ _ h => h) (Or.inl ⟨by rfl, ?_⟩) (by assumption) ?_
                    rotate_left
                    · intro w0 hSw; (try dsimp only at hSw); first | (go_simp; done) | (go_simp; with_reducible rfl)
                    simp only [List.setIfInBounds_toArray, List.set_cons_zero, List.set_cons_succ]
                    refine wpAnyH_done (by kernel_rfl) ?_ _
                    have HST := Lib.hid (show Below w9.heap.size w9 y23 from hHeld)
                    clear hHeld
                    go_wp2_with fail
                    go_ret
                    exact ⟨rfl, HBW9.out.trans (HST.out.mono HBW9.out.size)⟩
                  exact AllReadyH.nil
                exact AllReadyH.nil
              exact AllReadyH.nil
            refine AllReadyH.cons rfl (fun K hK => ?_) ?_
            · refine step_conv (d := 131) rfl (by rfl) rfl (by rfl) HSTP.out HR7.out ?_
              refine hK.out _ _ (by (try dsimp only); exact hHeld) (fun hHeld => ?_)
              clear hK K
              refine wpAnyH_ready (rs := [7]) (by kernel_rfl) (by simp) ?_
              refine AllReadyH.cons rfl (fun K hK => ?_) ?_
              · refine step_conv (d := 129) rfl (by rfl) rfl (by rfl) HSTF.out (HR6.out.below HBy8.out) ?_
                refine hK.out _ _ (by (try dsimp only); exact hHeld) (fun hHeld => ?_)
                clear hK K
                refine take_at (i := 10) (v := .string sx) rfl rfl (by kernel_rfl) (by kernel_rfl) (by kernel_rfl) (fun _ _ _ h => h) (Or.inl ⟨by rfl, ?_⟩) (by assumption) ?_
                · intro w0 hSw; (try dsimp only at hSw); go_simp; rw [if_neg (by have := HSIZ.out; omega), HCAT.out]
                simp only [List.setIfInBounds_toArray, List.set_cons_zero, List.set_cons_succ]
                refine take_at (i := 11) (v := .bool true) rfl rfl (by kernel_rfl) (by kernel_rfl) (by kernel_rfl) (fun _ _ _ h => h) (Or.inl ⟨by rfl, ?_⟩) (by assumption) ?_
                · intro w0 hSw; (try dsimp only at hSw); first | (go_simp; done) | (go_simp; with_reducible rfl) | (go_simp; omega)
                simp only [List.setIfInBounds_toArray, List.set_cons_zero, List.set_cons_succ]
                refine take_at (i := 12) (v := ?_) rfl rfl (by kernel_rfl) (by kernel_rfl) (by kernel_rfl) (fun _ _ _ h => h) (Or.inl ⟨by rfl, ?_⟩) (by assumption) ?_
                rotate_left
                · intro w0 hSw; (try dsimp only at hSw); first | (go_simp; done) | (go_simp; with_reducible rfl)
                simp only [List.setIfInBounds_toArray, List.set_cons_zero, List.set_cons_succ]
                refine take_at (i := 13) (v := ?_) rfl rfl (by kernel_rfl) (by kernel_rfl) (by kernel_rfl) (fun _ _ _ h => h) (Or.inl ⟨by rfl, ?_⟩) (by assumption) ?_
                rotate_left
                · intro w0 hSw; (try dsimp only at hSw); first | (go_simp; done) | (go_simp; with_reducible rfl)
                simp only [List.setIfInBounds_toArray, List.set_cons_zero, List.set_cons_succ]
                refine take_at (i := 14) (v := ?_) rfl rfl (by kernel_rfl) (by kernel_rfl) (by kernel_rfl) (fun _ _ _ h => h) (Or.inl ⟨by rfl, ?_⟩) (by assumption) ?_
                rotate_left
                · intro w0 hSw; (try dsimp only at hSw); first | (go_simp; done) | (go_simp; with_reducible rfl)
                simp only [List.setIfInBounds_toArray, List.set_cons_zero, List.set_cons_succ]
                refine take_at (i := 15) (v := ?_) rfl rfl (by kernel_rfl) (by kernel_rfl) (by kernel_rfl) (fun _ _ _ h => h) (Or.inl ⟨by rfl, ?_⟩) (by assumption) ?_
                rotate_left
                · intro w0 hSw; (try dsimp only at hSw); first | (go_simp; done) | (go_simp; with_reducible rfl)
                simp only [List.setIfInBounds_toArray, List.set_cons_zero, List.set_cons_succ]
                refine take_at (i := 16) (v := ?_) rfl rfl (by kernel_rfl) (by kernel_rfl) (by kernel_rfl) (fun _ _ _ h => h) (Or.inl ⟨by rfl, ?_⟩) (by assumption) ?_
                rotate_left
                · intro w0 hSw; (try dsimp only at hSw); first | (go_simp; done) | (go_simp; with_reducible rfl)
                simp only [List.setIfInBounds_toArray, List.set_cons_zero, List.set_cons_succ]
                refine take_at (i := 17) (v := ?_) rfl rfl (by kernel_rfl) (by kernel_rfl) (by kernel_rfl) (fun _ _ _ h => h) (Or.inl ⟨by rfl, ?_⟩) (by assumption) ?_
                rotate_left
                · intro w0 hSw; (try dsimp only at hSw); first | (go_simp; done) | (go_simp; with_reducible rfl)
                simp only [List.setIfInBounds_toArray, List.set_cons_zero, List.set_cons_succ]
                refine take_at (i := 18) rfl rfl (by kernel_rfl) (by kernel_rfl) (by kernel_rfl) (fun _ _ _ h => h) (yieldsIf_load_mid (by rfl) _ _ rfl g9 0 rfl z.cells _ (fun w0 hSw => RZ.out _ hSw) Tryz.underlying31 rfl SZ.out) (by assumption) ?_
                simp only [List.setIfInBounds_toArray, List.set_cons_zero, List.set_cons_succ]
                refine take_at (i := 19) rfl rfl (by kernel_rfl) (by kernel_rfl) (by kernel_rfl) (fun _ _ _ h => h) (yieldsIf_load_mid (by rfl) _ _ rfl g 0 rfl x.cells _ (fun w0 hSw => RX.out _ (HB9.out.trans (hSw.mono HB9.out.size))) Tryz.underlying31 rfl SX.out) (by assumption) ?_
                simp only [List.setIfInBounds_toArray, List.set_cons_zero, List.set_cons_succ]
                refine wpAnyH_ready (rs := [20]) (by kernel_rfl) (by simp) ?_
                refine AllReadyH.cons rfl (fun K hK => ?_) ?_
                · go_simp
                  go_wp2_with ((go_at_call 15; (with_reducible refine (HSZ.out _ hHeld).mono ?_); rintro e y20 ⟨rfl, hb⟩; have HBy20 := Lib.hid hb; clear hb))
                  refine hK.out _ _ (by (try dsimp only); exact hHeld.trans (HBy20.out.mono hHeld.size)) (fun hHeld => ?_)
                  clear hK K
                  refine take_at (i := 21) (v := ?_) rfl rfl (by kernel_rfl) (by kernel_rfl) (by kernel_rfl) (fun _ _ _ h => h) (Or.inl ⟨by rfl, ?_⟩) (by assumption) ?_
                  rotate_left
                  · intro w0 hSw; (try dsimp only at hSw); first | (go_simp; done) | (go_simp; with_reducible rfl)
                  simp only [List.setIfInBounds_toArray, List.set_cons_zero, List.set_cons_succ]
                  refine take_at (i := 22) (v := ?_) rfl rfl (by kernel_rfl) (by kernel_rfl) (by kernel_rfl) (fun _ _ _ h => h) (Or.inl ⟨by rfl, ?_⟩) (by assumption) ?_
                  rotate_left
                  · intro w0 hSw; (try dsimp only at hSw); first | (go_simp; done) | (go_simp; with_reducible rfl)
                  simp only [List.setIfInBounds_toArray, List.set_cons_zero, List.set_cons_succ]
                  refine wpAnyH_ready (rs := [23]) (by kernel_rfl) (by simp) ?_
                  refine AllReadyH.cons rfl (fun K hK => ?_) ?_
                  · go_simp
                    go_wp2_with ((go_at_call 6; (with_reducible refine (HAW.out _ (HBW9.out.trans (hHeld.mono HBW9.out.size))).mono ?_); rintro e y23 ⟨rfl, hb⟩; have HBy23 := Lib.hid hb; clear hb))
                    refine hK.out _ _ (by (try dsimp only); exact hHeld.trans (HBy23.out.mono hHeld.size)) (fun hHeld => ?_)
                    clear hK K
                    refine take_at (i := 24) (v := ?_) rfl rfl (by kernel_rfl) (by kernel_rfl) (by kernel_rfl) (fun _ _ _ h => h) (Or.inl ⟨by rfl, ?_⟩) (by assumption) ?_
                    rotate_left
                    · intro w0 hSw; (try dsimp only at hSw); first | (go_simp; done) | (go_simp; with_reducible rfl)
                    simp only [List.setIfInBounds_toArray, List.set_cons_zero, List.set_cons_succ]
                    refine take_at (i := 25) (v := ?_) rfl rfl (by kernel_rfl) (by kernel_rfl) (by kernel_rfl) (fun _ _ _ h => h) (Or.inl ⟨by rfl, ?_⟩) (by assumption) ?_
                    rotate_left
                    · intro w0 hSw; (try dsimp only at hSw); first | (go_simp; done) | (go_simp; with_reducible rfl)
                    simp only [List.setIfInBounds_toArray, List.set_cons_zero, List.set_cons_succ]
                    refine wpAnyH_done (by kernel_rfl) ?_ _
                    have HST := Lib.hid (show Below w9.heap.size w9 y23 from hHeld)
                    clear hHeld
                    go_wp2_with fail
                    go_ret
                    exact ⟨rfl, HBW9.out.trans (HST.out.mono HBW9.out.size)⟩
                  exact AllReadyH.nil
                exact AllReadyH.nil
              exact AllReadyH.nil
            exact AllReadyH.nil
          exact AllReadyH.nil
        exact AllReadyH.nil
end Go.Proofs.YtodbhopeknlgiaaGreatDoor
