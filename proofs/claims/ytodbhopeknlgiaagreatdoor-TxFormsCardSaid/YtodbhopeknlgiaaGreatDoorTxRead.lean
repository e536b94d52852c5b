/- What tx.Read comes to: bytes are read as the transaction whose bytes they are, or as none. -/
import Derived.Test.YtodbhopeknlgiaaGreatDoorTxGet
namespace Go.Proofs.YtodbhopeknlgiaaGreatDoor
open Go.RowKit

theorem outR_m (s : List UInt8 × Int) : Fits (outR s).1.1 := by
  obtain ⟨s1, s2, s3, s4, m, n, xs, e1, e2, e3, e4, e⟩ := outR_parts s
  have hr := upR_range s (m := 1125899906842624) (by omega)
  rw [e1] at hr
  rw [e]
  split
  · exact ⟨by show _ ≤ m; dsimp only at hr; omega, by show m ≤ _; dsimp only at hr; omega⟩
  · show Fits 0
    constructor <;> decide
theorem pOutR_le (s : List UInt8 × Int) : (pOutR s).2.1.length ≤ s.1.length := outR_le s
def inS : SortAt Tryz.prog inK 22 58 where
  bytes := 72
  small := by decide
  ksmall := by decide
  zero := .agg noIn.cells.toArray
  under := Tryz.underlying22
  info := by kernel_rfl
  zsize := rfl
def outS : SortAt Tryz.prog outK 23 61 where
  bytes := 32
  small := by decide
  ksmall := by decide
  zero := .agg noOut.cells.toArray
  under := Tryz.underlying23
  info := by kernel_rfl
  zsize := rfl
def signS : SortAt Tryz.prog signK 29 49 where
  bytes := 40
  small := by decide
  ksmall := by decide
  zero := .agg noSign.cells.toArray
  under := Tryz.underlying29
  info := by kernel_rfl
  zsize := rfl
theorem noTx_is : noTx.cells.toArray = #[.slice none 0 0, .slice none 0 0, .int .i64 0, .int .i64 0, .int .i64 0, .int .i64 0, .int .u8 0, .int .u8 0, .int .u8 0, .int .u8 0, .int .u8 0, .int .u8 0, .int .u8 0, .int .u8 0, .int .u8 0, .int .u8 0, .int .u8 0, .int .u8 0, .int .u8 0, .int .u8 0, .int .u8 0, .int .u8 0, .int .u8 0, .int .u8 0, .int .u8 0, .int .u8 0, .int .u8 0, .int .u8 0, .int .u8 0, .int .u8 0, .int .u8 0, .int .u8 0, .int .u8 0, .int .u8 0, .int .u8 0, .int .u8 0, .int .u8 0, .int .u8 0, .slice none 0 0, .slice none 0 0] := rfl
theorem tx_var39 {w : World} {g : Nat} {x : PTx} (h : VarC w g 31 x.cells) (hr : x.op.root.length = 32) : w.cell? ⟨g, 39, none⟩ = some (.slice x.sa x.sn x.sc) := by
  have h9 := tx_signs hr h.range
  rw [Nat.zero_add] at h9
  exact h9
/-- The error at the end. -/
def doneE (s : List UInt8 × Int) : Int := if s.2 = 0 then (if s.1 = [] then 0 else 3) else s.2
theorem done_st {yb : Nat} {s : List UInt8 × Int} (w : World) (h : EyeAt w yb s.1 s.2) : Calls Tryz.prog 43 #[.pointer (some ⟨yb, 0, none⟩)] w fun r w' => r = .returned (.int .i64 (doneE s)) ∧ (∃ s' : List UInt8 × Int, EyeAt w' yb s'.1 s'.2) ∧ But w.heap.size yb w w' := by
  unfold doneE
  by_cases h0 : s.2 = 0
  · rw [if_pos h0]
    rw [h0] at h
    by_cases h1 : s.1 = []
    · rw [if_pos h1]
      rw [h1] at h
      exact (done_all h).mono fun r w' ⟨e1, e2⟩ => ⟨e1, ⟨([], 0), by rw [← e2]; exact h⟩, by rw [← e2]; exact But.refl _ _ _⟩
    · rw [if_neg h1]
      exact (done_left h1 h).mono fun _ _ ⟨e1, e2, e3⟩ => ⟨e1, ⟨(s.1, 3), e2⟩, e3⟩
  · rw [if_neg h0]
    exact (done_later s.2 h0 h).mono fun r w' ⟨e1, e2⟩ => ⟨e1, ⟨s, by rw [← e2]; exact h⟩, by rw [← e2]; exact But.refl _ _ _⟩
theorem doneE_zero {s : List UInt8 × Int} (h : doneE s = 0) : s = ([], 0) := by
  obtain ⟨l, e⟩ := s
  unfold doneE at h
  dsimp only at h
  split at h
  · rename_i h1
    split at h
    · rename_i h2
      rw [h1, h2]
    · cases h
  · rename_i h1
    exact absurd h h1
theorem noTx_in (w : World) : TxIn w noTx := ⟨SliceOf.nil _ _, SliceOf.nil _ _, ⟨⟨by decide, by decide⟩, ⟨by decide, by decide⟩, ⟨by decide, by decide⟩, ⟨by decide, by decide⟩, zero32_len, Row.nil _⟩, SliceOf.nil _ _⟩
/-- The result is written. -/
theorem ReadSt.final {w0 w w' : World} {yb g2 g5 : Nat} {x : PTx} {s : List UInt8 × Int} (h : ReadSt w0 yb g2 g5 x s w) (hB : w0.heap.size ≤ g2) (hb : But w.heap.size g2 w w') : TxIn w' x ∧ Below w0.heap.size w0 w' := by
  have hp := h.core.res
  refine ⟨⟨(h.ins.but hb (not_typed hp (by decide))).slice (fun y hy => ((h.core.inT y hy).typed hb hp (by decide)).1), (h.outs.but hb (not_typed hp (by decide))).slice (fun y hy => ((h.core.outT y hy).typed hb hp (by decide) (by decide)).1), (h.core.opT.typed hb hp (by decide)).1, (h.signs.but hb (not_typed hp (by decide))).slice h.core.signT⟩, h.core.but.trans ((hb.mono h.core.but.size).below hB)⟩
/-- What bytes are read as. -/
def ReadTx (w0 : World) (b : List UInt8) (r : Ending) (w' : World) : Prop :=
  ∃ (x : PTx) (E : Int), r = .returned (.tuple #[.agg x.cells.toArray, .int .i64 E]) ∧ TxIn w' x ∧ Below w0.heap.size w0 w' ∧ (E = 0 → txOk x = true ∧ txB x = b) ∧ (E ≠ 0 → x = noTx ∧ ∀ t : PTx, Lens t → txOk t = true → txB t ≠ b)
/-- How it ends, plainly. -/
theorem read_bad {b : List UInt8} {q : PTx} {s : List UInt8 × Int} (hR : txR (b, 0) = (q, s)) (h : doneE s ≠ 0) : ∀ t : PTx, Lens t → txOk t = true → txB t ≠ b := fun t hl hk e => by
  have h9 := txR_put hl hk
  rw [e, hR] at h9
  cases h9
  exact h rfl
theorem read_wrong {w : World} {b : List UInt8} {q x : PTx} {s : List UInt8 × Int} (hR : txR (b, 0) = (q, s)) (hx : TxIn w x) (hq : x.strip = q) (h : txOk x = false) : ∀ t : PTx, Lens t → txOk t = true → txB t ≠ b := fun t hl hk e => by
  have h9 := txR_put hl hk
  rw [e, hR] at h9
  obtain ⟨h8, _⟩ := Prod.mk.inj h9
  have h7 := txOk_strip hx.lens
  rw [hq, h8, txOk_strip hl, hk, h] at h7
  cases h7
theorem read_good {b : List UInt8} {q x : PTx} (hR : txR (b, 0) = (q, ([], 0))) (hq : x.strip = q) : txB x = b := by
  have h9 := (txR_ok (s := (b, 0)) (by rw [hR])).2
  rw [hR] at h9
  dsimp only at h9
  rw [List.append_nil, ← hq, txB_strip] at h9
  exact h9.symm
set_option linter.unusedSimpArgs false in
set_option maxRecDepth 100000 in
set_option maxHeartbeats 25600000 in
theorem txRead_any {w : World} {a : Option Addr} {n c : Nat} {b : List UInt8} (h : Row w a n c b) (hn : n ≤ 1000000) :
    Calls Tryz.prog 18 #[.slice a n c] w (ReadTx w b) := by
  obtain ⟨s1, s2, s3, s4, s5, s6, s7, n1, n2, n3, qi, qo, qp, qs, e1, e2, e3, e4, e5, e6, e7, eR, m1, m2, m3⟩ := txR_parts (b, 0)
  have hbl : b.length ≤ 140737488355328 := by rw [h.1]; omega
  have l1 := upR_le (b, 0) 16
  have l2 := listR_le inR_le s1 n1
  have l3 := upR_le s2 16
  have l4 := listR_le pOutR_le s3 n2
  have l5 := opR_le s4
  have l6 := upR_le s5 16
  rw [e1] at l1
  rw [e2] at l2
  rw [e3] at l3
  rw [e4] at l4
  rw [e5] at l5
  rw [e6] at l6
  dsimp only at l1 l2 l3 l4 l5 l6
  have HLs1 : Hid (s1.1.length ≤ 140737488355328) := Lib.hid (Nat.le_trans l1 hbl)
  have HLs3 : Hid (s3.1.length ≤ 140737488355328) := Lib.hid (Nat.le_trans l3 (Nat.le_trans l2 HLs1.out))
  have HLs4 : Hid (s4.1.length ≤ 140737488355328) := Lib.hid (Nat.le_trans l4 HLs3.out)
  have HLs6 : Hid (s6.1.length ≤ 140737488355328) := Lib.hid (Nat.le_trans l6 (Nat.le_trans l5 HLs4.out))
  have HU1 := Lib.hid (fun (W : World) (yb : Nat) (hW : EyeAt W yb b 0) => by have h9 := upto_st (s := (b, 0)) 16 hW; rw [e1] at h9; exact h9)
  have HU3 := Lib.hid (fun (W : World) (yb : Nat) (hW : EyeAt W yb s2.1 s2.2) => by have h9 := upto_st 16 hW; rw [e3] at h9; exact h9)
  have HU6 := Lib.hid (fun (W : World) (yb : Nat) (hW : EyeAt W yb s5.1 s5.2) => by have h9 := upto_st 16 hW; rw [e6] at h9; exact h9)
  have HE2 := Lib.hid e2
  have HE4 := Lib.hid e4
  have HE5 := Lib.hid e5
  have HE7 := Lib.hid e7
  have HER := Lib.hid eR
  have HLK := Lib.hid (fun (W : World) (hW : Below w.heap.size w W) => look_any (h.below hW) (by omega))
  have SZ0 : Hid ((Tryz.prog.info? 31).map (·.size) = some noTx.cells.toArray.size) := Lib.hid (tx_sizeA zero32_len)
  have hm1 : (n1 : Int) ≤ 16 := by omega
  have hm2 : (n2 : Int) ≤ 16 := by omega
  have hm3 : (n3 : Int) ≤ 16 := by omega
  clear e1 e2 e3 e4 e5 e6 e7 eR l1 l2 l3 l4 l5 l6 hbl h
  go_enter Tryz.func18, Tryz.ntmps18
  go_upto_region 1 with (fail)
  rw [← noTx_is]
  have b1 : Below w.heap.size w (w.alloc (.cells noTx.cells.toArray 31)) := (Below.refl _ _).alloc (Nat.le_refl _) _
  have h1 : VarC (w.alloc (.cells noTx.cells.toArray 31)) w.heap.size 31 noTx.cells := heap_alloc_new w (.cells noTx.cells.toArray 31)
  revert b1 h1
  generalize (w.alloc (.cells noTx.cells.toArray 31)) = w1
  obtain ⟨g2, hg2⟩ : ∃ g, g = w.heap.size := ⟨_, rfl⟩
  rw [← hg2]
  intro b1 h1
  rw [hg2] at b1
  have hB2 : w.heap.size ≤ g2 := by omega
  have HB1 := Lib.hid b1
  have H1 := Lib.hid h1
  clear b1 h1 hg2
  go_wp2_with fail
  refine (HLK.out _ HB1.out).mono ?_
  rintro e w2 ⟨yb, rfl, hyb1, he2, hb2⟩
  have hyb : w.heap.size ≤ yb := Nat.le_trans HB1.out.size hyb1
  have HE := Lib.hid he2
  have H2 := Lib.hid (H1.out.below hb2)
  have HB2 := Lib.hid (HB1.out.trans (hb2.mono HB1.out.size))
  clear he2 hb2 hyb1 HLK HB1 H1
  go_upto_region 3 with (fail)
  rw [← noTx_is]
  have b3 : Below w2.heap.size w2 (w2.alloc (.cells noTx.cells.toArray 31)) := (Below.refl _ _).alloc (Nat.le_refl _) _
  have h3 : VarC (w2.alloc (.cells noTx.cells.toArray 31)) w2.heap.size 31 noTx.cells := heap_alloc_new w2 (.cells noTx.cells.toArray 31)
  revert b3 h3
  generalize (w2.alloc (.cells noTx.cells.toArray 31)) = w3
  obtain ⟨g5, hg5⟩ : ∃ g, g = w2.heap.size := ⟨_, rfl⟩
  rw [← hg5]
  intro b3 h3
  rw [hg5] at b3
  have hgg : g5 ≠ g2 := by have := H2.out.lt; omega
  have hB5 : w.heap.size ≤ g5 := by have := HB2.out.size; omega
  have RS : Hid (ReadSt w yb g2 g5 noTx (b, 0) w3) := Lib.hid ⟨OwnOf.nil _ _ _ _, OwnOf.nil _ _ _ _, OwnOf.nil _ _ _ _, h3, ⟨(fun y hy => by cases hy), (fun y hy => by cases hy), ⟨(noTx_in w3).op, Tag.zero _ _⟩, (fun y hy => by cases hy), H2.out.below b3, HE.out.below b3, HB2.out.trans (b3.mono HB2.out.size)⟩⟩
  clear b3 h3 hg5 HE H2 HB2
  go_wp2_with fail
  refine (HU1.out _ _ RS.out.core.eye).mono ?_
  rintro e w4 ⟨rfl, he, hb⟩
  have RS := Lib.hid (RS.out.read (s' := s1) hyb he hb)
  clear he hb HU1
  go_wp2_with fail
  go_loopw [11] (fun i wr => ∃ (k : Nat) (x : PTx) (st : List UInt8 × Int), k ≤ n1 ∧ i = .int .i64 k ∧ x.ins.map PIn.strip = (listR inR k s1).1 ∧ (listR inR k s1).2 = st ∧ x.ins.length = k ∧ x.outs = [] ∧ x.op = noOp ∧ x.signs = [] ∧ ReadSt w yb g2 g5 x st wr) (fun i _ => n1 - (intOf i).toNat)
  case atStart => exact ⟨0, _, _, Nat.zero_le _, rfl, rfl, rfl, rfl, rfl, rfl, rfl, RS.out⟩
  case round =>
    obtain ⟨k, x, st, hk, rfl, hmap, hst, hkl, ho, hop, hsg, hRS⟩ := hrel
    have RS := Lib.hid hRS
    have HMAP := Lib.hid hmap
    have HST := Lib.hid hst
    have HKL := Lib.hid hkl
    have HO := Lib.hid ho
    have HOP := Lib.hid hop
    have HSG := Lib.hid hsg
    clear hmap hst hkl hRS ho hop hsg
    by_cases hkn : k < n1
    · have f1 : (k : Int) < (n1 : Int) := by omega
      have f0 : (0 : Int) ≤ (k : Int) := by omega
      obtain ⟨q, st', hq⟩ : ∃ q st', inR st = (q, st') := ⟨_, _, rfl⟩
      have HLE : Hid (st.1.length ≤ 140737488355328) := Lib.hid (by rw [← HST.out]; exact Nat.le_trans (listR_le inR_le s1 k) HLs1.out)
      have NX1 : Hid ((listR inR (k + 1) s1).1 = (listR inR k s1).1 ++ [q]) := Lib.hid (by rw [listR, HST.out, hq])
      have NX2 : Hid ((listR inR (k + 1) s1).2 = st') := Lib.hid (by rw [listR, HST.out, hq])
      have HW := Lib.hid hq
      clear hq HST
      go_upto_region 5 with (fail)
      refine wp_region_held_drew (S := fun _ => True) (by kernel_rfl) (True.intro) (fun hHeld => ?_)
      refine take_at (i := 0) (v := ?_) rfl rfl (by kernel_rfl) (by kernel_rfl) (by kernel_rfl) (fun _ _ _ h => h) (Or.inl ⟨by rfl, ?_⟩) (by assumption) ?_
      rotate_left
      · intro w0 hSw; (try dsimp only at hSw); first | (go_simp; done) | (go_simp; with_reducible rfl)
      simp only [List.setIfInBounds_toArray, List.set_cons_zero, List.set_cons_succ]
      refine take_at (i := 2) (v := ?_) rfl rfl (by kernel_rfl) (by kernel_rfl) (by kernel_rfl) (fun _ _ _ h => h) (Or.inl ⟨by rfl, ?_⟩) (by assumption) ?_
      rotate_left
      · intro w0 hSw; (try dsimp only at hSw); first | (go_simp; done) | (go_simp; with_reducible rfl)
      simp only [List.setIfInBounds_toArray, List.set_cons_zero, List.set_cons_succ]
      have RS := Lib.hid (RS.out.more (w' := wr.drew) (below_drew (Below.refl _ _)))
      refine wpAnyH_ready (rs := [1, 3]) (by kernel_rfl) (by simp) ?_
      refine AllReadyH.cons rfl (fun K hK => ?_) ?_
      · refine step_cell (d := 14) rfl (by rfl) 22 _ rfl g5 0 rfl (.slice x.ia x.inn x.ic) (by rw [RS.out.var.cell]; rfl) (Tryz.isAgg22 _) ?_
        refine hK.out _ _ (by (try dsimp only); all_goals exact True.intro) (fun hHeld => ?_)
        clear hK K
        refine wpAnyH_ready (rs := [3]) (by kernel_rfl) (by simp) ?_
        refine AllReadyH.cons rfl (fun K hK => ?_) ?_
        · go_simp
          go_wp2_with ((go_at_call 39; (with_reducible refine (getIn_st RS.out.core.eye HLE.out).mono ?_); rintro e y3a ⟨y, rfl, hyt, hys, he, hb⟩; rw [HW.out] at he hys; have RS := Lib.hid (RS.out.read (s' := st') hyb he hb); have HYT := Lib.hid hyt; have HYS := Lib.hid hys; clear he hb hyt hys))
          refine hK.out _ _ (by (try dsimp only); all_goals exact True.intro) (fun hHeld => ?_)
          clear hK K
          refine wpAnyH_ready (rs := [4]) (by kernel_rfl) (by simp) ?_
          refine AllReadyH.cons rfl (fun K hK => ?_) ?_
          · refine step_lit_of inS (d := 17) (x := y) rfl (by rfl) rfl (by rfl) (PIn.len HYT.out.1.tx) ?_
            intro p y4a hpp hlit hbl
            have RS := Lib.hid (RS.out.more hbl)
            have LIT := Lib.hid hlit
            have HYT0 := HYT
            have HYT := Lib.hid (HYT0.out.below hbl)
            clear HYT0
            clear hlit hbl hpp
            refine hK.out _ _ (by (try dsimp only); all_goals exact True.intro) (fun hHeld => ?_)
            clear hK K
            refine wpAnyH_ready (rs := [5]) (by kernel_rfl) (by simp) ?_
            refine AllReadyH.cons rfl (fun K hK => ?_) ?_
            · refine step_append_of inS (d := 18) rfl (by rfl) _ _ rfl rfl w.heap.size (.slice x.ia x.inn x.ic) x.ins (by rfl) RS.out.ins p y (by rfl) LIT.out (PIn.len HYT.out.1.tx) (by rw [HKL.out]; omega) RS.out.core.but.size ?_
              intro a' c' y5 ho hgr
              rw [HKL.out] at ho ⊢
              obtain ⟨hv, hrs⟩ := RS.out.addIn hgg hB5 HYT.out ho hgr
              have HV := Lib.hid hv
              have RS := Lib.hid hrs
              clear hv hrs ho hgr
              refine hK.out _ _ (by (try dsimp only); all_goals exact True.intro) (fun hHeld => ?_)
              clear hK K
              refine take_at (i := 6) (v := ?_) rfl rfl (by kernel_rfl) (by kernel_rfl) (by kernel_rfl) (fun _ _ _ h => h) (Or.inl ⟨by rfl, ?_⟩) (by assumption) ?_
              rotate_left
              · intro w0 hSw; (try dsimp only at hSw); first | (go_simp; done) | (go_simp; with_reducible rfl)
              simp only [List.setIfInBounds_toArray, List.set_cons_zero, List.set_cons_succ]
              refine wpAnyH_ready (rs := [7]) (by kernel_rfl) (by simp) ?_
              refine AllReadyH.cons rfl (fun K hK => ?_) ?_
              · refine step_store_cell (by rfl) 22 _ _ rfl g5 0 (by rfl) (.slice a' (k + 1) c') (by rfl) (.slice x.ia x.inn x.ic) (by rw [HV.out.cell]; rfl) (HV.out.free 0) (by kernel_rfl) rfl ?_
                refine hK.out _ _ (by (try dsimp only); all_goals exact True.intro) (fun hHeld => ?_)
                clear hK K
                refine wpAnyH_done (by kernel_rfl) ?_ _
                clear hHeld HV
                revert RS
                generalize World.setCell y5 _ _ = y7
                intro RS
                have HMP : Hid ((x.ins ++ [y]).map PIn.strip = (listR inR (k + 1) s1).1) := Lib.hid (by rw [NX1.out, ← HMAP.out, ← HYS.out]; simp)
                go_wp2_with fail
                go_roundw
                case rel => exact ⟨k + 1, { x with ia := a', inn := k + 1, ic := c', ins := x.ins ++ [y] }, st', by omega, by go_num, HMP.out, NX2.out, by simp [HKL.out], HO.out, HOP.out, HSG.out, RS.out⟩
                case measure => simp [intOf]; omega
              exact AllReadyH.nil
            exact AllReadyH.nil
          exact AllReadyH.nil
        exact AllReadyH.nil
      refine AllReadyH.cons rfl (fun K hK => ?_) ?_
      · go_simp
        go_wp2_with ((go_at_call 39; (with_reducible refine (getIn_st RS.out.core.eye HLE.out).mono ?_); rintro e y3b ⟨y, rfl, hyt, hys, he, hb⟩; rw [HW.out] at he hys; have RS := Lib.hid (RS.out.read (s' := st') hyb he hb); have HYT := Lib.hid hyt; have HYS := Lib.hid hys; clear he hb hyt hys))
        refine hK.out _ _ (by (try dsimp only); all_goals exact True.intro) (fun hHeld => ?_)
        clear hK K
        refine wpAnyH_ready (rs := [1, 4]) (by kernel_rfl) (by simp) ?_
        refine AllReadyH.cons rfl (fun K hK => ?_) ?_
        · refine step_cell (d := 14) rfl (by rfl) 22 _ rfl g5 0 rfl (.slice x.ia x.inn x.ic) (by rw [RS.out.var.cell]; rfl) (Tryz.isAgg22 _) ?_
          refine hK.out _ _ (by (try dsimp only); all_goals exact True.intro) (fun hHeld => ?_)
          clear hK K
          refine wpAnyH_ready (rs := [4]) (by kernel_rfl) (by simp) ?_
          refine AllReadyH.cons rfl (fun K hK => ?_) ?_
          · refine step_lit_of inS (d := 17) (x := y) rfl (by rfl) rfl (by rfl) (PIn.len HYT.out.1.tx) ?_
            intro p y4a hpp hlit hbl
            have RS := Lib.hid (RS.out.more hbl)
            have LIT := Lib.hid hlit
            have HYT0 := HYT
            have HYT := Lib.hid (HYT0.out.below hbl)
            clear HYT0
            clear hlit hbl hpp
            refine hK.out _ _ (by (try dsimp only); all_goals exact True.intro) (fun hHeld => ?_)
            clear hK K
            refine wpAnyH_ready (rs := [5]) (by kernel_rfl) (by simp) ?_
            refine AllReadyH.cons rfl (fun K hK => ?_) ?_
            · refine step_append_of inS (d := 18) rfl (by rfl) _ _ rfl rfl w.heap.size (.slice x.ia x.inn x.ic) x.ins (by rfl) RS.out.ins p y (by rfl) LIT.out (PIn.len HYT.out.1.tx) (by rw [HKL.out]; omega) RS.out.core.but.size ?_
              intro a' c' y5 ho hgr
              rw [HKL.out] at ho ⊢
              obtain ⟨hv, hrs⟩ := RS.out.addIn hgg hB5 HYT.out ho hgr
              have HV := Lib.hid hv
              have RS := Lib.hid hrs
              clear hv hrs ho hgr
              refine hK.out _ _ (by (try dsimp only); all_goals exact True.intro) (fun hHeld => ?_)
              clear hK K
              refine take_at (i := 6) (v := ?_) rfl rfl (by kernel_rfl) (by kernel_rfl) (by kernel_rfl) (fun _ _ _ h => h) (Or.inl ⟨by rfl, ?_⟩) (by assumption) ?_
              rotate_left
              · intro w0 hSw; (try dsimp only at hSw); first | (go_simp; done) | (go_simp; with_reducible rfl)
              simp only [List.setIfInBounds_toArray, List.set_cons_zero, List.set_cons_succ]
              refine wpAnyH_ready (rs := [7]) (by kernel_rfl) (by simp) ?_
              refine AllReadyH.cons rfl (fun K hK => ?_) ?_
              · refine step_store_cell (by rfl) 22 _ _ rfl g5 0 (by rfl) (.slice a' (k + 1) c') (by rfl) (.slice x.ia x.inn x.ic) (by rw [HV.out.cell]; rfl) (HV.out.free 0) (by kernel_rfl) rfl ?_
                refine hK.out _ _ (by (try dsimp only); all_goals exact True.intro) (fun hHeld => ?_)
                clear hK K
                refine wpAnyH_done (by kernel_rfl) ?_ _
                clear hHeld HV
                revert RS
                generalize World.setCell y5 _ _ = y7
                intro RS
                have HMP : Hid ((x.ins ++ [y]).map PIn.strip = (listR inR (k + 1) s1).1) := Lib.hid (by rw [NX1.out, ← HMAP.out, ← HYS.out]; simp)
                go_wp2_with fail
                go_roundw
                case rel => exact ⟨k + 1, { x with ia := a', inn := k + 1, ic := c', ins := x.ins ++ [y] }, st', by omega, by go_num, HMP.out, NX2.out, by simp [HKL.out], HO.out, HOP.out, HSG.out, RS.out⟩
                case measure => simp [intOf]; omega
              exact AllReadyH.nil
            exact AllReadyH.nil
          exact AllReadyH.nil
        refine AllReadyH.cons rfl (fun K hK => ?_) ?_
        · refine step_lit_of inS (d := 17) (x := y) rfl (by rfl) rfl (by rfl) (PIn.len HYT.out.1.tx) ?_
          intro p y4b hpp hlit hbl
          have RS := Lib.hid (RS.out.more hbl)
          have LIT := Lib.hid hlit
          have HYT0 := HYT
          have HYT := Lib.hid (HYT0.out.below hbl)
          clear HYT0
          clear hlit hbl hpp
          refine hK.out _ _ (by (try dsimp only); all_goals exact True.intro) (fun hHeld => ?_)
          clear hK K
          refine wpAnyH_ready (rs := [1]) (by kernel_rfl) (by simp) ?_
          refine AllReadyH.cons rfl (fun K hK => ?_) ?_
          · refine step_cell (d := 14) rfl (by rfl) 22 _ rfl g5 0 rfl (.slice x.ia x.inn x.ic) (by rw [RS.out.var.cell]; rfl) (Tryz.isAgg22 _) ?_
            refine hK.out _ _ (by (try dsimp only); all_goals exact True.intro) (fun hHeld => ?_)
            clear hK K
            refine wpAnyH_ready (rs := [5]) (by kernel_rfl) (by simp) ?_
            refine AllReadyH.cons rfl (fun K hK => ?_) ?_
            · refine step_append_of inS (d := 18) rfl (by rfl) _ _ rfl rfl w.heap.size (.slice x.ia x.inn x.ic) x.ins (by rfl) RS.out.ins p y (by rfl) LIT.out (PIn.len HYT.out.1.tx) (by rw [HKL.out]; omega) RS.out.core.but.size ?_
              intro a' c' y5 ho hgr
              rw [HKL.out] at ho ⊢
              obtain ⟨hv, hrs⟩ := RS.out.addIn hgg hB5 HYT.out ho hgr
              have HV := Lib.hid hv
              have RS := Lib.hid hrs
              clear hv hrs ho hgr
              refine hK.out _ _ (by (try dsimp only); all_goals exact True.intro) (fun hHeld => ?_)
              clear hK K
              refine take_at (i := 6) (v := ?_) rfl rfl (by kernel_rfl) (by kernel_rfl) (by kernel_rfl) (fun _ _ _ h => h) (Or.inl ⟨by rfl, ?_⟩) (by assumption) ?_
              rotate_left
              · intro w0 hSw; (try dsimp only at hSw); first | (go_simp; done) | (go_simp; with_reducible rfl)
              simp only [List.setIfInBounds_toArray, List.set_cons_zero, List.set_cons_succ]
              refine wpAnyH_ready (rs := [7]) (by kernel_rfl) (by simp) ?_
              refine AllReadyH.cons rfl (fun K hK => ?_) ?_
              · refine step_store_cell (by rfl) 22 _ _ rfl g5 0 (by rfl) (.slice a' (k + 1) c') (by rfl) (.slice x.ia x.inn x.ic) (by rw [HV.out.cell]; rfl) (HV.out.free 0) (by kernel_rfl) rfl ?_
                refine hK.out _ _ (by (try dsimp only); all_goals exact True.intro) (fun hHeld => ?_)
                clear hK K
                refine wpAnyH_done (by kernel_rfl) ?_ _
                clear hHeld HV
                revert RS
                generalize World.setCell y5 _ _ = y7
                intro RS
                have HMP : Hid ((x.ins ++ [y]).map PIn.strip = (listR inR (k + 1) s1).1) := Lib.hid (by rw [NX1.out, ← HMAP.out, ← HYS.out]; simp)
                go_wp2_with fail
                go_roundw
                case rel => exact ⟨k + 1, { x with ia := a', inn := k + 1, ic := c', ins := x.ins ++ [y] }, st', by omega, by go_num, HMP.out, NX2.out, by simp [HKL.out], HO.out, HOP.out, HSG.out, RS.out⟩
                case measure => simp [intOf]; omega
              exact AllReadyH.nil
            exact AllReadyH.nil
          exact AllReadyH.nil
        exact AllReadyH.nil
      exact AllReadyH.nil
    · obtain rfl : k = n1 := by omega
      have f1 : ¬ ((k : Int) < (k : Int)) := by omega
      obtain ⟨hi2, rfl⟩ : x.ins.map PIn.strip = qi ∧ st = s2 := by
        have h9 := HE2.out
        have h8 := HMAP.out
        have h7 := HST.out
        rw [h9] at h8 h7
        exact ⟨h8, h7.symm⟩
      have HI := Lib.hid hi2
      clear hi2 HMAP HST HE2 HKL
      go_wp2_with fail
      refine (HU3.out _ _ RS.out.core.eye).mono ?_
      rintro e w6 ⟨rfl, he, hb⟩
      have RS := Lib.hid (RS.out.read (s' := s3) hyb he hb)
      clear he hb HU3
      go_wp2_with fail
      go_loopw [23] (fun i wr => ∃ (k : Nat) (x : PTx) (st : List UInt8 × Int), k ≤ n2 ∧ i = .int .i64 k ∧ x.outs.map POut.strip = (listR pOutR k s3).1 ∧ (listR pOutR k s3).2 = st ∧ x.outs.length = k ∧ x.ins.map PIn.strip = qi ∧ x.op = noOp ∧ x.signs = [] ∧ ReadSt w yb g2 g5 x st wr) (fun i _ => n2 - (intOf i).toNat)
      case atStart => exact ⟨0, _, _, Nat.zero_le _, rfl, by rw [HO.out]; rfl, rfl, by rw [HO.out]; rfl, HI.out, HOP.out, HSG.out, RS.out⟩
      case round =>
        obtain ⟨k, x, st, hk, rfl, hmap, hst, hkl, hi, hop, hsg, hRS⟩ := hrel
        have RS := Lib.hid hRS
        have HMAP := Lib.hid hmap
        have HST := Lib.hid hst
        have HKL := Lib.hid hkl
        have HI := Lib.hid hi
        have HOP := Lib.hid hop
        have HSG := Lib.hid hsg
        clear hmap hst hkl hRS hi hop hsg
        by_cases hkn : k < n2
        · have f1 : (k : Int) < (n2 : Int) := by omega
          have f0 : (0 : Int) ≤ (k : Int) := by omega
          obtain ⟨q, st', hq⟩ : ∃ q st', pOutR st = (q, st') := ⟨_, _, rfl⟩
          have HLE : Hid (st.1.length ≤ 140737488355328) := Lib.hid (by rw [← HST.out]; exact Nat.le_trans (listR_le pOutR_le s3 k) HLs3.out)
          have NX1 : Hid ((listR pOutR (k + 1) s3).1 = (listR pOutR k s3).1 ++ [q]) := Lib.hid (by rw [listR, HST.out, hq])
          have NX2 : Hid ((listR pOutR (k + 1) s3).2 = st') := Lib.hid (by rw [listR, HST.out, hq])
          have HW := Lib.hid hq
          clear hq HST
          go_upto_region 9 with (fail)
          refine wp_region_held_drew (S := fun _ => True) (by kernel_rfl) (True.intro) (fun hHeld => ?_)
          refine take_at (i := 0) (v := ?_) rfl rfl (by kernel_rfl) (by kernel_rfl) (by kernel_rfl) (fun _ _ _ h => h) (Or.inl ⟨by rfl, ?_⟩) (by assumption) ?_
          rotate_left
          · intro w0 hSw; (try dsimp only at hSw); first | (go_simp; done) | (go_simp; with_reducible rfl)
          simp only [List.setIfInBounds_toArray, List.set_cons_zero, List.set_cons_succ]
          refine take_at (i := 2) (v := ?_) rfl rfl (by kernel_rfl) (by kernel_rfl) (by kernel_rfl) (fun _ _ _ h => h) (Or.inl ⟨by rfl, ?_⟩) (by assumption) ?_
          rotate_left
          · intro w0 hSw; (try dsimp only at hSw); first | (go_simp; done) | (go_simp; with_reducible rfl)
          simp only [List.setIfInBounds_toArray, List.set_cons_zero, List.set_cons_succ]
          have RS := Lib.hid (RS.out.more (w' := wr.drew) (below_drew (Below.refl _ _)))
          refine wpAnyH_ready (rs := [1, 3]) (by kernel_rfl) (by simp) ?_
          refine AllReadyH.cons rfl (fun K hK => ?_) ?_
          · refine step_cell (d := 26) rfl (by rfl) 23 _ rfl g5 1 rfl (.slice x.oa x.on x.oc) (by rw [RS.out.var.cell]; rfl) (Tryz.isAgg23 _) ?_
            refine hK.out _ _ (by (try dsimp only); all_goals exact True.intro) (fun hHeld => ?_)
            clear hK K
            refine wpAnyH_ready (rs := [3]) (by kernel_rfl) (by simp) ?_
            refine AllReadyH.cons rfl (fun K hK => ?_) ?_
            · go_simp
              go_wp2_with ((go_at_call 40; (with_reducible refine (lockGet_tag RS.out.core.eye HLE.out).mono ?_); rintro e y3a ⟨a9, n9, c9, xs9, rfl, hws, hky, _, hmp, he, hb, htg⟩; obtain ⟨y, hy⟩ : ∃ y : POut, y = ⟨(outR st).1.1, a9, n9, c9, xs9⟩ := ⟨_, rfl⟩; have hyt : OutT y3a y := (by rw [hy]; exact ⟨⟨outR_m st, hws⟩, fun z hz => (hky z hz).1, htg⟩); have hys : y.strip = (pOutR st).1 := (by rw [hy]; unfold POut.strip pOutR; dsimp only; rw [← hmp, List.length_map]); rw [show (Value.agg #[Value.int .i64 (outR st).1.1, .slice a9 n9 c9]) = .agg y.cells.toArray by rw [hy]; rfl]; clear hy hws hky hmp htg; replace he : EyeAt y3a yb (pOutR st).2.1 (pOutR st).2.2 := he; rw [HW.out] at he hys; have RS := Lib.hid (RS.out.read (s' := st') hyb he hb); have HYT := Lib.hid hyt; have HYS := Lib.hid hys; clear he hb hyt hys))
              refine hK.out _ _ (by (try dsimp only); all_goals exact True.intro) (fun hHeld => ?_)
              clear hK K
              refine wpAnyH_ready (rs := [4]) (by kernel_rfl) (by simp) ?_
              refine AllReadyH.cons rfl (fun K hK => ?_) ?_
              · refine step_lit_of outS (d := 29) (x := y) rfl (by rfl) rfl (by rfl) (rfl) ?_
                intro p y4a hpp hlit hbl
                have RS := Lib.hid (RS.out.more hbl)
                have LIT := Lib.hid hlit
                have HYT0 := HYT
                have HYT := Lib.hid (HYT0.out.below hbl)
                clear HYT0
                clear hlit hbl hpp
                refine hK.out _ _ (by (try dsimp only); all_goals exact True.intro) (fun hHeld => ?_)
                clear hK K
                refine wpAnyH_ready (rs := [5]) (by kernel_rfl) (by simp) ?_
                refine AllReadyH.cons rfl (fun K hK => ?_) ?_
                · refine step_append_of outS (d := 30) rfl (by rfl) _ _ rfl rfl w.heap.size (.slice x.oa x.on x.oc) x.outs (by rfl) RS.out.outs p y (by rfl) LIT.out (rfl) (by rw [HKL.out]; omega) RS.out.core.but.size ?_
                  intro a' c' y5 ho hgr
                  rw [HKL.out] at ho ⊢
                  obtain ⟨hv, hrs⟩ := RS.out.addOut hgg hB5 HYT.out ho hgr
                  have HV := Lib.hid hv
                  have RS := Lib.hid hrs
                  clear hv hrs ho hgr
                  refine hK.out _ _ (by (try dsimp only); all_goals exact True.intro) (fun hHeld => ?_)
                  clear hK K
                  refine take_at (i := 6) (v := ?_) rfl rfl (by kernel_rfl) (by kernel_rfl) (by kernel_rfl) (fun _ _ _ h => h) (Or.inl ⟨by rfl, ?_⟩) (by assumption) ?_
                  rotate_left
                  · intro w0 hSw; (try dsimp only at hSw); first | (go_simp; done) | (go_simp; with_reducible rfl)
                  simp only [List.setIfInBounds_toArray, List.set_cons_zero, List.set_cons_succ]
                  refine wpAnyH_ready (rs := [7]) (by kernel_rfl) (by simp) ?_
                  refine AllReadyH.cons rfl (fun K hK => ?_) ?_
                  · refine step_store_cell (by rfl) 23 _ _ rfl g5 1 (by rfl) (.slice a' (k + 1) c') (by rfl) (.slice x.oa x.on x.oc) (by rw [HV.out.cell]; rfl) (HV.out.free 1) (by kernel_rfl) rfl ?_
                    refine hK.out _ _ (by (try dsimp only); all_goals exact True.intro) (fun hHeld => ?_)
                    clear hK K
                    refine wpAnyH_done (by kernel_rfl) ?_ _
                    clear hHeld HV
                    revert RS
                    generalize World.setCell y5 _ _ = y7
                    intro RS
                    have HMP : Hid ((x.outs ++ [y]).map POut.strip = (listR pOutR (k + 1) s3).1) := Lib.hid (by rw [NX1.out, ← HMAP.out, ← HYS.out]; simp)
                    go_wp2_with fail
                    go_roundw
                    case rel => exact ⟨k + 1, { x with oa := a', on := k + 1, oc := c', outs := x.outs ++ [y] }, st', by omega, by go_num, HMP.out, NX2.out, by simp [HKL.out], HI.out, HOP.out, HSG.out, RS.out⟩
                    case measure => simp [intOf]; omega
                  exact AllReadyH.nil
                exact AllReadyH.nil
              exact AllReadyH.nil
            exact AllReadyH.nil
          refine AllReadyH.cons rfl (fun K hK => ?_) ?_
          · go_simp
            go_wp2_with ((go_at_call 40; (with_reducible refine (lockGet_tag RS.out.core.eye HLE.out).mono ?_); rintro e y3b ⟨a9, n9, c9, xs9, rfl, hws, hky, _, hmp, he, hb, htg⟩; obtain ⟨y, hy⟩ : ∃ y : POut, y = ⟨(outR st).1.1, a9, n9, c9, xs9⟩ := ⟨_, rfl⟩; have hyt : OutT y3b y := (by rw [hy]; exact ⟨⟨outR_m st, hws⟩, fun z hz => (hky z hz).1, htg⟩); have hys : y.strip = (pOutR st).1 := (by rw [hy]; unfold POut.strip pOutR; dsimp only; rw [← hmp, List.length_map]); rw [show (Value.agg #[Value.int .i64 (outR st).1.1, .slice a9 n9 c9]) = .agg y.cells.toArray by rw [hy]; rfl]; clear hy hws hky hmp htg; replace he : EyeAt y3b yb (pOutR st).2.1 (pOutR st).2.2 := he; rw [HW.out] at he hys; have RS := Lib.hid (RS.out.read (s' := st') hyb he hb); have HYT := Lib.hid hyt; have HYS := Lib.hid hys; clear he hb hyt hys))
            refine hK.out _ _ (by (try dsimp only); all_goals exact True.intro) (fun hHeld => ?_)
            clear hK K
            refine wpAnyH_ready (rs := [1, 4]) (by kernel_rfl) (by simp) ?_
            refine AllReadyH.cons rfl (fun K hK => ?_) ?_
            · refine step_cell (d := 26) rfl (by rfl) 23 _ rfl g5 1 rfl (.slice x.oa x.on x.oc) (by rw [RS.out.var.cell]; rfl) (Tryz.isAgg23 _) ?_
              refine hK.out _ _ (by (try dsimp only); all_goals exact True.intro) (fun hHeld => ?_)
              clear hK K
              refine wpAnyH_ready (rs := [4]) (by kernel_rfl) (by simp) ?_
              refine AllReadyH.cons rfl (fun K hK => ?_) ?_
              · refine step_lit_of outS (d := 29) (x := y) rfl (by rfl) rfl (by rfl) (rfl) ?_
                intro p y4a hpp hlit hbl
                have RS := Lib.hid (RS.out.more hbl)
                have LIT := Lib.hid hlit
                have HYT0 := HYT
                have HYT := Lib.hid (HYT0.out.below hbl)
                clear HYT0
                clear hlit hbl hpp
                refine hK.out _ _ (by (try dsimp only); all_goals exact True.intro) (fun hHeld => ?_)
                clear hK K
                refine wpAnyH_ready (rs := [5]) (by kernel_rfl) (by simp) ?_
                refine AllReadyH.cons rfl (fun K hK => ?_) ?_
                · refine step_append_of outS (d := 30) rfl (by rfl) _ _ rfl rfl w.heap.size (.slice x.oa x.on x.oc) x.outs (by rfl) RS.out.outs p y (by rfl) LIT.out (rfl) (by rw [HKL.out]; omega) RS.out.core.but.size ?_
                  intro a' c' y5 ho hgr
                  rw [HKL.out] at ho ⊢
                  obtain ⟨hv, hrs⟩ := RS.out.addOut hgg hB5 HYT.out ho hgr
                  have HV := Lib.hid hv
                  have RS := Lib.hid hrs
                  clear hv hrs ho hgr
                  refine hK.out _ _ (by (try dsimp only); all_goals exact True.intro) (fun hHeld => ?_)
                  clear hK K
                  refine take_at (i := 6) (v := ?_) rfl rfl (by kernel_rfl) (by kernel_rfl) (by kernel_rfl) (fun _ _ _ h => h) (Or.inl ⟨by rfl, ?_⟩) (by assumption) ?_
                  rotate_left
                  · intro w0 hSw; (try dsimp only at hSw); first | (go_simp; done) | (go_simp; with_reducible rfl)
                  simp only [List.setIfInBounds_toArray, List.set_cons_zero, List.set_cons_succ]
                  refine wpAnyH_ready (rs := [7]) (by kernel_rfl) (by simp) ?_
                  refine AllReadyH.cons rfl (fun K hK => ?_) ?_
                  · refine step_store_cell (by rfl) 23 _ _ rfl g5 1 (by rfl) (.slice a' (k + 1) c') (by rfl) (.slice x.oa x.on x.oc) (by rw [HV.out.cell]; rfl) (HV.out.free 1) (by kernel_rfl) rfl ?_
                    refine hK.out _ _ (by (try dsimp only); all_goals exact True.intro) (fun hHeld => ?_)
                    clear hK K
                    refine wpAnyH_done (by kernel_rfl) ?_ _
                    clear hHeld HV
                    revert RS
                    generalize World.setCell y5 _ _ = y7
                    intro RS
                    have HMP : Hid ((x.outs ++ [y]).map POut.strip = (listR pOutR (k + 1) s3).1) := Lib.hid (by rw [NX1.out, ← HMAP.out, ← HYS.out]; simp)
                    go_wp2_with fail
                    go_roundw
                    case rel => exact ⟨k + 1, { x with oa := a', on := k + 1, oc := c', outs := x.outs ++ [y] }, st', by omega, by go_num, HMP.out, NX2.out, by simp [HKL.out], HI.out, HOP.out, HSG.out, RS.out⟩
                    case measure => simp [intOf]; omega
                  exact AllReadyH.nil
                exact AllReadyH.nil
              exact AllReadyH.nil
            refine AllReadyH.cons rfl (fun K hK => ?_) ?_
            · refine step_lit_of outS (d := 29) (x := y) rfl (by rfl) rfl (by rfl) (rfl) ?_
              intro p y4b hpp hlit hbl
              have RS := Lib.hid (RS.out.more hbl)
              have LIT := Lib.hid hlit
              have HYT0 := HYT
              have HYT := Lib.hid (HYT0.out.below hbl)
              clear HYT0
              clear hlit hbl hpp
              refine hK.out _ _ (by (try dsimp only); all_goals exact True.intro) (fun hHeld => ?_)
              clear hK K
              refine wpAnyH_ready (rs := [1]) (by kernel_rfl) (by simp) ?_
              refine AllReadyH.cons rfl (fun K hK => ?_) ?_
              · refine step_cell (d := 26) rfl (by rfl) 23 _ rfl g5 1 rfl (.slice x.oa x.on x.oc) (by rw [RS.out.var.cell]; rfl) (Tryz.isAgg23 _) ?_
                refine hK.out _ _ (by (try dsimp only); all_goals exact True.intro) (fun hHeld => ?_)
                clear hK K
                refine wpAnyH_ready (rs := [5]) (by kernel_rfl) (by simp) ?_
                refine AllReadyH.cons rfl (fun K hK => ?_) ?_
                · refine step_append_of outS (d := 30) rfl (by rfl) _ _ rfl rfl w.heap.size (.slice x.oa x.on x.oc) x.outs (by rfl) RS.out.outs p y (by rfl) LIT.out (rfl) (by rw [HKL.out]; omega) RS.out.core.but.size ?_
                  intro a' c' y5 ho hgr
                  rw [HKL.out] at ho ⊢
                  obtain ⟨hv, hrs⟩ := RS.out.addOut hgg hB5 HYT.out ho hgr
                  have HV := Lib.hid hv
                  have RS := Lib.hid hrs
                  clear hv hrs ho hgr
                  refine hK.out _ _ (by (try dsimp only); all_goals exact True.intro) (fun hHeld => ?_)
                  clear hK K
                  refine take_at (i := 6) (v := ?_) rfl rfl (by kernel_rfl) (by kernel_rfl) (by kernel_rfl) (fun _ _ _ h => h) (Or.inl ⟨by rfl, ?_⟩) (by assumption) ?_
                  rotate_left
                  · intro w0 hSw; (try dsimp only at hSw); first | (go_simp; done) | (go_simp; with_reducible rfl)
                  simp only [List.setIfInBounds_toArray, List.set_cons_zero, List.set_cons_succ]
                  refine wpAnyH_ready (rs := [7]) (by kernel_rfl) (by simp) ?_
                  refine AllReadyH.cons rfl (fun K hK => ?_) ?_
                  · refine step_store_cell (by rfl) 23 _ _ rfl g5 1 (by rfl) (.slice a' (k + 1) c') (by rfl) (.slice x.oa x.on x.oc) (by rw [HV.out.cell]; rfl) (HV.out.free 1) (by kernel_rfl) rfl ?_
                    refine hK.out _ _ (by (try dsimp only); all_goals exact True.intro) (fun hHeld => ?_)
                    clear hK K
                    refine wpAnyH_done (by kernel_rfl) ?_ _
                    clear hHeld HV
                    revert RS
                    generalize World.setCell y5 _ _ = y7
                    intro RS
                    have HMP : Hid ((x.outs ++ [y]).map POut.strip = (listR pOutR (k + 1) s3).1) := Lib.hid (by rw [NX1.out, ← HMAP.out, ← HYS.out]; simp)
                    go_wp2_with fail
                    go_roundw
                    case rel => exact ⟨k + 1, { x with oa := a', on := k + 1, oc := c', outs := x.outs ++ [y] }, st', by omega, by go_num, HMP.out, NX2.out, by simp [HKL.out], HI.out, HOP.out, HSG.out, RS.out⟩
                    case measure => simp [intOf]; omega
                  exact AllReadyH.nil
                exact AllReadyH.nil
              exact AllReadyH.nil
            exact AllReadyH.nil
          exact AllReadyH.nil
        · obtain rfl : k = n2 := by omega
          have f1 : ¬ ((k : Int) < (k : Int)) := by omega
          obtain ⟨hi4, rfl⟩ : x.outs.map POut.strip = qo ∧ st = s4 := by
            have h9 := HE4.out
            have h8 := HMAP.out
            have h7 := HST.out
            rw [h9] at h8 h7
            exact ⟨h8, h7.symm⟩
          have HO := Lib.hid hi4
          clear hi4 HMAP HST HE4
          go_wp2_with fail
          refine (getOp_st RS.out.core.eye HLs4.out).mono ?_
          rintro e w8 ⟨y, rfl, hyt, hys, he, hb⟩
          rw [HE5.out] at he hys
          have RS := Lib.hid (RS.out.read (s' := s5) hyb he hb)
          have HYT := Lib.hid hyt
          have HYS := Lib.hid hys
          have TH : Hid (w8.there g5 2 y.cells.toArray.size) := Lib.hid (RS.out.var.there (by rw [List.size_toArray, POp.len HYT.out.1.root, PTx.len RS.out.core.opT.1.root]; omega))
          have AY := Lib.hid (op_sizeA HYT.out.1.root)
          clear hyt hys he hb
          go_upto_region 12 with (refine wpList_store_mid rfl 28 _ _ rfl g5 2 y.cells.toArray rfl rfl TH.out AY.out (all_oneCell_toArray y.one) ?_)
          have RS := Lib.hid (RS.out.setOp hgg hB5 HYT.out)
          try simp only [List.toList_toArray]
          revert RS
          generalize World.setCells w8 _ _ _ = w9
          intro RS
          try simp only [Act.put]
          have HOP : Hid (y.strip = qp) := HYS
          have HRL : Hid (y.root.length = 32) := Lib.hid HYT.out.1.root
          obtain ⟨X, hX⟩ : ∃ X : PTx, X = { x with op := y } := ⟨_, rfl⟩
          have HIX : Hid (X.ins.map PIn.strip = qi) := Lib.hid (by rw [hX]; exact HI.out)
          have HOX : Hid (X.outs.map POut.strip = qo) := Lib.hid (by rw [hX]; exact HO.out)
          have HPX : Hid (X.op.strip = qp) := Lib.hid (by rw [hX]; exact HOP.out)
          have HSX : Hid (X.signs = []) := Lib.hid (by rw [hX]; exact HSG.out)
          rw [← hX] at RS
          clear TH AY HYT HYS HOP HRL HI HO HSG hX HE5 HKL
          go_wp2_with fail
          refine (HU6.out _ _ RS.out.core.eye).mono ?_
          rintro e w10 ⟨rfl, he, hb⟩
          have RS := Lib.hid (RS.out.read (s' := s6) hyb he hb)
          clear he hb HU6
          go_wp2_with fail
          go_loopw [38] (fun i wr => ∃ (k : Nat) (x : PTx) (st : List UInt8 × Int), k ≤ n3 ∧ i = .int .i64 k ∧ x.signs = (listR signR k s6).1 ∧ (listR signR k s6).2 = st ∧ x.signs.length = k ∧ x.ins.map PIn.strip = qi ∧ x.outs.map POut.strip = qo ∧ x.op.strip = qp ∧ ReadSt w yb g2 g5 x st wr) (fun i _ => n3 - (intOf i).toNat)
          case atStart => exact ⟨0, _, _, Nat.zero_le _, rfl, by rw [HSX.out]; rfl, rfl, by rw [HSX.out]; rfl, HIX.out, HOX.out, HPX.out, RS.out⟩
          case round =>
            obtain ⟨k, x, st, hk, rfl, hmap, hst, hkl, hi, ho, hop, hRS⟩ := hrel
            have RS := Lib.hid hRS
            have HMAP := Lib.hid hmap
            have HST := Lib.hid hst
            have HKL := Lib.hid hkl
            have HI := Lib.hid hi
            have HO := Lib.hid ho
            have HOP := Lib.hid hop
            clear hmap hst hkl hRS hi ho hop
            by_cases hkn : k < n3
            · have f1 : (k : Int) < (n3 : Int) := by omega
              have f0 : (0 : Int) ≤ (k : Int) := by omega
              obtain ⟨q, st', hq⟩ : ∃ q st', signR st = (q, st') := ⟨_, _, rfl⟩
              have HLE : Hid (st.1.length ≤ 140737488355328) := Lib.hid (by rw [← HST.out]; exact Nat.le_trans (listR_le signR_le s6 k) HLs6.out)
              have NX1 : Hid ((listR signR (k + 1) s6).1 = (listR signR k s6).1 ++ [q]) := Lib.hid (by rw [listR, HST.out, hq])
              have NX2 : Hid ((listR signR (k + 1) s6).2 = st') := Lib.hid (by rw [listR, HST.out, hq])
              have HW := Lib.hid hq
              have HRL : Hid (x.op.root.length = 32) := Lib.hid RS.out.core.opT.1.root
              clear hq HST
              go_upto_region 14 with (fail)
              refine wp_region_held_drew (S := fun _ => True) (by kernel_rfl) (True.intro) (fun hHeld => ?_)
              refine take_at (i := 0) (v := ?_) rfl rfl (by kernel_rfl) (by kernel_rfl) (by kernel_rfl) (fun _ _ _ h => h) (Or.inl ⟨by rfl, ?_⟩) (by assumption) ?_
              rotate_left
              · intro w0 hSw; (try dsimp only at hSw); first | (go_simp; done) | (go_simp; with_reducible rfl)
              simp only [List.setIfInBounds_toArray, List.set_cons_zero, List.set_cons_succ]
              refine take_at (i := 2) (v := ?_) rfl rfl (by kernel_rfl) (by kernel_rfl) (by kernel_rfl) (fun _ _ _ h => h) (Or.inl ⟨by rfl, ?_⟩) (by assumption) ?_
              rotate_left
              · intro w0 hSw; (try dsimp only at hSw); first | (go_simp; done) | (go_simp; with_reducible rfl)
              simp only [List.setIfInBounds_toArray, List.set_cons_zero, List.set_cons_succ]
              have RS := Lib.hid (RS.out.more (w' := wr.drew) (below_drew (Below.refl _ _)))
              refine wpAnyH_ready (rs := [1, 3]) (by kernel_rfl) (by simp) ?_
              refine AllReadyH.cons rfl (fun K hK => ?_) ?_
              · refine step_cell (d := 41) rfl (by rfl) 29 _ rfl g5 39 rfl (.slice x.sa x.sn x.sc) (tx_var39 RS.out.var HRL.out) (Tryz.isAgg29 _) ?_
                refine hK.out _ _ (by (try dsimp only); all_goals exact True.intro) (fun hHeld => ?_)
                clear hK K
                refine wpAnyH_ready (rs := [3]) (by kernel_rfl) (by simp) ?_
                refine AllReadyH.cons rfl (fun K hK => ?_) ?_
                · go_simp
                  go_wp2_with ((go_at_call 42; (with_reducible refine (getSign_st RS.out.core.eye HLE.out).mono ?_); rintro e y3a ⟨y, rfl, hyt, hys, he, hb⟩; rw [HW.out] at he hys; have RS := Lib.hid (RS.out.read (s' := st') hyb he hb); have HYT := Lib.hid hyt; have HYS := Lib.hid hys; clear he hb hyt hys))
                  refine hK.out _ _ (by (try dsimp only); all_goals exact True.intro) (fun hHeld => ?_)
                  clear hK K
                  refine wpAnyH_ready (rs := [4]) (by kernel_rfl) (by simp) ?_
                  refine AllReadyH.cons rfl (fun K hK => ?_) ?_
                  · refine step_lit_of signS (d := 44) (x := y) rfl (by rfl) rfl (by rfl) (PSign.len HYT.out.sum) ?_
                    intro p y4a hpp hlit hbl
                    have RS := Lib.hid (RS.out.more hbl)
                    have LIT := Lib.hid hlit
                    clear hlit hbl hpp
                    refine hK.out _ _ (by (try dsimp only); all_goals exact True.intro) (fun hHeld => ?_)
                    clear hK K
                    refine wpAnyH_ready (rs := [5]) (by kernel_rfl) (by simp) ?_
                    refine AllReadyH.cons rfl (fun K hK => ?_) ?_
                    · refine step_append_of signS (d := 45) rfl (by rfl) _ _ rfl rfl w.heap.size (.slice x.sa x.sn x.sc) x.signs (by rfl) RS.out.signs p y (by rfl) LIT.out (PSign.len HYT.out.sum) (by rw [HKL.out]; omega) RS.out.core.but.size ?_
                      intro a' c' y5 ho hgr
                      rw [HKL.out] at ho ⊢
                      obtain ⟨hv, hrs⟩ := RS.out.addSign hgg hB5 HYT.out ho hgr
                      have HV := Lib.hid hv
                      have RS := Lib.hid hrs
                      clear hv hrs ho hgr
                      refine hK.out _ _ (by (try dsimp only); all_goals exact True.intro) (fun hHeld => ?_)
                      clear hK K
                      refine take_at (i := 6) (v := ?_) rfl rfl (by kernel_rfl) (by kernel_rfl) (by kernel_rfl) (fun _ _ _ h => h) (Or.inl ⟨by rfl, ?_⟩) (by assumption) ?_
                      rotate_left
                      · intro w0 hSw; (try dsimp only at hSw); first | (go_simp; done) | (go_simp; with_reducible rfl)
                      simp only [List.setIfInBounds_toArray, List.set_cons_zero, List.set_cons_succ]
                      refine wpAnyH_ready (rs := [7]) (by kernel_rfl) (by simp) ?_
                      refine AllReadyH.cons rfl (fun K hK => ?_) ?_
                      · refine step_store_cell (by rfl) 29 _ _ rfl g5 39 (by rfl) (.slice a' (k + 1) c') (by rfl) (.slice x.sa x.sn x.sc) (tx_var39 HV.out HRL.out) (HV.out.free 39) (by kernel_rfl) rfl ?_
                        refine hK.out _ _ (by (try dsimp only); all_goals exact True.intro) (fun hHeld => ?_)
                        clear hK K
                        refine wpAnyH_done (by kernel_rfl) ?_ _
                        clear hHeld HV
                        revert RS
                        generalize World.setCell y5 _ _ = y7
                        intro RS
                        have HMP : Hid ((x.signs ++ [y]) = (listR signR (k + 1) s6).1) := Lib.hid (by rw [NX1.out, ← HMAP.out, ← HYS.out])
                        go_wp2_with fail
                        go_roundw
                        case rel => exact ⟨k + 1, { x with sa := a', sn := k + 1, sc := c', signs := x.signs ++ [y] }, st', by omega, by go_num, HMP.out, NX2.out, by simp [HKL.out], HI.out, HO.out, HOP.out, RS.out⟩
                        case measure => simp [intOf]; omega
                      exact AllReadyH.nil
                    exact AllReadyH.nil
                  exact AllReadyH.nil
                exact AllReadyH.nil
              refine AllReadyH.cons rfl (fun K hK => ?_) ?_
              · go_simp
                go_wp2_with ((go_at_call 42; (with_reducible refine (getSign_st RS.out.core.eye HLE.out).mono ?_); rintro e y3b ⟨y, rfl, hyt, hys, he, hb⟩; rw [HW.out] at he hys; have RS := Lib.hid (RS.out.read (s' := st') hyb he hb); have HYT := Lib.hid hyt; have HYS := Lib.hid hys; clear he hb hyt hys))
                refine hK.out _ _ (by (try dsimp only); all_goals exact True.intro) (fun hHeld => ?_)
                clear hK K
                refine wpAnyH_ready (rs := [1, 4]) (by kernel_rfl) (by simp) ?_
                refine AllReadyH.cons rfl (fun K hK => ?_) ?_
                · refine step_cell (d := 41) rfl (by rfl) 29 _ rfl g5 39 rfl (.slice x.sa x.sn x.sc) (tx_var39 RS.out.var HRL.out) (Tryz.isAgg29 _) ?_
                  refine hK.out _ _ (by (try dsimp only); all_goals exact True.intro) (fun hHeld => ?_)
                  clear hK K
                  refine wpAnyH_ready (rs := [4]) (by kernel_rfl) (by simp) ?_
                  refine AllReadyH.cons rfl (fun K hK => ?_) ?_
                  · refine step_lit_of signS (d := 44) (x := y) rfl (by rfl) rfl (by rfl) (PSign.len HYT.out.sum) ?_
                    intro p y4a hpp hlit hbl
                    have RS := Lib.hid (RS.out.more hbl)
                    have LIT := Lib.hid hlit
                    clear hlit hbl hpp
                    refine hK.out _ _ (by (try dsimp only); all_goals exact True.intro) (fun hHeld => ?_)
                    clear hK K
                    refine wpAnyH_ready (rs := [5]) (by kernel_rfl) (by simp) ?_
                    refine AllReadyH.cons rfl (fun K hK => ?_) ?_
                    · refine step_append_of signS (d := 45) rfl (by rfl) _ _ rfl rfl w.heap.size (.slice x.sa x.sn x.sc) x.signs (by rfl) RS.out.signs p y (by rfl) LIT.out (PSign.len HYT.out.sum) (by rw [HKL.out]; omega) RS.out.core.but.size ?_
                      intro a' c' y5 ho hgr
                      rw [HKL.out] at ho ⊢
                      obtain ⟨hv, hrs⟩ := RS.out.addSign hgg hB5 HYT.out ho hgr
                      have HV := Lib.hid hv
                      have RS := Lib.hid hrs
                      clear hv hrs ho hgr
                      refine hK.out _ _ (by (try dsimp only); all_goals exact True.intro) (fun hHeld => ?_)
                      clear hK K
                      refine take_at (i := 6) (v := ?_) rfl rfl (by kernel_rfl) (by kernel_rfl) (by kernel_rfl) (fun _ _ _ h => h) (Or.inl ⟨by rfl, ?_⟩) (by assumption) ?_
                      rotate_left
                      · intro w0 hSw; (try dsimp only at hSw); first | (go_simp; done) | (go_simp; with_reducible rfl)
                      simp only [List.setIfInBounds_toArray, List.set_cons_zero, List.set_cons_succ]
                      refine wpAnyH_ready (rs := [7]) (by kernel_rfl) (by simp) ?_
                      refine AllReadyH.cons rfl (fun K hK => ?_) ?_
                      · refine step_store_cell (by rfl) 29 _ _ rfl g5 39 (by rfl) (.slice a' (k + 1) c') (by rfl) (.slice x.sa x.sn x.sc) (tx_var39 HV.out HRL.out) (HV.out.free 39) (by kernel_rfl) rfl ?_
                        refine hK.out _ _ (by (try dsimp only); all_goals exact True.intro) (fun hHeld => ?_)
                        clear hK K
                        refine wpAnyH_done (by kernel_rfl) ?_ _
                        clear hHeld HV
                        revert RS
                        generalize World.setCell y5 _ _ = y7
                        intro RS
                        have HMP : Hid ((x.signs ++ [y]) = (listR signR (k + 1) s6).1) := Lib.hid (by rw [NX1.out, ← HMAP.out, ← HYS.out])
                        go_wp2_with fail
                        go_roundw
                        case rel => exact ⟨k + 1, { x with sa := a', sn := k + 1, sc := c', signs := x.signs ++ [y] }, st', by omega, by go_num, HMP.out, NX2.out, by simp [HKL.out], HI.out, HO.out, HOP.out, RS.out⟩
                        case measure => simp [intOf]; omega
                      exact AllReadyH.nil
                    exact AllReadyH.nil
                  exact AllReadyH.nil
                refine AllReadyH.cons rfl (fun K hK => ?_) ?_
                · refine step_lit_of signS (d := 44) (x := y) rfl (by rfl) rfl (by rfl) (PSign.len HYT.out.sum) ?_
                  intro p y4b hpp hlit hbl
                  have RS := Lib.hid (RS.out.more hbl)
                  have LIT := Lib.hid hlit
                  clear hlit hbl hpp
                  refine hK.out _ _ (by (try dsimp only); all_goals exact True.intro) (fun hHeld => ?_)
                  clear hK K
                  refine wpAnyH_ready (rs := [1]) (by kernel_rfl) (by simp) ?_
                  refine AllReadyH.cons rfl (fun K hK => ?_) ?_
                  · refine step_cell (d := 41) rfl (by rfl) 29 _ rfl g5 39 rfl (.slice x.sa x.sn x.sc) (tx_var39 RS.out.var HRL.out) (Tryz.isAgg29 _) ?_
                    refine hK.out _ _ (by (try dsimp only); all_goals exact True.intro) (fun hHeld => ?_)
                    clear hK K
                    refine wpAnyH_ready (rs := [5]) (by kernel_rfl) (by simp) ?_
                    refine AllReadyH.cons rfl (fun K hK => ?_) ?_
                    · refine step_append_of signS (d := 45) rfl (by rfl) _ _ rfl rfl w.heap.size (.slice x.sa x.sn x.sc) x.signs (by rfl) RS.out.signs p y (by rfl) LIT.out (PSign.len HYT.out.sum) (by rw [HKL.out]; omega) RS.out.core.but.size ?_
                      intro a' c' y5 ho hgr
                      rw [HKL.out] at ho ⊢
                      obtain ⟨hv, hrs⟩ := RS.out.addSign hgg hB5 HYT.out ho hgr
                      have HV := Lib.hid hv
                      have RS := Lib.hid hrs
                      clear hv hrs ho hgr
                      refine hK.out _ _ (by (try dsimp only); all_goals exact True.intro) (fun hHeld => ?_)
                      clear hK K
                      refine take_at (i := 6) (v := ?_) rfl rfl (by kernel_rfl) (by kernel_rfl) (by kernel_rfl) (fun _ _ _ h => h) (Or.inl ⟨by rfl, ?_⟩) (by assumption) ?_
                      rotate_left
                      · intro w0 hSw; (try dsimp only at hSw); first | (go_simp; done) | (go_simp; with_reducible rfl)
                      simp only [List.setIfInBounds_toArray, List.set_cons_zero, List.set_cons_succ]
                      refine wpAnyH_ready (rs := [7]) (by kernel_rfl) (by simp) ?_
                      refine AllReadyH.cons rfl (fun K hK => ?_) ?_
                      · refine step_store_cell (by rfl) 29 _ _ rfl g5 39 (by rfl) (.slice a' (k + 1) c') (by rfl) (.slice x.sa x.sn x.sc) (tx_var39 HV.out HRL.out) (HV.out.free 39) (by kernel_rfl) rfl ?_
                        refine hK.out _ _ (by (try dsimp only); all_goals exact True.intro) (fun hHeld => ?_)
                        clear hK K
                        refine wpAnyH_done (by kernel_rfl) ?_ _
                        clear hHeld HV
                        revert RS
                        generalize World.setCell y5 _ _ = y7
                        intro RS
                        have HMP : Hid ((x.signs ++ [y]) = (listR signR (k + 1) s6).1) := Lib.hid (by rw [NX1.out, ← HMAP.out, ← HYS.out])
                        go_wp2_with fail
                        go_roundw
                        case rel => exact ⟨k + 1, { x with sa := a', sn := k + 1, sc := c', signs := x.signs ++ [y] }, st', by omega, by go_num, HMP.out, NX2.out, by simp [HKL.out], HI.out, HO.out, HOP.out, RS.out⟩
                        case measure => simp [intOf]; omega
                      exact AllReadyH.nil
                    exact AllReadyH.nil
                  exact AllReadyH.nil
                exact AllReadyH.nil
              exact AllReadyH.nil
            · obtain rfl : k = n3 := by omega
              have f1 : ¬ ((k : Int) < (k : Int)) := by omega
              obtain ⟨hi7, rfl⟩ : x.signs = qs ∧ st = s7 := by
                have h9 := HE7.out
                have h8 := HMAP.out
                have h7 := HST.out
                rw [h9] at h8 h7
                exact ⟨by simpa using h8, h7.symm⟩
              have hstrip : x.strip = ⟨none, qi.length, 0, qi, none, qo.length, 0, qo, qp, none, qs.length, 0, qs⟩ := by
                unfold PTx.strip
                rw [hi7, ← HI.out, ← HO.out, ← HOP.out, List.length_map, List.length_map]
              have HSTR := Lib.hid hstrip
              clear hi7 hstrip HMAP HST HI HO HOP HE7
              obtain ⟨E, hE⟩ : ∃ E, doneE st = E := ⟨_, rfl⟩
              have HDN := Lib.hid (done_st _ RS.out.core.eye)
              rw [hE] at HDN
              go_wp2_with fail
              refine HDN.out.mono ?_
              rintro e wd ⟨rfl, ⟨sd, he⟩, hb⟩
              have RS := Lib.hid (RS.out.read (s' := sd) hyb he hb)
              have HE := Lib.hid hE
              clear he hb HDN hE
              by_cases h0 : E = 0
              rotate_left
              · have hb : (E != 0) = true := by simpa using h0
                have HBAD := Lib.hid (read_bad HER.out (by rw [HE.out]; exact h0))
                have H0 := Lib.hid h0
                clear h0 HE
                go_upto_region 18 with (fail)
                try rw [← noTx_is]
                go_wp2_with (first | (refine wpList_store_row rfl 31 _ _ rfl g2 noTx.cells.toArray (by rfl) (by rfl) 31 noTx.cells.toArray RS.out.core.res SZ0.out rfl (all_oneCell_toArray noTx.one) ?_) | fail)
                refine bodyPost_ret (results_cell_then rfl _ _ g2 31 noTx.cells.toArray (0, 0) _ (.int .i64 E) rfl rfl (setRow_heap wd g2 _ _ 31 _ RS.out.core.res) Tryz.underlying31 rfl SZ0.out) rfl ?_
                exact ⟨noTx, E, rfl, noTx_in _, (RS.out.final hB2 (but_setRow wd g2 noTx.cells.toArray)).2, fun e => absurd e H0.out, fun _ => ⟨rfl, HBAD.out⟩⟩
              · subst h0
                have hb : ((0 : Int) != 0) = false := by decide
                have hs7 := doneE_zero HE.out
                have HER2 := HER.out
                rw [hs7] at HER2
                have HER2 := Lib.hid HER2
                have HRI := Lib.hid (txRight_any RS.out.tx)
                have RV := Lib.hid RS.out.var.range
                have SX := Lib.hid (tx_size RS.out.core.opT.1.root)
                clear HE hs7
                by_cases hok : txOk x = true
                rotate_left
                · have hok' : txOk x = false := by simpa using hok
                  rw [hok'] at HRI
                  have HBAD := Lib.hid (read_wrong HER.out RS.out.tx HSTR.out hok')
                  clear hok hok'
                  go_wp2_with (first | (refine wpList_load_mid rfl 31 _ rfl g5 0 rfl x.cells _ RV.out Tryz.underlying31 rfl SX.out ?_) | fail)
                  refine HRI.out.mono ?_
                  rintro e we ⟨rfl, hb⟩
                  have RS := Lib.hid (RS.out.more hb)
                  clear hb HRI RV
                  go_upto_region 20 with (fail)
                  try rw [← noTx_is]
                  go_wp2_with (first | (refine wpList_store_row rfl 31 _ _ rfl g2 noTx.cells.toArray (by rfl) (by rfl) 31 noTx.cells.toArray RS.out.core.res SZ0.out rfl (all_oneCell_toArray noTx.one) ?_) | fail)
                  refine bodyPost_ret (results_cell_then rfl _ _ g2 31 noTx.cells.toArray (0, 0) _ (.int .i64 4) rfl rfl (setRow_heap we g2 _ _ 31 _ RS.out.core.res) Tryz.underlying31 rfl SZ0.out) rfl ?_
                  exact ⟨noTx, 4, rfl, noTx_in _, (RS.out.final hB2 (but_setRow we g2 noTx.cells.toArray)).2, (fun e => absurd e (by decide)), fun _ => ⟨rfl, HBAD.out⟩⟩
                · rw [hok] at HRI
                  have HOK := Lib.hid hok
                  have HGD := Lib.hid (read_good HER2.out HSTR.out)
                  clear hok
                  go_wp2_with (first | (refine wpList_load_mid rfl 31 _ rfl g5 0 rfl x.cells _ RV.out Tryz.underlying31 rfl SX.out ?_) | fail)
                  refine HRI.out.mono ?_
                  rintro e we ⟨rfl, hb⟩
                  have RS := Lib.hid (RS.out.more hb)
                  have RV2 := Lib.hid RS.out.var.range
                  have AX := Lib.hid (tx_sizeA RS.out.core.opT.1.root)
                  have ZX : Hid (noTx.cells.toArray.size = x.cells.toArray.size) := Lib.hid (by rw [List.size_toArray, List.size_toArray, PTx.len RS.out.core.opT.1.root]; rfl)
                  clear hb HRI RV
                  go_wp2_with (first | (refine wpList_load_mid rfl 31 _ rfl g5 0 rfl x.cells _ RV2.out Tryz.underlying31 rfl SX.out ?_) | (refine wpList_store_row rfl 31 _ _ rfl g2 x.cells.toArray rfl rfl 31 noTx.cells.toArray RS.out.core.res AX.out ZX.out (all_oneCell_toArray x.one) ?_) | fail)
                  refine bodyPost_ret (results_cell_then rfl _ _ g2 31 x.cells.toArray (0, 0) _ (.int .i64 0) rfl rfl (setRow_heap we g2 _ _ 31 _ RS.out.core.res) Tryz.underlying31 rfl AX.out) rfl ?_
                  obtain ⟨q1, q2⟩ := RS.out.final hB2 (but_setRow we g2 x.cells.toArray)
                  exact ⟨x, 0, rfl, q1, q2, fun _ => ⟨HOK.out, HGD.out⟩, fun e => absurd rfl e⟩
end Go.Proofs.YtodbhopeknlgiaaGreatDoor
