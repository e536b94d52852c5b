/- Small parts of the ledger: given, copied, amounts, act of what has no op, Fees, Worth. What the ledger's come comes to, of a transaction of one in or none, and of one out or none. What the ledger's opened and brought come to, where all ins are open. What the ledger's brought and left come to, of a transaction of one in or none, its op none. -/
import Derived.Test.YteddkkcheaghaaaGreatDoorLedMem
import Derived.Test.YteddkkcheaghaaaGreatDoorBonds
import Derived.Test.YteddkkcheaghaaaGreatDoorViews
import Derived.Test.YteddkkcheaghaaaGreatDoorLks
import Derived.Test.YteddkkcheaghaaaGreatDoorTxSelf
import Derived.Test.YteddkkcheaghaaaGreatDoorViewr
namespace Go.Proofs.YteddkkcheaghaaaGreatDoor
open Go.RowKit Go.Maps

set_option linter.unusedSimpArgs false in
set_option maxRecDepth 100000 in
set_option maxHeartbeats 6400000 in
theorem given_led {w : World} {pl : Nat} {cs : List Value} {db : Nat} (h : w.heap[pl]? = some (.cells cs.toArray 68 (0, 0))) (hc : cs[2]? = some (.map (some db))) : ∀ W : World, Below w.heap.size w W → Calls Tryz.prog 45 #[.pointer (some ⟨pl, 0, none⟩)] W fun e w' => e = .returned (.bool true) ∧ W = w' := fun W hW => by
  have c2 : W.cell? ⟨pl, 2, none⟩ = some (.map (some db)) := by rw [cell_of_row W pl 2 _ _ _ (keep hW h), List.getElem?_toArray]; exact hc
  have hq := run_neq_map_nil10 W (some db) Tryz.underlying65
  clear h hc
  go_enter Tryz.func45, Tryz.ntmps45
  go_wp2
  go_ret
  exact ⟨rfl, rfl⟩
theorem in_ref18 {w : World} {b o : Nat} {x : PIn} (h : w.rangeAt b o x.cells) : w.rangeAt b o (refCells x.tx x.place) := fun j v hv => h j v (by
  have hj := (List.getElem?_eq_some_iff.1 hv).1
  have e : x.cells = refCells x.tx x.place ++ ([.int .i64 x.way, .slice x.a x.n x.c] : List Value) := by simp [PIn.cells, refCells]
  rw [e, List.getElem?_append_left hj]
  exact hv)
theorem results_three18 {fn : Func} {a b c : Tmp} (h : fn.results = #[.tmp a, .tmp b, .tmp c]) (tmps : Array Value) (P : Program) (w : World) : (results fn tmps).run P w = .ok (.tuple #[tmps.getD a undef, tmps.getD b undef, tmps.getD c undef]) w := by simp [results, h]
set_option linter.unusedSimpArgs false in
set_option maxRecDepth 100000 in
set_option maxHeartbeats 6400000 in
theorem act_none {pv bv : Value} {x : PTx} {H : Int} (hk : x.op.kind = 0) (w : World) : Calls Tryz.prog 48 #[pv, bv, .agg x.cells.toArray, .int .i64 H] w fun e w' => e = .returned (.tuple #[.int .i64 0, .int .i64 0, .int .i64 0]) ∧ Below w.heap.size w w' := by
  have b1 : Below w.heap.size w (w.alloc (.cells x.cells.toArray 50)) := (Below.refl _ _).alloc (Nat.le_refl _) _
  have h1 := heap_alloc_new w (.cells x.cells.toArray 50)
  have c2 : (w.alloc (.cells x.cells.toArray 50)).cell? ⟨w.heap.size, 2, none⟩ = some (.int .i64 0) := by
    have h9 := op_kind (tx_op (range_of h1))
    rw [hk] at h9
    exact h9
  have HB := Lib.hid b1
  clear b1 h1 hk
  go_enter Tryz.func48, Tryz.ntmps48
  go_upto_region 1 with (fail)
  revert c2 HB
  generalize (w.alloc (.cells x.cells.toArray 50)) = w1
  intro c2 HB
  go_wp2
  refine bodyPost_ret (results_three18 rfl _ _ _) rfl ?_
  exact ⟨rfl, HB.out⟩
set_option linter.unusedSimpArgs false in
set_option maxRecDepth 100000 in
set_option maxHeartbeats 6400000 in
theorem ledCopied_any {w : World} {x : PTx} (ht : TxIn w x) (hf : FewTxS x) (hff : FrontFew false x) (hk : KsAt w) (h1 : x.sn ≤ 1) :
    Calls Tryz.prog 87 #[.agg x.cells.toArray] w fun e w' => ∃ y : PTx, e = .returned (.agg y.cells.toArray) ∧ y.op.root.length = 32 ∧ Below w.heap.size w w' := by
  have HCON : Hid (∀ W : World, Below w.heap.size w W → Calls Tryz.prog 31 #[.agg x.cells.toArray, .slice none 0 0] W fun e w' => ∃ y : PTx, e = .returned (.agg y.cells.toArray) ∧ y.op.root.length = 32 ∧ Below W.heap.size W w') := Lib.hid fun W hW => (txSelf_any (ht.below hW) hf hff (hk.below hW) h1).mono fun e w' ⟨y, h2, h3, _, _, h6⟩ => ⟨y, h2, h3.op.root, h6⟩
  have SX := Lib.hid (tx_size (x := x) ht.op.root)
  have SY : Hid (∀ y : PTx, y.op.root.length = 32 → (Tryz.prog.info? 50).map (·.size) = some y.cells.length) := Lib.hid fun y hy => tx_size hy
  clear ht hf hff hk h1
  go_enter Tryz.func87, Tryz.ntmps87
  go_upto_region 1 with (first | (refine wpList_new rfl 50 rfl noTx.cells.toArray noTx15 ?_; intro r w2 hr hh hb; go_frame) | fail)
  have b0 : Below w.heap.size w (w.alloc (.cells x.cells.toArray 50)) := (Below.refl _ _).alloc (Nat.le_refl _) _
  have h1 := keep hb (heap_alloc_new w (.cells x.cells.toArray 50))
  have b2 := bthen b0 hb
  have HR0 : Hid (w.heap.size ≤ r) := Lib.hid (Nat.le_trans b0.size hr)
  obtain ⟨g, hg⟩ : ∃ g, g = w.heap.size := ⟨_, rfl⟩
  rw [← hg] at h1 ⊢
  have HB2 := Lib.hid b2
  have R2 := Lib.hid (range_of h1)
  have HRES := Lib.hid hh
  clear b0 h1 b2 hr hh hb hg
  go_wp2_with (first | (refine wpList_load_mid rfl 50 _ rfl g 0 rfl x.cells _ R2.out Tryz.underlying50 rfl SX.out ?_) | (go_at_call 31; (with_reducible refine (HCON.out _ HB2.out).mono ?_); rintro e w3 ⟨y, rfl, hy, hb3⟩; have HYL := Lib.hid hy; have HB3 := Lib.hid (bthen HB2.out hb3); have HRES3 := Lib.hid (keep hb3 HRES.out); clear hy hb3) | (refine wpList_row10 rfl 50 _ _ rfl r y.cells rfl rfl 50 noTx.cells HRES3.out (SY.out y HYL.out) (by rw [PTx.len HYL.out]; rfl) y.one ?_; intro w9 hh9 hb9) | fail)
  refine bodyPost_ret (results_cell_row rfl _ _ r 50 y.cells.toArray (0, 0) _ rfl hh9 Tryz.underlying50 rfl (by rw [List.size_toArray]; exact SY.out y HYL.out)) rfl ?_
  exact ⟨y, rfl, HYL.out, But.in HB3.out hb9 HR0.out⟩
set_option linter.unusedSimpArgs false in
set_option maxRecDepth 100000 in
set_option maxHeartbeats 6400000 in
theorem amounts_any {w : World} {a : Option Addr} {n c : Nat} {xs : List POut} (h : SliceOf outK w a n c xs) (hn : n ≤ 1000) :
    Calls Tryz.prog 97 #[.slice a n c] w fun e w' => ∃ (a' : Option Addr) (c' : Nat), e = .returned (.slice a' n c') ∧ OwnZ w' 2 w.heap.size (.slice a' n c') (xs.map POut.m) ∧ Below w.heap.size w w' := by
  have hn63 := h.len63
  have hxl := h.1
  obtain ⟨i0, hi, hz0, hz1, hz2⟩ := info_parts (show (Tryz.prog.info? 2).map (fun i => (i.zero, i.size, i.bytes)) = some (some (.int .i64 0), 1, 8) by kernel_rfl)
  have HI := Lib.hid hi
  have H := Lib.hid h
  have HXL := Lib.hid hxl
  clear h hi hxl
  go_enter Tryz.func97, Tryz.ntmps97
  go_upto_region 3 with (fail)
  go_loopw [3, 8] (fun v i wr => ∃ (j : Nat) (a' : Option Addr) (c' : Nat), j ≤ n ∧ i = .int .i64 j ∧ v = .slice a' j c' ∧ UnderZ w 2 (.slice a' j c') ((xs.take j).map POut.m) wr) (fun _ i _ => n - (intOf i).toNat)
  case atStart => exact ⟨0, none, 0, Nat.zero_le _, rfl, rfl, UnderZ.nil _ _⟩
  case round =>
    obtain ⟨j, a', c', hj, rfl, rfl, hat⟩ := hrel
    have HAT := Lib.hid hat
    clear hat
    by_cases hjn : j < n
    · have f1 : (j : Int) < (n : Int) := by omega
      have f0 : (0 : Int) ≤ (j : Int) := by omega
      have ft : ((j : Int)).toNat = j := by omega
      obtain ⟨b1, o1, e1, hlt1, hc1⟩ := (H.out.below HAT.out.below).2.2.2.2.2 (by omega)
      have hx := (H.out.below HAT.out.below).get hjn
      have hrx := hc1 j hjn
      replace hx : outK.ok wr (xs.getD j noOut) := hx
      replace hrx : wr.rangeAt b1 (o1 + j * 2) (outK.cells (xs.getD j noOut)) := hrx
      have hst : (xs.take (j + 1)).map POut.m = (xs.take j).map POut.m ++ [(xs.getD j noOut).m] := by rw [take_getD (d := noOut) (by rw [HXL.out]; exact hjn), List.map_append]; rfl
      revert hx hrx hst
      generalize xs.getD j noOut = y
      intro hx hrx hst
      subst e1
      have RX : Hid (wr.rangeAt b1 (o1 + j * 2) y.cells) := Lib.hid hrx
      have SX : Hid ((Tryz.prog.info? 107).map (·.size) = some y.cells.length) := Lib.hid Tryz.sizeOut
      have HM := Lib.hid (show OutIn wr y from hx).m
      have HST := Lib.hid hst
      have HLL : Hid (((xs.take j).map POut.m).length = j) := Lib.hid (by rw [List.length_map, List.length_take, HXL.out]; omega)
      clear hc1 hrx hx hst
      go_upto_region 5 with (first | (refine wpList_load_mid rfl 107 _ rfl b1 (o1 + j * 2) rfl y.cells _ RX.out Tryz.underlying107 rfl SX.out ?_) | (refine wpList_var rfl rfl 107 rfl _ _ rfl noOut.cells.toArray Tryz.zeroOut14 rfl y.cells (fun _ => rfl) (fun _ => rfl) rfl y.one ?_; intro g5 w5 hg5 hh5 hb5; go_frame) | fail)
      have HA5 := Lib.hid (HAT.out.more hb5)
      have c0 : w5.cell? ⟨g5, 0, none⟩ = some (.int .i64 y.m) := by rw [cell_of_row _ _ _ _ _ _ hh5]; rfl
      clear hg5 hh5 hb5
      have b1 : Below w5.heap.size w5 (w5.alloc (.cells #[.int .i64 y.m] 2)) := (Below.refl _ _).alloc (Nat.le_refl _) _
      have HA1 := Lib.hid (HA5.out.more b1)
      have HN1 := Lib.hid (numbers_one (heap_alloc_new w5 (.cells #[.int .i64 y.m] 2)) HM.out)
      clear b1
      go_wp2_with (at_builtin; refine wpList_append_numbers _ rfl _ _ 123 2 rfl w.heap.size i0 Tryz.underlying123 HI.out hz0 hz1 hz2 (.slice a' j c') ((xs.take j).map POut.m) j HLL.out rfl HA1.out.own _ 1 1 [y.m] rfl HN1.out (by omega) HA1.out.below.size ?_; intro a8 c8 w8 ho8 hg8; have HA8 := Lib.hid (HA1.out.grown ho8 hg8); clear ho8 hg8)
      go_roundw
      case rel => exact ⟨j + 1, a8, c8, by omega, by go_num, rfl, by rw [HST.out]; exact HA8.out⟩
      case measure => simp [intOf]; omega
    · have f1 : ¬ ((j : Int) < (n : Int)) := by omega
      obtain rfl : j = n := by omega
      have HE : Hid (xs.take j = xs) := Lib.hid (List.take_of_length_le (by rw [HXL.out]; exact Nat.le_refl _))
      clear H
      go_wp2
      go_ret
      exact ⟨a', c', rfl, by rw [← HE.out]; exact HAT.out.own, HAT.out.below⟩
set_option linter.unusedSimpArgs false in
set_option maxRecDepth 100000 in
set_option maxHeartbeats 6400000 in
theorem fees_led {w : World} {B K pl vb bb vm tb hb db sb oc : Nat} {rows : List PRow} {F : SumD → Option Value} {G : List UInt8 → Int → Option Value} {oa : Option Addr} {ids : List (List UInt8)} {fees : Int} (h : LedAt w B K pl vb bb vm tb hb db sb rows F G oa oc ids fees) :
    Calls Tryz.prog 34 #[.pointer (some ⟨pl, 0, none⟩)] w fun e w' => e = .returned (.int .i64 fees) ∧ w = w' := by
  have c5 : w.cell? ⟨pl, 5, none⟩ = some (.int .i64 fees) := by rw [cell_of_row _ _ _ _ _ _ h.box]; rfl
  have HG := Lib.hid (given_led h.box rfl w (Below.refl _ _))
  clear h
  go_enter Tryz.func34, Tryz.ntmps34
  go_wp2_with (first | (go_at_call 45; (with_reducible refine HG.out.mono ?_); rintro e w3 ⟨rfl, rfl⟩) | fail)
  go_ret
  exact ⟨rfl, rfl⟩
theorem Tryz.zeroRow18 : (Tryz.prog.info? 132).map (fun i => (i.zero, i.size, i.bytes)) = some (some (.agg noRow.cells.toArray), 36, 80) := by kernel_rfl
def sumM (rows : List PRow) : Int := (rows.map fun r => r.out.m).sum
theorem sumM_take {rows : List PRow} {j : Nat} (h : j < rows.length) : sumM (rows.take (j + 1)) = sumM (rows.take j) + (rows.getD j noRow).out.m := by
  unfold sumM
  rw [take_getD (d := noRow) h, List.map_append, List.sum_append]
  simp
set_option linter.unusedSimpArgs false in
set_option maxRecDepth 100000 in
set_option maxHeartbeats 6400000 in
theorem worth_led {w : World} {B K pl vb bb vm tb hb db sb oc : Nat} {rows : List PRow} {F : SumD → Option Value} {G : List UInt8 → Int → Option Value} {oa : Option Addr} {ids : List (List UInt8)} {fees : Int} (h : LedAt w B K pl vb bb vm tb hb db sb rows F G oa oc ids fees) (hr : rows.length ≤ 1000)
    (hs : ∀ j, j ≤ rows.length → 0 ≤ fees + sumM (rows.take j) ∧ fees + sumM (rows.take j) ≤ 1000000000000000000) :
    Calls Tryz.prog 18 #[.pointer (some ⟨pl, 0, none⟩)] w fun e w' => e = .returned (.int .i64 (fees + sumM rows)) ∧ Below w.heap.size w w' := by
  have HG := Lib.hid (given_led h.box rfl)
  have HTOT : Hid (∀ W : World, Below w.heap.size w W → Calls Tryz.prog 23 #[.pointer (some ⟨bb, 0, none⟩)] W fun e w' => e = .returned (.int .i64 0) ∧ Below W.heap.size W w') := Lib.hid fun W hW => total_any (h.board.below hW)
  have HALL : Hid (∀ W : World, Below w.heap.size w W → Calls Tryz.prog 56 #[.pointer (some ⟨vb, 0, none⟩)] W fun e w' => ∃ (a : Option Addr) (c : Nat) (rs : List PRow), e = .returned (.slice a rows.length c) ∧ SliceOf rowK w' a rows.length c rs ∧ rs.map PRow.strip = rows.map PRow.strip ∧ Below W.heap.size W w') := Lib.hid fun W hW => by
    obtain ⟨N, _, h1⟩ := h.view
    exact all_any (h1.below hW) hr
  have hm : ∀ rs : List PRow, rs.map PRow.strip = rows.map PRow.strip → ∀ j, j < rows.length → (rs.getD j noRow).out.m = (rows.getD j noRow).out.m := fun rs e j hj => by
    have hl : rs.length = rows.length := by have h9 := congrArg List.length e; simpa using h9
    have h9 := congrArg (fun l => (l.getD j noRow).out.m) e
    simp only [List.getD_eq_getElem?_getD, List.getElem?_map] at h9 ⊢
    rw [List.getElem?_eq_getElem hj, List.getElem?_eq_getElem (by omega)] at h9 ⊢
    exact h9
  have HM := Lib.hid hm
  have HBX := Lib.hid h.box
  have HS := Lib.hid hs
  have hs0 := hs 0 (Nat.zero_le _)
  have hf0 : 0 ≤ fees ∧ fees ≤ 1000000000000000000 := by simpa [sumM] using hs0
  have w0 := IntWalk.i64_in (n := 0 + fees) (by omega)
  have HF0 := Lib.hid hf0
  have HW0 : Hid (IntKind.i64.wrap fees = fees) := Lib.hid (IntWalk.i64_in (n := fees) (by omega))
  clear h hs hs0 hm
  go_enter Tryz.func18, Tryz.ntmps18
  go_upto_region 3 with (first | (go_at_call 45; (with_reducible refine (HG.out _ (Below.refl _ _)).mono ?_); rintro e w2 ⟨rfl, rfl⟩) | fail)
  refine wp_region_held_drew (S := fun w' => w'.cell? ⟨pl, 5, none⟩ = some (Value.int .i64 fees) ∧ w'.cell? ⟨pl, 1, none⟩ = some (Value.pointer (some ⟨bb, 0, none⟩))) (by kernel_rfl) (⟨(by rw [cell_of_row _ _ _ _ _ _ (keep (below_drew (Below.refl w.heap.size w)) HBX.out)]; rfl), (by rw [cell_of_row _ _ _ _ _ _ (keep (below_drew (Below.refl w.heap.size w)) HBX.out)]; rfl)⟩) (fun hHeld => ?_)
  refine tkP 0 rfl rfl ?_
  refine tkP 1 rfl rfl ?_
  refine tkP 2 rfl rfl ?_
  refine tkA 3 rfl rfl (yields_cell (b := pl) (o := 1) (by rfl) rfl rfl (fun w0 hSw => hSw.2) (fun w0 => Tryz.isAgg35 w0)) ?_
  refine tkP 5 rfl rfl ?_
  refine tkP 6 rfl rfl ?_
  refine tkP 7 rfl rfl ?_
  refine tkA 8 rfl rfl (yields_cell (b := pl) (o := 5) (by rfl) rfl rfl (fun w0 hSw => hSw.1) (fun w0 => Tryz.isAgg2 w0)) ?_
  refine tkR 4 rfl (fun K hK => ?_)
  go_simp
  go_wp2_with ((go_at_call 23; (with_reducible refine (HTOT.out _ (below_drew (Below.refl _ _))).mono ?_); rintro e w3 ⟨rfl, hb3⟩; have HB3 := Lib.hid (bthen (below_drew (Below.refl w.heap.size w)) hb3); clear hb3))
  refine hK.out _ _ (by (try dsimp only); exact ⟨(by rw [cell_of_row _ _ _ _ _ _ (keep HB3.out HBX.out)]; rfl), (by rw [cell_of_row _ _ _ _ _ _ (keep HB3.out HBX.out)]; rfl)⟩) (fun hHeld => ?_)
  clear hK K
  refine tkP 9 rfl rfl ?_
  refine tkP 10 rfl rfl ?_
  refine wpAnyH_done (by kernel_rfl) ?_ _
  clear hHeld
  have c0 : w3.cell? ⟨pl, 0, none⟩ = some (.pointer (some ⟨vb, 0, none⟩)) := (by rw [cell_of_row _ _ _ _ _ _ (keep HB3.out HBX.out)]; rfl)
  go_upto_region 5 with (first | (go_at_call 56; (with_reducible refine (HALL.out _ HB3.out).mono ?_); rintro e w4 ⟨a, c, rs, rfl, hrs, hst, hb4⟩; have HRS := Lib.hid hrs; have HST := Lib.hid hst; have HB4 := Lib.hid (bthen HB3.out hb4); clear hrs hst hb4) | fail)
  clear c0 w0
  obtain ⟨n, hn⟩ : ∃ n, n = rows.length := ⟨_, rfl⟩
  rw [← hn] at HRS hr ⊢
  have HN := Lib.hid hn
  have hn63 := HRS.out.len63
  have HRL := Lib.hid HRS.out.1
  go_loopw [3, 25] (fun v i wr => ∃ j : Nat, j ≤ n ∧ i = .int .i64 j ∧ v = .int .i64 (fees + sumM (rows.take j)) ∧ Below w4.heap.size w4 wr) (fun _ i _ => n - (intOf i).toNat)
  case atStart => exact ⟨0, Nat.zero_le _, rfl, by simp [sumM, HW0.out], Below.refl _ _⟩
  case round =>
    obtain ⟨j, hj, rfl, rfl, hb⟩ := hrel
    have HB := Lib.hid hb
    clear hb
    by_cases hjn : j < n
    · have f1 : (j : Int) < (n : Int) := by omega
      have f0 : (0 : Int) ≤ (j : Int) := by omega
      have ft : ((j : Int)).toNat = j := by omega
      obtain ⟨b1, o1, e1, hlt1, hc1⟩ := (HRS.out.below HB.out).2.2.2.2.2 (by omega)
      have hx := (HRS.out.below HB.out).get hjn
      have hrx := hc1 j hjn
      replace hx : rowK.ok wr (rs.getD j noRow) := hx
      replace hrx : wr.rangeAt b1 (o1 + j * 36) (rowK.cells (rs.getD j noRow)) := hrx
      have hmj := HM.out rs HST.out j (by omega)
      have hs1 := HS.out (j + 1) (by omega)
      have hs2 := HS.out j (by omega)
      have hsm := sumM_take (rows := rows) (j := j) (by omega)
      rw [← hmj] at hsm
      revert hx hrx hsm
      generalize rs.getD j noRow = y
      intro hx hrx hsm
      rw [hsm] at hs1
      subst e1
      have RX : Hid (wr.rangeAt b1 (o1 + j * 36) y.cells) := Lib.hid hrx
      have HYT := Lib.hid (show RowIn wr y from hx).tx
      have SX := Lib.hid (row_size HYT.out)
      have HSM := Lib.hid hsm
      obtain ⟨Q, hQ⟩ : ∃ Q, Q = fees + sumM (rows.take j) := ⟨_, rfl⟩
      rw [← hQ] at hs2 ⊢
      have hs3 : 0 ≤ Q + y.out.m ∧ Q + y.out.m ≤ 1000000000000000000 := by omega
      have HQ := Lib.hid hQ
      have w1 := IntWalk.i64_in (n := Q + y.out.m) (by omega)
      clear hc1 hrx hx hsm hs1 hs2 hs3 hmj hQ
      go_upto_region 7 with (first | (refine wpList_load_mid rfl 132 _ rfl b1 (o1 + j * 36) rfl y.cells _ RX.out Tryz.underlying132 rfl SX.out ?_) | (refine wpList_var rfl rfl 132 rfl _ _ rfl noRow.cells.toArray Tryz.zeroRow18 rfl y.cells (fun _ => rfl) (fun _ => rfl) (PRow.len HYT.out) y.one ?_; intro g5 w5 hg5 hh5 hb5; go_frame) | fail)
      have HB5 := Lib.hid (bthen HB.out hb5)
      have c33 : w5.cell? ⟨g5, 33, none⟩ = some (.int .i64 y.out.m) := (by
        have h9 := row_out HYT.out (range_of hh5)
        exact h9 0 _ rfl)
      clear hg5 hh5 hb5
      go_wp2
      go_roundw
      case rel => exact ⟨j + 1, by omega, by go_num, by rw [HSM.out, HQ.out, Int.add_assoc], HB5.out⟩
      case measure => simp [intOf]; omega
    · have f1 : ¬ ((j : Int) < (n : Int)) := by omega
      obtain rfl : j = n := by omega
      have HE : Hid (rows.take j = rows) := Lib.hid (List.take_of_length_le (by rw [HN.out]; exact Nat.le_refl _))
      clear HRS
      go_wp2
      go_ret
      exact ⟨by first | rfl | rw [HE.out], bthen HB4.out HB.out⟩
end Go.Proofs.YteddkkcheaghaaaGreatDoor
namespace Go.Proofs.YteddkkcheaghaaaGreatDoor
open Go.RowKit Go.Maps

/-- The rows without what an in spends. -/
def rowsIn (rows : List PRow) (xs : List PIn) (k : Nat) : List PRow := if xs.length = 0 then rows else rows.eraseIdx k
/-- .. with what comes of an out. -/
def rowsOut (rows : List PRow) (s : List UInt8) (zs : List POut) (H : Int) : List PRow := if zs.length = 0 then rows else insRow ⟨s, 0, zs.getD 0 noOut, H⟩ rows
def spentIn (G : List UInt8 → Int → Option Value) (s : List UInt8) (xs : List PIn) (H : Int) : List UInt8 → Int → Option Value := if xs.length = 0 then G else fun t q => if t = (xs.getD 0 noIn).tx ∧ q = (xs.getD 0 noIn).place then some (.agg (spendCells s (xs.getD 0 noIn).way H).toArray) else G t q
/-- A sum came. -/
def IsDone (F : SumD → Option Value) (s : List UInt8) (hs : s.length = 32) : Prop := ∃ (y : PTx) (h : Int), y.op.root.length = 32 ∧ F ⟨s, hs⟩ = some (.agg (doneCells y h).toArray)
/-- What holds where a transaction comes. -/
structure MayCome (B hi : Nat) (w : World) (rows : List PRow) (F : SumD → Option Value) (G : List UInt8 → Int → Option Value) (s : List UInt8) (t : PTx) (k : Nat) (H : Int) : Prop where
  tx : TxIn w t
  new : AllT (fun b => b < B ∨ hi ≤ b) t
  few : FewTxS t
  front : FrontFew false t
  signs : t.sn ≤ 1
  one : t.inn ≤ 1 ∧ t.on ≤ 1
  sum : s.length = 32
  row : 0 < t.inn → ∃ hk : k < rows.length, rows[k].tx = (t.ins.getD 0 noIn).tx ∧ rows[k].place = (t.ins.getD 0 noIn).place
  free : 0 < t.inn → G (t.ins.getD 0 noIn).tx (t.ins.getD 0 noIn).place = none
  none : ∀ hs : s.length = 32, F ⟨s, hs⟩ = none
  out : 0 < t.on → outOk (t.outs.getD 0 noOut).m (t.outs.getD 0 noOut).ws = true
  norow : NoRow (rowsIn rows t.ins k) s 0
  height : 0 ≤ H ∧ H ≤ 1073741824
theorem TxIn.mid2 {lo hi : Nat} {w w' : World} {y : PTx} (h : TxIn w y) (hm : Mid lo hi w w') (hy : AllT (fun b => b < lo ∨ hi ≤ b) y) : TxIn w' y :=
  h.same hm.size (AllT.mono (AllT.and h.ltT hy) fun _ hb => hm.same hb.1 hb.2)
theorem MayCome.below {B hi : Nat} {w w' : World} {rows : List PRow} {F : SumD → Option Value} {G : List UInt8 → Int → Option Value} {s : List UInt8} {t : PTx} {k : Nat} {H : Int} (h : MayCome B hi w rows F G s t k H) (hb : Below w.heap.size w w') : MayCome B hi w' rows F G s t k H :=
  ⟨h.tx.below hb, h.new, h.few, h.front, h.signs, h.one, h.sum, h.row, h.free, h.none, h.out, h.norow, h.height⟩
theorem lookup_sum {w : World} {b N n : Nat} {F : SumD → Option Value} (h : MapK sumK w b N n F) {s : List UInt8} (hs : s.length = 32) : F ⟨s, hs⟩ = none → (Instr.lookup 65 (.map (some b)) (.agg (cellsOf s).toArray) true).run Tryz.prog w = .ok (.tuple #[.agg (doneCells noTx 0).toArray, .bool false]) w := fun e =>
  MapK.look_no (K := sumK) (x := ⟨s, hs⟩) h Tryz.underlying65 (by obtain ⟨ie, h1, h2, h3, _⟩ := info_parts Tryz.zeroDone18; simp [zeroValue, typeInfo, h1, h2]) e
theorem lookup_sum_yes {w : World} {b N n : Nat} {F : SumD → Option Value} (h : MapK sumK w b N n F) {s : List UInt8} (hs : s.length = 32) {v : Value} : F ⟨s, hs⟩ = some v → (Instr.lookup 65 (.map (some b)) (.agg (cellsOf s).toArray) true).run Tryz.prog w = .ok (.tuple #[v, .bool true]) w := fun e =>
  MapK.look (K := sumK) (x := ⟨s, hs⟩) h Tryz.underlying65 (z := .agg (doneCells noTx 0).toArray) (by obtain ⟨ie, h1, h2, h3, _⟩ := info_parts Tryz.zeroDone18; simp [zeroValue, typeInfo, h1, h2]) e
/-- A sum is put among what came. -/
theorem put_done {w : World} {b N n : Nat} {F : SumD → Option Value} (h : MapK sumK w b N n F) (hN : N ≤ 100) {s : List UInt8} (hs : s.length = 32) (hno : F ⟨s, hs⟩ = none) (v : Value) :
    ∃ w', (Instr.mapUpdate 65 (.map (some b)) (.agg (cellsOf s).toArray) v).run Tryz.prog w = .ok () w' ∧ MapK sumK w' b (N + 1) (n + 1) (fun y => if y = ⟨s, hs⟩ then some v else F y) ∧ w.grownBy w' (some b) :=
  MapK.put (K := sumK) h Tryz.underlying65 (by omega) ⟨s, hs⟩ hno v
theorem put_spent {w : World} {b N n : Nat} {G : List UInt8 → Int → Option Value} (h : MapRef w b N n G) (hN : N ≤ 100) {s : List UInt8} {p : Int} (hs : s.length = 32) (hp : Fits p) (hno : G s p = none) (v : Value) :
    ∃ w', (Instr.mapUpdate 66 (.map (some b)) (.agg (refCells s p).toArray) v).run Tryz.prog w = .ok () w' ∧ MapRef w' b (N + 1) (n + 1) (fun r q => if r = s ∧ q = p then some v else G r q) ∧ w.grownBy w' (some b) :=
  MapRef.put h Tryz.underlying66 (by omega) hs hp hno v
theorem box_grown18 {w w' : World} {B K pl vb bb vm tb hb db sb oc : Nat} {rows : List PRow} {F : SumD → Option Value} {G : List UInt8 → Int → Option Value} {oa : Option Addr} {ids : List (List UInt8)} {fees : Int} (h : LedAt w B K pl vb bb vm tb hb db sb rows F G oa oc ids fees) (hg : w.grownBy w' (Value.slice oa ids.length oc).ownBlock) : w'.heap[pl]? = some (.cells (ledCells vb bb db sb oa ids.length oc fees).toArray 68 (0, 0)) := by
  rcases h.order.step hg with hb | ⟨g, cs, _, _, hh, hb⟩
  · exact keep hb h.box
  · refine (hb.block pl (lt_of_block h.box) (fun e => ?_)).trans h.box
    have h9 := h.box
    rw [e, hh] at h9
    simp at h9
set_option linter.unusedSimpArgs false in
set_option maxRecDepth 100000 in
set_option maxHeartbeats 6400000 in
theorem come_any {w : World} {B K hi pl vb bb vm tb hb db sb oc k : Nat} {rows : List PRow} {F : SumD → Option Value} {G : List UInt8 → Int → Option Value} {oa : Option Addr} {ids : List (List UInt8)} {fees H : Int} {s : List UInt8} {t : PTx} (h : LedAt w B K pl vb bb vm tb hb db sb rows F G oa oc ids fees) (hK : K + 5 ≤ 100) (hc : MayCome B hi w rows F G s t k H) (hu : LedUnder hi pl vm db sb (.slice oa ids.length oc)) (hhi : hi ≤ w.heap.size) (hk : KsAt w) (hB : 0 < B) :
    Calls Tryz.prog 41 #[.pointer (some ⟨pl, 0, none⟩), .agg (cellsOf s).toArray, .agg t.cells.toArray, .int .i64 H] w (fun e w' => e = .returned (.tuple #[]) ∧ (∃ (F' : SumD → Option Value) (oa' : Option Addr) (oc' : Nat), LedAt w' B (K + 5) pl vb bb vm tb hb db sb (rowsOut (rowsIn rows t.ins k) s t.outs H) F' (spentIn G s t.ins H) oa' oc' (ids ++ [s]) fees ∧ IsDone F' s hc.sum ∧ ∀ y, y ≠ ⟨s, hc.sum⟩ → F' y = F y) ∧ Mid B hi w w') := by
  have HC := Lib.hid hc
  have HSL := Lib.hid hc.sum
  have HLOW := Lib.hid h.low
  have HUND := Lib.hid hu
  have HB0 := Lib.hid hB
  have HKS := Lib.hid hk
  have SSL : Hid ((Tryz.prog.info? 28).map (·.size) = some (cellsOf s).length) := Lib.hid (by rw [cellsOf_len, hc.sum]; exact Tryz.size28)
  have SXT := Lib.hid (tx_size (x := t) hc.tx.op.root)
  have hi63 := hc.tx.ins.len63
  have ho63 := hc.tx.outs.len63
  have hin1 := hc.one.1
  have hon1 := hc.one.2
  have b1 : Below w.heap.size w ((w.alloc (.cells (cellsOf s).toArray 28)).alloc (.cells t.cells.toArray 50)) := ((Below.refl _ _).alloc (Nat.le_refl _) _).alloc (by simp) _
  have h1 : ((w.alloc (.cells (cellsOf s).toArray 28)).alloc (.cells t.cells.toArray 50)).heap[w.heap.size]? = some (.cells (cellsOf s).toArray 28 (0, 0)) := by
    rw [heap_alloc_old _ _ (by simp), heap_alloc_new]
  have h2 : ((w.alloc (.cells (cellsOf s).toArray 28)).alloc (.cells t.cells.toArray 50)).heap[w.heap.size + 1]? = some (.cells t.cells.toArray 50 (0, 0)) := heap_alloc_at _ _ _ (by simp)
  have HL1 := Lib.hid (h.below b1)
  have HGOAL : Hid (∀ (F' : SumD → Option Value) (oa' : Option Addr) (oc' : Nat) (w' : World), LedAt w' B (K + 5) pl vb bb vm tb hb db sb (rowsOut (rowsIn rows t.ins k) s t.outs H) F' (spentIn G s t.ins H) oa' oc' (ids ++ [s]) fees → IsDone F' s hc.sum → (∀ y, y ≠ ⟨s, hc.sum⟩ → F' y = F y) → (∃ (F' : SumD → Option Value) (oa' : Option Addr) (oc' : Nat), LedAt w' B (K + 5) pl vb bb vm tb hb db sb (rowsOut (rowsIn rows t.ins k) s t.outs H) F' (spentIn G s t.ins H) oa' oc' (ids ++ [s]) fees ∧ IsDone F' s hc.sum ∧ ∀ y, y ≠ ⟨s, hc.sum⟩ → F' y = F y)) := Lib.hid fun F' oa' oc' w' k1 k2 k3 => ⟨F', oa', oc', k1, k2, k3⟩
  have HM1 : Hid (Mid B hi w ((w.alloc (.cells (cellsOf s).toArray 28)).alloc (.cells t.cells.toArray 50))) := Lib.hid (Mid.of b1)
  have HHI := Lib.hid hhi
  have HK9 := Lib.hid hK
  clear h hk hu hB b1
  go_enter Tryz.func41, Tryz.ntmps41
  go_upto_region 1 with (fail)
  revert h1 h2 HL1 HM1
  generalize ((w.alloc (.cells (cellsOf s).toArray 28)).alloc (.cells t.cells.toArray 50)) = w1
  obtain ⟨g5, hg5⟩ : ∃ g, g = w.heap.size := ⟨_, rfl⟩
  obtain ⟨g6, hg6⟩ : ∃ g, g = w.heap.size + 1 := ⟨_, rfl⟩
  rw [← hg6, ← hg5]
  intro h1 h2 HL1 HM1
  have HG5 : Hid (hi ≤ g5) := Lib.hid (by omega)
  have HG6 : Hid (hi ≤ g6) := Lib.hid (by omega)
  have HI1 := Lib.hid h1
  have HX1 := Lib.hid h2
  have HTI : Hid (∀ W, Mid B hi w1 W → TxIn W t) := Lib.hid fun W hW => HC.out.tx.mid2 (Mid.trans HM1.out hW) HC.out.new
  have HKI : Hid (∀ W, Mid B hi w1 W → KsAt W) := Lib.hid fun W hW => HKS.out.block ((Mid.trans HM1.out hW).same HKS.out.lt (.inl HB0.out))
  have cb : w1.cell? ⟨g6, 0, none⟩ = some (.slice t.ia t.inn t.ic) := tx_ins (range_of h2)
  have HSG : Hid (w.heap.size ≤ g5 ∧ w.heap.size ≤ g6) := Lib.hid (by omega)
  clear h1 h2 hg5 hg6
  obtain ⟨qa, hqa⟩ : ∃ q, q = t.ia := ⟨_, rfl⟩
  obtain ⟨qn, hqn⟩ : ∃ q, q = t.inn := ⟨_, rfl⟩
  obtain ⟨qc, hqc⟩ : ∃ q, q = t.ic := ⟨_, rfl⟩
  rw [← hqa, ← hqn, ← hqc] at cb
  rw [← hqn] at hi63 hin1
  have HQA := Lib.hid hqa
  have HQN := Lib.hid hqn
  have HQC := Lib.hid hqc
  clear hqa hqn hqc
  go_upto_region 2 with (fail)
  clear cb
  go_loopw [15] (fun x wr => ∃ j : Nat, j ≤ qn ∧ x = .int .i64 j ∧ LedAt wr B (K + 2 * j) pl vb bb vm tb hb db sb (if j = 0 then rows else rows.eraseIdx k) F (if j = 0 then G else spentIn G s t.ins H) oa oc ids fees ∧ Mid B hi w1 wr) (fun x _ => qn - (intOf x).toNat)
  case atStart => exact ⟨0, Nat.zero_le _, rfl, HL1.out, Bar.of (Below.refl _ _)⟩
  case round =>
    obtain ⟨j, hj, rfl, hl, hm⟩ := hrel
    have HM2 := Lib.hid hm
    by_cases hjn : j < qn
    · have hj0 : j = 0 := by omega
      subst hj0
      have HIN1 : Hid (0 < t.inn) := Lib.hid (by have h9 := HQN.out; omega)
      have HL2 := Lib.hid (show LedAt wr B K pl vb bb vm tb hb db sb rows F G oa oc ids fees from hl)
      have f1 : ((0 : Nat) : Int) < (qn : Int) := by omega
      have f0 : (0 : Int) ≤ ((0 : Nat) : Int) := by omega
      have ft : (((0 : Nat) : Int)).toNat = 0 := by omega
      have hnc : (qn : Int) ≤ (qc : Int) := by have h9 := HC.out.tx.ins.2.1; rw [← HQN.out, ← HQC.out] at h9; omega
      have hc63 : (qc : Int) ≤ 9223372036854775807 := by have h2 := HC.out.tx.ins.2.2.1; unfold maxLen at h2; rw [← HQC.out] at h2; omega
      obtain ⟨y, hy⟩ : ∃ y, y = t.ins.getD 0 noIn := ⟨_, rfl⟩
      have HY := Lib.hid hy
      have HTR := Lib.hid (HTI.out wr hm)
      obtain ⟨b1, o1, e1, hlt1, hc1⟩ := HTR.out.ins.2.2.2.2.2 HIN1.out
      have e2 : qa = some ⟨b1, o1, none⟩ := HQA.out.trans e1
      subst e2
      clear e1
      have hrx := hc1 0 HIN1.out
      have hx : InIn wr (t.ins.getD 0 noIn) := HTR.out.ins.get HIN1.out
      replace hrx : wr.rangeAt b1 (o1 + 0 * 35) (t.ins.getD 0 noIn).cells := hrx
      rw [← hy] at hrx hx
      have RX := Lib.hid hrx
      have HYT := Lib.hid hx.tx
      have HYP := Lib.hid hx.place
      have SX := Lib.hid (in_size hx.tx)
      have SRF : Hid ((Tryz.prog.info? 71).map (·.size) = some (refCells y.tx y.place).length) := Lib.hid (by have h9 := refSize (s := y.tx) (z := y.place) hx.tx; exact h9)
      obtain ⟨hkr, hr1, hr2⟩ := HC.out.row HIN1.out
      rw [← hy] at hr1 hr2
      have hfree := HC.out.free HIN1.out
      rw [← hy] at hfree
      have HFREE := Lib.hid hfree
      have HG' : Hid (spentIn G s t.ins H = fun r q => if r = y.tx ∧ q = y.place then some (.agg (spendCells s y.way H).toArray) else G r q) := Lib.hid (by
        unfold spentIn
        rw [if_neg (by rw [HC.out.tx.ins.1]; have h9 := HIN1.out; omega), ← hy])
      obtain ⟨N5, hN5, hv5⟩ := HL2.out.view
      clear hl hm hc1 hrx hx hfree hlt1 hy
      go_upto_region 4 with (first | (refine wpList_load_mid rfl 93 _ rfl b1 (o1 + 0 * 35) rfl y.cells _ RX.out Tryz.underlying93 rfl SX.out ?_) | (refine wpList_var rfl rfl 93 rfl _ _ rfl noIn.cells.toArray Tryz.zeroIn14 rfl y.cells (fun _ => rfl) (fun _ => rfl) (PIn.len HYT.out) y.one ?_; intro g9 w5 hq9 hh9 hb9; go_frame) | fail)
      have hb9d : Below wr.heap.size wr w5.drew := below_drew hb9
      have HL5 := Lib.hid (HL2.out.below hb9d)
      have HM5 := Lib.hid (Mid.trans HM2.out (Mid.of hb9d))
      have HY5 : Hid (w5.drew.heap[g9]? = some (.cells y.cells.toArray 93 (0, 0))) := Lib.hid hh9
      have HG9 : Hid (hi ≤ g9) := Lib.hid (by have h9 := HM2.out.size; have h8 := HM1.out.size; have h7 := HHI.out; omega)
      have HN5 := Lib.hid hN5
      have HTAKE : Hid (Calls Tryz.prog 55 #[.pointer (some ⟨vb, 0, none⟩), .agg (refCells y.tx y.place).toArray] w5.drew fun e w' => ∃ v, e = .returned (.tuple #[v, .int .i64 0]) ∧ ViewAt w' (.pointer (some ⟨vb, 0, none⟩)) vm N5 (rows.eraseIdx k) ∧ But w5.drew.heap.size vm w5.drew w') := Lib.hid (by
        rw [← hr1, ← hr2]
        refine (take_row (hv5.below hb9d) hkr).mono ?_
        rintro e w' ⟨v, e1, _, k2, k3⟩
        exact ⟨v, e1, k2, k3⟩)
      clear hq9 hh9 hb9 hb9d hv5 hr1 hr2
      refine wp_region_held_drew (S := fun w' => w'.heap[pl]? = some (.cells (ledCells vb bb db sb oa ids.length oc fees).toArray 68 (0, 0)) ∧ w'.heap[g9]? = some (.cells y.cells.toArray 93 (0, 0))) (by kernel_rfl) (⟨HL5.out.box, HY5.out⟩) (fun hHeld => ?_)
      refine tkP 0 rfl rfl ?_
      refine tkP 1 rfl rfl ?_
      refine tkP 2 rfl rfl ?_
      refine tkA (v := (.pointer (some ⟨vb, 0, none⟩))) 3 rfl rfl (yields_cell (b := pl) (o := 0) (by rfl) rfl rfl (fun w0 hSw => by rw [cell_of_row _ _ _ _ _ _ hSw.1]; rfl) (fun w0 => Tryz.isAgg34 w0)) ?_
      refine tkP 4 rfl rfl ?_
      refine tkA 5 rfl rfl (yieldsIf_load_mid (by rfl) _ _ rfl g9 0 rfl (refCells y.tx y.place) _ (fun w0 hSw => in_ref18 (range_of hSw.2)) Tryz.underlying71 rfl SRF.out) ?_
      refine tkR 6 rfl (fun K hK => ?_)
      go_simp
      go_wp2_with ((go_at_call 55; (with_reducible refine HTAKE.out.mono ?_); rintro e w6 ⟨v6, rfl, hv6, hb6⟩; have HL6 := Lib.hid (HL5.out.viewed hv6 (by have h9 := HN5.out; omega) hb6); have HM6 := Lib.hid (Mid.trans HM5.out (Mid.but hb6 HLOW.out.2.1 HUND.out.2.1)); have HY6 := Lib.hid (hb6.heap HY5.out (lt_of_block HY5.out) (fun e => by have h9 := HUND.out.2.1; have h8 := HG9.out; omega)); clear hv6 hb6))
      refine hK.out _ _ (by (try dsimp only); exact ⟨HL6.out.box, HY6.out⟩) (fun hHeld => ?_)
      clear hK K
      refine wpAnyH_done (by kernel_rfl) ?_ _
      clear hHeld
      go_upto_region 5 with (fail)
      have HL7 := Lib.hid (show LedAt w6.drew B (K + 1) pl vb bb vm tb hb db sb (rows.eraseIdx k) F G oa oc ids fees from HL6.out.below (below_drew (Below.refl _ _)))
      have HM7 := Lib.hid (Mid.trans HM6.out (Mid.of (below_drew (Below.refl w6.heap.size w6))))
      have HY7 : Hid (w6.drew.heap[g9]? = some (.cells y.cells.toArray 93 (0, 0))) := Lib.hid HY6.out
      have HI7 := Lib.hid (HM7.out.keep HI1.out (.inr HG5.out))
      obtain ⟨NS, ns, hNS, hms⟩ := HL7.out.spent
      have HSPM := Lib.hid hms
      have HSPK := Lib.hid hNS
      have HSPN : Hid (NS ≤ 100) := Lib.hid (by have h9 := HK9.out; omega)
      clear hms hNS
      refine wp_region_held_drew (S := fun w' => w'.heap[pl]? = some (.cells (ledCells vb bb db sb oa ids.length oc fees).toArray 68 (0, 0)) ∧ w'.heap[g9]? = some (.cells y.cells.toArray 93 (0, 0)) ∧ w'.heap[g5]? = some (.cells (cellsOf s).toArray 28 (0, 0))) (by kernel_rfl) (⟨HL7.out.box, HY7.out, HI7.out⟩) (fun hHeld => ?_)
      refine tkP 0 rfl rfl ?_
      refine tkP 1 rfl rfl ?_
      refine tkP 2 rfl rfl ?_
      refine tkA (v := (.map (some sb))) 3 rfl rfl (yields_cell (b := pl) (o := 3) (by rfl) rfl rfl (fun w0 hSw => by rw [cell_of_row _ _ _ _ _ _ hSw.1]; rfl) (fun w0 => Tryz.isAgg66 w0)) ?_
      refine tkP 4 rfl rfl ?_
      refine tkA 5 rfl rfl (yieldsIf_load_mid (by rfl) _ _ rfl g9 0 rfl (refCells y.tx y.place) _ (fun w0 hSw => in_ref18 (range_of hSw.2.1)) Tryz.underlying71 rfl SRF.out) ?_
      refine tkA 6 rfl rfl (yieldsIf_load_mid (by rfl) _ _ rfl g5 0 rfl (cellsOf s) _ (fun w0 hSw => range_of hSw.2.2) Tryz.underlying28 rfl SSL.out) ?_
      refine tkP 7 rfl rfl ?_
      refine tkA (v := (.int .i64 y.way)) 8 rfl rfl (yields_cell (b := g9) (o := 33) (by rfl) rfl rfl (fun w0 hSw => in_way HYT.out (range_of hSw.2.1)) (fun w0 => Tryz.isAgg3 w0)) ?_
      refine tkP 9 rfl rfl ?_
      refine tkA 10 rfl rfl (yields_build10 (by rfl) rfl (vs := [(0, .agg (cellsOf s).toArray), (1, .int .i64 y.way), (2, .int .i64 H)]) (by rfl) (build_spend18 HSL.out y.way H)) ?_
      refine tkR 11 rfl (fun K hK => ?_)
      obtain ⟨w11, hrun11, hm11, hg11⟩ := put_spent HSPM.out HSPN.out HYT.out HYP.out HFREE.out (.agg (spendCells s y.way H).toArray)
      have hb11 := but_grown9 hg11 (Nat.le_refl _)
      have HL11 := Lib.hid (HL7.out.spentOne hm11 (by have h9 := HSPN.out; have h8 := HSPK.out; omega) hb11)
      have HM11 := Lib.hid (Mid.trans HM7.out (Mid.but hb11 HLOW.out.2.2.2 HUND.out.2.2.2.1))
      have HY11 := Lib.hid (hb11.heap HY7.out (lt_of_block HY7.out) (fun e => by have h9 := HUND.out.2.2.2.1; have h8 := HG9.out; omega))
      have HI11 := Lib.hid (HM11.out.keep HI1.out (.inr HG5.out))
      refine step_mapUpdate10 (by rfl) rfl rfl rfl rfl hrun11 ?_
      clear hrun11 hm11 hg11 hb11
      refine hK.out _ _ (by (try dsimp only); exact ⟨HL11.out.box, HY11.out, HI11.out⟩) (fun hHeld => ?_)
      clear hK K
      refine wpAnyH_done (by kernel_rfl) ?_ _
      clear hHeld
      go_wp2_with fail
      go_roundw
      case rel =>
        refine ⟨1, by omega, by go_num, ?_, HM11.out⟩
        have h9 := HL11.out
        rw [← HG'.out] at h9
        exact h9
      case measure => simp [intOf]; omega
    · obtain rfl : j = qn := by omega
      have f1 : ¬ ((j : Int) < (j : Int)) := by omega
      have HL2 : Hid (LedAt wr B (K + 2) pl vb bb vm tb hb db sb (rowsIn rows t.ins k) F (spentIn G s t.ins H) oa oc ids fees) := Lib.hid (by
        have e : (if j = 0 then G else spentIn G s t.ins H) = spentIn G s t.ins H := by
          split
          · rename_i h0
            unfold spentIn
            rw [if_pos (by rw [HC.out.tx.ins.1, ← HQN.out]; exact h0)]
          · rfl
        have e2 : (if j = 0 then rows else rows.eraseIdx k) = rowsIn rows t.ins k := by unfold rowsIn; rw [HC.out.tx.ins.1, ← HQN.out]
        rw [e, e2] at hl
        exact hl.more (by omega))
      clear hl hm
      have cb : wr.cell? ⟨g6, 1, none⟩ = some (.slice t.oa t.on t.oc) := tx_outs (range_of (HM2.out.keep HX1.out (.inr HG6.out)))
      obtain ⟨ra, hra⟩ : ∃ q, q = t.oa := ⟨_, rfl⟩
      obtain ⟨rn, hrn⟩ : ∃ q, q = t.on := ⟨_, rfl⟩
      obtain ⟨rc, hrc⟩ : ∃ q, q = t.oc := ⟨_, rfl⟩
      rw [← hra, ← hrn, ← hrc] at cb
      rw [← hrn] at ho63 hon1
      have HRA := Lib.hid hra
      have HRN := Lib.hid hrn
      have HRC := Lib.hid hrc
      clear hra hrn hrc
      go_upto_region 8 with (fail)
      clear cb
      obtain ⟨wl, rfl⟩ : ∃ q, q = wr := ⟨_, rfl⟩
      obtain ⟨R1, hR1⟩ : ∃ R, R = rowsIn rows t.ins k := ⟨_, rfl⟩
      obtain ⟨G1, hG1⟩ : ∃ G1, G1 = spentIn G s t.ins H := ⟨_, rfl⟩
      have HNR : Hid (NoRow R1 s 0) := Lib.hid (by rw [hR1]; exact HC.out.norow)
      rw [← hR1, ← hG1] at HL2 HGOAL
      have HER1 := Lib.hid hR1
      have HEG1 := Lib.hid hG1
      clear hR1 hG1
      go_loopw [41] (fun x wr => ∃ j : Nat, j ≤ rn ∧ x = .int .i64 j ∧ LedAt wr B (K + 2 + j) pl vb bb vm tb hb db sb (if j = 0 then R1 else rowsOut R1 s t.outs H) F G1 oa oc ids fees ∧ Mid B hi w1 wr) (fun x _ => rn - (intOf x).toNat)
      case atStart => exact ⟨0, Nat.zero_le _, rfl, HL2.out, HM2.out⟩
      case round =>
        obtain ⟨j, hj, rfl, hl, hm⟩ := hrel
        have HM3 := Lib.hid hm
        by_cases hjn : j < rn
        · have hj0 : j = 0 := by omega
          subst hj0
          have HON1 : Hid (0 < t.on) := Lib.hid (by have h9 := HRN.out; omega)
          have HL3 := Lib.hid (show LedAt wr B (K + 2) pl vb bb vm tb hb db sb R1 F G1 oa oc ids fees from hl)
          have f2 : ((0 : Nat) : Int) < (rn : Int) := by omega
          have f0 : (0 : Int) ≤ ((0 : Nat) : Int) := by omega
          have ft : (((0 : Nat) : Int)).toNat = 0 := by omega
          have hnc : (rn : Int) ≤ (rc : Int) := by have h9 := HC.out.tx.outs.2.1; rw [← HRN.out, ← HRC.out] at h9; omega
          have hc63 : (rc : Int) ≤ 9223372036854775807 := by have h2 := HC.out.tx.outs.2.2.1; unfold maxLen at h2; rw [← HRC.out] at h2; omega
          obtain ⟨z, hz⟩ : ∃ z, z = t.outs.getD 0 noOut := ⟨_, rfl⟩
          have HTR := Lib.hid (HTI.out wr hm)
          obtain ⟨b1, o1, e1, hlt1, hc1⟩ := HTR.out.outs.2.2.2.2.2 HON1.out
          have e2 : ra = some ⟨b1, o1, none⟩ := HRA.out.trans e1
          subst e2
          clear e1
          have hrx := hc1 0 HON1.out
          have hx : OutIn wr (t.outs.getD 0 noOut) := HTR.out.outs.get HON1.out
          replace hrx : wr.rangeAt b1 (o1 + 0 * 2) (t.outs.getD 0 noOut).cells := hrx
          have hok := HC.out.out HON1.out
          rw [← hz] at hrx hx hok
          have RX := Lib.hid hrx
          have SX : Hid ((Tryz.prog.info? 107).map (·.size) = some z.cells.length) := Lib.hid Tryz.sizeOut
          have HG' : Hid (rowsOut R1 s t.outs H = insRow ⟨s, 0, z, H⟩ R1) := Lib.hid (by
            unfold rowsOut
            rw [if_neg (by rw [HC.out.tx.outs.1]; have h9 := HON1.out; omega), ← hz])
          obtain ⟨N5, hN5, hv5⟩ := HL3.out.view
          clear hl hm hc1 hrx hlt1 hz
          go_upto_region 10 with (first | (refine wpList_load_mid rfl 107 _ rfl b1 (o1 + 0 * 2) rfl z.cells _ RX.out Tryz.underlying107 rfl SX.out ?_) | (refine wpList_new rfl 107 rfl noOut.cells.toArray Tryz.zeroOut14 ?_; intro g11 w4 hq9 hh9 hb9; go_frame) | (refine wpList_row10 rfl 107 _ _ rfl g11 z.cells rfl rfl 107 noOut.cells hh9 SX.out rfl z.one ?_; intro w5 hh10 hb10) | fail)
          have hb9d : Below wr.heap.size wr w5.drew := below_drew (But.in hb9 hb10 hq9)
          have HL5 := Lib.hid (HL3.out.below hb9d)
          have HM5 := Lib.hid (Mid.trans HM3.out (Mid.of hb9d))
          have HO5 : Hid (w5.drew.heap[g11]? = some (.cells z.cells.toArray 107 (0, 0))) := Lib.hid hh10
          have HI5 := Lib.hid (HM5.out.keep HI1.out (.inr HG5.out))
          have HG11 : Hid (hi ≤ g11) := Lib.hid (by have h9 := HM3.out.size; have h8 := HM1.out.size; have h7 := HHI.out; omega)
          have HN5 := Lib.hid hN5
          have HPUT : Hid (Calls Tryz.prog 88 #[.pointer (some ⟨vb, 0, none⟩), .agg (refCells s 0).toArray, .agg z.cells.toArray, .int .i64 H] w5.drew fun e w' => e = .returned (.int .i64 0) ∧ ViewAt w' (.pointer (some ⟨vb, 0, none⟩)) vm (N5 + 1) (insRow ⟨s, 0, z, H⟩ R1) ∧ But w5.drew.heap.size vm w5.drew w') := Lib.hid (put_ok (hv5.below hb9d) (by have h9 := HK9.out; omega) HSL.out (by constructor <;> decide) HNR.out ((show OutIn wr z from hx).ws.below hb9d) hok HC.out.height.1 HC.out.height.2)
          clear hq9 hh9 hb9 hh10 hb10 hb9d hv5 hok hx
          refine wp_region_held_drew (S := fun w' => w'.heap[pl]? = some (.cells (ledCells vb bb db sb oa ids.length oc fees).toArray 68 (0, 0)) ∧ w'.heap[g5]? = some (.cells (cellsOf s).toArray 28 (0, 0)) ∧ w'.heap[g11]? = some (.cells z.cells.toArray 107 (0, 0))) (by kernel_rfl) (⟨HL5.out.box, HI5.out, HO5.out⟩) (fun hHeld => ?_)
          refine tkP 0 rfl rfl ?_
          refine tkP 1 rfl rfl ?_
          refine tkP 2 rfl rfl ?_
          refine tkA (v := (.pointer (some ⟨vb, 0, none⟩))) 3 rfl rfl (yields_cell (b := pl) (o := 0) (by rfl) rfl rfl (fun w0 hSw => by rw [cell_of_row _ _ _ _ _ _ hSw.1]; rfl) (fun w0 => Tryz.isAgg34 w0)) ?_
          refine tkA 4 rfl rfl (yieldsIf_load_mid (by rfl) _ _ rfl g5 0 rfl (cellsOf s) _ (fun w0 hSw => range_of hSw.2.1) Tryz.underlying28 rfl SSL.out) ?_
          refine tkP 5 rfl rfl ?_
          refine tkA 6 rfl rfl (yields_build10 (by rfl) rfl (vs := [(0, .agg (cellsOf s).toArray), (1, .int .i64 0)]) (by rfl) (build_ref18 0 HSL.out)) ?_
          refine tkA 7 rfl rfl (yieldsIf_load_mid (by rfl) _ _ rfl g11 0 rfl z.cells _ (fun w0 hSw => range_of hSw.2.2) Tryz.underlying107 rfl Tryz.sizeOut) ?_
          refine tkP 8 rfl rfl ?_
          refine tkR 9 rfl (fun K hK => ?_)
          go_simp
          go_wp2_with ((go_at_call 88; (with_reducible refine HPUT.out.mono ?_); rintro e w6 ⟨rfl, hv6, hb6⟩; have HL6 := Lib.hid (HL5.out.viewed hv6 (by have h9 := HN5.out; omega) hb6); have HM6 := Lib.hid (Mid.trans HM5.out (Mid.but hb6 HLOW.out.2.1 HUND.out.2.1)); have HO6 := Lib.hid (hb6.heap HO5.out (lt_of_block HO5.out) (fun e => by have h9 := HUND.out.2.1; have h8 := HG11.out; omega)); have HI6 := Lib.hid (HM6.out.keep HI1.out (.inr HG5.out)); clear hv6 hb6))
          refine hK.out _ _ (by (try dsimp only); exact ⟨HL6.out.box, HI6.out, HO6.out⟩) (fun hHeld => ?_)
          clear hK K
          refine wpAnyH_done (by kernel_rfl) ?_ _
          clear hHeld
          go_wp2_with fail
          go_roundw
          case rel =>
            refine ⟨1, by omega, by go_num, ?_, HM6.out⟩
            have h9 := HL6.out
            rw [← HG'.out] at h9
            exact h9
          case measure => simp [intOf]; omega
        · obtain rfl : j = rn := by omega
          have f2 : ¬ ((j : Int) < (j : Int)) := by omega
          obtain ⟨R2, hR2⟩ : ∃ R, R = rowsOut R1 s t.outs H := ⟨_, rfl⟩
          rw [← hR2] at HGOAL
          have HL3 : Hid (LedAt wr B (K + 3) pl vb bb vm tb hb db sb R2 F G1 oa oc ids fees) := Lib.hid (by
            have e2 : (if j = 0 then R1 else rowsOut R1 s t.outs H) = R2 := by
              split
              · rename_i h0
                rw [hR2]
                unfold rowsOut
                rw [if_pos (by rw [HC.out.tx.outs.1, ← HRN.out]; exact h0)]
              · exact hR2.symm
            rw [e2] at hl
            exact hl.more (by omega))
          have HER2 := Lib.hid hR2
          clear hl hm hR2
          go_upto_region 12 with (fail)
          have HL5 := Lib.hid (show LedAt wr.drew B (K + 3) pl vb bb vm tb hb db sb R2 F G1 oa oc ids fees from HL3.out.below (below_drew (Below.refl _ _)))
          have HM5 := Lib.hid (Mid.trans HM3.out (Mid.of (below_drew (Below.refl wr.heap.size wr))))
          have HI5 := Lib.hid (HM5.out.keep HI1.out (.inr HG5.out))
          have HX5 := Lib.hid (HM5.out.keep HX1.out (.inr HG6.out))
          have HCPY : Hid (Calls Tryz.prog 87 #[.agg t.cells.toArray] wr.drew fun e w' => ∃ y : PTx, e = .returned (.agg y.cells.toArray) ∧ y.op.root.length = 32 ∧ Below wr.drew.heap.size wr.drew w') := Lib.hid (ledCopied_any (HTI.out _ HM5.out) HC.out.few HC.out.front (HKI.out _ HM5.out) HC.out.signs)
          have HNONE : Hid (F ⟨s, HSL.out⟩ = none) := Lib.hid (HC.out.none HSL.out)
          refine wp_region_held_drew (S := fun w' => w'.heap[pl]? = some (.cells (ledCells vb bb db sb oa ids.length oc fees).toArray 68 (0, 0)) ∧ w'.heap[g5]? = some (.cells (cellsOf s).toArray 28 (0, 0)) ∧ w'.heap[g6]? = some (.cells t.cells.toArray 50 (0, 0))) (by kernel_rfl) (⟨HL5.out.box, HI5.out, HX5.out⟩) (fun hHeld => ?_)
          refine tkP 0 rfl rfl ?_
          refine tkP 1 rfl rfl ?_
          refine tkP 2 rfl rfl ?_
          refine tkA (v := (.map (some db))) 3 rfl rfl (yields_cell (b := pl) (o := 2) (by rfl) rfl rfl (fun w0 hSw => by rw [cell_of_row _ _ _ _ _ _ hSw.1]; rfl) (fun w0 => Tryz.isAgg65 w0)) ?_
          refine tkA 4 rfl rfl (yieldsIf_load_mid (by rfl) _ _ rfl g5 0 rfl (cellsOf s) _ (fun w0 hSw => range_of hSw.2.1) Tryz.underlying28 rfl SSL.out) ?_
          refine tkA 5 rfl rfl (yieldsIf_load_mid (by rfl) _ _ rfl g6 0 rfl t.cells _ (fun w0 hSw => range_of hSw.2.2) Tryz.underlying50 rfl SXT.out) ?_
          refine tkP 7 rfl rfl ?_
          refine tkR 6 rfl (fun K hK => ?_)
          go_simp
          go_wp2_with ((go_at_call 87; (with_reducible refine HCPY.out.mono ?_); rintro e w6 ⟨y, rfl, hyl, hb6⟩; have HYL := Lib.hid hyl; have HL6 := Lib.hid (HL5.out.below hb6); have HM6 := Lib.hid (Mid.trans HM5.out (Mid.of hb6)); have HI6 := Lib.hid (HM6.out.keep HI1.out (.inr HG5.out)); have HX6 := Lib.hid (HM6.out.keep HX1.out (.inr HG6.out)); clear hyl hb6))
          refine hK.out _ _ (by (try dsimp only); exact ⟨HL6.out.box, HI6.out, HX6.out⟩) (fun hHeld => ?_)
          clear hK K
          refine tkA 8 rfl rfl (yields_build10 (by rfl) rfl (vs := [(0, .agg y.cells.toArray), (1, .int .i64 H)]) (by rfl) (build_done18 HYL.out H)) ?_
          refine tkR 9 rfl (fun K hK => ?_)
          obtain ⟨ND, nd, hND, hmd⟩ := HL6.out.done
          obtain ⟨w11, hrun11, hm11, hg11⟩ := put_done hmd (by have h9 := HK9.out; omega) HSL.out HNONE.out (.agg (doneCells y H).toArray)
          have hb11 := but_grown9 hg11 (Nat.le_refl _)
          have HL11 := Lib.hid (HL6.out.cameOne hm11 (by omega) hb11)
          have HM11 := Lib.hid (Mid.trans HM6.out (Mid.but hb11 HLOW.out.2.2.1 HUND.out.2.2.1))
          have HI11 := Lib.hid (HM11.out.keep HI1.out (.inr HG5.out))
          have HX11 := Lib.hid (HM11.out.keep HX1.out (.inr HG6.out))
          refine step_mapUpdate10 (by rfl) rfl rfl rfl rfl hrun11 ?_
          clear hrun11 hm11 hg11 hb11 hmd hND
          refine hK.out _ _ (by (try dsimp only); exact ⟨HL11.out.box, HI11.out, HX11.out⟩) (fun hHeld => ?_)
          clear hK K
          refine wpAnyH_done (by kernel_rfl) ?_ _
          clear hHeld
          go_upto_region 13 with (fail)
          obtain ⟨F', hF'⟩ : ∃ F' : SumD → Option Value, F' = fun q => if q = ⟨s, HSL.out⟩ then some (.agg (doneCells y H).toArray) else F q := ⟨_, rfl⟩
          have HLQ0 := HL11.out
          rw [← hF'] at HLQ0
          have HLQ := Lib.hid (show LedAt w11.drew B (K + 4) pl vb bb vm tb hb db sb R2 F' G1 oa oc ids fees from HLQ0.below (below_drew (Below.refl _ _)))
          have HMQ := Lib.hid (Mid.trans HM11.out (Mid.of (below_drew (Below.refl w11.heap.size w11))))
          have HI9 := Lib.hid (HMQ.out.keep HI1.out (.inr HG5.out))
          have HFIN : Hid (∀ (oa' : Option Addr) (oc' : Nat) (w' : World), LedAt w' B (K + 5) pl vb bb vm tb hb db sb R2 F' G1 oa' oc' (ids ++ [s]) fees → (∃ (F' : SumD → Option Value) (oa' : Option Addr) (oc' : Nat), LedAt w' B (K + 5) pl vb bb vm tb hb db sb R2 F' G1 oa' oc' (ids ++ [s]) fees ∧ IsDone F' s hc.sum ∧ ∀ y, y ≠ ⟨s, hc.sum⟩ → F' y = F y)) := Lib.hid fun oa' oc' w' k1 => HGOAL.out F' oa' oc' w' k1 ⟨y, H, HYL.out, by rw [hF']; simp⟩ (fun q hq => by rw [hF']; simp [hq])
          clear HLQ0 hF'
          refine wp_region_held_drew (S := fun w' => w'.heap[g5]? = some (.cells (cellsOf s).toArray 28 (0, 0))) (by kernel_rfl) (show _ from HI9.out) (fun hHeld => ?_)
          refine tkP 0 rfl rfl ?_
          refine tkP 1 rfl rfl ?_
          refine tkP 2 rfl rfl ?_
          refine tkP 3 rfl rfl ?_
          refine tkA 5 rfl rfl (yieldsIf_load_mid (by rfl) _ _ rfl g5 0 rfl (cellsOf s) _ (fun w0 hSw => range_of hSw) Tryz.underlying28 rfl SSL.out) ?_
          refine wpAnyH_ready (rs := [4, 6]) (by kernel_rfl) (by simp) (AllReadyH.cons rfl (fun K hK => ?_) (AllReadyH.cons rfl (fun K hK => ?_) AllReadyH.nil))
          all_goals (first | (refine step_cell (d := 70) rfl (by rfl) 36 _ rfl pl 4 rfl (.slice oa ids.length oc) (by rw [cell_of_row _ _ _ _ _ _ HLQ.out.box]; rfl) (Tryz.isAgg36 _) ?_; refine hK.out _ _ (by (try dsimp only); exact hHeld) (fun hHeld => ?_); clear hK K) | (refine step_lit_of Tryz.sumAt18 (d := 72) (x := s) rfl (by rfl) rfl (by rfl) (by rw [show sumSK.cells s = cellsOf s from rfl, cellsOf_len]; exact HSL.out) ?_; intro p72 y1 hp hh hb; (try (have HLQ := Lib.hid (HLQ.out.below hb))); have HMQ := Lib.hid (Mid.trans HMQ.out (Mid.of hb)); have HLIT := Lib.hid hh; have HX := Lib.hid (keep hb hHeld); clear hp hh hb; refine hK.out _ _ (by (try dsimp only); exact HX.out) (fun hHeld => ?_); clear hK K))
          all_goals (first | (refine wpAnyH_ready (rs := [4]) (by decide +kernel) (by simp) (AllReadyH.cons rfl (fun K hK => ?_) AllReadyH.nil)) | (refine wpAnyH_ready (rs := [6]) (by decide +kernel) (by simp) (AllReadyH.cons rfl (fun K hK => ?_) AllReadyH.nil)))
          all_goals (first | (refine step_cell (d := 70) rfl (by rfl) 36 _ rfl pl 4 rfl (.slice oa ids.length oc) (by rw [cell_of_row _ _ _ _ _ _ HLQ.out.box]; rfl) (Tryz.isAgg36 _) ?_; refine hK.out _ _ (by (try dsimp only); exact hHeld) (fun hHeld => ?_); clear hK K) | (refine step_lit_of Tryz.sumAt18 (d := 72) (x := s) rfl (by rfl) rfl (by rfl) (by rw [show sumSK.cells s = cellsOf s from rfl, cellsOf_len]; exact HSL.out) ?_; intro p72 y1 hp hh hb; (try (have HLQ := Lib.hid (HLQ.out.below hb))); have HMQ := Lib.hid (Mid.trans HMQ.out (Mid.of hb)); have HLIT := Lib.hid hh; have HX := Lib.hid (keep hb hHeld); clear hp hh hb; refine hK.out _ _ (by (try dsimp only); exact HX.out) (fun hHeld => ?_); clear hK K))
          all_goals (refine tkR 7 rfl (fun K hK => ?_))
          all_goals (refine step_append_of Tryz.sumAt18 (d := 73) rfl (by rfl) _ _ rfl rfl B (.slice oa ids.length oc) ids (by rfl) HLQ.out.order p72 s (by rfl) HLIT.out (by rw [show sumSK.cells s = cellsOf s from rfl, cellsOf_len]; exact HSL.out) (by have h9 := HLQ.out.few; have h8 := HK9.out; omega) (by have h9 := lt_of_block HLQ.out.box; have h8 := HLOW.out.1; omega) (fun oa2 oc2 y2 ho2 hg2 => ?_); have HO2 := Lib.hid ho2; have HGR := Lib.hid hg2; have HMR := Lib.hid (Mid.trans HMQ.out (Mid.grown hg2 (fun q e => ⟨(HLQ.out.order.lt q e).1, HUND.out.2.2.2.2 q e⟩))); have HBX2 := Lib.hid (box_grown18 HLQ.out hg2); have HX := Lib.hid (HMR.out.keep HI1.out (.inr HG5.out)); clear ho2 hg2; refine hK.out _ _ (by (try dsimp only); exact HX.out) (fun hHeld => ?_); clear hK K)
          all_goals (refine tkP 8 rfl rfl ?_)
          all_goals (refine tkP 9 rfl rfl ?_)
          all_goals (refine tkR 10 rfl (fun K hK => ?_))
          all_goals (refine step_field10 (by rfl) 36 _ _ rfl pl 4 (by rfl) (.slice oa2 (ids.length + 1) oc2) (by rfl) 68 (ledCells vb bb db sb oa ids.length oc fees) HBX2.out (by show 4 < 6; omega) (by kernel_rfl) rfl (fun y3 hh3 hb3 => ?_); have HLZ := Lib.hid (HLQ.out.ordered HO2.out HGR.out hb3 hh3); have HMZ := Lib.hid (Mid.trans HMR.out (Mid.but hb3 HLOW.out.1 HUND.out.1)); have HX := Lib.hid (HMZ.out.keep HI1.out (.inr HG5.out)); clear hh3 hb3; refine hK.out _ _ (by (try dsimp only); exact HX.out) (fun hHeld => ?_); clear hK K)
          all_goals (refine wpAnyH_done (by kernel_rfl) ?_ _)
          all_goals (clear hHeld; go_wp2_with fail; go_end0; exact ⟨rfl, (by rw [← HEG1.out, ← HER1.out, ← HER2.out]; exact HFIN.out _ _ _ HLZ.out), Mid.trans HM1.out HMZ.out⟩)
end Go.Proofs.YteddkkcheaghaaaGreatDoor
namespace Go.Proofs.YteddkkcheaghaaaGreatDoor
open Go.RowKit Go.Maps

theorem opensW_same {xs ys : List PWay} (h : ys.map PWay.strip = xs.map PWay.strip) {i : Nat} (hi : i < xs.length) (ts : List Int) (l : List UInt8) (H A : Int) : opensW (ys.getD i noWay) ts l H A = opensW (xs.getD i noWay) ts l H A := by
  have hl : ys.length = xs.length := by have h9 := congrArg List.length h; simpa using h9
  have h9 := congrArg (fun z => opensW (z.getD i noWay) ts l H A) h
  simp only [List.getD_eq_getElem?_getD, List.getElem?_map] at h9 ⊢
  rw [List.getElem?_eq_getElem hi, List.getElem?_eq_getElem (by omega)] at h9 ⊢
  exact h9
/-- An in opens a row's coin. -/
structure OpensIn (rows : List PRow) (ks : List Int) (H : Int) (y : PIn) (r : PRow) : Prop where
  mem : r ∈ rows
  tx : r.tx = y.tx
  place : r.place = y.place
  way : ∃ i : Nat, y.way = (i : Int) ∧ i < r.out.ws.length ∧ opensW (r.out.ws.getD i noWay) ks y.pre H (H - r.height) = true
theorem Tryz.zeroTry18 : (Tryz.prog.info? 187).map (fun i => (i.zero, i.size, i.bytes)) = some (some (.agg #[.slice none 0 0, .slice none 0 0, .int .i64 0, .int .i64 0]), 4, 64) := by kernel_rfl
theorem build_try18 (a b : Option Addr) (n c m d : Nat) (H A : Int) (w : World) : (Instr.build 187 ([(0, (.slice a n c : Value)), (1, .slice b m d), (2, .int .i64 H), (3, .int .i64 A)] : List (Nat × Value)).toArray).run Tryz.prog w = .ok (.agg #[.slice a n c, .slice b m d, .int .i64 H, .int .i64 A]) w := by kernel_rfl
theorem Tryz.zeroCoin18 : (Tryz.prog.info? 126).map (fun i => (i.zero, i.size, i.bytes)) = some (some (.agg #[.int .i64 0, .slice none 0 0, .int .i64 0]), 3, 40) := by kernel_rfl
theorem Tryz.sizeTry18 : (Tryz.prog.info? 187).map (·.size) = some 4 := by kernel_rfl
theorem Tryz.sizeCoin18 : (Tryz.prog.info? 126).map (·.size) = some 3 := by kernel_rfl
theorem tryOne18 {a b : Option Addr} {n c m d : Nat} (H A : Int) : ∀ v ∈ ([.slice a n c, .slice b m d, .int .i64 H, .int .i64 A] : List Value), v.oneCell' = true := by
  intro v hv
  simp only [List.mem_cons, List.not_mem_nil, or_false] at hv
  rcases hv with rfl | rfl | rfl | rfl <;> rfl
theorem coinOne18 {m h : Int} {a : Option Addr} {n c : Nat} : ∀ v ∈ ([.int .i64 m, .slice a n c, .int .i64 h] : List Value), v.oneCell' = true := by
  intro v hv
  simp only [List.mem_cons, List.not_mem_nil, or_false] at hv
  rcases hv with rfl | rfl | rfl <;> rfl
set_option linter.unusedSimpArgs false in
set_option maxRecDepth 100000 in
set_option maxHeartbeats 6400000 in
theorem opened_any {w : World} {B K pl vb bb vm tb hb db sb oc : Nat} {rows : List PRow} {F : SumD → Option Value} {G : List UInt8 → Int → Option Value} {oa : Option Addr} {ids : List (List UInt8)} {fees : Int} (h : LedAt w B K pl vb bb vm tb hb db sb rows F G oa oc ids fees) {y : PIn} {r : PRow} {A : Option Addr} {n c : Nat} {ks : List Int} {H : Int} (hy : InIn w y) (hyn : y.n ≤ 1000000) (hn : Numbers w A n c ks) (hn9 : n ≤ 100000) (hk : KsAt w) (ho : OpensIn rows ks H y r) (hH : 0 ≤ H ∧ H ≤ 1073741824) (hrh : 0 ≤ r.height ∧ r.height ≤ 1073741824) :
    Calls Tryz.prog 157 #[.pointer (some ⟨pl, 0, none⟩), .agg y.cells.toArray, .slice A n c, .int .i64 H] w fun e w' => e = .returned (.tuple #[.int .i64 r.out.m, .int .i64 0]) ∧ Below w.heap.size w w' := by
  obtain ⟨N, _, hv⟩ := h.view
  obtain ⟨i, hwi, hil, hop⟩ := ho.way
  have HGET : Hid (∀ W : World, Below w.heap.size w W → Calls Tryz.prog 100 #[.pointer (some ⟨vb, 0, none⟩), .agg (refCells y.tx y.place).toArray] W fun e w' => ∃ v, e = .returned (.tuple #[v, .bool true]) ∧ CoinAt w' r v ∧ Below W.heap.size W w') := Lib.hid fun W hW => by
    rw [← ho.tx, ← ho.place]
    exact get_row (hv.below hW) ho.mem
  have HBX := Lib.hid h.box
  have HYI := Lib.hid hy
  have HYT := Lib.hid hy.tx
  have SRF : Hid ((Tryz.prog.info? 71).map (·.size) = some (refCells y.tx y.place).length) := Lib.hid (by have h9 := refSize (s := y.tx) (z := y.place) hy.tx; exact h9)
  have HN := Lib.hid hn
  have HKS := Lib.hid hk
  have HIL := Lib.hid hil
  have HOP := Lib.hid hop
  have HYN := Lib.hid hyn
  have HN9 := Lib.hid hn9
  have w0 := IntWalk.i64_in (n := H - r.height) (by omega)
  obtain ⟨m, hm⟩ : ∃ m, m = r.out.m := ⟨_, rfl⟩
  have HWI := Lib.hid hwi
  have b1 : Below w.heap.size w (w.alloc (.cells y.cells.toArray 93)) := (Below.refl _ _).alloc (Nat.le_refl _) _
  have h1 := heap_alloc_new w (.cells y.cells.toArray 93)
  clear h hv hy hyn hn hn9 hk ho hH hrh hwi hil hop hm
  go_enter Tryz.func157, Tryz.ntmps157
  go_upto_region 1 with (fail)
  revert b1 h1
  generalize (w.alloc (.cells y.cells.toArray 93)) = w2
  obtain ⟨g5, hg⟩ : ∃ g, g = w.heap.size := ⟨_, rfl⟩
  rw [← hg]
  intro b1 h1
  rw [hg] at b1
  have HB2 := Lib.hid b1
  have HY5 := Lib.hid h1
  have HBX := Lib.hid (keep b1 HBX.out)
  have HGET : Hid (∀ W : World, Below w2.heap.size w2 W → Calls Tryz.prog 100 #[.pointer (some ⟨vb, 0, none⟩), .agg (refCells y.tx y.place).toArray] W fun e w' => ∃ v, e = .returned (.tuple #[v, .bool true]) ∧ CoinAt w' r v ∧ Below W.heap.size W w') := Lib.hid fun W hW => HGET.out W (bthen HB2.out hW)
  clear b1 h1 hg
  go_cut [10, 11] from 13 to 22 (fun u v w' => ∃ (p10 : Nat) (a3 : Option Addr) (n3 c3 : Nat) (ys : List PWay), u = .pointer (some ⟨p10, 0, none⟩) ∧ v = .bool true ∧ w'.heap[p10]? = some (.cells #[.int .i64 r.out.m, .slice a3 n3 c3, .int .i64 r.height] 126 (0, 0)) ∧ Ways w' a3 n3 c3 ys ∧ ys.map PWay.strip = r.out.ws.map PWay.strip ∧ Below w2.heap.size w2 w')
  case first =>
    refine wp_region_held_drew (S := fun w' => Below w2.heap.size w2 w') (by kernel_rfl) (below_drew (Below.refl _ _)) (fun hHeld => ?_)
    refine tkP 0 rfl rfl ?_
    refine tkP 1 rfl rfl ?_
    refine tkP 2 rfl rfl ?_
    refine tkA (v := (.pointer (some ⟨vb, 0, none⟩))) 3 rfl rfl (yields_cell (b := pl) (o := 0) (by rfl) rfl rfl (fun w0 hSw => (by rw [cell_of_row _ _ _ _ _ _ (keep hSw HBX.out)]; rfl)) (fun w0 => Tryz.isAgg34 w0)) ?_
    refine tkP 4 rfl rfl ?_
    refine tkA 5 rfl rfl (yieldsIf_load_mid (by rfl) _ _ rfl g5 0 rfl (refCells y.tx y.place) _ (fun w0 hSw => in_ref18 (range_of (keep hSw HY5.out))) Tryz.underlying71 rfl SRF.out) ?_
    refine wpAnyH_ready (rs := [6, 10]) (by kernel_rfl) (by simp) (AllReadyH.cons rfl (fun K hK => ?_) (AllReadyH.cons rfl (fun K hK => ?_) AllReadyH.nil))
    all_goals (first | (refine step_alloc10 (d := 10) rfl (by rfl) 126 rfl #[.int .i64 0, .slice none 0 0, .int .i64 0] Tryz.zeroCoin18 ?_; intro p10 y1 hp hh hb; (try (have HW3 := Lib.hid (HW3.out.below hb))); (try (have HT3 := Lib.hid (HT3.out.below hb))); (try (have HC10 := Lib.hid (keep hb HC10.out))); have HC10 := Lib.hid hh; have P10 : Hid (w2.heap.size ≤ p10) := Lib.hid (Nat.le_trans (Below.size hHeld) hp); have HX := Lib.hid (bthen hHeld hb); clear hp hh hb; refine hK.out _ _ (by (try dsimp only); exact HX.out) (fun hHeld => ?_); clear hK K) | (have HCx := Lib.hid (HGET.out _ hHeld); go_simp; go_wp2_with ((go_at_call 100; (with_reducible refine (HCx.out).mono ?_); rintro e y1 ⟨v3, rfl, ⟨a3, n3, c3, ys, rfl, hw3, ht3, hs3⟩, hb⟩; unfold coinV; (try (have HW3 := Lib.hid (HW3.out.below hb))); (try (have HT3 := Lib.hid (HT3.out.below hb))); (try (have HC10 := Lib.hid (keep hb HC10.out))); have HW3 := Lib.hid hw3; have HT3 := Lib.hid ht3; have HS3 := Lib.hid hs3; have HX := Lib.hid (bthen hHeld hb); clear hw3 ht3 hs3 hb HCx)); refine hK.out _ _ (by (try dsimp only); exact HX.out) (fun hHeld => ?_); clear hK K))
    all_goals (try (refine tkP (hr := by decide +kernel) 7 rfl rfl ?_))
    all_goals (try (refine tkP (hr := by decide +kernel) 8 rfl rfl ?_))
    all_goals (try (refine tkP (hr := by decide +kernel) 9 rfl rfl ?_))
    all_goals (first | (refine wpAnyH_ready (rs := [6]) (by decide +kernel) (by simp) (AllReadyH.cons rfl (fun K hK => ?_) AllReadyH.nil)) | (refine wpAnyH_ready (rs := [10]) (by decide +kernel) (by simp) (AllReadyH.cons rfl (fun K hK => ?_) AllReadyH.nil)))
    all_goals (first | (refine step_alloc10 (d := 10) rfl (by rfl) 126 rfl #[.int .i64 0, .slice none 0 0, .int .i64 0] Tryz.zeroCoin18 ?_; intro p10 y1 hp hh hb; (try (have HW3 := Lib.hid (HW3.out.below hb))); (try (have HT3 := Lib.hid (HT3.out.below hb))); (try (have HC10 := Lib.hid (keep hb HC10.out))); have HC10 := Lib.hid hh; have P10 : Hid (w2.heap.size ≤ p10) := Lib.hid (Nat.le_trans (Below.size hHeld) hp); have HX := Lib.hid (bthen hHeld hb); clear hp hh hb; refine hK.out _ _ (by (try dsimp only); exact HX.out) (fun hHeld => ?_); clear hK K) | (have HCx := Lib.hid (HGET.out _ hHeld); go_simp; go_wp2_with ((go_at_call 100; (with_reducible refine (HCx.out).mono ?_); rintro e y1 ⟨v3, rfl, ⟨a3, n3, c3, ys, rfl, hw3, ht3, hs3⟩, hb⟩; unfold coinV; (try (have HW3 := Lib.hid (HW3.out.below hb))); (try (have HT3 := Lib.hid (HT3.out.below hb))); (try (have HC10 := Lib.hid (keep hb HC10.out))); have HW3 := Lib.hid hw3; have HT3 := Lib.hid ht3; have HS3 := Lib.hid hs3; have HX := Lib.hid (bthen hHeld hb); clear hw3 ht3 hs3 hb HCx)); refine hK.out _ _ (by (try dsimp only); exact HX.out) (fun hHeld => ?_); clear hK K))
    all_goals (try (refine tkP (hr := by decide +kernel) 7 rfl rfl ?_))
    all_goals (try (refine tkP (hr := by decide +kernel) 8 rfl rfl ?_))
    all_goals (try (refine tkP (hr := by decide +kernel) 9 rfl rfl ?_))
    all_goals (refine tkR 11 rfl (fun K hK => ?_))
    all_goals (refine step_row10 (by rfl) 126 _ _ rfl p10 [.int .i64 r.out.m, .slice a3 n3 c3, .int .i64 r.height] (by rfl) (by rfl) 126 [.int .i64 0, .slice none 0 0, .int .i64 0] HC10.out Tryz.sizeCoin18 rfl coinOne18 (fun y2 hh hb => ?_); have HW4 := Lib.hid (ways_typed9 HW3.out HT3.out hb (noWays_cells HC10.out (by decide) (by decide))).1; have HC11 := Lib.hid hh; have HX := Lib.hid (But.in hHeld hb P10.out); clear hh hb; refine hK.out _ _ (by (try dsimp only); exact HX.out) (fun hHeld => ?_); clear hK K)
    all_goals (refine tkP 12 rfl rfl ?_)
    all_goals (refine wpAnyH_done (by kernel_rfl) ?_ _)
    all_goals (have HBE := Lib.hid (show Below w2.heap.size w2 y2 from hHeld); clear hHeld; go_wp2_with fail; go_meet; exact ⟨p10, a3, n3, c3, ys, rfl, rfl, HC11.out, HW4.out, HS3.out, HBE.out⟩)
  case rest =>
    obtain ⟨p10, a3, n3, c3, ys, rfl, rfl, hc, hw3, hs3, hb3⟩ := hcut
    obtain ⟨w8, rfl⟩ : ∃ q, q = wc := ⟨_, rfl⟩
    have hl3 : ys.length = r.out.ws.length := by have h9 := congrArg List.length hs3; simpa using h9
    have HOQ := Lib.hid ((opensW_same hs3 HIL.out ks y.pre H (H - r.height)).trans HOP.out)
    have hin : i < n3 := by rw [← hw3.1, hl3]; exact HIL.out
    have h13 : w8.cell? ⟨p10, 2, none⟩ = some (.int .i64 r.height) := by rw [cell_of_row _ _ _ _ _ _ hc]; rfl
    have h34 : w8.cell? ⟨g5, 34, none⟩ = some (.slice y.a y.n y.c) := in_pre HYT.out (range_of (keep hb3 HY5.out))
    have HC8a := Lib.hid hc
    have HW8a := Lib.hid hw3
    have HB8 := Lib.hid hb3
    have HIN := Lib.hid hin
    clear hc hw3 hs3 hb3 hl3 hin HGET SRF
    go_upto_region 5 with (first | (refine wpList_build10 rfl rfl (vs := [(0, .slice A n c), (1, .slice y.a y.n y.c), (2, .int .i64 H), (3, .int .i64 (H - r.height))]) (by rfl) (build_try18 _ _ _ _ _ _ _ _) ?_; go_frame) | (refine wpList_var rfl rfl 187 rfl _ _ rfl #[.slice none 0 0, .slice none 0 0, .int .i64 0, .int .i64 0] Tryz.zeroTry18 rfl [.slice A n c, .slice y.a y.n y.c, .int .i64 H, .int .i64 (H - r.height)] (fun _ => rfl) (fun _ => rfl) rfl (tryOne18 _ _) ?_; intro p12 w9 hq12 hh12 hb12; go_frame) | fail)
    obtain ⟨w8, rfl⟩ : ∃ q, q = w9 := ⟨_, rfl⟩
    have HC8 := Lib.hid (keep hb12 HC8a.out)
    have HT8 := Lib.hid hh12
    have HW8 := Lib.hid (HW8a.out.below hb12)
    have HB8 := Lib.hid (bthen HB8.out hb12)
    have HY8 := Lib.hid (keep HB8.out HY5.out)
    obtain ⟨bw, ow, rfl, hlw, hcw⟩ := HW8.out.2.2.2.2.2 (by have h9 := HIN.out; omega)
    have hcwi := hcw i HIN.out
    have hwy9 := HW8.out.way HIN.out
    have hoq9 := HOQ.out
    revert hcwi hwy9 hoq9
    generalize ys.getD i noWay = wy
    intro hcwi hwy9 hoq9
    have RW8 := Lib.hid hcwi
    have HOQ := Lib.hid hoq9
    have LW8 := Lib.hid hlw
    have HWY := Lib.hid hwy9
    clear hcwi hwy9 hoq9
    have SW : Hid ((Tryz.prog.info? 170).map (·.size) = some wy.cells.length) := Lib.hid (way_size HWY.out.sum)
    have HOPN : Hid (∀ W : World, Below w8.heap.size w8 W → Calls Tryz.prog 101 #[.agg wy.cells.toArray, .agg #[.slice A n c, .slice y.a y.n y.c, .int .i64 H, .int .i64 (H - r.height)]] W fun e w' => e = .returned (.bool true) ∧ Below W.heap.size W w') := Lib.hid fun W hW => by
      have hB := bthen HB2.out (bthen HB8.out hW)
      have h9 := opens_any (HWY.out.below hW) (HN.out.below hB) (HYI.out.pre.below hB) (HKS.out.below hB) HN9.out HYN.out (H := H) (A := H - r.height)
      rw [HOQ.out] at h9
      exact h9
    have f0 : (0 : Int) ≤ (i : Int) := by omega
    have f1 : ¬ ((i : Int) ≥ (n3 : Int)) := by have h9 := HIN.out; omega
    have f2 : ((i : Int)).toNat = i := by omega
    have f3 : (i : Int) < (n3 : Int) := by have h9 := HIN.out; omega
    have hnc : (n3 : Int) ≤ (c3 : Int) := by have h9 := HW8.out.2.1; omega
    have hc63 : (c3 : Int) ≤ 9223372036854775807 := by have h2 := HW8.out.2.2.1; unfold maxLen at h2; omega
    have HYW : Hid (y.way = (i : Int)) := Lib.hid HWI.out
    clear h13 h34 hq12 hh12 hb12 hlw hcw HC8a HW8a
    refine wp_region_held_drew (S := fun w' => Below w8.heap.size w8 w') (by kernel_rfl) (below_drew (Below.refl _ _)) (fun hHeld => ?_)
    refine tkP 0 rfl rfl ?_
    refine tkA (v := (.int .i64 (i : Int))) 1 rfl rfl (yields_cell (b := g5) (o := 33) (by rfl) rfl rfl (fun w0 hSw => by have h9 := in_way HYT.out (range_of (keep hSw HY8.out)); rw [HYW.out] at h9; exact h9) (fun w0 => Tryz.isAgg3 w0)) ?_
    refine tkP 2 rfl rfl ?_
    refine tkP 3 rfl rfl ?_
    refine tkA (v := (.slice (some ⟨bw, ow, none⟩) n3 c3)) 4 rfl rfl (yields_cell (b := p10) (o := 1) (by rfl) rfl rfl (fun w0 hSw => (by rw [cell_of_row _ _ _ _ _ _ (keep hSw HC8.out)]; rfl)) (fun w0 => Tryz.isAgg105 w0)) ?_
    refine tkP 5 rfl rfl ?_
    refine tkP (v := .bool false) 6 rfl rfl ?_
    refine tkP 7 rfl rfl ?_
    refine tkP 8 rfl rfl ?_
    refine tkP 9 rfl rfl ?_
    refine tkA (v := (.slice (some ⟨bw, ow, none⟩) n3 c3)) 10 rfl rfl (yields_cell (b := p10) (o := 1) (by rfl) rfl rfl (fun w0 hSw => (by rw [cell_of_row _ _ _ _ _ _ (keep hSw HC8.out)]; rfl)) (fun w0 => Tryz.isAgg105 w0)) ?_
    refine tkP 11 rfl rfl ?_
    refine tkA (v := (.int .i64 (i : Int))) 12 rfl rfl (yields_cell (b := g5) (o := 33) (by rfl) rfl rfl (fun w0 hSw => by have h9 := in_way HYT.out (range_of (keep hSw HY8.out)); rw [HYW.out] at h9; exact h9) (fun w0 => Tryz.isAgg3 w0)) ?_
    refine tkP 13 rfl rfl ?_
    refine tkA 14 rfl rfl (yieldsIf_load_mid (by rfl) _ _ rfl bw (ow + i * 35) rfl wy.cells _ (fun w0 hSw => rangeAt_below RW8.out LW8.out hSw) Tryz.underlying170 rfl SW.out) ?_
    refine tkA 15 rfl rfl (yieldsIf_load_mid (by rfl) _ _ rfl p12 0 rfl [.slice A n c, .slice y.a y.n y.c, .int .i64 H, .int .i64 (H - r.height)] _ (fun w0 hSw => range_of (keep hSw HT8.out)) Tryz.underlying187 rfl Tryz.sizeTry18) ?_
    refine tkR 16 rfl (fun K hK => ?_)
    go_simp
    go_wp2_with ((go_at_call 101; (with_reducible refine (HOPN.out _ hHeld).mono ?_); rintro e w9 ⟨rfl, hb9⟩; have HB9 := Lib.hid (bthen hHeld hb9); clear hb9))
    refine hK.out _ _ (by (try dsimp only); exact HB9.out) (fun hHeld => ?_)
    clear hK K
    refine tkP 17 rfl rfl ?_
    refine tkP 18 rfl rfl ?_
    refine wpAnyH_done (by kernel_rfl) ?_ _
    have c0 : w9.cell? ⟨p10, 0, none⟩ = some (.int .i64 r.out.m) := by rw [cell_of_row _ _ _ _ _ _ (keep HB9.out HC8.out)]; rfl
    clear hHeld
    go_wp2_with fail
    refine bodyPost_ret (results_tmp2 rfl _ _ _) rfl ?_
    exact ⟨rfl, bthen HB2.out (bthen HB8.out HB9.out)⟩
end Go.Proofs.YteddkkcheaghaaaGreatDoor
namespace Go.Proofs.YteddkkcheaghaaaGreatDoor
open Go.RowKit Go.Maps

theorem InIn.below18 {w w' : World} {x : PIn} (h : InIn w x) (hb : Below w.heap.size w w') : InIn w' x := ⟨h.tx, h.place, h.way, h.pre.below hb⟩
theorem add_two {x y : Int} (h1 : 0 ≤ x) (h2 : x ≤ 1125899906842624) (h3 : 0 ≤ y) (h4 : x + y ≤ 1125899906842624) : addFrom 0 [x, y] = (x + y, 0) := by
  rw [addFrom_more h1 h2 (by omega), addFrom_more h3 (by omega) (by omega), Int.zero_add]
  rfl
/-- What the one in brings. -/
def inM (t : PTx) (r : PRow) : Int := if t.inn = 0 then 0 else r.out.m
/-- All ins are open. -/
structure MayOpen (rows : List PRow) (t : PTx) (r : PRow) (H : Int) : Prop where
  one : t.inn ≤ 1
  opens : 0 < t.inn → OpensIn rows (keysBy (txSum t) t.signs) H (t.ins.getD 0 noIn) r
  pre : 0 < t.inn → (t.ins.getD 0 noIn).n ≤ 1000000
  low : 0 ≤ r.height ∧ r.height ≤ 1073741824
  m : 0 ≤ r.out.m ∧ r.out.m ≤ 1125899906842624
  height : 0 ≤ H ∧ H ≤ 1073741824
set_option linter.unusedSimpArgs false in
set_option maxRecDepth 100000 in
set_option maxHeartbeats 6400000 in
theorem brought_any {w : World} {B K pl vb bb vm tb hb db sb oc : Nat} {rows : List PRow} {F : SumD → Option Value} {G : List UInt8 → Int → Option Value} {oa : Option Addr} {ids : List (List UInt8)} {fees : Int} (h : LedAt w B K pl vb bb vm tb hb db sb rows F G oa oc ids fees) {t : PTx} {r : PRow} {H : Int} (ht : TxIn w t) (hff : FrontFew false t) (hsn : t.sn ≤ 1000) (hk : KsAt w) (hm : MayOpen rows t r H) :
    Calls Tryz.prog 96 #[.pointer (some ⟨pl, 0, none⟩), .agg t.cells.toArray, .int .i64 H] w fun e w' => e = .returned (.tuple #[.int .i64 (inM t r), .int .i64 0]) ∧ Below w.heap.size w w' := by
  have HL := Lib.hid h
  have HT := Lib.hid ht
  have HM := Lib.hid hm
  have HKS := Lib.hid hk
  have HKEYS : Hid (∀ W : World, Below w.heap.size w W → Calls Tryz.prog 102 #[.agg t.cells.toArray] W fun e w' => ∃ (a : Option Addr) (n c : Nat), e = .returned (.slice a n c) ∧ Numbers w' a n c (keysBy (txSum t) t.signs) ∧ Below W.heap.size W w') := Lib.hid fun W hW => txKeys_any (ht.below hW) (hk.below hW) hff hsn
  have HKL : Hid ((keysBy (txSum t) t.signs).length ≤ 1000) := Lib.hid (Nat.le_trans (keysBy_len _) (by rw [ht.signs.1]; exact hsn))
  have SXT := Lib.hid (tx_size (x := t) ht.op.root)
  have hi63 := ht.ins.len63
  have hin1 := hm.one
  have b1 : Below w.heap.size w (w.alloc (.cells t.cells.toArray 50)) := (Below.refl _ _).alloc (Nat.le_refl _) _
  have h1 := heap_alloc_new w (.cells t.cells.toArray 50)
  clear h ht hff hsn hk hm
  go_enter Tryz.func96, Tryz.ntmps96
  go_upto_region 1 with (fail)
  revert b1 h1
  generalize (w.alloc (.cells t.cells.toArray 50)) = w1
  obtain ⟨g4, hg⟩ : ∃ g, g = w.heap.size := ⟨_, rfl⟩
  rw [← hg]
  intro b1 h1
  rw [hg] at b1
  have HB1 := Lib.hid b1
  have HT4 := Lib.hid h1
  have HL1 := Lib.hid (HL.out.below b1)
  clear hg
  have R4 := Lib.hid (range_of h1)
  clear b1 h1
  go_upto_region 3 with (first | (refine wpList_load_mid rfl 50 _ rfl g4 0 rfl t.cells _ R4.out Tryz.underlying50 rfl SXT.out ?_) | (go_at_call 102; (with_reducible refine (HKEYS.out _ HB1.out).mono ?_); rintro e w3 ⟨ka, kn, kc, rfl, hkn, hb3⟩; have HNK := Lib.hid hkn; have HB3 := Lib.hid (bthen HB1.out hb3); have HT43 := Lib.hid (keep hb3 HT4.out); have HL3 := Lib.hid (HL1.out.below hb3); clear hkn hb3) | fail)
  have cb : w3.cell? ⟨g4, 0, none⟩ = some (.slice t.ia t.inn t.ic) := tx_ins (range_of HT43.out)
  obtain ⟨qa, hqa⟩ : ∃ q, q = t.ia := ⟨_, rfl⟩
  obtain ⟨qn, hqn⟩ : ∃ q, q = t.inn := ⟨_, rfl⟩
  obtain ⟨qc, hqc⟩ : ∃ q, q = t.ic := ⟨_, rfl⟩
  rw [← hqa, ← hqn, ← hqc] at cb
  rw [← hqn] at hi63 hin1
  have HQA := Lib.hid hqa
  have HQN := Lib.hid hqn
  have HQC := Lib.hid hqc
  clear hqa hqn hqc
  go_upto_region 4 with (fail)
  clear cb R4
  have hkn9 : kn ≤ 100000 := by have h9 := HKL.out; rw [HNK.out.1] at h9; omega
  have HKN9 := Lib.hid hkn9
  go_loopw [8, 19] (fun v x wr => ∃ j : Nat, j ≤ qn ∧ x = .int .i64 j ∧ v = .int .i64 (if j = 0 then 0 else inM t r) ∧ Below w3.heap.size w3 wr) (fun _ x _ => qn - (intOf x).toNat)
  case atStart => exact ⟨0, Nat.zero_le _, rfl, rfl, Below.refl _ _⟩
  case round =>
    obtain ⟨j, hj, rfl, rfl, hb⟩ := hrel
    have HB := Lib.hid hb
    by_cases hjn : j < qn
    · have hj0 : j = 0 := by omega
      subst hj0
      have HIN1 : Hid (0 < t.inn) := Lib.hid (by have h9 := HQN.out; omega)
      have f1 : ((0 : Nat) : Int) < (qn : Int) := by omega
      have f0 : (0 : Int) ≤ ((0 : Nat) : Int) := by omega
      have ft : (((0 : Nat) : Int)).toNat = 0 := by omega
      have hnc : (qn : Int) ≤ (qc : Int) := by have h9 := HT.out.ins.2.1; rw [← HQN.out, ← HQC.out] at h9; omega
      have hc63 : (qc : Int) ≤ 9223372036854775807 := by have h2 := HT.out.ins.2.2.1; unfold maxLen at h2; rw [← HQC.out] at h2; omega
      have hop := HM.out.opens HIN1.out
      have hpre := HM.out.pre HIN1.out
      have hxx := (HT.out.below (bthen HB3.out hb)).ins
      obtain ⟨b1, o1, e1, hlt1, hc1⟩ := hxx.2.2.2.2.2 HIN1.out
      have e2 : qa = some ⟨b1, o1, none⟩ := HQA.out.trans e1
      subst e2
      clear e1
      have hrx := hc1 0 HIN1.out
      have hx : InIn wr (t.ins.getD 0 noIn) := hxx.get HIN1.out
      replace hrx : wr.rangeAt b1 (o1 + 0 * 35) (t.ins.getD 0 noIn).cells := hrx
      obtain ⟨y, hy⟩ : ∃ y, y = t.ins.getD 0 noIn := ⟨_, rfl⟩
      rw [← hy] at hrx hx hop hpre
      have RX := Lib.hid hrx
      have SX := Lib.hid (in_size hx.tx)
      have HXT := Lib.hid hx.tx
      have HOPN : Hid (∀ W : World, Below wr.heap.size wr W → Calls Tryz.prog 157 #[.pointer (some ⟨pl, 0, none⟩), .agg y.cells.toArray, .slice ka kn kc, .int .i64 H] W fun e w' => e = .returned (.tuple #[.int .i64 r.out.m, .int .i64 0]) ∧ Below W.heap.size W w') := Lib.hid fun W hW =>
        opened_any (HL3.out.below (bthen hb hW)) (hx.below18 hW) hpre (HNK.out.below (bthen hb hW)) HKN9.out (HKS.out.below (bthen HB3.out (bthen hb hW))) hop HM.out.height HM.out.low
      have HIM : Hid (r.out.m = inM t r) := Lib.hid (by unfold inM; rw [if_neg (by have h9 := HIN1.out; omega)])
      clear hb hop hpre hxx hc1 hrx hx hlt1 hy
      go_upto_region 6 with (first | (refine wpList_load_mid rfl 93 _ rfl b1 (o1 + 0 * 35) rfl y.cells _ RX.out Tryz.underlying93 rfl SX.out ?_) | (refine wpList_var rfl rfl 93 rfl _ _ rfl noIn.cells.toArray Tryz.zeroIn14 rfl y.cells (fun _ => rfl) (fun _ => rfl) (PIn.len HXT.out) y.one ?_; intro g9 w5 hq9 hh9 hb9; go_frame) | fail)
      have HB5 := Lib.hid hb9
      have R9 := Lib.hid (range_of hh9)
      clear hq9 hh9 hb9
      go_upto_region 7 with (first | (refine wpList_load_mid rfl 93 _ rfl g9 0 rfl y.cells _ R9.out Tryz.underlying93 rfl SX.out ?_) | (go_at_call 157; (with_reducible refine (HOPN.out _ HB5.out).mono ?_); rintro e w6 ⟨rfl, hb6⟩; have HB6 := Lib.hid (bthen HB5.out hb6); clear hb6) | fail)
      obtain ⟨M, hMM⟩ : ∃ M, M = r.out.m := ⟨_, rfl⟩
      have hm0 := HM.out.m
      rw [← hMM] at HIM hm0 ⊢
      have hm63 : Fits M := by constructor <;> omega
      have HADD : Hid (∀ (W : World) (a : Option Addr) (n c : Nat), Numbers W a n c [0, M] → Calls Tryz.prog 43 #[.slice a n c] W fun e w' => e = .returned (.tuple #[.int .i64 M, .int .i64 0]) ∧ Below W.heap.size W w') := Lib.hid fun W a n c hn => by
        have h9 := add_any hn
        rw [add_two (by omega) (by omega) hm0.1 (by omega), Int.zero_add] at h9
        exact h9
      have b7 : Below w6.heap.size w6 (w6.alloc (.cells #[.int .i64 0, .int .i64 M] 2)) := (Below.refl _ _).alloc (Nat.le_refl _) _
      have HN7 := Lib.hid (numbers_two (heap_alloc_new w6 (.cells #[.int .i64 0, .int .i64 M] 2)) (by constructor <;> decide) hm63)
      have HB7 := Lib.hid (bthen HB6.out b7)
      clear b7 hm63 hm0 hMM
      go_wp2_with (first | (go_at_call 43; (with_reducible refine (HADD.out _ _ _ _ HN7.out).mono ?_); rintro e w8 ⟨rfl, hb8⟩; have HB8 := Lib.hid (bthen HB7.out hb8); clear hb8) | fail)
      go_roundw
      case rel => exact ⟨1, by omega, by go_num, by rw [HIM.out]; rfl, bthen HB.out HB8.out⟩
      case measure => simp [intOf]; omega
    · obtain rfl : j = qn := by omega
      have f1 : ¬ ((j : Int) < (j : Int)) := by omega
      have HE : Hid ((if j = 0 then 0 else inM t r) = inM t r) := Lib.hid (by rw [HQN.out]; unfold inM; split <;> rfl)
      rw [HE.out]
      clear hb
      go_wp2
      refine bodyPost_ret (results_tmp2 rfl _ _ _) rfl ?_
      exact ⟨rfl, bthen HB3.out HB.out⟩
def outsM (t : PTx) : Int := (t.outs.map POut.m).sum
theorem sum_nn18 : ∀ (l : List Int), (∀ x ∈ l, 0 ≤ x) → 0 ≤ l.sum
  | [], _ => by simp
  | x :: l, h => by
    have h1 := h x (by simp)
    have h2 := sum_nn18 l fun y hy => h y (by simp [hy])
    rw [List.sum_cons]
    omega
theorem addFrom_all : ∀ (l : List Int) (s : Int), 0 ≤ s → (∀ x ∈ l, 0 ≤ x) → s + l.sum ≤ 1125899906842624 → addFrom s l = (s + l.sum, 0)
  | [], s, _, _, _ => by simp [addFrom]
  | x :: l, s, h0, hx, hs => by
    have h1 := hx x (by simp)
    have h2 : 0 ≤ l.sum := sum_nn18 l fun y hy => hx y (by simp [hy])
    rw [List.sum_cons] at hs
    rw [addFrom_more h1 (by omega) (by omega), addFrom_all l (s + x) (by omega) (fun y hy => hx y (by simp [hy])) (by omega), List.sum_cons, Int.add_assoc]
set_option linter.unusedSimpArgs false in
set_option maxRecDepth 100000 in
set_option maxHeartbeats 6400000 in
theorem left_any {w : World} {B K pl vb bb vm tb hb db sb oc : Nat} {rows : List PRow} {F : SumD → Option Value} {G : List UInt8 → Int → Option Value} {oa : Option Addr} {ids : List (List UInt8)} {fees : Int} (h : LedAt w B K pl vb bb vm tb hb db sb rows F G oa oc ids fees) {t : PTx} {r : PRow} {H : Int} (ht : TxIn w t) (hff : FrontFew false t) (hsn : t.sn ≤ 1000) (hk : KsAt w) (hm : MayOpen rows t r H) (hop : t.op.kind = 0) (hon : t.on ≤ 1000) (hz : ∀ z ∈ t.outs, 0 ≤ z.m) (hfee : outsM t ≤ inM t r) :
    Calls Tryz.prog 47 #[.pointer (some ⟨pl, 0, none⟩), .agg t.cells.toArray, .int .i64 H] w fun e w' => e = .returned (.tuple #[.int .i64 (inM t r - outsM t), .int .i64 0]) ∧ Below w.heap.size w w' := by
  have HL := Lib.hid h
  have HBRO : Hid (∀ W : World, Below w.heap.size w W → Calls Tryz.prog 96 #[.pointer (some ⟨pl, 0, none⟩), .agg t.cells.toArray, .int .i64 H] W fun e w' => e = .returned (.tuple #[.int .i64 (inM t r), .int .i64 0]) ∧ Below W.heap.size W w') := Lib.hid fun W hW => brought_any (h.below hW) (ht.below hW) hff hsn (hk.below hW) hm
  have HCLO0 : Hid (∀ W : World, Below w.heap.size w W → Calls Tryz.prog 51 #[.pointer (some ⟨bb, 0, none⟩)] W fun e w' => ∃ vb2 : Nat, e = .returned (.pointer (some ⟨vb2, 0, none⟩)) ∧ Below W.heap.size W w') := Lib.hid fun W hW => (boardClone_any (h.board.below hW)).mono fun e w' ⟨q, _, _, e1, _, e2⟩ => ⟨q, e1, e2⟩
  have HACT : Hid (∀ (bv : Value) (W : World), Calls Tryz.prog 48 #[.pointer (some ⟨pl, 0, none⟩), bv, .agg t.cells.toArray, .int .i64 H] W fun e w' => e = .returned (.tuple #[.int .i64 0, .int .i64 0, .int .i64 0]) ∧ Below W.heap.size W w') := Lib.hid fun bv W => act_none hop W
  have HAMT : Hid (∀ W : World, Below w.heap.size w W → Calls Tryz.prog 97 #[.slice t.oa t.on t.oc] W fun e w' => ∃ (a' : Option Addr) (c' : Nat), e = .returned (.slice a' t.on c') ∧ OwnZ w' 2 W.heap.size (.slice a' t.on c') (t.outs.map POut.m) ∧ Below W.heap.size W w') := Lib.hid fun W hW => amounts_any (ht.outs.below hW) hon
  have hM0 : 0 ≤ inM t r ∧ inM t r ≤ 1125899906842624 := by
    have h9 := hm.m
    unfold inM
    split <;> omega
  have hS0 : 0 ≤ outsM t := sum_nn18 _ fun x hx => by
    obtain ⟨z, hz1, rfl⟩ := List.mem_map.1 hx
    exact hz z hz1
  obtain ⟨M, hM⟩ : ∃ M, M = inM t r := ⟨_, rfl⟩
  have hADD : ∀ (W : World) (a : Option Addr) (n c : Nat), Numbers W a n c [M, 0] → Calls Tryz.prog 43 #[.slice a n c] W fun e w' => e = .returned (.tuple #[.int .i64 M, .int .i64 0]) ∧ Below W.heap.size W w' := fun W a n c hn => by
    have h9 := add_any hn
    rw [add_two (by omega) (by omega) (by omega) (by omega), Int.add_zero] at h9
    exact h9
  have hSUB : ∀ (W : World) (a : Option Addr) (n c : Nat), Numbers W a n c (t.outs.map POut.m ++ [0]) → Calls Tryz.prog 54 #[.int .i64 M, .slice a n c] W fun e w' => e = .returned (.tuple #[.int .i64 (M - outsM t), .int .i64 0]) ∧ Below W.heap.size W w' := fun W a n c hn => by
    have h9 := sub_any M hn
    have e1 : (t.outs.map POut.m ++ [0]).sum = outsM t := by rw [List.sum_append]; simp [outsM]
    have e2 : addFrom 0 (t.outs.map POut.m ++ [0]) = (outsM t, 0) := by
      rw [addFrom_all _ 0 (by omega) (fun x hx => ?_) (by rw [e1]; omega), e1, Int.zero_add]
      rcases List.mem_append.1 hx with hx | hx
      · obtain ⟨z, hz1, rfl⟩ := List.mem_map.1 hx
        exact hz z hz1
      · simp at hx
        omega
    have e3 : subOf M (t.outs.map POut.m ++ [0]) = (M - outsM t, 0) := by
      unfold subOf
      rw [okAmount_yes (by omega) (by omega), if_pos rfl, e2, if_pos rfl, if_neg (by show ¬ M < outsM t; omega)]
    rw [e3] at h9
    exact h9
  have HADD := Lib.hid hADD
  have HSUB := Lib.hid hSUB
  have HFM : Hid (Fits M) := Lib.hid (by constructor <;> omega)
  have HOL : Hid ((t.outs.map POut.m).length = t.on) := Lib.hid (by rw [List.length_map]; exact ht.outs.1)
  have HON := Lib.hid hon
  obtain ⟨D, hD⟩ : ∃ D, D = M - outsM t := ⟨_, rfl⟩
  rw [← hM] at HBRO ⊢
  rw [← hD] at HSUB ⊢
  obtain ⟨i0, hi, hz0, hz1, hz2⟩ := info_parts (show (Tryz.prog.info? 2).map (fun i => (i.zero, i.size, i.bytes)) = some (some (.int .i64 0), 1, 8) by kernel_rfl)
  have HI := Lib.hid hi
  have SXT := Lib.hid (tx_size (x := t) ht.op.root)
  have b1 : Below w.heap.size w (w.alloc (.cells t.cells.toArray 50)) := (Below.refl _ _).alloc (Nat.le_refl _) _
  have h1 := heap_alloc_new w (.cells t.cells.toArray 50)
  clear h ht hff hsn hk hm hop hon hz hfee hM0 hS0 hADD hSUB hM hD hi
  go_enter Tryz.func47, Tryz.ntmps47
  go_upto_region 1 with (fail)
  revert b1 h1
  generalize (w.alloc (.cells t.cells.toArray 50)) = w1
  obtain ⟨g4, hg⟩ : ∃ g, g = w.heap.size := ⟨_, rfl⟩
  rw [← hg]
  intro b1 h1
  rw [hg] at b1
  have HB1 := Lib.hid b1
  have HT4 := Lib.hid h1
  have HL1 := Lib.hid (HL.out.below b1)
  clear hg
  have R4 := Lib.hid (range_of h1)
  clear b1 h1
  go_upto_region 4 with (first | (refine wpList_load_mid rfl 50 _ rfl g4 0 rfl t.cells _ R4.out Tryz.underlying50 rfl SXT.out ?_) | (go_at_call 96; (with_reducible refine (HBRO.out _ HB1.out).mono ?_); rintro e w3 ⟨rfl, hb3⟩; have HB3 := Lib.hid (bthen HB1.out hb3); have HT43 := Lib.hid (keep hb3 HT4.out); have HL3 := Lib.hid (HL1.out.below hb3); clear hb3) | fail)
  have HCLO : Hid (∀ W : World, Below w3.heap.size w3 W → Calls Tryz.prog 51 #[.pointer (some ⟨bb, 0, none⟩)] W fun e w' => ∃ vb2 : Nat, e = .returned (.pointer (some ⟨vb2, 0, none⟩)) ∧ Below W.heap.size W w') := Lib.hid fun W hW => HCLO0.out W (bthen HB3.out hW)
  refine wp_region_held_drew (S := fun w' => Below w3.heap.size w3 w') (by kernel_rfl) (below_drew (Below.refl _ _)) (fun hHeld => ?_)
  refine tkP 0 rfl rfl ?_
  refine tkP 1 rfl rfl ?_
  refine tkP 2 rfl rfl ?_
  refine tkP 3 rfl rfl ?_
  refine tkA (v := (.pointer (some ⟨bb, 0, none⟩))) 4 rfl rfl (yields_cell (b := pl) (o := 1) (by rfl) rfl rfl (fun w0 hSw => by rw [cell_of_row _ _ _ _ _ _ (keep hSw HL3.out.box)]; rfl) (fun w0 => Tryz.isAgg35 w0)) ?_
  refine tkA 6 rfl rfl (yieldsIf_load_mid (by rfl) _ _ rfl g4 0 rfl t.cells _ (fun w0 hSw => range_of (keep hSw HT43.out)) Tryz.underlying50 rfl SXT.out) ?_
  refine tkP 7 rfl rfl ?_
  refine tkR 5 rfl (fun K hK => ?_)
  go_simp
  go_wp2_with ((go_at_call 51; (with_reducible refine (HCLO.out _ hHeld).mono ?_); rintro e w4 ⟨vb2, rfl, hb4⟩; have HB4 := Lib.hid (bthen hHeld hb4); clear hb4))
  refine hK.out _ _ (by (try dsimp only); exact HB4.out) (fun hHeld => ?_)
  clear hK K
  refine tkR 8 rfl (fun K hK => ?_)
  go_simp
  go_wp2_with ((go_at_call 48; (with_reducible refine (HACT.out _ _).mono ?_); rintro e w5 ⟨rfl, hb5⟩; have HB5 := Lib.hid (bthen hHeld hb5); clear hb5))
  refine hK.out _ _ (by (try dsimp only); exact HB5.out) (fun hHeld => ?_)
  clear hK K
  refine tkP 9 rfl rfl ?_
  refine tkP 10 rfl rfl ?_
  refine tkP 11 rfl rfl ?_
  refine tkP 12 rfl rfl ?_
  refine tkP 13 rfl rfl ?_
  refine tkP 14 rfl rfl ?_
  refine tkP 15 rfl rfl ?_
  refine wpAnyH_done (by kernel_rfl) ?_ _
  have HB6 := Lib.hid (show Below w3.heap.size w3 w5 from hHeld)
  clear hHeld
  have b7 : Below w5.heap.size w5 (w5.alloc (.cells #[.int .i64 M, .int .i64 0] 2)) := (Below.refl _ _).alloc (Nat.le_refl _) _
  have HN7 := Lib.hid (numbers_two (heap_alloc_new w5 (.cells #[.int .i64 M, .int .i64 0] 2)) HFM.out (by constructor <;> decide))
  have HB7 := Lib.hid (bthen HB6.out b7)
  clear b7
  go_upto_region 10 with (first | (go_at_call 43; (with_reducible refine (HADD.out _ _ _ _ HN7.out).mono ?_); rintro e w8 ⟨rfl, hb8⟩; have HB8 := Lib.hid (bthen HB7.out hb8); clear hb8) | fail)
  have cb : w8.cell? ⟨g4, 1, none⟩ = some (.slice t.oa t.on t.oc) := tx_outs (range_of (keep HB8.out HT43.out))
  go_wp2_with (first | (go_at_call 97; (with_reducible refine (HAMT.out _ (bthen HB3.out HB8.out)).mono ?_); rintro e w9 ⟨aa, ac, rfl, hoz, hb9⟩; have HOZ := Lib.hid (hoz.below ((Below.refl w9.heap.size w9).alloc (Nat.le_refl _) (.cells #[.int .i64 0] 2))); have HNZ := Lib.hid (numbers_one (heap_alloc_new w9 (.cells #[.int .i64 0] 2)) (z := 0) (by constructor <;> decide)); have HSZ := Lib.hid (Nat.le_trans hb9.size (by simp : w9.heap.size ≤ (w9.alloc (.cells #[.int .i64 0] 2)).heap.size)); have HB9 := Lib.hid (bthen (bthen HB8.out hb9) ((Below.refl w9.heap.size w9).alloc (Nat.le_refl _) (.cells #[.int .i64 0] 2))); have HBQ := Lib.hid (bthen hb9 ((Below.refl w9.heap.size w9).alloc (Nat.le_refl _) (.cells #[.int .i64 0] 2))); clear hoz hb9 cb) | (at_builtin; refine wpList_append_numbers _ rfl _ _ 123 2 rfl w8.heap.size i0 Tryz.underlying123 HI.out hz0 hz1 hz2 (.slice aa t.on ac) (t.outs.map POut.m) t.on HOL.out rfl HOZ.out _ 1 1 [0] rfl HNZ.out (by have h9 := HON.out; omega) HSZ.out ?_; intro a8 c8 w10 ho8 hg8; have HN10 := Lib.hid (show Numbers w10 a8 (t.on + 1) c8 (t.outs.map POut.m ++ [0]) from ho8.numbers); have HB10 := Lib.hid (bthen HB8.out (HBQ.out.trans (HOZ.out.grows hg8 HSZ.out))); clear ho8 hg8) | (go_at_call 54; (with_reducible refine (HSUB.out _ _ _ _ HN10.out).mono ?_); rintro e w11 ⟨rfl, hb11⟩; have HB11 := Lib.hid (bthen HB10.out hb11); clear hb11) | fail)
  refine bodyPost_ret (results_tmp2 rfl _ _ _) rfl ?_
  exact ⟨rfl, bthen HB3.out HB11.out⟩
end Go.Proofs.YteddkkcheaghaaaGreatDoor
