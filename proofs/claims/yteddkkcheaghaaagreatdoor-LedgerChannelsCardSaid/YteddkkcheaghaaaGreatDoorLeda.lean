/- What the ledger's checkOuts and New come to, of outs that may be. What the ledger's Apply comes to, of a transaction of one in or none, one out or none, its op none. -/
import Derived.Test.YteddkkcheaghaaaGreatDoorLeds
namespace Go.Proofs.YteddkkcheaghaaaGreatDoor
open Go.RowKit Go.Maps

set_option linter.unusedSimpArgs false in
set_option maxRecDepth 100000 in
set_option maxHeartbeats 6400000 in
theorem checkOuts_ok {w : World} {a : Option Addr} {n c : Nat} {xs : List POut} (h : SliceOf outK w a n c xs) (hn : n ≤ 16) (hok : ∀ y ∈ xs, outOk y.m y.ws = true) (hz : ∀ y ∈ xs, 0 ≤ y.m) (hs : ∀ j, j ≤ n → ((xs.take j).map POut.m).sum ≤ 1125899906842624) :
    Calls Tryz.prog 38 #[.slice a n c] w fun e w' => e = .returned (.int .i64 0) ∧ Below w.heap.size w w' := by
  have hn63 := h.len63
  have H := Lib.hid h
  have HXL := Lib.hid h.1
  have HOK := Lib.hid hok
  have HZ := Lib.hid hz
  have HS := Lib.hid hs
  have f9 : ¬ ((n : Int) > 16) := by omega
  have f8 : ¬ (16 < (n : Int)) := by omega
  clear h hok hz hs
  go_enter Tryz.func38, Tryz.ntmps38
  go_upto_region 3 with (fail)
  go_loopw [3, 10] (fun v i wr => ∃ j : Nat, j ≤ n ∧ i = .int .i64 j ∧ v = .int .i64 ((xs.take j).map POut.m).sum ∧ Below w.heap.size w wr) (fun _ i _ => n - (intOf i).toNat)
  case atStart => exact ⟨0, Nat.zero_le _, rfl, by simp, Below.refl _ _⟩
  case round =>
    obtain ⟨j, hj, rfl, rfl, hb⟩ := hrel
    have HB := Lib.hid hb
    clear hb
    by_cases hjn : j < n
    · have f1 : (j : Int) < (n : Int) := by omega
      have f0 : (0 : Int) ≤ (j : Int) := by omega
      have ft : ((j : Int)).toNat = j := by omega
      obtain ⟨b1, o1, e1, hlt1, hc1⟩ := (H.out.below HB.out).2.2.2.2.2 (by omega)
      have hx := (H.out.below HB.out).get hjn
      have hrx := hc1 j hjn
      replace hx : outK.ok wr (xs.getD j noOut) := hx
      replace hrx : wr.rangeAt b1 (o1 + j * 2) (outK.cells (xs.getD j noOut)) := hrx
      have hmem := H.out.mem hjn
      have ho := HOK.out _ hmem
      have hz := HZ.out _ hmem
      have hst : ((xs.take (j + 1)).map POut.m).sum = ((xs.take j).map POut.m).sum + (xs.getD j noOut).m := by
        rw [take_getD (d := noOut) (by rw [HXL.out]; exact hjn), List.map_append, List.sum_append]
        simp
      have hs1 := HS.out (j + 1) (by omega)
      have hs0 : 0 ≤ ((xs.take j).map POut.m).sum := sum_nn18 _ fun x hx => by
        obtain ⟨z, hz1, rfl⟩ := List.mem_map.1 hx
        exact HZ.out z (List.mem_of_mem_take hz1)
      rw [hst] at hs1
      replace ho : outOk (xs.getD j noOut).m (xs.getD j noOut).ws = true := ho
      replace hz : 0 ≤ (xs.getD j noOut).m := hz
      have HST := Lib.hid hst
      revert hx hrx ho hz hs1 HST
      generalize xs.getD j noOut = y
      intro hx hrx hs1 ho hz HST
      obtain ⟨Q, hQ⟩ : ∃ Q, Q = ((xs.take j).map POut.m).sum := ⟨_, rfl⟩
      rw [← hQ] at hs0 hs1 ⊢
      have HQ := Lib.hid hQ
      subst e1
      have RX : Hid (wr.rangeAt b1 (o1 + j * 2) y.cells) := Lib.hid hrx
      have SX : Hid ((Tryz.prog.info? 107).map (·.size) = some y.cells.length) := Lib.hid Tryz.sizeOut
      have HXO := Lib.hid (show OutIn wr y from hx)
      have HRO : Hid (∀ W : World, Below wr.heap.size wr W → Calls Tryz.prog 42 #[.agg y.cells.toArray] W fun e w' => e = .returned (.bool true) ∧ Below W.heap.size W w') := Lib.hid fun W hW => by
        rw [← ho]
        exact lockRightOut_any (HXO.out.ws.below hW)
      have HADD : Hid (∀ (W : World) (a : Option Addr) (n c : Nat), Numbers W a n c [Q, y.m] → Calls Tryz.prog 43 #[.slice a n c] W fun e w' => e = .returned (.tuple #[.int .i64 (Q + y.m), .int .i64 0]) ∧ Below W.heap.size W w') := Lib.hid fun W a n c hn => by
        have h9 := add_any hn
        rw [add_two hs0 (by omega) hz hs1] at h9
        exact h9
      have HFQ : Hid (Fits Q) := Lib.hid (by constructor <;> omega)
      clear hc1 hrx hx hst hmem ho hz hs1 hs0 hQ
      go_upto_region 5 with (first | (refine wpList_load_mid rfl 107 _ rfl b1 (o1 + j * 2) rfl y.cells _ RX.out Tryz.underlying107 rfl SX.out ?_) | (refine wpList_var rfl rfl 107 rfl _ _ rfl noOut.cells.toArray Tryz.zeroOut14 rfl y.cells (fun _ => rfl) (fun _ => rfl) rfl y.one ?_; intro g5 w5 hg5 hh5 hb5; go_frame) | fail)
      have HB5 := Lib.hid hb5
      have R5 := Lib.hid (range_of hh5)
      have H5 := Lib.hid hh5
      clear hg5 hh5 hb5
      go_upto_region 7 with (first | (refine wpList_load_mid rfl 107 _ rfl g5 0 rfl y.cells _ R5.out Tryz.underlying107 rfl SX.out ?_) | (go_at_call 42; (with_reducible refine (HRO.out _ HB5.out).mono ?_); rintro e w6 ⟨rfl, hb6⟩; have HB6 := Lib.hid (bthen HB5.out hb6); have H6 := Lib.hid (keep hb6 H5.out); clear hb6) | fail)
      have c0 : w6.cell? ⟨g5, 0, none⟩ = some (.int .i64 y.m) := by rw [cell_of_row _ _ _ _ _ _ H6.out]; rfl
      have b7 : Below w6.heap.size w6 (w6.alloc (.cells #[.int .i64 Q, .int .i64 y.m] 2)) := (Below.refl _ _).alloc (Nat.le_refl _) _
      have HN7 := Lib.hid (numbers_two (heap_alloc_new w6 (.cells #[.int .i64 Q, .int .i64 y.m] 2)) HFQ.out HXO.out.m)
      have HB7 := Lib.hid (bthen HB6.out b7)
      clear b7
      go_wp2_with (first | (go_at_call 43; (with_reducible refine (HADD.out _ _ _ _ HN7.out).mono ?_); rintro e w8 ⟨rfl, hb8⟩; have HB8 := Lib.hid (bthen HB7.out hb8); clear hb8) | fail)
      go_roundw
      case rel => exact ⟨j + 1, by omega, by go_num, by rw [HST.out, HQ.out], bthen HB.out HB8.out⟩
      case measure => simp [intOf]; omega
    · have f1 : ¬ ((j : Int) < (n : Int)) := by omega
      clear H
      go_wp2
      go_ret
      exact ⟨rfl, HB.out⟩
theorem LedAt.lower {w : World} {B B' K pl vb bb vm tb hb db sb oc : Nat} {rows : List PRow} {F : SumD → Option Value} {G : List UInt8 → Int → Option Value} {oa : Option Addr} {ids : List (List UInt8)} {fees : Int} (h : LedAt w B K pl vb bb vm tb hb db sb rows F G oa oc ids fees) (hB : B' ≤ B) : LedAt w B' K pl vb bb vm tb hb db sb rows F G oa oc ids fees :=
  ⟨h.box, h.view, h.board.lower hB, h.done, h.spent, h.order.base hB, h.few, h.apart, ⟨Nat.le_trans hB h.low.1, Nat.le_trans hB h.low.2.1, Nat.le_trans hB h.low.2.2.1, Nat.le_trans hB h.low.2.2.2⟩⟩
/-- An older sum is written. -/
theorem LedAt.older {w w' : World} {B K pl vb bb vm tb hb db sb oc p : Nat} {rows : List PRow} {F : SumD → Option Value} {G : List UInt8 → Int → Option Value} {oa : Option Addr} {ids : List (List UInt8)} {fees : Int} {cs : Array Value} {fr : Nat × Nat} (h : LedAt w B K pl vb bb vm tb hb db sb rows F G oa oc ids fees) (k : But w.heap.size p w w') (hp : w.heap[p]? = some (.cells cs 28 fr)) (hB : p < B) : LedAt w' B K pl vb bb vm tb hb db sb rows F G oa oc ids fees := by
  have hno : ∀ t cs fr, t ≠ 28 → w.heap[p]? ≠ some (.cells cs t fr) := fun t cs fr hn e => by rw [hp] at e; simp at e; exact hn e.2.1.symm
  have hnm : ∀ b, (∃ es cl, w.heap[b]? = some (.map es cl)) → b ≠ p := fun b hb e => by
    obtain ⟨es, cl, hb⟩ := hb
    rw [e, hp] at hb
    cases hb
  obtain ⟨N, n1, h1⟩ := h.view
  obtain ⟨M, m, n2, h2⟩ := h.done
  obtain ⟨L, l, n3, h3⟩ := h.spent
  exact ⟨(k.block pl (lt_of_block h.box) (fun e => by have h9 := h.low.1; omega)).trans h.box, ⟨N, n1, h1.but k (noWays_cells hp (by decide) (by decide)) (fun cs fr => hno _ cs fr (by decide)) (hnm _ h1.isMap)⟩, boardBut h.board k (fun e => hnm _ h.board.tMap e.symm) (fun e => hnm _ h.board.hMap e.symm) (fun cs fr => hno _ cs fr (by decide)),
    ⟨M, m, n2, h2.but k (hnm _ h2.isMap)⟩, ⟨L, l, n3, refBut h3 k (hnm _ h3.isMap)⟩, h.order.grown (r := some p) ⟨k.os, k.tape, k.output, k.size, fun i hi hne => k.block i hi (fun e => hne (by rw [e]))⟩ (fun q e e2 => by have h9 := (h.order.lt q e).1; cases e2; omega), h.few, h.apart, h.low⟩
theorem results_mid18 {P : Program} {fn : Func} {p q r : Tmp} {ty : TypeId} (h : fn.results = #[.tmp p, .cell q ty, .tmp r]) (tmps : Array Value) (w : World) (g : Nat) (t : TypeId) (cs : Array Value) (fr : Nat × Nat) (d : TypeDesc) (u v : Value)
    (hu1 : tmps.getD p undef = u) (hp : tmps.getD q undef = .pointer (some ⟨g, 0, none⟩)) (hv : tmps.getD r undef = v) (hg : w.heap[g]? = some (.cells cs t fr))
    (hu : P.underlying ty = some d) (hd : (match d with | .struct _ | .array _ _ => true | _ => false) = true) (hi : (P.info? ty).map (·.size) = some cs.size) :
    (results fn tmps).run P w = .ok (.tuple #[u, .agg cs, v]) w := by
  have hp' : tmps[q]?.getD undef = .pointer (some ⟨g, 0, none⟩) := by simpa using hp
  have hv' : tmps[r]?.getD undef = v := by simpa using hv
  have hu' : tmps[p]?.getD undef = u := by simpa using hu1
  simp [results, h, hp', hv', hu', asAddr, run_loadVar_row w g t ty cs fr d hg hu hd hi]
def newTx (a : Option Addr) (c : Nat) (z : POut) : PTx := ⟨none, 0, 0, [], a, 1, c, [z], noOp, none, 0, 0, []⟩
set_option linter.unusedSimpArgs false in
set_option maxRecDepth 100000 in
set_option maxHeartbeats 6400000 in
theorem new_led {w : World} {a : Option Addr} {c : Nat} {z : POut} (h : SliceOf outK w a 1 c [z]) (hok : outOk z.m z.ws = true) (hz : 0 ≤ z.m ∧ z.m ≤ 1125899906842624) (hf : FewTxS (newTx a c z)) (hff : FrontFew false (newTx a c z)) (hk : KsAt w) :
    Calls Tryz.prog 10 #[.slice a 1 c] w fun e w' => ∃ (pl vb bb vm tb hb db sb oc : Nat) (oa : Option Addr) (F : SumD → Option Value), e = .returned (.tuple #[.pointer (some ⟨pl, 0, none⟩), .agg (cellsOf (txSum (newTx a c z))).toArray, .int .i64 0]) ∧ LedAt w' w.heap.size 5 pl vb bb vm tb hb db sb [⟨txSum (newTx a c z), 0, z, 0⟩] F (fun _ _ => none) oa oc [txSum (newTx a c z)] 0 ∧ (∀ y : SumD, y.s ≠ txSum (newTx a c z) → F y = none) ∧ Below w.heap.size w w' := by
  obtain ⟨S, hS, hSl⟩ : ∃ S, S = txSum (newTx a c z) ∧ S.length = 32 := ⟨_, rfl, txSum_len _⟩
  have f0 : Fits 0 := by constructor <;> decide
  have htx : ∀ W : World, Below w.heap.size w W → TxIn W (newTx a c z) := fun W hW => ⟨SliceOf.nil _ _, h.below hW, ⟨f0, f0, f0, f0, rfl, Row.nil W⟩, SliceOf.nil _ _⟩
  have HTX := Lib.hid htx
  have HCK : Hid (∀ W : World, Below w.heap.size w W → Calls Tryz.prog 38 #[.slice a 1 c] W fun e w' => e = .returned (.int .i64 0) ∧ Below W.heap.size W w') := Lib.hid fun W hW => checkOuts_ok (h.below hW) (by omega) (by simp; exact hok) (by simp; exact hz.1) (fun j hj => by
    match j, hj with
    | 0, _ => simp
    | 1, _ => simp; exact hz.2)
  have HSUM : Hid (∀ W : World, Below w.heap.size w W → Calls Tryz.prog 16 #[.agg (newTx a c z).cells.toArray] W fun e w' => e = .returned (.agg (cellsOf S).toArray) ∧ Below W.heap.size W w') := Lib.hid fun W hW => by rw [hS]; exact txSum_any (htx W hW) (hk.below hW) hff
  have HAL : Hid (AllT (fun b => b < w.heap.size) (newTx a c z)) := Lib.hid (htx w (Below.refl _ _)).ltT
  have hmay : ∀ (W : World) (hi : Nat), Below w.heap.size w W → ∀ lo : Nat, w.heap.size ≤ lo → MayCome lo hi W [] (fun _ => none) (fun _ _ => none) S (newTx a c z) 0 0 := fun W hi hW lo hlo => ⟨htx W hW, HAL.out.mono fun b hb => .inl (Nat.lt_of_lt_of_le hb hlo), hf, hff, Nat.zero_le _, ⟨Nat.zero_le _, Nat.le_refl _⟩, hSl, fun h0 => absurd h0 (Nat.lt_irrefl 0), fun _ => rfl, fun _ => rfl, fun _ => hok, fun r hr => (by cases hr), by omega⟩
  have HMAY := Lib.hid hmay
  have HKS := Lib.hid hk
  have HSL := Lib.hid hSl
  have SSL : Hid ((Tryz.prog.info? 28).map (·.size) = some (cellsOf S).length) := Lib.hid (by rw [cellsOf_len, hSl]; exact Tryz.size28)
  have hmm := @run_makeMap Tryz.prog
  have SXT := Lib.hid (tx_size (x := newTx a c z) zero32_len)
  obtain ⟨X, hX⟩ : ∃ X, X = newTx a c z := ⟨_, rfl⟩
  have HBT : Hid (∀ W : World, (Instr.build 50 ([(1, (.slice a 1 c : Value))] : List (Nat × Value)).toArray).run Tryz.prog W = .ok (.agg X.cells.toArray) W) := Lib.hid fun W => by rw [hX]; exact build_outs18 a 1 c [z] W
  rw [← hS]
  rw [← hX] at HSUM HMAY HTX SXT HAL
  have HXO : Hid (X.outs = [z] ∧ X.ins = []) := Lib.hid (by rw [hX]; exact ⟨rfl, rfl⟩)
  have b0 : Below w.heap.size w (w.alloc (.cells (cellsOf zero32).toArray 28)) := (Below.refl _ _).alloc (Nat.le_refl _) _
  have h0 := heap_alloc_new w (.cells (cellsOf zero32).toArray 28)
  clear h hok hz hf hff hk htx hmay hS hX f0
  go_enter Tryz.func10, Tryz.ntmps10
  go_upto_region 1 with (first | (refine wpList_new rfl 28 rfl (cellsOf zero32).toArray Tryz.zeroSum32 ?_; intro g3 w1 hq hh hb; go_frame) | fail)
  have HB1 := Lib.hid hb
  have HR1 := Lib.hid hh
  have HQ3 : Hid (w.heap.size ≤ g3) := Lib.hid hq
  clear b0 h0 hq hh hb
  go_upto_region 4 with (first | (go_at_call 38; (with_reducible refine (HCK.out _ HB1.out).mono ?_); rintro e w2 ⟨rfl, hb2⟩; have HB2 := Lib.hid (bthen HB1.out hb2); have HR2 := Lib.hid (keep hb2 HR1.out); clear hb2) | fail)
  go_upto_region 5 with (first
    | (go_at_call 39; (with_reducible refine (new_any _).mono ?_); rintro e w3 ⟨vb, rfl, hv3, hvb3, hb3⟩; have HV3 := Lib.hid hv3; have HB3 := Lib.hid (bthen HB2.out hb3); have HR3 := Lib.hid (keep hb3 HR2.out); clear hvb3 hb3 hv3)
    | (go_at_call 40; (with_reducible refine (boardNew_any _).mono ?_); rintro e w4 ⟨bb, tb, hb, rfl, hbd4, hb4⟩; have HBD4 := Lib.hid hbd4; have HV4 := Lib.hid (HV3.out.below hb4); have HB4 := Lib.hid (bthen HB3.out hb4); have HR4 := Lib.hid (keep hb4 HR3.out); clear hb4 hbd4)
    | (refine wpList_build10 rfl rfl (vs := [(0, .pointer (some ⟨vb, 0, none⟩)), (1, .pointer (some ⟨bb, 0, none⟩)), (2, .map (some w4.heap.size)), (3, .map (some (w4.heap.size + 1)))]) (by rfl) (build_led18 vb bb _ _) ?_; go_frame)
    | (refine wpList_box10 rfl 68 _ rfl #[.pointer (some ⟨vb, 0, none⟩), .pointer (some ⟨bb, 0, none⟩), .map (some w4.heap.size), .map (some (w4.heap.size + 1)), .slice none 0 0, .int .i64 0] rfl ?_; intro pl w5 hpl h5 k5; go_frame)
    | fail)
  obtain ⟨db, hdb⟩ : ∃ d, d = w4.heap.size := ⟨_, rfl⟩
  obtain ⟨sb, hsb⟩ : ∃ d, d = w4.heap.size + 1 := ⟨_, rfl⟩
  have m1 : Below w4.heap.size w4 (w4.alloc (.map #[] 0)) := (Below.refl _ _).alloc (Nat.le_refl _) _
  have m2 : Below (w4.alloc (.map #[] 0)).heap.size (w4.alloc (.map #[] 0)) ((w4.alloc (.map #[] 0)).alloc (.map #[] 0)) := (Below.refl _ _).alloc (Nat.le_refl _) _
  have q1 : MapK sumK w5 db 0 0 (fun _ => none) := by rw [hdb]; exact ((MapK.made sumK w4).below m2).below k5
  have q2 : MapRef w5 sb 0 0 (fun _ _ => none) := by
    have h9 := MapRef.made (w4.alloc (.map #[] 0))
    have e9 : (w4.alloc (.map #[] 0)).heap.size = sb := by rw [hsb]; simp
    rw [e9] at h9
    exact h9.below k5
  have m3 : Below w4.heap.size w4 w5 := bthen (bthen m1 m2) k5
  rw [← hsb, ← hdb] at h5 ⊢
  obtain ⟨vm, hvm⟩ : ∃ v, v = w2.heap.size := ⟨_, rfl⟩
  have hv5 := HV4.out.below m3
  rw [← hvm] at hv5
  have l1 : vm < w3.heap.size := by
    have h9 := HV3.out
    rw [← hvm] at h9
    obtain ⟨es, cl, h8⟩ := h9.isMap
    exact lt_of_block h8
  have l2 := HBD4.out.tB
  have l3 := HBD4.out.hB
  obtain ⟨es, cl, h8⟩ := HBD4.out.tMap
  obtain ⟨es2, cl2, h82⟩ := HBD4.out.hMap
  have l4 := lt_of_block h8
  have l5 := lt_of_block h82
  have l6 := HBD4.out.ne
  have l7 := HB2.out.size
  have l8 := HB3.out.size
  have l9 := HB4.out.size
  have l10 : w2.heap.size ≤ pl := by have h9 := m1.size; have h10 := m2.size; omega
  have hlow : w2.heap.size ≤ pl ∧ w2.heap.size ≤ vm ∧ w2.heap.size ≤ db ∧ w2.heap.size ≤ sb := ⟨l10, by omega, by omega, by omega⟩
  have hnod : [vm, tb, hb, db, sb].Nodup := by
    simp only [List.nodup_cons, List.mem_cons, List.not_mem_nil, or_false, not_or, List.nodup_nil, and_true, not_false_eq_true]
    refine ⟨⟨?_, ?_, ?_, ?_⟩, ⟨?_, ?_, ?_⟩, ⟨?_, ?_⟩, ?_⟩ <;> omega
  have hbd : BoardAt w2.heap.size w5 (.pointer (some ⟨bb, 0, none⟩)) tb hb 0 [] [] := (HBD4.out.below m3).lower (by omega)
  have HLED : Hid (LedAt w5 w2.heap.size 0 pl vb bb vm tb hb db sb [] (fun _ => none) (fun _ _ => none) none 0 [] 0) := Lib.hid ⟨h5, ⟨0, Nat.le_refl _, hv5⟩, hbd, ⟨0, 0, Nat.le_refl _, q1⟩, ⟨0, 0, Nat.le_refl _, q2⟩, OwnOf.nil _ _ _ _, Nat.le_refl _, hnod, hlow⟩
  have HB5 := Lib.hid (bthen HB4.out m3)
  have HUND5 := Lib.hid HLED.out.under
  have HB25 : Hid (w2.heap.size ≤ w5.heap.size) := Lib.hid (by have h9 := m3.size; omega)
  have HR5 := Lib.hid (keep m3 HR4.out)
  clear hdb hsb m1 m2 q1 q2 m3 h5 k5 hpl hvm hv5 l1 l2 l3 h8 h82 l4 l5 l6 l7 l8 l9 l10 hlow hnod hbd HV3 HV4 HBD4
  go_upto_region 6 with (first | (refine wpList_build10 rfl rfl (vs := [(1, .slice a 1 c)]) (by rfl) (HBT.out) ?_; go_frame) | (refine wpList_var rfl rfl 50 rfl _ _ rfl noTx.cells.toArray noTx15 rfl X.cells (fun _ => rfl) (fun _ => rfl) (PTx.len (HTX.out _ HB5.out).op.root) X.one ?_; intro g7 w6 hq6 hh6 hb6; go_frame) | fail)
  have HL6 := Lib.hid (HLED.out.below hb6)
  have HB6 := Lib.hid (bthen HB5.out hb6)
  have HR6 := Lib.hid (keep hb6 HR5.out)
  have HT6 := Lib.hid hh6
  have HS56 := Lib.hid hb6.size
  have R6 := Lib.hid (range_of hh6)
  clear hq6 hh6 hb6
  go_upto_region 7 with (first | (refine wpList_load_mid rfl 50 _ rfl g7 0 rfl X.cells _ R6.out Tryz.underlying50 rfl SXT.out ?_) | (go_at_call 16; (with_reducible refine (HSUM.out _ HB6.out).mono ?_); rintro e w7 ⟨rfl, hb7⟩; have HL7 := Lib.hid (HL6.out.below hb7); have HB7 := Lib.hid (bthen HB6.out hb7); have HR7 := Lib.hid (keep hb7 HR6.out); have HT7 := Lib.hid (keep hb7 HT6.out); have HS67 := Lib.hid hb7.size; clear hb7) | (refine wpList_var rfl rfl 28 rfl _ _ rfl (cellsOf zero32).toArray Tryz.zeroSum32 rfl (cellsOf S) (fun _ => rfl) (fun _ => rfl) (by rw [cellsOf_len]; exact HSL.out) (cellsOf_one S) ?_; intro g8 w8 hq8 hh8 hb8; go_frame) | fail)
  have HL8 := Lib.hid (HL7.out.below hb8)
  have HB8 := Lib.hid (bthen HB7.out hb8)
  have HR8 := Lib.hid (keep hb8 HR7.out)
  have HT8 := Lib.hid (range_of (keep hb8 HT7.out))
  have HI8 := Lib.hid hh8
  have HQ8 : Hid (w5.heap.size ≤ g8) := Lib.hid (Nat.le_trans (Nat.le_trans HS56.out HS67.out) hq8)
  have HS58 : Hid (w5.heap.size ≤ w8.heap.size) := Lib.hid (Nat.le_trans (Nat.le_trans HS56.out HS67.out) hb8.size)
  have RS8 := Lib.hid (range_of hh8)
  have RT8 := Lib.hid (range_of (keep hb8 HT7.out))
  have HNE38 : Hid (g8 ≠ g3) := Lib.hid (by have h9 := lt_of_block HR7.out; omega)
  have R8 := Lib.hid (range_of hh8)
  clear hq8 hh8 hb8 HL6 HL7 HT6 HT7 R6 HR6 HR7 HB6
  have HLG3 : Hid (g3 < w2.heap.size) := Lib.hid (lt_of_block HR2.out)
  have HCOME : Hid (Calls Tryz.prog 41 #[.pointer (some ⟨pl, 0, none⟩), .agg (cellsOf S).toArray, .agg X.cells.toArray, .int .i64 0] w8 (fun e w' => e = .returned (.tuple #[]) ∧ (∃ (F' : SumD → Option Value) (oa' : Option Addr) (oc' : Nat), LedAt w' w2.heap.size 5 pl vb bb vm tb hb db sb [⟨S, 0, z, 0⟩] F' (fun _ _ => none) oa' oc' [S] 0 ∧ ∀ y : SumD, y.s ≠ S → F' y = none) ∧ w'.heap[g3]? = some (.cells (cellsOf zero32).toArray 28 (0, 0)) ∧ w'.heap[g8]? = some (.cells (cellsOf S).toArray 28 (0, 0)) ∧ Below w.heap.size w w')) := Lib.hid (by
    have hmay := HMAY.out w8 w5.heap.size HB8.out w2.heap.size HB2.out.size
    have hs2 : w2.heap.size ≤ w8.heap.size := Nat.le_trans HB25.out HS58.out
    refine (come_any (K := 0) HL8.out (by omega) hmay HUND5.out HS58.out (HKS.out.below HB8.out) (Nat.lt_of_lt_of_le HKS.out.lt HB2.out.size)).mono ?_
    rintro e w' ⟨rfl, ⟨F', oa', oc', k1, _, k3⟩, k4⟩
    have e1 : rowsOut (rowsIn [] X.ins 0) S X.outs 0 = [⟨S, 0, z, 0⟩] := by rw [HXO.out.1, HXO.out.2]; rfl
    have e2 : spentIn (fun _ _ => none) S X.ins 0 = fun _ _ => none := by rw [HXO.out.2]; rfl
    rw [e1, e2] at k1
    exact ⟨rfl, ⟨F', oa', oc', k1, fun y hy => k3 y (fun e => hy (by rw [e]))⟩, k4.keep HR8.out (.inl HLG3.out), k4.keep HI8.out (.inr HQ8.out), HB8.out.trans ((k4.below hs2).mono HB2.out.size)⟩)
  clear HTX HCK HSUM HMAY HKS HBT HAL HL8 HT8 R8 HUND5
  go_upto_region 8 with (first | (refine wpList_load_mid rfl 28 _ rfl g8 0 rfl (cellsOf S) _ RS8.out Tryz.underlying28 rfl SSL.out ?_) | (refine wpList_load_mid rfl 50 _ rfl g7 0 rfl X.cells _ RT8.out Tryz.underlying50 rfl SXT.out ?_) | (go_at_call 41; (with_reducible refine HCOME.out.mono ?_); rintro e w9 ⟨rfl, ⟨F', oa', oc', hl9, hf9⟩, hr9, hi9, hb9⟩; have HL9 := Lib.hid hl9; have HF9 := Lib.hid hf9; have HR9 := Lib.hid hr9; have HI9 := Lib.hid hi9; have HB9 := Lib.hid hb9; clear hl9 hf9 hr9 hi9 hb9) | fail)
  have HL9 := Lib.hid (HL9.out.below (w' := w9.drew) (below_drew (Below.refl _ _)))
  have HR9 := Lib.hid (show w9.drew.heap[g3]? = _ from HR9.out)
  have HI9 := Lib.hid (show w9.drew.heap[g8]? = _ from HI9.out)
  have HB9 := Lib.hid (below_drew HB9.out)
  refine wp_region_held_drew (S := fun w' => w'.heap[g8]? = some (.cells (cellsOf S).toArray 28 (0, 0))) (by kernel_rfl) (HI9.out) (fun hHeld => ?_)
  refine tkP 0 rfl rfl ?_
  refine tkA 1 rfl rfl (yieldsIf_load_mid (by rfl) _ _ rfl g8 0 rfl (cellsOf S) _ (fun w0 hSw => range_of hSw) Tryz.underlying28 rfl SSL.out) ?_
  refine tkP 2 rfl rfl ?_
  refine tkR 3 rfl (fun K hK => ?_)
  refine step_row10 (by rfl) 28 _ _ rfl g3 (cellsOf S) (by rfl) (by rfl) 28 (cellsOf zero32) HR9.out SSL.out (by rw [cellsOf_len, cellsOf_len, HSL.out]; rfl) (cellsOf_one S) (fun y2 hh hb => ?_)
  have HLZ := Lib.hid (HL9.out.older hb HR9.out HLG3.out)
  have HXI := Lib.hid (hb.heap HI9.out (lt_of_block HI9.out) HNE38.out)
  have HBZ := Lib.hid (HB9.out.trans ((hb.mono HB9.out.size).below HQ3.out))
  have HRZ := Lib.hid hh
  clear hh hb
  refine hK.out _ _ (by (try dsimp only); exact HXI.out) (fun hHeld => ?_)
  clear hK K
  refine tkP 4 rfl rfl ?_
  refine wpAnyH_done (by kernel_rfl) ?_ _
  clear hHeld
  go_wp2_with fail
  refine bodyPost_ret (results_mid18 rfl _ _ g3 28 (cellsOf S).toArray (0, 0) _ (.pointer (some ⟨pl, 0, none⟩)) (.int .i64 0) rfl rfl rfl HRZ.out Tryz.underlying28 rfl (by rw [List.size_toArray]; exact SSL.out)) rfl ?_
  exact ⟨pl, vb, bb, vm, tb, hb, db, sb, oc', oa', F', rfl, HLZ.out.lower HB2.out.size, HF9.out, HBZ.out⟩
end Go.Proofs.YteddkkcheaghaaaGreatDoor
namespace Go.Proofs.YteddkkcheaghaaaGreatDoor
open Go.RowKit Go.Maps

/-- A load where its guard lets it. -/
theorem wpList_loadw18 {P : Program} {ops : Array Oper} {rest : List Oper} {op : Oper} {a : Act} {w : World} {Q : Exit → Act → World → Prop} (hw : Region.wanted op (yielded ops a.tmps) = true) (ty : TypeId) (x : Operand) (ho : op.op = .load ty x)
    (b o : Nat) (hx : a.eval x = .pointer (some ⟨b, o, none⟩)) (cs : List Value) (d : TypeDesc) (hc : w.rangeAt b o cs) (hu : P.underlying ty = some d) (hd : d.isRow = true) (hi : (P.info? ty).map (·.size) = some cs.length)
    (h : wpList P ops Q rest (a.put op.dst (.agg cs.toArray)) w) : wpList P ops Q (op :: rest) a w :=
  wpList_step fun K hK => by
    rw [if_pos hw]
    exact wp_load_mid ty x ho b o hx cs d hc hu hd hi (hK _ _ h)
theorem doneOne18 (x : PTx) (h : Int) : ∀ v ∈ doneCells x h, v.oneCell' = true := by
  intro v hv
  rcases List.mem_append.1 hv with hv | hv
  · exact x.one v hv
  · simp at hv
    subst hv
    rfl
theorem done_len18 {x : PTx} (h : Int) (hl : x.op.root.length = 32) : (doneCells x h).length = 41 := by
  unfold doneCells
  rw [List.length_append, PTx.len hl]
  rfl
theorem done_size18 {x : PTx} (h : Int) (hl : x.op.root.length = 32) : (Tryz.prog.info? 95).map (·.size) = some (doneCells x h).length := by
  rw [done_len18 h hl]
  kernel_rfl
set_option linter.unusedSimpArgs false in
set_option maxRecDepth 100000 in
set_option maxHeartbeats 6400000 in
theorem apply_ok {w : World} {B K hi pl vb bb vm tb hb db sb oc k : Nat} {rows : List PRow} {F : SumD → Option Value} {G : List UInt8 → Int → Option Value} {oa : Option Addr} {ids : List (List UInt8)} {fees H : Int} {t : PTx} {r : PRow} (h : LedAt w B K pl vb bb vm tb hb db sb rows F G oa oc ids fees) (hK : K + 5 ≤ 100) (hc : MayCome B hi w rows F G (txSum t) t k H) (hm : MayOpen rows t r H) (hok : txOk t = true) (hop : t.op.kind = 0) (hz : ∀ z ∈ t.outs, 0 ≤ z.m) (hfee : outsM t ≤ inM t r) (hf : 0 ≤ fees + (inM t r - outsM t) ∧ fees + (inM t r - outsM t) ≤ 1000000000000000000) (hu : LedUnder hi pl vm db sb (.slice oa ids.length oc)) (hhi : hi ≤ w.heap.size) (hk : KsAt w) (hB : 0 < B) :
    Calls Tryz.prog 12 #[.pointer (some ⟨pl, 0, none⟩), .agg t.cells.toArray, .int .i64 H] w (fun e w' => e = .returned (.int .i64 0) ∧ (∃ (F' : SumD → Option Value) (oa' : Option Addr) (oc' : Nat), LedAt w' B (K + 5) pl vb bb vm tb hb db sb (rowsOut (rowsIn rows t.ins k) (txSum t) t.outs H) F' (spentIn G (txSum t) t.ins H) oa' oc' (ids ++ [txSum t]) (fees + (inM t r - outsM t)) ∧ IsDone F' (txSum t) (txSum_len t) ∧ ∀ y, y ≠ ⟨txSum t, txSum_len t⟩ → F' y = F y) ∧ Mid B hi w w') := by
  have HL := Lib.hid h
  have HTX := Lib.hid hc.tx
  obtain ⟨S, hS⟩ : ∃ S, S = txSum t := ⟨_, rfl⟩
  have HG := Lib.hid (given_led h.box rfl)
  have HRT : Hid (∀ W : World, Below w.heap.size w W → Calls Tryz.prog 46 #[.agg t.cells.toArray] W fun e w' => e = .returned (.bool true) ∧ Below W.heap.size W w') := Lib.hid fun W hW => by rw [← hok]; exact txRight_any (hc.tx.below hW)
  have HSUM : Hid (∀ W : World, Below w.heap.size w W → Calls Tryz.prog 16 #[.agg t.cells.toArray] W fun e w' => e = .returned (.agg (cellsOf S).toArray) ∧ Below W.heap.size W w') := Lib.hid fun W hW => by rw [hS]; exact txSum_any (hc.tx.below hW) (hk.below hW) hc.front
  have hSl : S.length = 32 := by rw [hS]; exact txSum_len t
  have HSL := Lib.hid hSl
  have SSL : Hid ((Tryz.prog.info? 28).map (·.size) = some (cellsOf S).length) := Lib.hid (by rw [cellsOf_len, hSl]; exact Tryz.size28)
  have SXT := Lib.hid (tx_size (x := t) hc.tx.op.root)
  have f1 : ¬ H < 0 := by have h9 := hc.height.1; omega
  have f2 : ¬ H > 1073741824 := by have h9 := hc.height.2; omega
  have f3 : ¬ 1073741824 < H := by have h9 := hc.height.2; omega
  obtain ⟨D, hD⟩ : ∃ D, D = inM t r - outsM t := ⟨_, rfl⟩
  have HLEFT : Hid (∀ W : World, Below w.heap.size w W → Calls Tryz.prog 47 #[.pointer (some ⟨pl, 0, none⟩), .agg t.cells.toArray, .int .i64 H] W fun e w' => e = .returned (.tuple #[.int .i64 D, .int .i64 0]) ∧ Below W.heap.size W w') := Lib.hid fun W hW => by
    rw [hD]
    exact left_any (h.below hW) (hc.tx.below hW) hc.front (by have h9 := hc.signs; omega) (hk.below hW) hm hop (by have h9 := hc.one.2; omega) hz hfee
  have HACT : Hid (∀ (bv : Value) (W : World), Calls Tryz.prog 48 #[.pointer (some ⟨pl, 0, none⟩), bv, .agg t.cells.toArray, .int .i64 H] W fun e w' => e = .returned (.tuple #[.int .i64 0, .int .i64 0, .int .i64 0]) ∧ Below W.heap.size W w') := Lib.hid fun bv W => act_none hop W
  have hc' := hc
  rw [← hS] at hc'
  have HLOW := Lib.hid h.low
  have HUND := Lib.hid hu
  have HCOME : Hid (∀ W : World, Below w.heap.size w W → Calls Tryz.prog 41 #[.pointer (some ⟨pl, 0, none⟩), .agg (cellsOf S).toArray, .agg t.cells.toArray, .int .i64 H] W (fun e w' => e = .returned (.tuple #[]) ∧ (∃ (F' : SumD → Option Value) (oa' : Option Addr) (oc' : Nat), LedAt w' B (K + 5) pl vb bb vm tb hb db sb (rowsOut (rowsIn rows t.ins k) S t.outs H) F' (spentIn G S t.ins H) oa' oc' (ids ++ [S]) fees ∧ IsDone F' S hc'.sum ∧ ∀ y, y ≠ ⟨S, hc'.sum⟩ → F' y = F y) ∧ Mid B hi W w')) := Lib.hid fun W hW => come_any (h.below hW) hK (hc'.below hW) hu (Nat.le_trans hhi hW.size) (hk.below hW) hB
  have HLOOK0 : Hid (∀ W : World, Below w.heap.size w W → (Instr.lookup 65 (.map (some db)) (.agg (cellsOf S).toArray) true).run Tryz.prog W = .ok (.tuple #[.agg (doneCells noTx 0).toArray, .bool false]) W) := Lib.hid fun W hW => by
    obtain ⟨N, n, _, h9⟩ := h.done
    exact lookup_sum (h9.below hW) hSl (hc'.none hSl)
  have w9 := IntWalk.i64_in (n := fees + D) (by rw [hD]; omega)
  have HFIN : Hid (∀ (F' : SumD → Option Value) (oa' : Option Addr) (oc' : Nat) (w' : World), LedAt w' B (K + 5) pl vb bb vm tb hb db sb (rowsOut (rowsIn rows t.ins k) S t.outs H) F' (spentIn G S t.ins H) oa' oc' (ids ++ [S]) (fees + D) → IsDone F' S hSl → (∀ y, y ≠ ⟨S, hSl⟩ → F' y = F y) → (∃ (F' : SumD → Option Value) (oa' : Option Addr) (oc' : Nat), LedAt w' B (K + 5) pl vb bb vm tb hb db sb (rowsOut (rowsIn rows t.ins k) (txSum t) t.outs H) F' (spentIn G (txSum t) t.ins H) oa' oc' (ids ++ [txSum t]) (fees + (inM t r - outsM t)) ∧ IsDone F' (txSum t) (txSum_len t) ∧ ∀ y, y ≠ ⟨txSum t, txSum_len t⟩ → F' y = F y)) := Lib.hid fun F' oa' oc' w' k1 k2 k3 => by
    subst hS hD
    exact ⟨F', oa', oc', k1, k2, k3⟩
  have b1 : Below w.heap.size w (w.alloc (.cells t.cells.toArray 50)) := (Below.refl _ _).alloc (Nat.le_refl _) _
  have h1 := heap_alloc_new w (.cells t.cells.toArray 50)
  clear h hc hm hok hop hz hfee hf hu hhi hk hB hS hD
  go_enter Tryz.func12, Tryz.ntmps12
  go_upto_region 1 with (fail)
  revert b1 h1
  generalize (w.alloc (.cells t.cells.toArray 50)) = w1
  obtain ⟨g4, hg⟩ : ∃ g, g = w.heap.size := ⟨_, rfl⟩
  rw [← hg]
  intro b1 h1
  rw [hg] at b1
  have HB1 := Lib.hid b1
  have HT4 := Lib.hid h1
  have HL1 := Lib.hid (HL.out.below b1)
  clear hg
  have R4 := Lib.hid (range_of h1)
  clear b1 h1
  go_upto_region 3 with (first | (go_at_call 45; (with_reducible refine (HG.out _ HB1.out).mono ?_); rintro e w8 ⟨rfl, rfl⟩) | (refine wpList_loadw18 (by rfl) 50 _ rfl g4 0 rfl t.cells _ R4.out Tryz.underlying50 rfl SXT.out ?_) | (go_at_call 46; (with_reducible refine (HRT.out _ HB1.out).mono ?_); rintro e w2 ⟨rfl, hb2⟩; have HB2 := Lib.hid (bthen HB1.out hb2); have HT42 := Lib.hid (keep hb2 HT4.out); clear hb2) | fail)
  have R42 := Lib.hid (range_of HT42.out)
  clear f1 f2 f3
  go_upto_region 4 with (first | (refine wpList_load_mid rfl 50 _ rfl g4 0 rfl t.cells _ R42.out Tryz.underlying50 rfl SXT.out ?_) | (go_at_call 16; (with_reducible refine (HSUM.out _ HB2.out).mono ?_); rintro e w2b ⟨rfl, hb2⟩; have HB2b := Lib.hid (bthen HB2.out hb2); have HT42b := Lib.hid (keep hb2 HT42.out); clear hb2) | (refine wpList_var rfl rfl 28 rfl _ _ rfl (cellsOf zero32).toArray Tryz.zeroSum32 rfl (cellsOf S) (fun _ => rfl) (fun _ => rfl) (by rw [cellsOf_len]; exact HSL.out) (cellsOf_one S) ?_; intro g7 w3 hq7 hh7 hb7; go_frame) | fail)
  have HB3 := Lib.hid (bthen HB2b.out hb7)
  have HT43 := Lib.hid (keep hb7 HT42b.out)
  have HI3 := Lib.hid hh7
  have HL3 := Lib.hid (HL.out.below HB3.out)
  clear hq7 hh7 hb7 R4 R42 HT42 HT42b HB2 HB2b
  have HLOOK : Hid (∀ W : World, Below w3.heap.size w3 W → (Instr.lookup 65 (.map (some db)) (.agg (cellsOf S).toArray) true).run Tryz.prog W = .ok (.tuple #[.agg (doneCells noTx 0).toArray, .bool false]) W) := Lib.hid fun W hW => HLOOK0.out W (bthen HB3.out hW)
  refine wp_region_held_drew (S := fun w' => Below w3.heap.size w3 w') (by kernel_rfl) (below_drew (Below.refl _ _)) (fun hHeld => ?_)
  refine tkP 0 rfl rfl ?_
  refine tkP 1 rfl rfl ?_
  refine tkP 2 rfl rfl ?_
  refine tkA (v := (.map (some db))) 3 rfl rfl (yields_cell (b := pl) (o := 2) (by rfl) rfl rfl (fun w0 hSw => by rw [cell_of_row _ _ _ _ _ _ (keep hSw HL3.out.box)]; rfl) (fun w0 => Tryz.isAgg65 w0)) ?_
  refine tkA 4 rfl rfl (yieldsIf_load_mid (by rfl) _ _ rfl g7 0 rfl (cellsOf S) _ (fun w0 hSw => range_of (keep hSw HI3.out)) Tryz.underlying28 rfl SSL.out) ?_
  refine tkA 5 rfl rfl (yields_look10 (by rfl) rfl rfl rfl (fun w0 hSw => HLOOK.out w0 (by exact hSw))) ?_
  refine tkP 6 rfl rfl ?_
  refine tkP 7 rfl rfl ?_
  refine tkP 8 rfl rfl ?_
  refine tkR 9 rfl (fun K hK => ?_)
  refine step_alloc10 (d := 8) rfl (by rfl) 95 rfl (doneCells noTx 0).toArray Tryz.zeroDone18 ?_
  intro p8 y1 hp hh hb
  have H8 := Lib.hid hh
  have P8 : Hid (w3.heap.size ≤ p8) := Lib.hid (Nat.le_trans (Below.size hHeld) hp)
  have HX1 := Lib.hid (bthen hHeld hb)
  clear hp hh hb
  refine hK.out _ _ (by (try dsimp only); exact HX1.out) (fun hHeld => ?_)
  clear hK K
  refine tkR 10 rfl (fun K hK => ?_)
  refine step_row10 (by rfl) 95 _ _ rfl p8 (doneCells noTx 0) (by rfl) (by rfl) 95 (doneCells noTx 0) H8.out (done_size18 0 (x := noTx) rfl) (by rw [done_len18 0 (x := noTx) rfl]) (doneOne18 _ _) (fun y2 hh hb => ?_)
  have HX2 := Lib.hid (But.in hHeld hb P8.out)
  clear hh hb
  refine hK.out _ _ (by (try dsimp only); exact HX2.out) (fun hHeld => ?_)
  clear hK K
  refine tkP 11 rfl rfl ?_
  refine wpAnyH_done (by kernel_rfl) ?_ _
  have HB4 := Lib.hid (show Below w3.heap.size w3 y2 from hHeld)
  clear hHeld
  have R44 := Lib.hid (range_of (keep HB4.out HT43.out))
  go_upto_region 10 with (first | (refine wpList_load_mid rfl 50 _ rfl g4 0 rfl t.cells _ R44.out Tryz.underlying50 rfl SXT.out ?_) | (go_at_call 47; (with_reducible refine (HLEFT.out _ (bthen HB3.out HB4.out)).mono ?_); rintro e w5 ⟨rfl, hb5⟩; have HB5 := Lib.hid (bthen HB4.out hb5); clear hb5) | fail)
  clear R44
  obtain ⟨w6, hw6⟩ : ∃ q, q = w5 := ⟨_, rfl⟩
  rw [← hw6] at HB5 ⊢
  clear hw6
  have HL5 := Lib.hid (HL3.out.below HB5.out)
  have HT45 := Lib.hid (keep HB5.out HT43.out)
  refine wp_region_held_drew (S := fun w' => Below w6.heap.size w6 w') (by kernel_rfl) (below_drew (Below.refl _ _)) (fun hHeld => ?_)
  refine tkP 0 rfl rfl ?_
  refine tkP 1 rfl rfl ?_
  refine tkP 2 rfl rfl ?_
  refine tkP 3 rfl rfl ?_
  refine tkA (v := (.pointer (some ⟨bb, 0, none⟩))) 4 rfl rfl (yields_cell (b := pl) (o := 1) (by rfl) rfl rfl (fun w0 hSw => by rw [cell_of_row _ _ _ _ _ _ (keep hSw HL5.out.box)]; rfl) (fun w0 => Tryz.isAgg35 w0)) ?_
  refine tkA 5 rfl rfl (yieldsIf_load_mid (by rfl) _ _ rfl g4 0 rfl t.cells _ (fun w0 hSw => range_of (keep hSw HT45.out)) Tryz.underlying50 rfl SXT.out) ?_
  refine tkP 6 rfl rfl ?_
  refine tkR 7 rfl (fun K hK => ?_)
  go_simp
  go_wp2_with ((go_at_call 48; (with_reducible refine (HACT.out _ _).mono ?_); rintro e w7 ⟨rfl, hb7⟩; have HB7 := Lib.hid (bthen hHeld hb7); clear hb7))
  refine hK.out _ _ (by (try dsimp only); exact HB7.out) (fun hHeld => ?_)
  clear hK K
  refine wpAnyH_done (by kernel_rfl) ?_ _
  have HB8 := Lib.hid (bthen HB5.out (show Below w6.heap.size w6 w7 from hHeld))
  clear hHeld
  have R48 := Lib.hid (range_of (keep HB8.out HT43.out))
  have R78 := Lib.hid (range_of (keep HB8.out HI3.out))
  go_upto_region 12 with (first | (refine wpList_load_mid rfl 28 _ rfl g7 0 rfl (cellsOf S) _ R78.out Tryz.underlying28 rfl SSL.out ?_) | (refine wpList_load_mid rfl 50 _ rfl g4 0 rfl t.cells _ R48.out Tryz.underlying50 rfl SXT.out ?_) | (go_at_call 41; (with_reducible refine (HCOME.out _ (bthen HB3.out HB8.out)).mono ?_); rintro e w10 ⟨rfl, ⟨F', oa', oc', hl10, hd10, ho10⟩, hm10⟩; have HL10 := Lib.hid hl10; have HD10 := Lib.hid hd10; have HO10 := Lib.hid ho10; have HM10 := Lib.hid (Mid.trans (Mid.of (bthen HB3.out HB8.out)) hm10); clear hl10 hd10 ho10 hm10) | fail)
  have c5 : w10.cell? ⟨pl, 5, none⟩ = some (.int .i64 fees) := by rw [cell_of_row _ _ _ _ _ _ HL10.out.box]; rfl
  go_wp2_with (first | (refine wpList_field10 rfl 2 _ _ rfl pl 5 rfl (.int .i64 (fees + D)) rfl 68 (ledCells vb bb db sb oa' (ids ++ [S]).length oc' fees) HL10.out.box (by show 5 < 6; omega) (by kernel_rfl) rfl ?_; intro w11 hh11 hb11; have HL11 := Lib.hid (HL10.out.boxed hb11 hh11); have HM11 := Lib.hid (Mid.trans HM10.out (Mid.but hb11 HLOW.out.1 HUND.out.1)); clear hh11 hb11 c5) | fail)
  go_ret
  exact ⟨rfl, HFIN.out _ _ _ _ HL11.out HD10.out HO10.out, HM11.out⟩
set_option linter.unusedSimpArgs false in
set_option maxRecDepth 100000 in
set_option maxHeartbeats 6400000 in
theorem apply_twice {w : World} {B K pl vb bb vm tb hb db sb oc : Nat} {rows : List PRow} {F : SumD → Option Value} {G : List UInt8 → Int → Option Value} {oa : Option Addr} {ids : List (List UInt8)} {fees H : Int} {t : PTx} (h : LedAt w B K pl vb bb vm tb hb db sb rows F G oa oc ids fees) (hc : TxIn w t ∧ FrontFew false t ∧ (0 ≤ H ∧ H ≤ 1073741824)) (hok : txOk t = true) (hk : KsAt w) (hdn : IsDone F (txSum t) (txSum_len t)) :
    Calls Tryz.prog 12 #[.pointer (some ⟨pl, 0, none⟩), .agg t.cells.toArray, .int .i64 H] w fun e w' => e = .returned (.int .i64 8) ∧ Below w.heap.size w w' := by
  have HL := Lib.hid h
  have HTX := Lib.hid hc.1
  obtain ⟨S, hS⟩ : ∃ S, S = txSum t := ⟨_, rfl⟩
  have HG := Lib.hid (given_led h.box rfl)
  have HRT : Hid (∀ W : World, Below w.heap.size w W → Calls Tryz.prog 46 #[.agg t.cells.toArray] W fun e w' => e = .returned (.bool true) ∧ Below W.heap.size W w') := Lib.hid fun W hW => by rw [← hok]; exact txRight_any (hc.1.below hW)
  have HSUM : Hid (∀ W : World, Below w.heap.size w W → Calls Tryz.prog 16 #[.agg t.cells.toArray] W fun e w' => e = .returned (.agg (cellsOf S).toArray) ∧ Below W.heap.size W w') := Lib.hid fun W hW => by rw [hS]; exact txSum_any (hc.1.below hW) (hk.below hW) hc.2.1
  have hSl : S.length = 32 := by rw [hS]; exact txSum_len t
  have HSL := Lib.hid hSl
  have SSL : Hid ((Tryz.prog.info? 28).map (·.size) = some (cellsOf S).length) := Lib.hid (by rw [cellsOf_len, hSl]; exact Tryz.size28)
  have SXT := Lib.hid (tx_size (x := t) hc.1.op.root)
  have f1 : ¬ H < 0 := by have h9 := hc.2.2.1; omega
  have f2 : ¬ H > 1073741824 := by have h9 := hc.2.2.2; omega
  have f3 : ¬ 1073741824 < H := by have h9 := hc.2.2.2; omega
  obtain ⟨yd, hd, hyd, hfd⟩ := hdn
  have HYD := Lib.hid hyd
  have HLOOK0 : Hid (∀ W : World, Below w.heap.size w W → (Instr.lookup 65 (.map (some db)) (.agg (cellsOf S).toArray) true).run Tryz.prog W = .ok (.tuple #[.agg (doneCells yd hd).toArray, .bool true]) W) := Lib.hid fun W hW => by
    obtain ⟨N, n, _, h9⟩ := h.done
    subst hS
    exact lookup_sum_yes (h9.below hW) (txSum_len t) hfd
  have b1 : Below w.heap.size w (w.alloc (.cells t.cells.toArray 50)) := (Below.refl _ _).alloc (Nat.le_refl _) _
  have h1 := heap_alloc_new w (.cells t.cells.toArray 50)
  clear h hc hok hk hyd hfd hS
  go_enter Tryz.func12, Tryz.ntmps12
  go_upto_region 1 with (fail)
  revert b1 h1
  generalize (w.alloc (.cells t.cells.toArray 50)) = w1
  obtain ⟨g4, hg⟩ : ∃ g, g = w.heap.size := ⟨_, rfl⟩
  rw [← hg]
  intro b1 h1
  rw [hg] at b1
  have HB1 := Lib.hid b1
  have HT4 := Lib.hid h1
  have HL1 := Lib.hid (HL.out.below b1)
  clear hg
  have R4 := Lib.hid (range_of h1)
  clear b1 h1
  go_upto_region 3 with (first | (go_at_call 45; (with_reducible refine (HG.out _ HB1.out).mono ?_); rintro e w8 ⟨rfl, rfl⟩) | (refine wpList_loadw18 (by rfl) 50 _ rfl g4 0 rfl t.cells _ R4.out Tryz.underlying50 rfl SXT.out ?_) | (go_at_call 46; (with_reducible refine (HRT.out _ HB1.out).mono ?_); rintro e w2 ⟨rfl, hb2⟩; have HB2 := Lib.hid (bthen HB1.out hb2); have HT42 := Lib.hid (keep hb2 HT4.out); clear hb2) | fail)
  have R42 := Lib.hid (range_of HT42.out)
  clear f1 f2 f3
  go_upto_region 4 with (first | (refine wpList_load_mid rfl 50 _ rfl g4 0 rfl t.cells _ R42.out Tryz.underlying50 rfl SXT.out ?_) | (go_at_call 16; (with_reducible refine (HSUM.out _ HB2.out).mono ?_); rintro e w2b ⟨rfl, hb2⟩; have HB2b := Lib.hid (bthen HB2.out hb2); have HT42b := Lib.hid (keep hb2 HT42.out); clear hb2) | (refine wpList_var rfl rfl 28 rfl _ _ rfl (cellsOf zero32).toArray Tryz.zeroSum32 rfl (cellsOf S) (fun _ => rfl) (fun _ => rfl) (by rw [cellsOf_len]; exact HSL.out) (cellsOf_one S) ?_; intro g7 w3 hq7 hh7 hb7; go_frame) | fail)
  have HB3 := Lib.hid (bthen HB2b.out hb7)
  have HT43 := Lib.hid (keep hb7 HT42b.out)
  have HI3 := Lib.hid hh7
  have HL3 := Lib.hid (HL.out.below HB3.out)
  clear hq7 hh7 hb7 R4 R42 HT42 HT42b HB2 HB2b
  have HLOOK : Hid (∀ W : World, Below w3.heap.size w3 W → (Instr.lookup 65 (.map (some db)) (.agg (cellsOf S).toArray) true).run Tryz.prog W = .ok (.tuple #[.agg (doneCells yd hd).toArray, .bool true]) W) := Lib.hid fun W hW => HLOOK0.out W (bthen HB3.out hW)
  refine wp_region_held_drew (S := fun w' => Below w3.heap.size w3 w') (by kernel_rfl) (below_drew (Below.refl _ _)) (fun hHeld => ?_)
  refine tkP 0 rfl rfl ?_
  refine tkP 1 rfl rfl ?_
  refine tkP 2 rfl rfl ?_
  refine tkA (v := (.map (some db))) 3 rfl rfl (yields_cell (b := pl) (o := 2) (by rfl) rfl rfl (fun w0 hSw => by rw [cell_of_row _ _ _ _ _ _ (keep hSw HL3.out.box)]; rfl) (fun w0 => Tryz.isAgg65 w0)) ?_
  refine tkA 4 rfl rfl (yieldsIf_load_mid (by rfl) _ _ rfl g7 0 rfl (cellsOf S) _ (fun w0 hSw => range_of (keep hSw HI3.out)) Tryz.underlying28 rfl SSL.out) ?_
  refine tkA 5 rfl rfl (yields_look10 (by rfl) rfl rfl rfl (fun w0 hSw => HLOOK.out w0 (by exact hSw))) ?_
  refine tkP 6 rfl rfl ?_
  refine tkP 7 rfl rfl ?_
  refine tkP 8 rfl rfl ?_
  refine tkR 9 rfl (fun K hK => ?_)
  refine step_alloc10 (d := 8) rfl (by rfl) 95 rfl (doneCells noTx 0).toArray Tryz.zeroDone18 ?_
  intro p8 y1 hp hh hb
  have H8 := Lib.hid hh
  have P8 : Hid (w3.heap.size ≤ p8) := Lib.hid (Nat.le_trans (Below.size hHeld) hp)
  have HX1 := Lib.hid (bthen hHeld hb)
  clear hp hh hb
  refine hK.out _ _ (by (try dsimp only); exact HX1.out) (fun hHeld => ?_)
  clear hK K
  refine tkR 10 rfl (fun K hK => ?_)
  refine step_row10 (by rfl) 95 _ _ rfl p8 (doneCells yd hd) (by rfl) (by rfl) 95 (doneCells noTx 0) H8.out (done_size18 hd HYD.out) (by rw [done_len18 0 (x := noTx) rfl, done_len18 hd HYD.out]) (doneOne18 _ _) (fun y2 hh hb => ?_)
  have HX2 := Lib.hid (But.in hHeld hb P8.out)
  clear hh hb
  refine hK.out _ _ (by (try dsimp only); exact HX2.out) (fun hHeld => ?_)
  clear hK K
  refine tkP 11 rfl rfl ?_
  refine wpAnyH_done (by kernel_rfl) ?_ _
  have HB4 := Lib.hid (show Below w3.heap.size w3 y2 from hHeld)
  clear hHeld
  go_wp2_with fail
  go_ret
  exact ⟨rfl, bthen HB3.out HB4.out⟩
end Go.Proofs.YteddkkcheaghaaaGreatDoor
