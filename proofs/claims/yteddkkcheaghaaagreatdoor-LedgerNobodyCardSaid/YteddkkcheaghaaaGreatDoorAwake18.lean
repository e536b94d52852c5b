/- The statements' own example (law 18): an out comes, is spent, and can't be again. -/
import Derived.Test.YteddkkcheaghaaaGreatDoorLeda
namespace Go.Proofs.YteddkkcheaghaaaGreatDoor
open Go.RowKit Go.Maps

set_option maxRecDepth 100000 in
/-- What the first transaction's sum is. -/
def sum18 : List UInt8 := txSum (newTx none 0 ⟨5, none, 1, 1, [⟨none, 1, 1, [1], zero32, 0, 0⟩]⟩)
def awTx (ss : List PSign) : PTx := ⟨none, 1, 0, [⟨sum18, 0, 0, none, 0, 0, []⟩], none, 1, 0, [⟨4, none, 1, 0, [⟨none, 0, 0, [2], zero32, 0, 0⟩]⟩], noOp, none, ss.length, 0, ss⟩
def next18 : List UInt8 := txSum (awTx [])
set_option maxRecDepth 100000 in
theorem apart18 : next18 ≠ sum18 := by decide +kernel
set_option maxRecDepth 100000 in
theorem awOk18 : txOk (awTx [⟨1, next18⟩]) = true := by decide +kernel
theorem frontB_strip18 (sh : Bool) (x : PTx) : frontB sh x.strip = frontB sh x := by
  show numB ((x.ins.map PIn.strip).length : Nat) ++ (insB sh (x.ins.map PIn.strip) ++ (numB ((x.outs.map POut.strip).length : Nat) ++ (outsB (x.outs.map POut.strip) ++ opB x.op.strip))) = _
  rw [insB_strip, outsB_strip, List.length_map, List.length_map]
  rfl
theorem txSum_alike18 {x t : PTx} (h : x.strip = t.strip) : txSum x = txSum t := by
  unfold txSum
  rw [← frontB_strip18 false x, ← frontB_strip18 false t, h]
theorem sum18_is (p a b : Option Addr) : txSum (newTx p 1 ⟨5, a, 1, 1, [⟨b, 1, 1, [1], zero32, 0, 0⟩]⟩) = sum18 := by
  unfold txSum sum18 txSum
  rfl
theorem next18_is (p3 p5 a b : Option Addr) (n c m d : Nat) : txSum (⟨p3, n, c, [⟨sum18, 0, 0, none, 0, 0, []⟩], p5, m, d, [⟨4, a, 1, 1, [⟨b, 1, 1, [2], zero32, 0, 0⟩]⟩], noOp, none, 0, 0, []⟩ : PTx) = next18 := by
  unfold txSum next18 txSum
  rfl
/-- What is signed says what the example says. -/
theorem awStrip18 {x : PTx} {p3 p5 a b : Option Addr} (h : x.strip = (signedP (⟨p3, 1, 1, [⟨sum18, 0, 0, none, 0, 0, []⟩], p5, 1, 1, [⟨4, a, 1, 1, [⟨b, 1, 1, [2], zero32, 0, 0⟩]⟩], noOp, none, 0, 0, []⟩ : PTx) 1 next18).strip) : x.strip = (awTx [⟨1, next18⟩]).strip := h
/-- What the example's transaction comes to. -/
structure AwFacts (w : World) (y : PTx) : Prop where
  sum : txSum y = next18
  ok : txOk y = true
  few : FewTxS y
  front : FrontFew false y
  inn : y.inn = 1
  on : y.on = 1
  sn : y.sn = 1
  ins : ∃ a n c, y.ins = [⟨sum18, 0, 0, a, n, c, []⟩] ∧ n ≤ 1000
  outs : ∃ z : POut, y.outs = [z] ∧ z.m = 4 ∧ outOk z.m z.ws = true
  op : y.op.kind = 0
  signs : y.signs = [⟨1, next18⟩]
theorem aw_facts {w : World} {y : PTx} (ht : TxIn w y) (h : y.strip = (awTx [⟨1, next18⟩]).strip) : AwFacts w y := by
  have h1 : y.ins.map PIn.strip = [PIn.strip ⟨sum18, 0, 0, none, 0, 0, []⟩] := congrArg PTx.ins h
  have h2 : y.outs.map POut.strip = [POut.strip ⟨4, none, 1, 0, [⟨none, 0, 0, [2], zero32, 0, 0⟩]⟩] := congrArg PTx.outs h
  have h3 : y.signs = [⟨1, next18⟩] := congrArg PTx.signs h
  have h4 : y.op.strip = noOp.strip := congrArg PTx.op h
  have hok : txOk y = true := by
    rw [← txOk_strip ht.lens, h]
    exact awOk18
  obtain ⟨x, hx⟩ : ∃ x, y.ins = [x] := by
    have h9 := congrArg List.length h1
    simp at h9
    exact List.length_eq_one_iff.1 h9
  obtain ⟨z, hz⟩ : ∃ z, y.outs = [z] := by
    have h9 := congrArg List.length h2
    simp at h9
    exact List.length_eq_one_iff.1 h9
  have hin : y.inn = 1 := by rw [← ht.ins.1, hx]; rfl
  have hon : y.on = 1 := by rw [← ht.outs.1, hz]; rfl
  have hsn : y.sn = 1 := by rw [← ht.signs.1, h3]; rfl
  have hx1 : InIn w x := ht.ins.2.2.2.2.1 x (by rw [hx]; simp)
  have hz1 : OutIn w z := ht.outs.2.2.2.2.1 z (by rw [hz]; simp)
  rw [hx] at h1
  rw [hz] at h2
  simp only [List.map_cons, List.map_nil, List.cons.injEq, and_true] at h1 h2
  obtain ⟨xt, xp, xw, xa, xn, xc, xpre⟩ := x
  obtain ⟨zm, za, zn, zc, zws⟩ := z
  have e1 : xt = sum18 := congrArg PIn.tx h1
  have e2 : xp = 0 := congrArg PIn.place h1
  have e3 : xw = 0 := congrArg PIn.way h1
  have e4 : xpre = [] := congrArg PIn.pre h1
  have e5 : xn = 0 := by have h9 := hx1.pre.1; rw [show (PIn.mk xt xp xw xa xn xc xpre).pre = [] from e4] at h9; exact h9.symm
  have e6 : zm = 4 := congrArg POut.m h2
  have e7 : zws.map PWay.strip = [PWay.strip ⟨none, 0, 0, [2], zero32, 0, 0⟩] := congrArg POut.ws h2
  have hzok : outOk zm zws = true := by
    rw [← outOk_strip, e7, e6]
    decide +kernel
  obtain ⟨u, hu⟩ : ∃ u, zws = [u] := by
    have h9 := congrArg List.length e7
    simp at h9
    exact List.length_eq_one_iff.1 h9
  have hn : zn = 1 := by have h9 : zws.length = zn := hz1.ws.1; rw [← h9, hu]; rfl
  have huk : u.ks = [2] := by
    rw [hu] at e7
    simp only [List.map_cons, List.map_nil, List.cons.injEq, and_true] at e7
    exact congrArg PWay.ks e7
  have hd : y.op.n = 0 := by
    have h9 : y.op.data.length = y.op.n := ht.op.data.1
    rw [← h9, show y.op.data = [] from congrArg POp.data h4]
    rfl
  subst e1 e2 e3 e4 e5 e6 hu hn
  refine ⟨?_, hok, ⟨by omega, by omega, .inr (by omega), .inr (by omega), ?_, ?_, ?_, by omega, by omega, .inr (by omega)⟩, frontFew false ht (by omega) (by omega) ?_ ?_ (by omega), hin, hon, hsn, ⟨xa, 0, xc, hx, by omega⟩, ⟨_, hz, rfl, hzok⟩, congrArg POp.kind h4, h3⟩
  · rw [txSum_alike18 h]
    unfold txSum next18 txSum
    rfl
  · rw [hx]
    simp
  · rw [hz]
    simp
  · rw [hz]
    simp [huk]
  · rw [hx]
    simp
  · rw [hz]
    simp [huk]
theorem row_opens18 (b : Option Addr) (a : Option Addr) : OpensIn [⟨sum18, 0, ⟨5, a, 1, 1, [⟨b, 1, 1, [1], zero32, 0, 0⟩]⟩, 0⟩] (keysBy next18 [⟨1, next18⟩]) 1 ⟨sum18, 0, 0, none, 0, 0, []⟩ ⟨sum18, 0, ⟨5, a, 1, 1, [⟨b, 1, 1, [1], zero32, 0, 0⟩]⟩, 0⟩ := by
  have hk : keysBy next18 [⟨1, next18⟩] = [1] := by simp [keysBy]
  rw [hk]
  exact ⟨by simp, rfl, rfl, ⟨0, rfl, by show 0 < 1; omega, by simp [opensW]⟩⟩
theorem worth18 {w : World} {B K pl vb bb vm tb hb db sb oc : Nat} {s : List UInt8} {z : POut} {F : SumD → Option Value} {G : List UInt8 → Int → Option Value} {oa : Option Addr} {ids : List (List UInt8)} (h : LedAt w B K pl vb bb vm tb hb db sb [⟨s, 0, z, 1⟩] F G oa oc ids 1) (hz : z.m = 4) : Calls Tryz.prog 18 #[.pointer (some ⟨pl, 0, none⟩)] w fun e w' => e = .returned (.int .i64 5) ∧ Below w.heap.size w w' := by
  have e : sumM [⟨s, 0, z, 1⟩] = 4 := by simp [sumM, hz]
  have h9 := worth_led h (by simp) (fun j hj => by
    match j, hj with
    | 0, _ => simp [sumM]
    | 1, _ => simp [sumM, hz])
  rw [e] at h9
  exact h9
theorem step_int18 {ops : Array Oper} {o : Oper} {tmps : Array Value} {ds : List Deferred} {w : World} {K : Act → World → Prop} {Q : Exit → Act → World → Prop} {E : Prop} {d : Nat} {u : Operand} {y : Int} (hd : o.dst = some d) (hw : Region.wanted o (yielded ops tmps) = true) (ho : o.op = .buildSlice 38 1 #[(0, u)])
    (hu : Act.eval { tmps := tmps, defers := ds } u = .int .i64 y)
    (h : ∀ (p : Nat) (w' : World), w.heap.size ≤ p → w'.heap[p]? = some (.cells #[.int .i64 y] 3 (0, 0)) → Below w.heap.size w w' → K { tmps := tmps.setIfInBounds d (.slice (some ⟨p, 0, none⟩) 1 1), defers := ds } w') :
    if Region.wanted o (yielded ops tmps) = true then Oper.wp Tryz.prog o { tmps := tmps, defers := ds } w K Q else E := by
  rw [if_pos hw]
  unfold Oper.wp execOp
  simp only [ho, List.map_toArray, List.map_cons, List.map_nil, hu, Sem.run_bind, run_int14 y w, Sem.run_pure, Result.andThen_ok]
  show K (Act.put _ o.dst _) _
  rw [hd]
  exact h _ _ (Nat.le_refl _) (heap_alloc_new _ _) ((Below.refl _ _).alloc (Nat.le_refl _) _)
set_option linter.unusedSimpArgs false in
set_option maxRecDepth 100000 in
set_option maxHeartbeats 6400000 in
theorem awake18_any {w : World} (hk : KsAt w) : Calls Tryz.prog 9 #[] w fun e w' => e = .returned (.bool true) ∧ Below w.heap.size w w' := by
  have HKS := Lib.hid hk
  have f1 : Fits 1 := by constructor <;> decide
  have f2 : Fits 2 := by constructor <;> decide
  have HTO1 : Hid (∀ W : World, Calls Tryz.prog 37 #[.int .i64 1, .int .i64 5] W fun e w' => ∃ (a b : Option Addr), e = .returned (.agg #[.int .i64 5, .slice a 1 1]) ∧ Ways w' a 1 1 [⟨b, 1, 1, [1], zero32, 0, 0⟩] ∧ Below W.heap.size W w') := Lib.hid fun W => to_any 1 5 W f1
  have HTO : Hid (∀ W : World, Calls Tryz.prog 37 #[.int .i64 2, .int .i64 4] W fun e w' => ∃ (a b : Option Addr), e = .returned (.agg #[.int .i64 4, .slice a 1 1]) ∧ Ways w' a 1 1 [⟨b, 1, 1, [2], zero32, 0, 0⟩] ∧ Below W.heap.size W w') := Lib.hid fun W => to_any 2 4 W f2
  have f0 : Fits 0 := by constructor <;> decide
  have f5 : Fits 5 := by constructor <;> decide
  have f4 : Fits 4 := by constructor <;> decide
  have HNEW : Hid (∀ (W : World) (p : Nat) (a1 b1 : Option Addr), KsAt W → W.heap[p]? = some (.cells (POut.cells ⟨5, a1, 1, 1, [⟨b1, 1, 1, [1], zero32, 0, 0⟩]⟩).toArray 107 (0, 0)) → Ways W a1 1 1 [⟨b1, 1, 1, [1], zero32, 0, 0⟩] → Calls Tryz.prog 10 #[.slice (some ⟨p, 0, none⟩) 1 1] W fun e w' => ∃ (pl vb bb vm tb hb db sb oc : Nat) (oa : Option Addr) (F : SumD → Option Value), e = .returned (.tuple #[.pointer (some ⟨pl, 0, none⟩), .agg (cellsOf sum18).toArray, .int .i64 0]) ∧ LedAt w' W.heap.size 5 pl vb bb vm tb hb db sb [⟨sum18, 0, ⟨5, a1, 1, 1, [⟨b1, 1, 1, [1], zero32, 0, 0⟩]⟩, 0⟩] F (fun _ _ => none) oa oc [sum18] 0 ∧ (∀ y : SumD, y.s ≠ sum18 → F y = none) ∧ Below W.heap.size W w') := Lib.hid fun W p a1 b1 h1 h2 h3 => by
    have h4 : SliceOf outK W (some ⟨p, 0, none⟩) 1 1 [⟨5, a1, 1, 1, [⟨b1, 1, 1, [1], zero32, 0, 0⟩]⟩] := slice_one (K := outK) h2 ⟨f5, h3⟩
    have h5 : TxIn W (newTx (some ⟨p, 0, none⟩) 1 ⟨5, a1, 1, 1, [⟨b1, 1, 1, [1], zero32, 0, 0⟩]⟩) := ⟨SliceOf.nil _ _, h4, ⟨f0, f0, f0, f0, rfl, Row.nil W⟩, SliceOf.nil _ _⟩
    have h9 := new_led h4 (by rfl) (by show (0 : Int) ≤ 5 ∧ (5 : Int) ≤ 1125899906842624; omega) ⟨by show 0 ≤ 1000; omega, by show 1 ≤ 1000; omega, .inl rfl, .inr (Nat.le_refl _), fun y hy => (by cases hy), fun z hz => (by simp [newTx] at hz; subst hz; exact ⟨.inr (Nat.le_refl _), by show 1 ≤ 1000; omega⟩), fun z hz u hu => (by simp [newTx] at hz; subst hz; simp at hu; subst hu; show [1].length ≤ 100000; simp), by show 0 ≤ 100000; omega, by show 0 ≤ 1000; omega, .inl rfl⟩ (frontFew false h5 (by show 0 ≤ 20; omega) (by show 1 ≤ 20; omega) (fun y hy => (by cases hy)) (fun z hz => (by simp [newTx] at hz; subst hz; exact ⟨by show 1 ≤ 20; omega, fun u hu => (by simp at hu; subst hu; show [1].length ≤ 20; simp)⟩)) (by show 0 ≤ 65536; omega)) h1
    rw [sum18_is] at h9
    exact h9
  obtain ⟨S0, hS0, hS0l⟩ : ∃ S, S = sum18 ∧ S.length = 32 := ⟨_, rfl, txSum_len _⟩
  have HS0 := Lib.hid hS0
  have HSL := Lib.hid hS0l
  have SSL : Hid ((Tryz.prog.info? 28).map (·.size) = some (cellsOf S0).length) := Lib.hid (by rw [cellsOf_len, hS0l]; exact Tryz.size28)
  rw [← hS0] at HNEW
  clear hS0 hS0l hk
  go_enter Tryz.func9, Tryz.ntmps9
  go_upto_region 2 with (first
    | (go_at_call 37; (with_reducible refine (HTO1.out _).mono ?_); rintro e w1 ⟨a1, b1, rfl, hw1, hb1⟩; have HW1 := Lib.hid hw1; have HB1 := Lib.hid hb1; clear hw1 hb1)
    | (refine wpList_lit_of Tryz.outAt14 rfl _ rfl ⟨5, a1, 1, 1, [⟨b1, 1, 1, [1], zero32, 0, 0⟩]⟩ rfl rfl ?_; intro p1 w1b hq hh hb; have HP1 := Lib.hid (show w1b.heap[p1]? = some (.cells (POut.cells ⟨5, a1, 1, 1, [⟨b1, 1, 1, [1], zero32, 0, 0⟩]⟩).toArray 107 (0, 0)) from hh); have HW1b := Lib.hid (HW1.out.below hb); have HB1b := Lib.hid (bthen HB1.out hb); clear hq hh hb)
    | (go_at_call 10; (with_reducible refine (HNEW.out _ p1 a1 b1 (HKS.out.below HB1b.out) HP1.out HW1b.out).mono ?_); rintro e w1c ⟨pl, vb, bb, vm, tb, hb, db, sb, oc, oa, F, rfl, hled, hF, hbb⟩; have HLED1 := Lib.hid hled; have HF := Lib.hid hF; have HB1c := Lib.hid (bthen HB1b.out hbb); have HLOW := Lib.hid HB1b.out.size; have HS1 := Lib.hid hbb.size; clear hled hF hbb)
    | (refine wpList_new rfl 28 rfl (cellsOf zero32).toArray Tryz.zeroSum32 ?_; intro g2 w1d hq hh hb; go_frame; have HG2 := Lib.hid hh; have HLED2 := Lib.hid (HLED1.out.below hb); have HB1d := Lib.hid (bthen HB1c.out hb); have HQ2 : Hid (w1c.heap.size ≤ g2) := Lib.hid hq; have HCD := Lib.hid hb; clear hq hh hb)
    | (refine wpList_row10 rfl 28 _ _ rfl g2 (cellsOf S0) rfl rfl 28 (cellsOf zero32) HG2.out SSL.out (by rw [cellsOf_len, cellsOf_len, HSL.out]; rfl) (cellsOf_one S0) ?_; intro w2 hh hb; have HI2 := Lib.hid hh; have HBX := Lib.hid (But.in HCD.out hb HQ2.out); clear hh hb)
    | fail)
  have HL2 := Lib.hid (HLED1.out.below HBX.out)
  have HB2 := Lib.hid (bthen HB1c.out HBX.out)
  have HSGN : Hid (∀ (W : World) (p3 p5 p7 : Nat) (a4 b4 : Option Addr), Below w2.heap.size w2 W → W.heap[p3]? = some (.cells (PIn.cells (⟨S0, 0, 0, none, 0, 0, []⟩ : PIn)).toArray 93 (0, 0)) → W.heap[p5]? = some (.cells (POut.cells (⟨4, a4, 1, 1, [⟨b4, 1, 1, [2], zero32, 0, 0⟩]⟩ : POut)).toArray 107 (0, 0)) → W.heap[p7]? = some (.cells #[.int .i64 1] 3 (0, 0)) → Ways W a4 1 1 [⟨b4, 1, 1, [2], zero32, 0, 0⟩] → Calls Tryz.prog 31 #[.agg (PTx.cells (⟨some ⟨p3, 0, none⟩, 1, 1, [⟨S0, 0, 0, none, 0, 0, []⟩], some ⟨p5, 0, none⟩, 1, 1, [(⟨4, a4, 1, 1, [⟨b4, 1, 1, [2], zero32, 0, 0⟩]⟩ : POut)], noOp, none, 0, 0, []⟩ : PTx)).toArray, .slice (some ⟨p7, 0, none⟩) 1 1] W fun e w' => ∃ y : PTx, e = .returned (.agg y.cells.toArray) ∧ TxIn w' y ∧ y.strip = (awTx [⟨1, next18⟩]).strip ∧ AllT (W.heap.size ≤ ·) y ∧ Below W.heap.size W w') := Lib.hid fun W p3 p5 p7 a4 b4 hW h3 h5 h7 hw => by
    have e := HS0.out
    subst e
    have g3 : SliceOf inK W (some ⟨p3, 0, none⟩) 1 1 [⟨sum18, 0, 0, none, 0, 0, []⟩] := slice_one (K := inK) h3 ⟨HSL.out, f0, f0, Row.nil W⟩
    have g5 : SliceOf outK W (some ⟨p5, 0, none⟩) 1 1 [(⟨4, a4, 1, 1, [⟨b4, 1, 1, [2], zero32, 0, 0⟩]⟩ : POut)] := slice_one (K := outK) h5 ⟨f4, hw⟩
    have ht : TxIn W (⟨some ⟨p3, 0, none⟩, 1, 1, [⟨sum18, 0, 0, none, 0, 0, []⟩], some ⟨p5, 0, none⟩, 1, 1, [(⟨4, a4, 1, 1, [⟨b4, 1, 1, [2], zero32, 0, 0⟩]⟩ : POut)], noOp, none, 0, 0, []⟩ : PTx) := ⟨g3, g5, ⟨f0, f0, f0, f0, rfl, Row.nil W⟩, SliceOf.nil _ _⟩
    have hff : FrontFew false (⟨some ⟨p3, 0, none⟩, 1, 1, [⟨sum18, 0, 0, none, 0, 0, []⟩], some ⟨p5, 0, none⟩, 1, 1, [(⟨4, a4, 1, 1, [⟨b4, 1, 1, [2], zero32, 0, 0⟩]⟩ : POut)], noOp, none, 0, 0, []⟩ : PTx) := frontFew false ht (by show 1 ≤ 20; omega) (by show 1 ≤ 20; omega) (fun y hy => (by simp at hy; subst hy; show 0 ≤ 100; omega)) (fun z hz => (by simp at hz; subst hz; exact ⟨by show 1 ≤ 20; omega, fun u hu => (by simp at hu; subst hu; show [(2 : Int)].length ≤ 20; simp)⟩)) (by show 0 ≤ 65536; omega)
    have hf : FewTx (⟨some ⟨p3, 0, none⟩, 1, 1, [⟨sum18, 0, 0, none, 0, 0, []⟩], some ⟨p5, 0, none⟩, 1, 1, [(⟨4, a4, 1, 1, [⟨b4, 1, 1, [2], zero32, 0, 0⟩]⟩ : POut)], noOp, none, 0, 0, []⟩ : PTx) := ⟨by show 1 ≤ 1000; omega, by show 1 ≤ 1000; omega, .inr (Nat.le_refl _), .inr (Nat.le_refl _), fun y hy => (by simp at hy; subst hy; show 0 ≤ 100000; omega), fun z hz => (by simp at hz; subst hz; exact ⟨.inr (Nat.le_refl _), by show 1 ≤ 1000; omega⟩), fun z hz u hu => (by simp at hz; subst hz; simp at hu; subst hu; show [(2 : Int)].length ≤ 100000; simp), by show 0 ≤ 100000; omega, rfl, rfl, rfl, rfl⟩
    have h9 := txSigned_any ht hf hff (HKS.out.below (bthen HB2.out hW)) (numbers_one h7 f1) f1
    rw [next18_is] at h9
    refine h9.mono ?_
    rintro e w' ⟨y, rfl, k1, k2, k3, k4⟩
    exact ⟨y, rfl, k1, awStrip18 k2, ⟨k3.all, k3.signs⟩, k4⟩
  have HLF := Lib.hid HLOW.out
  have HLQ : Hid (w1b.heap.size ≤ w2.heap.size) := Lib.hid (Nat.le_trans HS1.out HBX.out.size)
  clear f0 f1 f2 f4 f5 HTO1 HNEW HW1 HB1 HP1 HW1b HLED1 HLED2 HG2 HQ2 HCD HBX HB1d
  try simp only [Act.put]
  go_upto_region 4 with (fail)
  go_cut [4] from 18 to 26 (fun u w' => ∃ (p9 : Nat) (y : PTx), u = .pointer (some ⟨p9, 0, none⟩) ∧ w'.heap[p9]? = some (.cells y.cells.toArray 50 (0, 0)) ∧ TxIn w' y ∧ y.strip = (awTx [⟨1, next18⟩]).strip ∧ AllT (w2.heap.size ≤ ·) y ∧ w2.heap.size ≤ p9 ∧ Below w2.heap.size w2 w')
  case first =>
    try simp only [Act.put]
    refine wp_region_held_drew (S := fun w' => Below w2.heap.size w2 w') (by kernel_rfl) (below_drew (Below.refl _ _)) (fun hHeld => ?_)
    refine tkA 0 rfl rfl (yieldsIf_load_mid (by rfl) _ _ rfl g2 0 rfl (cellsOf S0) _ (fun w0 hSw => range_of (keep hSw HI2.out)) Tryz.underlying28 rfl SSL.out) ?_
    refine tkA 1 rfl rfl (yields_build10 (by rfl) rfl (vs := [(0, .agg (cellsOf S0).toArray)]) (by rfl) (build_ref1_18 HSL.out)) ?_
    refine tkA 2 rfl rfl (yields_build10 (by rfl) rfl (vs := [(0, .agg (refCells S0 0).toArray)]) (by rfl) (build_in14 0 HSL.out)) ?_
    refine wpAnyH_ready (rs := [3, 4, 7, 9]) (by kernel_rfl) (by simp) (AllReadyH.cons rfl (fun K hK => ?_) (AllReadyH.cons rfl (fun K hK => ?_) (AllReadyH.cons rfl (fun K hK => ?_) (AllReadyH.cons rfl (fun K hK => ?_) AllReadyH.nil))))
    all_goals (first | (refine step_lit_of Tryz.inAt14 (d := 21) (x := (⟨S0, 0, 0, none, 0, 0, []⟩ : PIn)) rfl (by rfl) rfl (by rfl) (PIn.len HSL.out) ?_; intro p3 y1 hp hh hb; (try (have HP3 := Lib.hid (keep hb HP3.out))); (try (have HW4 := Lib.hid (HW4.out.below hb))); (try (have HP5 := Lib.hid (keep hb HP5.out))); (try (have HP7 := Lib.hid (keep hb HP7.out))); (try (have HY := Lib.hid (HY.out.below hb))); (try (have HP9 := Lib.hid (keep hb HP9.out))); have HP3 := Lib.hid (show y1.heap[p3]? = some (.cells (PIn.cells (⟨S0, 0, 0, none, 0, 0, []⟩ : PIn)).toArray 93 (0, 0)) from hh); have HX := Lib.hid (bthen hHeld hb); clear hp hh hb; refine hK.out _ _ (by (try dsimp only); exact HX.out) (fun hHeld => ?_); clear hK K) | (refine step_int18 (d := 25) (y := 1) rfl (by rfl) rfl (by rfl) ?_; intro p7 y1 hp hh hb; (try (have HP3 := Lib.hid (keep hb HP3.out))); (try (have HW4 := Lib.hid (HW4.out.below hb))); (try (have HP5 := Lib.hid (keep hb HP5.out))); (try (have HP7 := Lib.hid (keep hb HP7.out))); (try (have HY := Lib.hid (HY.out.below hb))); (try (have HP9 := Lib.hid (keep hb HP9.out))); have HP7 := Lib.hid hh; have HX := Lib.hid (bthen hHeld hb); clear hp hh hb; refine hK.out _ _ (by (try dsimp only); exact HX.out) (fun hHeld => ?_); clear hK K) | (refine step_alloc10 (d := 4) rfl (by rfl) 50 rfl noTx.cells.toArray Tryz.zeroTx14 ?_; intro p9 y1 hp hh hb; (try (have HA9 : Hid (AllT (· ≠ p9) y) := Lib.hid (HY.out.ltT.mono fun k hk => by omega))); (try (have HP3 := Lib.hid (keep hb HP3.out))); (try (have HW4 := Lib.hid (HW4.out.below hb))); (try (have HP5 := Lib.hid (keep hb HP5.out))); (try (have HP7 := Lib.hid (keep hb HP7.out))); (try (have HY := Lib.hid (HY.out.below hb))); (try (have HP9 := Lib.hid (keep hb HP9.out))); have HP9 := Lib.hid hh; have PB9 : Hid (w2.heap.size ≤ p9) := Lib.hid (Nat.le_trans (Below.size hHeld) hp); have HX := Lib.hid (bthen hHeld hb); clear hp hh hb; refine hK.out _ _ (by (try dsimp only); exact HX.out) (fun hHeld => ?_); clear hK K) | (have HCx := Lib.hid (HTO.out); go_simp; go_wp2_with ((go_at_call 37; (with_reducible refine (HCx.out _).mono ?_); rintro e y1 ⟨a4, b4, rfl, hw, hb⟩; (try (have HP3 := Lib.hid (keep hb HP3.out))); (try (have HW4 := Lib.hid (HW4.out.below hb))); (try (have HP5 := Lib.hid (keep hb HP5.out))); (try (have HP7 := Lib.hid (keep hb HP7.out))); (try (have HY := Lib.hid (HY.out.below hb))); (try (have HP9 := Lib.hid (keep hb HP9.out))); have HW4 := Lib.hid hw; have HX := Lib.hid (bthen hHeld hb); clear hw hb HCx)); refine hK.out _ _ (by (try dsimp only); exact HX.out) (fun hHeld => ?_); clear hK K))
    all_goals (first | (refine wpAnyH_ready (rs := [3, 5, 7, 9]) (by decide +kernel) (by simp) (AllReadyH.cons rfl (fun K hK => ?_) (AllReadyH.cons rfl (fun K hK => ?_) (AllReadyH.cons rfl (fun K hK => ?_) (AllReadyH.cons rfl (fun K hK => ?_) AllReadyH.nil))))) | (refine wpAnyH_ready (rs := [3, 4, 7]) (by decide +kernel) (by simp) (AllReadyH.cons rfl (fun K hK => ?_) (AllReadyH.cons rfl (fun K hK => ?_) (AllReadyH.cons rfl (fun K hK => ?_) AllReadyH.nil)))) | (refine wpAnyH_ready (rs := [3, 4, 9]) (by decide +kernel) (by simp) (AllReadyH.cons rfl (fun K hK => ?_) (AllReadyH.cons rfl (fun K hK => ?_) (AllReadyH.cons rfl (fun K hK => ?_) AllReadyH.nil)))) | (refine wpAnyH_ready (rs := [4, 7, 9]) (by decide +kernel) (by simp) (AllReadyH.cons rfl (fun K hK => ?_) (AllReadyH.cons rfl (fun K hK => ?_) (AllReadyH.cons rfl (fun K hK => ?_) AllReadyH.nil)))))
    all_goals (first | (refine step_lit_of Tryz.inAt14 (d := 21) (x := (⟨S0, 0, 0, none, 0, 0, []⟩ : PIn)) rfl (by rfl) rfl (by rfl) (PIn.len HSL.out) ?_; intro p3 y1 hp hh hb; (try (have HP3 := Lib.hid (keep hb HP3.out))); (try (have HW4 := Lib.hid (HW4.out.below hb))); (try (have HP5 := Lib.hid (keep hb HP5.out))); (try (have HP7 := Lib.hid (keep hb HP7.out))); (try (have HY := Lib.hid (HY.out.below hb))); (try (have HP9 := Lib.hid (keep hb HP9.out))); have HP3 := Lib.hid (show y1.heap[p3]? = some (.cells (PIn.cells (⟨S0, 0, 0, none, 0, 0, []⟩ : PIn)).toArray 93 (0, 0)) from hh); have HX := Lib.hid (bthen hHeld hb); clear hp hh hb; refine hK.out _ _ (by (try dsimp only); exact HX.out) (fun hHeld => ?_); clear hK K) | (refine step_lit_of Tryz.outAt14 (d := 23) (x := (⟨4, a4, 1, 1, [⟨b4, 1, 1, [2], zero32, 0, 0⟩]⟩ : POut)) rfl (by rfl) rfl (by rfl) rfl ?_; intro p5 y1 hp hh hb; (try (have HP3 := Lib.hid (keep hb HP3.out))); (try (have HW4 := Lib.hid (HW4.out.below hb))); (try (have HP5 := Lib.hid (keep hb HP5.out))); (try (have HP7 := Lib.hid (keep hb HP7.out))); (try (have HY := Lib.hid (HY.out.below hb))); (try (have HP9 := Lib.hid (keep hb HP9.out))); have HP5 := Lib.hid (show y1.heap[p5]? = some (.cells (POut.cells (⟨4, a4, 1, 1, [⟨b4, 1, 1, [2], zero32, 0, 0⟩]⟩ : POut)).toArray 107 (0, 0)) from hh); have HX := Lib.hid (bthen hHeld hb); clear hp hh hb; refine hK.out _ _ (by (try dsimp only); exact HX.out) (fun hHeld => ?_); clear hK K) | (refine step_int18 (d := 25) (y := 1) rfl (by rfl) rfl (by rfl) ?_; intro p7 y1 hp hh hb; (try (have HP3 := Lib.hid (keep hb HP3.out))); (try (have HW4 := Lib.hid (HW4.out.below hb))); (try (have HP5 := Lib.hid (keep hb HP5.out))); (try (have HP7 := Lib.hid (keep hb HP7.out))); (try (have HY := Lib.hid (HY.out.below hb))); (try (have HP9 := Lib.hid (keep hb HP9.out))); have HP7 := Lib.hid hh; have HX := Lib.hid (bthen hHeld hb); clear hp hh hb; refine hK.out _ _ (by (try dsimp only); exact HX.out) (fun hHeld => ?_); clear hK K) | (refine step_alloc10 (d := 4) rfl (by rfl) 50 rfl noTx.cells.toArray Tryz.zeroTx14 ?_; intro p9 y1 hp hh hb; (try (have HA9 : Hid (AllT (· ≠ p9) y) := Lib.hid (HY.out.ltT.mono fun k hk => by omega))); (try (have HP3 := Lib.hid (keep hb HP3.out))); (try (have HW4 := Lib.hid (HW4.out.below hb))); (try (have HP5 := Lib.hid (keep hb HP5.out))); (try (have HP7 := Lib.hid (keep hb HP7.out))); (try (have HY := Lib.hid (HY.out.below hb))); (try (have HP9 := Lib.hid (keep hb HP9.out))); have HP9 := Lib.hid hh; have PB9 : Hid (w2.heap.size ≤ p9) := Lib.hid (Nat.le_trans (Below.size hHeld) hp); have HX := Lib.hid (bthen hHeld hb); clear hp hh hb; refine hK.out _ _ (by (try dsimp only); exact HX.out) (fun hHeld => ?_); clear hK K) | (have HCx := Lib.hid (HTO.out); go_simp; go_wp2_with ((go_at_call 37; (with_reducible refine (HCx.out _).mono ?_); rintro e y1 ⟨a4, b4, rfl, hw, hb⟩; (try (have HP3 := Lib.hid (keep hb HP3.out))); (try (have HW4 := Lib.hid (HW4.out.below hb))); (try (have HP5 := Lib.hid (keep hb HP5.out))); (try (have HP7 := Lib.hid (keep hb HP7.out))); (try (have HY := Lib.hid (HY.out.below hb))); (try (have HP9 := Lib.hid (keep hb HP9.out))); have HW4 := Lib.hid hw; have HX := Lib.hid (bthen hHeld hb); clear hw hb HCx)); refine hK.out _ _ (by (try dsimp only); exact HX.out) (fun hHeld => ?_); clear hK K))
    all_goals (first | (refine wpAnyH_ready (rs := [3, 5, 7]) (by decide +kernel) (by simp) (AllReadyH.cons rfl (fun K hK => ?_) (AllReadyH.cons rfl (fun K hK => ?_) (AllReadyH.cons rfl (fun K hK => ?_) AllReadyH.nil)))) | (refine wpAnyH_ready (rs := [3, 5, 9]) (by decide +kernel) (by simp) (AllReadyH.cons rfl (fun K hK => ?_) (AllReadyH.cons rfl (fun K hK => ?_) (AllReadyH.cons rfl (fun K hK => ?_) AllReadyH.nil)))) | (refine wpAnyH_ready (rs := [3, 7, 9]) (by decide +kernel) (by simp) (AllReadyH.cons rfl (fun K hK => ?_) (AllReadyH.cons rfl (fun K hK => ?_) (AllReadyH.cons rfl (fun K hK => ?_) AllReadyH.nil)))) | (refine wpAnyH_ready (rs := [5, 7, 9]) (by decide +kernel) (by simp) (AllReadyH.cons rfl (fun K hK => ?_) (AllReadyH.cons rfl (fun K hK => ?_) (AllReadyH.cons rfl (fun K hK => ?_) AllReadyH.nil)))) | (refine wpAnyH_ready (rs := [3, 4]) (by decide +kernel) (by simp) (AllReadyH.cons rfl (fun K hK => ?_) (AllReadyH.cons rfl (fun K hK => ?_) AllReadyH.nil))) | (refine wpAnyH_ready (rs := [4, 7]) (by decide +kernel) (by simp) (AllReadyH.cons rfl (fun K hK => ?_) (AllReadyH.cons rfl (fun K hK => ?_) AllReadyH.nil))) | (refine wpAnyH_ready (rs := [4, 9]) (by decide +kernel) (by simp) (AllReadyH.cons rfl (fun K hK => ?_) (AllReadyH.cons rfl (fun K hK => ?_) AllReadyH.nil))))
    all_goals (first | (refine step_lit_of Tryz.inAt14 (d := 21) (x := (⟨S0, 0, 0, none, 0, 0, []⟩ : PIn)) rfl (by rfl) rfl (by rfl) (PIn.len HSL.out) ?_; intro p3 y1 hp hh hb; (try (have HP3 := Lib.hid (keep hb HP3.out))); (try (have HW4 := Lib.hid (HW4.out.below hb))); (try (have HP5 := Lib.hid (keep hb HP5.out))); (try (have HP7 := Lib.hid (keep hb HP7.out))); (try (have HY := Lib.hid (HY.out.below hb))); (try (have HP9 := Lib.hid (keep hb HP9.out))); have HP3 := Lib.hid (show y1.heap[p3]? = some (.cells (PIn.cells (⟨S0, 0, 0, none, 0, 0, []⟩ : PIn)).toArray 93 (0, 0)) from hh); have HX := Lib.hid (bthen hHeld hb); clear hp hh hb; refine hK.out _ _ (by (try dsimp only); exact HX.out) (fun hHeld => ?_); clear hK K) | (refine step_lit_of Tryz.outAt14 (d := 23) (x := (⟨4, a4, 1, 1, [⟨b4, 1, 1, [2], zero32, 0, 0⟩]⟩ : POut)) rfl (by rfl) rfl (by rfl) rfl ?_; intro p5 y1 hp hh hb; (try (have HP3 := Lib.hid (keep hb HP3.out))); (try (have HW4 := Lib.hid (HW4.out.below hb))); (try (have HP5 := Lib.hid (keep hb HP5.out))); (try (have HP7 := Lib.hid (keep hb HP7.out))); (try (have HY := Lib.hid (HY.out.below hb))); (try (have HP9 := Lib.hid (keep hb HP9.out))); have HP5 := Lib.hid (show y1.heap[p5]? = some (.cells (POut.cells (⟨4, a4, 1, 1, [⟨b4, 1, 1, [2], zero32, 0, 0⟩]⟩ : POut)).toArray 107 (0, 0)) from hh); have HX := Lib.hid (bthen hHeld hb); clear hp hh hb; refine hK.out _ _ (by (try dsimp only); exact HX.out) (fun hHeld => ?_); clear hK K) | (refine step_int18 (d := 25) (y := 1) rfl (by rfl) rfl (by rfl) ?_; intro p7 y1 hp hh hb; (try (have HP3 := Lib.hid (keep hb HP3.out))); (try (have HW4 := Lib.hid (HW4.out.below hb))); (try (have HP5 := Lib.hid (keep hb HP5.out))); (try (have HP7 := Lib.hid (keep hb HP7.out))); (try (have HY := Lib.hid (HY.out.below hb))); (try (have HP9 := Lib.hid (keep hb HP9.out))); have HP7 := Lib.hid hh; have HX := Lib.hid (bthen hHeld hb); clear hp hh hb; refine hK.out _ _ (by (try dsimp only); exact HX.out) (fun hHeld => ?_); clear hK K) | (refine step_alloc10 (d := 4) rfl (by rfl) 50 rfl noTx.cells.toArray Tryz.zeroTx14 ?_; intro p9 y1 hp hh hb; (try (have HA9 : Hid (AllT (· ≠ p9) y) := Lib.hid (HY.out.ltT.mono fun k hk => by omega))); (try (have HP3 := Lib.hid (keep hb HP3.out))); (try (have HW4 := Lib.hid (HW4.out.below hb))); (try (have HP5 := Lib.hid (keep hb HP5.out))); (try (have HP7 := Lib.hid (keep hb HP7.out))); (try (have HY := Lib.hid (HY.out.below hb))); (try (have HP9 := Lib.hid (keep hb HP9.out))); have HP9 := Lib.hid hh; have PB9 : Hid (w2.heap.size ≤ p9) := Lib.hid (Nat.le_trans (Below.size hHeld) hp); have HX := Lib.hid (bthen hHeld hb); clear hp hh hb; refine hK.out _ _ (by (try dsimp only); exact HX.out) (fun hHeld => ?_); clear hK K) | (have HCx := Lib.hid (HTO.out); go_simp; go_wp2_with ((go_at_call 37; (with_reducible refine (HCx.out _).mono ?_); rintro e y1 ⟨a4, b4, rfl, hw, hb⟩; (try (have HP3 := Lib.hid (keep hb HP3.out))); (try (have HW4 := Lib.hid (HW4.out.below hb))); (try (have HP5 := Lib.hid (keep hb HP5.out))); (try (have HP7 := Lib.hid (keep hb HP7.out))); (try (have HY := Lib.hid (HY.out.below hb))); (try (have HP9 := Lib.hid (keep hb HP9.out))); have HW4 := Lib.hid hw; have HX := Lib.hid (bthen hHeld hb); clear hw hb HCx)); refine hK.out _ _ (by (try dsimp only); exact HX.out) (fun hHeld => ?_); clear hK K))
    all_goals (try (refine tkA (hr := by decide +kernel) 6 rfl rfl (yields_build10 (by rfl) rfl (vs := [(0, .slice (some ⟨p3, 0, none⟩) 1 1), (1, .slice (some ⟨p5, 0, none⟩) 1 1)]) (by rfl) (build_tx14 (some ⟨p3, 0, none⟩) 1 1 [⟨S0, 0, 0, none, 0, 0, []⟩] (some ⟨p5, 0, none⟩) 1 1 [(⟨4, a4, 1, 1, [⟨b4, 1, 1, [2], zero32, 0, 0⟩]⟩ : POut)])) ?_))
    all_goals (first | (refine wpAnyH_ready (rs := [3, 5]) (by decide +kernel) (by simp) (AllReadyH.cons rfl (fun K hK => ?_) (AllReadyH.cons rfl (fun K hK => ?_) AllReadyH.nil))) | (refine wpAnyH_ready (rs := [3, 7]) (by decide +kernel) (by simp) (AllReadyH.cons rfl (fun K hK => ?_) (AllReadyH.cons rfl (fun K hK => ?_) AllReadyH.nil))) | (refine wpAnyH_ready (rs := [3, 9]) (by decide +kernel) (by simp) (AllReadyH.cons rfl (fun K hK => ?_) (AllReadyH.cons rfl (fun K hK => ?_) AllReadyH.nil))) | (refine wpAnyH_ready (rs := [5, 7]) (by decide +kernel) (by simp) (AllReadyH.cons rfl (fun K hK => ?_) (AllReadyH.cons rfl (fun K hK => ?_) AllReadyH.nil))) | (refine wpAnyH_ready (rs := [5, 9]) (by decide +kernel) (by simp) (AllReadyH.cons rfl (fun K hK => ?_) (AllReadyH.cons rfl (fun K hK => ?_) AllReadyH.nil))) | (refine wpAnyH_ready (rs := [7, 9]) (by decide +kernel) (by simp) (AllReadyH.cons rfl (fun K hK => ?_) (AllReadyH.cons rfl (fun K hK => ?_) AllReadyH.nil))) | (refine wpAnyH_ready (rs := [4]) (by decide +kernel) (by simp) (AllReadyH.cons rfl (fun K hK => ?_) AllReadyH.nil)))
    all_goals (first | (refine step_lit_of Tryz.inAt14 (d := 21) (x := (⟨S0, 0, 0, none, 0, 0, []⟩ : PIn)) rfl (by rfl) rfl (by rfl) (PIn.len HSL.out) ?_; intro p3 y1 hp hh hb; (try (have HP3 := Lib.hid (keep hb HP3.out))); (try (have HW4 := Lib.hid (HW4.out.below hb))); (try (have HP5 := Lib.hid (keep hb HP5.out))); (try (have HP7 := Lib.hid (keep hb HP7.out))); (try (have HY := Lib.hid (HY.out.below hb))); (try (have HP9 := Lib.hid (keep hb HP9.out))); have HP3 := Lib.hid (show y1.heap[p3]? = some (.cells (PIn.cells (⟨S0, 0, 0, none, 0, 0, []⟩ : PIn)).toArray 93 (0, 0)) from hh); have HX := Lib.hid (bthen hHeld hb); clear hp hh hb; refine hK.out _ _ (by (try dsimp only); exact HX.out) (fun hHeld => ?_); clear hK K) | (refine step_lit_of Tryz.outAt14 (d := 23) (x := (⟨4, a4, 1, 1, [⟨b4, 1, 1, [2], zero32, 0, 0⟩]⟩ : POut)) rfl (by rfl) rfl (by rfl) rfl ?_; intro p5 y1 hp hh hb; (try (have HP3 := Lib.hid (keep hb HP3.out))); (try (have HW4 := Lib.hid (HW4.out.below hb))); (try (have HP5 := Lib.hid (keep hb HP5.out))); (try (have HP7 := Lib.hid (keep hb HP7.out))); (try (have HY := Lib.hid (HY.out.below hb))); (try (have HP9 := Lib.hid (keep hb HP9.out))); have HP5 := Lib.hid (show y1.heap[p5]? = some (.cells (POut.cells (⟨4, a4, 1, 1, [⟨b4, 1, 1, [2], zero32, 0, 0⟩]⟩ : POut)).toArray 107 (0, 0)) from hh); have HX := Lib.hid (bthen hHeld hb); clear hp hh hb; refine hK.out _ _ (by (try dsimp only); exact HX.out) (fun hHeld => ?_); clear hK K) | (refine step_int18 (d := 25) (y := 1) rfl (by rfl) rfl (by rfl) ?_; intro p7 y1 hp hh hb; (try (have HP3 := Lib.hid (keep hb HP3.out))); (try (have HW4 := Lib.hid (HW4.out.below hb))); (try (have HP5 := Lib.hid (keep hb HP5.out))); (try (have HP7 := Lib.hid (keep hb HP7.out))); (try (have HY := Lib.hid (HY.out.below hb))); (try (have HP9 := Lib.hid (keep hb HP9.out))); have HP7 := Lib.hid hh; have HX := Lib.hid (bthen hHeld hb); clear hp hh hb; refine hK.out _ _ (by (try dsimp only); exact HX.out) (fun hHeld => ?_); clear hK K) | (refine step_alloc10 (d := 4) rfl (by rfl) 50 rfl noTx.cells.toArray Tryz.zeroTx14 ?_; intro p9 y1 hp hh hb; (try (have HA9 : Hid (AllT (· ≠ p9) y) := Lib.hid (HY.out.ltT.mono fun k hk => by omega))); (try (have HP3 := Lib.hid (keep hb HP3.out))); (try (have HW4 := Lib.hid (HW4.out.below hb))); (try (have HP5 := Lib.hid (keep hb HP5.out))); (try (have HP7 := Lib.hid (keep hb HP7.out))); (try (have HY := Lib.hid (HY.out.below hb))); (try (have HP9 := Lib.hid (keep hb HP9.out))); have HP9 := Lib.hid hh; have PB9 : Hid (w2.heap.size ≤ p9) := Lib.hid (Nat.le_trans (Below.size hHeld) hp); have HX := Lib.hid (bthen hHeld hb); clear hp hh hb; refine hK.out _ _ (by (try dsimp only); exact HX.out) (fun hHeld => ?_); clear hK K) | (have HCx := Lib.hid (HTO.out); go_simp; go_wp2_with ((go_at_call 37; (with_reducible refine (HCx.out _).mono ?_); rintro e y1 ⟨a4, b4, rfl, hw, hb⟩; (try (have HP3 := Lib.hid (keep hb HP3.out))); (try (have HW4 := Lib.hid (HW4.out.below hb))); (try (have HP5 := Lib.hid (keep hb HP5.out))); (try (have HP7 := Lib.hid (keep hb HP7.out))); (try (have HY := Lib.hid (HY.out.below hb))); (try (have HP9 := Lib.hid (keep hb HP9.out))); have HW4 := Lib.hid hw; have HX := Lib.hid (bthen hHeld hb); clear hw hb HCx)); refine hK.out _ _ (by (try dsimp only); exact HX.out) (fun hHeld => ?_); clear hK K))
    all_goals (try (refine tkA (hr := by decide +kernel) 6 rfl rfl (yields_build10 (by rfl) rfl (vs := [(0, .slice (some ⟨p3, 0, none⟩) 1 1), (1, .slice (some ⟨p5, 0, none⟩) 1 1)]) (by rfl) (build_tx14 (some ⟨p3, 0, none⟩) 1 1 [⟨S0, 0, 0, none, 0, 0, []⟩] (some ⟨p5, 0, none⟩) 1 1 [(⟨4, a4, 1, 1, [⟨b4, 1, 1, [2], zero32, 0, 0⟩]⟩ : POut)])) ?_))
    all_goals (first | (refine wpAnyH_ready (rs := [8, 9]) (by decide +kernel) (by simp) (AllReadyH.cons rfl (fun K hK => ?_) (AllReadyH.cons rfl (fun K hK => ?_) AllReadyH.nil))) | (refine wpAnyH_ready (rs := [3]) (by decide +kernel) (by simp) (AllReadyH.cons rfl (fun K hK => ?_) AllReadyH.nil)) | (refine wpAnyH_ready (rs := [5]) (by decide +kernel) (by simp) (AllReadyH.cons rfl (fun K hK => ?_) AllReadyH.nil)) | (refine wpAnyH_ready (rs := [7]) (by decide +kernel) (by simp) (AllReadyH.cons rfl (fun K hK => ?_) AllReadyH.nil)))
    all_goals (first | (refine step_lit_of Tryz.inAt14 (d := 21) (x := (⟨S0, 0, 0, none, 0, 0, []⟩ : PIn)) rfl (by rfl) rfl (by rfl) (PIn.len HSL.out) ?_; intro p3 y1 hp hh hb; (try (have HP3 := Lib.hid (keep hb HP3.out))); (try (have HW4 := Lib.hid (HW4.out.below hb))); (try (have HP5 := Lib.hid (keep hb HP5.out))); (try (have HP7 := Lib.hid (keep hb HP7.out))); (try (have HY := Lib.hid (HY.out.below hb))); (try (have HP9 := Lib.hid (keep hb HP9.out))); have HP3 := Lib.hid (show y1.heap[p3]? = some (.cells (PIn.cells (⟨S0, 0, 0, none, 0, 0, []⟩ : PIn)).toArray 93 (0, 0)) from hh); have HX := Lib.hid (bthen hHeld hb); clear hp hh hb; refine hK.out _ _ (by (try dsimp only); exact HX.out) (fun hHeld => ?_); clear hK K) | (refine step_lit_of Tryz.outAt14 (d := 23) (x := (⟨4, a4, 1, 1, [⟨b4, 1, 1, [2], zero32, 0, 0⟩]⟩ : POut)) rfl (by rfl) rfl (by rfl) rfl ?_; intro p5 y1 hp hh hb; (try (have HP3 := Lib.hid (keep hb HP3.out))); (try (have HW4 := Lib.hid (HW4.out.below hb))); (try (have HP5 := Lib.hid (keep hb HP5.out))); (try (have HP7 := Lib.hid (keep hb HP7.out))); (try (have HY := Lib.hid (HY.out.below hb))); (try (have HP9 := Lib.hid (keep hb HP9.out))); have HP5 := Lib.hid (show y1.heap[p5]? = some (.cells (POut.cells (⟨4, a4, 1, 1, [⟨b4, 1, 1, [2], zero32, 0, 0⟩]⟩ : POut)).toArray 107 (0, 0)) from hh); have HX := Lib.hid (bthen hHeld hb); clear hp hh hb; refine hK.out _ _ (by (try dsimp only); exact HX.out) (fun hHeld => ?_); clear hK K) | (refine step_int18 (d := 25) (y := 1) rfl (by rfl) rfl (by rfl) ?_; intro p7 y1 hp hh hb; (try (have HP3 := Lib.hid (keep hb HP3.out))); (try (have HW4 := Lib.hid (HW4.out.below hb))); (try (have HP5 := Lib.hid (keep hb HP5.out))); (try (have HP7 := Lib.hid (keep hb HP7.out))); (try (have HY := Lib.hid (HY.out.below hb))); (try (have HP9 := Lib.hid (keep hb HP9.out))); have HP7 := Lib.hid hh; have HX := Lib.hid (bthen hHeld hb); clear hp hh hb; refine hK.out _ _ (by (try dsimp only); exact HX.out) (fun hHeld => ?_); clear hK K) | (refine step_alloc10 (d := 4) rfl (by rfl) 50 rfl noTx.cells.toArray Tryz.zeroTx14 ?_; intro p9 y1 hp hh hb; (try (have HA9 : Hid (AllT (· ≠ p9) y) := Lib.hid (HY.out.ltT.mono fun k hk => by omega))); (try (have HP3 := Lib.hid (keep hb HP3.out))); (try (have HW4 := Lib.hid (HW4.out.below hb))); (try (have HP5 := Lib.hid (keep hb HP5.out))); (try (have HP7 := Lib.hid (keep hb HP7.out))); (try (have HY := Lib.hid (HY.out.below hb))); (try (have HP9 := Lib.hid (keep hb HP9.out))); have HP9 := Lib.hid hh; have PB9 : Hid (w2.heap.size ≤ p9) := Lib.hid (Nat.le_trans (Below.size hHeld) hp); have HX := Lib.hid (bthen hHeld hb); clear hp hh hb; refine hK.out _ _ (by (try dsimp only); exact HX.out) (fun hHeld => ?_); clear hK K) | (have HCx := Lib.hid (HSGN.out _ p3 p5 p7 a4 b4 hHeld HP3.out HP5.out HP7.out HW4.out); go_simp; go_wp2_with ((go_at_call 31; (with_reducible refine (HCx.out).mono ?_); rintro e y1 ⟨y, rfl, hy, hs, hn, hb⟩; have HNY : Hid (AllT (w2.heap.size ≤ ·) y) := Lib.hid (AllT.mono hn fun k hk => Nat.le_trans (Below.size hHeld) hk); (try (have HA9 : Hid (AllT (· ≠ p9) y) := Lib.hid (AllT.mono hn fun k hk => by have h9 := lt_of_block HP9.out; omega))); (try (have HP3 := Lib.hid (keep hb HP3.out))); (try (have HW4 := Lib.hid (HW4.out.below hb))); (try (have HP5 := Lib.hid (keep hb HP5.out))); (try (have HP7 := Lib.hid (keep hb HP7.out))); (try (have HY := Lib.hid (HY.out.below hb))); (try (have HP9 := Lib.hid (keep hb HP9.out))); have HY := Lib.hid hy; have HYS := Lib.hid hs; have HX := Lib.hid (bthen hHeld hb); clear hy hs hn hb HCx)); refine hK.out _ _ (by (try dsimp only); exact HX.out) (fun hHeld => ?_); clear hK K))
    all_goals (try (refine tkA (hr := by decide +kernel) 6 rfl rfl (yields_build10 (by rfl) rfl (vs := [(0, .slice (some ⟨p3, 0, none⟩) 1 1), (1, .slice (some ⟨p5, 0, none⟩) 1 1)]) (by rfl) (build_tx14 (some ⟨p3, 0, none⟩) 1 1 [⟨S0, 0, 0, none, 0, 0, []⟩] (some ⟨p5, 0, none⟩) 1 1 [(⟨4, a4, 1, 1, [⟨b4, 1, 1, [2], zero32, 0, 0⟩]⟩ : POut)])) ?_))
    all_goals (first | (refine wpAnyH_ready (rs := [8]) (by decide +kernel) (by simp) (AllReadyH.cons rfl (fun K hK => ?_) AllReadyH.nil)) | (refine wpAnyH_ready (rs := [9]) (by decide +kernel) (by simp) (AllReadyH.cons rfl (fun K hK => ?_) AllReadyH.nil)))
    all_goals (first | (refine step_alloc10 (d := 4) rfl (by rfl) 50 rfl noTx.cells.toArray Tryz.zeroTx14 ?_; intro p9 y1 hp hh hb; (try (have HA9 : Hid (AllT (· ≠ p9) y) := Lib.hid (HY.out.ltT.mono fun k hk => by omega))); (try (have HP3 := Lib.hid (keep hb HP3.out))); (try (have HW4 := Lib.hid (HW4.out.below hb))); (try (have HP5 := Lib.hid (keep hb HP5.out))); (try (have HP7 := Lib.hid (keep hb HP7.out))); (try (have HY := Lib.hid (HY.out.below hb))); (try (have HP9 := Lib.hid (keep hb HP9.out))); have HP9 := Lib.hid hh; have PB9 : Hid (w2.heap.size ≤ p9) := Lib.hid (Nat.le_trans (Below.size hHeld) hp); have HX := Lib.hid (bthen hHeld hb); clear hp hh hb; refine hK.out _ _ (by (try dsimp only); exact HX.out) (fun hHeld => ?_); clear hK K) | (have HCx := Lib.hid (HSGN.out _ p3 p5 p7 a4 b4 hHeld HP3.out HP5.out HP7.out HW4.out); go_simp; go_wp2_with ((go_at_call 31; (with_reducible refine (HCx.out).mono ?_); rintro e y1 ⟨y, rfl, hy, hs, hn, hb⟩; have HNY : Hid (AllT (w2.heap.size ≤ ·) y) := Lib.hid (AllT.mono hn fun k hk => Nat.le_trans (Below.size hHeld) hk); (try (have HA9 : Hid (AllT (· ≠ p9) y) := Lib.hid (AllT.mono hn fun k hk => by have h9 := lt_of_block HP9.out; omega))); (try (have HP3 := Lib.hid (keep hb HP3.out))); (try (have HW4 := Lib.hid (HW4.out.below hb))); (try (have HP5 := Lib.hid (keep hb HP5.out))); (try (have HP7 := Lib.hid (keep hb HP7.out))); (try (have HY := Lib.hid (HY.out.below hb))); (try (have HP9 := Lib.hid (keep hb HP9.out))); have HY := Lib.hid hy; have HYS := Lib.hid hs; have HX := Lib.hid (bthen hHeld hb); clear hy hs hn hb HCx)); refine hK.out _ _ (by (try dsimp only); exact HX.out) (fun hHeld => ?_); clear hK K))
    all_goals (refine tkR 10 rfl (fun K hK => ?_))
    all_goals (refine step_row10 (by rfl) 50 _ _ rfl p9 y.cells (by rfl) (by rfl) 50 noTx.cells HP9.out (tx_size HY.out.op.root) (by rw [PTx.len HY.out.op.root]; rfl) y.one (fun y2 hh hb => ?_); have HYZ := Lib.hid (HY.out.butT HA9.out hb); have HPZ := Lib.hid hh; have HX := Lib.hid (But.in hHeld hb PB9.out); clear hh hb; refine hK.out _ _ (by (try dsimp only); exact HX.out) (fun hHeld => ?_); clear hK K)
    all_goals (refine wpAnyH_done (by kernel_rfl) ?_ _)
    all_goals (have HBZ := Lib.hid (show Below w2.heap.size w2 y2 from hHeld); clear hHeld; go_wp2_with fail; go_meet; exact ⟨p9, y, rfl, HPZ.out, HYZ.out, HYS.out, HNY.out, PB9.out, HBZ.out⟩)
  case rest =>
    obtain ⟨p9, y, rfl, hp9, hy, hys, hyn, hpb, hb9⟩ := hcut
    have hfa := aw_facts hy hys
    obtain ⟨xa, xn, xc, hins, hxn⟩ := hfa.ins
    obtain ⟨z, hzs, hzm, hzok⟩ := hfa.outs
    have hl := HL2.out.below hb9
    have hu : LedUnder w2.heap.size pl vm db sb (.slice oa [S0].length oc) := HL2.out.under
    have hk9 := HKS.out.below (bthen HB2.out hb9)
    have hB : 0 < w1b.heap.size := Nat.lt_of_lt_of_le HKS.out.lt HB1b.out.size
    have e0 := HS0.out
    subst e0
    have hmay : MayCome w1b.heap.size w2.heap.size wc [⟨sum18, 0, ⟨5, a1, 1, 1, [⟨b1, 1, 1, [1], zero32, 0, 0⟩]⟩, 0⟩] F (fun _ _ => none) (txSum y) y 0 1 :=
      ⟨hy, hyn.mono fun b hb => .inr hb, hfa.few, hfa.front, (by rw [hfa.sn]; omega), ⟨(by rw [hfa.inn]; omega), (by rw [hfa.on]; omega)⟩, txSum_len _, fun _ => ⟨(by show 0 < 1; omega), (by rw [hins]; rfl), (by rw [hins]; rfl)⟩, fun _ => rfl, fun hs => HF.out _ (by show txSum y ≠ sum18; rw [hfa.sum]; exact apart18), fun _ => (by rw [hzs]; exact hzok), fun r hr => (by rw [hins] at hr; cases hr), by omega⟩
    have hopen : MayOpen [⟨sum18, 0, ⟨5, a1, 1, 1, [⟨b1, 1, 1, [1], zero32, 0, 0⟩]⟩, 0⟩] y ⟨sum18, 0, ⟨5, a1, 1, 1, [⟨b1, 1, 1, [1], zero32, 0, 0⟩]⟩, 0⟩ 1 := by
      have h9 := row_opens18 b1 a1
      refine ⟨by rw [hfa.inn]; omega, fun _ => ?_, fun _ => by rw [hins]; show xn ≤ 1000000; omega, by show (0 : Int) ≤ 0 ∧ (0 : Int) ≤ 1073741824; omega, by show (0 : Int) ≤ 5 ∧ (5 : Int) ≤ 1125899906842624; omega, by omega⟩
      rw [hins, hfa.sum, hfa.signs]
      exact ⟨h9.mem, h9.tx, h9.place, h9.way⟩
    have him : inM y ⟨sum18, 0, ⟨5, a1, 1, 1, [⟨b1, 1, 1, [1], zero32, 0, 0⟩]⟩, 0⟩ = 5 := by unfold inM; rw [if_neg (by rw [hfa.inn]; omega)]
    have hom : outsM y = 4 := by unfold outsM; rw [hzs]; simp [hzm]
    have hap := apply_ok (K := 5) hl (by omega) hmay hopen hfa.ok hfa.op (by rw [hzs]; intro q hq; simp at hq; subst hq; omega) (by rw [him, hom]; omega) (by rw [him, hom]; omega) hu hb9.size hk9 hB
    have hrows : rowsOut (rowsIn [⟨sum18, 0, ⟨5, a1, 1, 1, [⟨b1, 1, 1, [1], zero32, 0, 0⟩]⟩, 0⟩] y.ins 0) (txSum y) y.outs 1 = [⟨txSum y, 0, z, 1⟩] := by rw [hins, hzs]; rfl
    rw [hrows, him, hom, show (0 : Int) + (5 - 4) = 1 by omega] at hap
    have HAP := Lib.hid hap
    have HYI := Lib.hid hy
    have HYN := Lib.hid hyn
    have HYF := Lib.hid hfa
    have HP9 := Lib.hid hp9
    have HPB := Lib.hid hpb
    have HK9 := Lib.hid hk9
    have HZM := Lib.hid hzm
    have HB0 := Lib.hid hB
    have HBW := Lib.hid (bthen HB2.out hb9)
    have HLW := Lib.hid (Nat.le_trans HLQ.out hb9.size)
    have RP := Lib.hid (range_of hp9)
    have SY := Lib.hid (tx_size (x := y) hy.op.root)
    clear hp9 hy hys hyn hpb hb9 hfa hins hxn hzs hzok hl hu hk9 hB hmay hopen him hom hap hrows HL2 HSGN HTO hzm
    go_wp2_with (first
      | (refine wpList_loadw18 (by rfl) 50 _ rfl p9 0 rfl y.cells _ RP.out Tryz.underlying50 rfl SY.out ?_)
      | (go_at_call 12; (with_reducible refine HAP.out.mono ?_); rintro e w5 ⟨rfl, ⟨F5, oa5, oc5, hl5, hd5, _⟩, hm5⟩; have HL5 := Lib.hid hl5; have RP5 := Lib.hid (range_of (hm5.keep HP9.out (.inr HPB.out))); have HTW := Lib.hid (apply_twice (H := 1) hl5 ⟨HYI.out.mid hm5 HYN.out, HYF.out.front, by omega⟩ HYF.out.ok (HK9.out.block (hm5.same HK9.out.lt (.inl HB0.out))) hd5); have HBW5 := Lib.hid (HBW.out.trans ((hm5.below HLW.out).mono HLF.out)); clear hl5 hd5 hm5)
      | (refine wpList_loadw18 (by rfl) 50 _ rfl p9 0 rfl y.cells _ RP5.out Tryz.underlying50 rfl SY.out ?_)
      | (go_at_call 12; (with_reducible refine HTW.out.mono ?_); rintro e w6 ⟨rfl, hb6⟩; have HL6 := Lib.hid (HL5.out.below hb6); have HBW6 := Lib.hid (bthen HBW5.out hb6); have HWO := Lib.hid (worth18 HL6.out HZM.out); clear hb6)
      | (go_at_call 34; (with_reducible refine (fees_led HL6.out).mono ?_); rintro e w7 ⟨rfl, rfl⟩)
      | (go_at_call 18; (with_reducible refine HWO.out.mono ?_); rintro e w8 ⟨rfl, hb8⟩; have HBW8 := Lib.hid (bthen HBW6.out hb8); clear hb8)
      | fail)
    go_ret
    exact ⟨rfl, HBW8.out⟩
end Go.Proofs.YteddkkcheaghaaaGreatDoor
