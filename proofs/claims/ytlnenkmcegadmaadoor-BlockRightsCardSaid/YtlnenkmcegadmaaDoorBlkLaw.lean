/- Law 19's small; heads compared. -/
import Derived.Test.YtlnenkmcegadmaaDoorBlkc
import Derived.Test.YtlnenkmcegadmaaDoorLaw8Small
namespace Go.Proofs.YtlnenkmcegadmaaDoor
open Go.RowKit

/-- Are transactions few and small? -/
def smallL (n : Nat) (xs : List PTx) : Bool := decide (n ≤ 20) && xs.all smallT
theorem smallT_in19 {w : World} {x : PTx} (h : TxIn w x) (hs : smallT x = true) : Small19 x ∧ x.sn ≤ 20 := by
  unfold smallT at hs
  simp only [Bool.and_eq_true, decide_eq_true_eq, List.all_eq_true] at hs
  obtain ⟨h1, h2, h3, h4, h5, h6⟩ := hs
  refine ⟨⟨by rw [h.ins.1]; exact h1, by rw [h.outs.1]; exact h2, fun y hy => ?_, fun z hz => ?_, by rw [h.op.data.1]; omega⟩, h3⟩
  · have h9 : InIn w y := h.ins.2.2.2.2.1 y hy
    rw [h9.pre.1]
    exact h5 y hy
  · have h9 := h6 z hz
    unfold fewO at h9
    simp only [Bool.and_eq_true, decide_eq_true_eq, List.all_eq_true] at h9
    exact ⟨h9.1, fun u hu => h9.2 u hu⟩
theorem smallL_in19 {w : World} {a : Option Addr} {n c : Nat} {xs : List PTx} (h : SliceOf txK w a n c xs) (hs : smallL n xs = true) : n ≤ 20 ∧ ∀ x ∈ xs, Small19 x ∧ x.sn ≤ 20 := by
  unfold smallL at hs
  simp only [Bool.and_eq_true, decide_eq_true_eq, List.all_eq_true] at hs
  exact ⟨hs.1, fun x hx => smallT_in19 (show TxIn w x from h.2.2.2.2.1 x hx) (hs.2 x hx)⟩
set_option linter.unusedSimpArgs false in
set_option maxRecDepth 100000 in
set_option maxHeartbeats 6400000 in
theorem smallL_any {w : World} {a : Option Addr} {n c : Nat} {xs : List PTx} (h : SliceOf txK w a n c xs) : Calls Tryd.prog 7 #[.slice a n c] w fun e w' => e = .returned (.bool (smallL n xs)) ∧ Below w.heap.size w w' := by
  have hn63 := h.len63
  obtain ⟨V, hV⟩ : ∃ V, smallL n xs = V := ⟨_, rfl⟩
  rw [hV]
  by_cases hn : n ≤ 20
  · have hV2 : xs.all smallT = V := by rw [← hV]; unfold smallL; simp [hn]
    have HV := Lib.hid hV2
    have HXL := Lib.hid h.1
    have H := Lib.hid h
    have f9 : ¬ (20 : Int) < (n : Int) := by omega
    clear hV hV2 h
    go_enter Tryd.func7, Tryd.ntmps7
    go_upto_region 4 with (fail)
    go_loopw [3] (fun i wr => ∃ (j : Nat), j ≤ n ∧ i = .int .i64 j ∧ (xs.drop j).all smallT = V ∧ Below w.heap.size w wr) (fun i _ => n - (intOf i).toNat)
    case atStart => exact ⟨0, Nat.zero_le _, rfl, HV.out, Below.refl _ _⟩
    case round =>
      obtain ⟨j, hj, rfl, hall, hbl⟩ := hrel
      have HALL := Lib.hid hall
      have HAT := Lib.hid (AtB.mk hbl)
      clear hall hbl
      by_cases hjn : j < n
      · have f1 : (j : Int) < (n : Int) := by omega
        have f0 : (0 : Int) ≤ (j : Int) := by omega
        have ft : ((j : Int)).toNat = j := by omega
        obtain ⟨b1, o1, e1, hlt1, hc1⟩ := (H.out.below HAT.out.below).2.2.2.2.2 (by omega)
        have hx := (H.out.below HAT.out.below).get hjn
        have hrx := hc1 j hjn
        replace hx : TxIn wr (xs.getD j noTx) := hx
        replace hrx : wr.rangeAt b1 (o1 + j * 40) (PTx.cells (xs.getD j noTx)) := hrx
        have hd : (xs.drop j) = xs.getD j noTx :: xs.drop (j + 1) := drop_getD (by rw [HXL.out]; exact hjn)
        have hall := HALL.out
        rw [hd] at hall
        revert hx hrx hall
        generalize xs.getD j noTx = y
        intro hx hrx hall
        subst e1
        have RX : Hid (wr.rangeAt b1 (o1 + j * 40) y.cells) := Lib.hid hrx
        have SY := Lib.hid (tx_size (x := y) hx.op.root)
        have HS := Lib.hid (small8_law hx)
        clear hc1 hrx hx hd HALL
        by_cases hy : smallT y = true
        · have HR : Hid ((xs.drop (j + 1)).all smallT = V) := Lib.hid (by rw [← hall, List.all_cons, hy]; rfl)
          rw [if_pos hy] at HS
          clear hall hy
          go_wp2_with (first
            | (refine wpList_load_mid rfl 50 _ rfl b1 (o1 + j * 40) rfl y.cells _ RX.out Tryd.underlying50 rfl SY.out ?_)
            | (go_at_call 20; (with_reducible refine HS.out.mono ?_); rintro e w5 ⟨rfl, hb⟩; have HA5 := Lib.hid (AtB.mk (bthen HAT.out.below hb)); clear hb) | fail)
          go_roundw
          case rel => exact ⟨j + 1, by omega, by go_num, HR.out, HA5.out.below⟩
          case measure => simp [intOf]; omega
        · have HR : Hid (V = false) := Lib.hid (by rw [← hall, List.all_cons]; simp [hy])
          rw [if_neg hy] at HS
          clear hall hy
          go_wp2_with (first
            | (refine wpList_load_mid rfl 50 _ rfl b1 (o1 + j * 40) rfl y.cells _ RX.out Tryd.underlying50 rfl SY.out ?_)
            | (go_at_call 20; (with_reducible refine HS.out.mono ?_); rintro e w5 ⟨rfl, hb⟩; have HA5 := Lib.hid (AtB.mk (bthen HAT.out.below hb)); clear hb) | fail)
          go_ret
          exact ⟨by rw [HR.out] <;> rfl, HA5.out.below⟩
      · obtain rfl : j = n := by omega
        have HR : Hid (V = true) := Lib.hid (by rw [← HALL.out, List.drop_of_length_le (by rw [HXL.out]; exact Nat.le_refl _)]; rfl)
        go_wp2_with fail
        go_ret
        exact ⟨by rw [HR.out] <;> rfl, HAT.out.below⟩
  · have HV : Hid (V = false) := Lib.hid (by rw [← hV]; unfold smallL; simp [hn])
    have f9 : (20 : Int) < (n : Int) := by omega
    clear hV h
    go_enter Tryd.func7, Tryd.ntmps7
    go_wp2_with fail
    go_ret
    exact ⟨by rw [HV.out] <;> rfl, Below.refl _ _⟩

/-! ### A head compared with itself -/
set_option maxRecDepth 100000 in
theorem run_eqSums19 (d : Nat) (s t : List UInt8) (hs : s.length = 32) (ht : t.length = 32) (W : World) : (Op.equalIn (d + 2) 23 (.agg (cellsOf s).toArray) (.agg (cellsOf t).toArray)).run Tryd.prog W = .ok (decide (s = t)) W := by
  obtain ⟨i0, hi, _⟩ := info_parts Tryd.info5
  have h := run_equalIn_array (P := Tryd.prog) W (d + 1) (cellsOf s).toArray (cellsOf t).toArray Tryd.underlying23 hi
  rw [Tryd.cells5] at h
  rw [h, run_eqItems_bytes d s t W _ (fun i hi => by rw [List.mem_range] at hi; omega)]
  congr 1
  rw [decide_eq_decide]
  constructor
  · intro h
    exact bytes_eq s t (by omega) (fun i hi => h i (by rw [List.mem_range]; omega))
  · rintro rfl i _
    rfl
theorem headpart_sum {x : PHead} {off : Nat} {s : List UInt8} (h : (x.cells.toArray.extract off (off + 32)) = (cellsOf s).toArray) (W : World) : (part 23 x.cells.toArray off).run Tryd.prog W = .ok (.agg (cellsOf s).toArray) W := by
  have h1 : (isAgg 23).run Tryd.prog W = .ok true W := by kernel_rfl
  have h2 : (sizeOf 23).run Tryd.prog W = .ok 32 W := by kernel_rfl
  simp only [part, Sem.run_bind, h1, h2, Result.andThen_ok, if_true, Sem.run_pure, h]
theorem headpart_int {x : PHead} {off : Nat} {z : Int} (h : x.cells.toArray[off]? = some (.int .i64 z)) (W : World) : (part 3 x.cells.toArray off).run Tryd.prog W = .ok (.int .i64 z) W := by
  have h1 : (isAgg 3).run Tryd.prog W = .ok false W := Tryd.isAgg3 W
  simp [part, Sem.run_bind, h1, Result.andThen_ok, Sem.run_pure, h]
theorem head_ahead_part {x : PHead} (h : HeadIn x) : x.cells.toArray.extract 0 (0 + 32) = (cellsOf x.ahead).toArray := by
  apply Array.toList_inj.1
  have e : (cellsOf x.ahead).length = 32 := by rw [cellsOf_len, h.ahead]
  simp [PHead.cells, e]
theorem head_root_part {x : PHead} (h : HeadIn x) : x.cells.toArray.extract 33 (33 + 32) = (cellsOf x.root).toArray := by
  apply Array.toList_inj.1
  have e : (cellsOf x.ahead).length = 32 := by rw [cellsOf_len, h.ahead]
  have e2 : (cellsOf x.root).length = 32 := by rw [cellsOf_len, h.root]
  simp [PHead.cells]
  rw [List.drop_append, List.drop_of_length_le (by omega), e]
  show List.take 32 (cellsOf x.root ++ [Value.int IntKind.i64 x.many]) = cellsOf x.root
  rw [List.take_append_of_le_length (by omega), List.take_of_length_le (by omega)]
theorem head_height_part {x : PHead} (h : HeadIn x) : x.cells.toArray[32]? = some (.int .i64 x.height) := by
  have e : (cellsOf x.ahead).length = 32 := by rw [cellsOf_len, h.ahead]
  simp [PHead.cells, e]
theorem head_many_part {x : PHead} (h : HeadIn x) : x.cells.toArray[65]? = some (.int .i64 x.many) := by
  have e : (cellsOf x.ahead).length = 32 := by rw [cellsOf_len, h.ahead]
  have e2 : (cellsOf x.root).length = 32 := by rw [cellsOf_len, h.root]
  rw [List.getElem?_toArray]
  show (cellsOf x.ahead ++ (Value.int IntKind.i64 x.height :: (cellsOf x.root ++ [Value.int IntKind.i64 x.many])))[65]? = _
  rw [List.getElem?_append_right (by omega), e]
  show (cellsOf x.root ++ [Value.int IntKind.i64 x.many])[32]? = _
  rw [List.getElem?_append_right (by omega), e2]
  rfl
theorem run_eqHead19 (x : PHead) (hx : HeadIn x) (W : World) : (Op.equalIn 10000 25 (.agg x.cells.toArray) (.agg x.cells.toArray)).run Tryd.prog W = .ok true W := by
  rw [run_equalIn_struct W 9999 25 _ _ (by kernel_rfl) (by kernel_rfl)]
  have hf : (Tryd.prog.fieldsOf 25).toList.map (fun f => (f.name, f.type, f.offset)) = [("Ahead", 23, 0), ("Height", 3, 32), ("Root", 23, 33), ("Many", 3, 65)] := by kernel_rfl
  revert hf
  generalize (Tryd.prog.fieldsOf 25).toList = fs
  intro hf
  have hl : fs.length = 4 := by have h9 := congrArg List.length hf; simpa using h9
  obtain ⟨f1, fs, rfl⟩ : ∃ f1 l, fs = f1 :: l := by cases fs with
    | nil => simp at hl
    | cons f l => exact ⟨f, l, rfl⟩
  obtain ⟨f2, fs, rfl⟩ : ∃ f1 l, fs = f1 :: l := by cases fs with
    | nil => simp at hl
    | cons f l => exact ⟨f, l, rfl⟩
  obtain ⟨f3, fs, rfl⟩ : ∃ f1 l, fs = f1 :: l := by cases fs with
    | nil => simp at hl
    | cons f l => exact ⟨f, l, rfl⟩
  obtain ⟨f4, fs, rfl⟩ : ∃ f1 l, fs = f1 :: l := by cases fs with
    | nil => simp at hl
    | cons f l => exact ⟨f, l, rfl⟩
  obtain rfl : fs = [] := List.eq_nil_of_length_eq_zero (by simpa using hl)
  simp only [List.map_cons, List.map_nil, List.cons.injEq, Prod.mk.injEq, and_true] at hf
  obtain ⟨⟨n1, t1, o1⟩, ⟨n2, t2, o2⟩, ⟨n3, t3, o3⟩, n4, t4, o4⟩ := hf
  have k1 : f1.name ≠ "_" := by rw [n1]; decide
  have g1 := run_eqSums19 9997 x.ahead x.ahead hx.ahead hx.ahead W
  have a1 := headpart_sum (head_ahead_part hx) W
  have k2 : f2.name ≠ "_" := by rw [n2]; decide
  have g2 := run_equalIn_int (P := Tryd.prog) W 9998 3 .i64 .i64 x.height x.height Tryd.underlying3
  have a2 := headpart_int (head_height_part hx) W
  have k3 : f3.name ≠ "_" := by rw [n3]; decide
  have g3 := run_eqSums19 9997 x.root x.root hx.root hx.root W
  have a3 := headpart_sum (head_root_part hx) W
  have k4 : f4.name ≠ "_" := by rw [n4]; decide
  have g4 := run_equalIn_int (P := Tryd.prog) W 9998 3 .i64 .i64 x.many x.many Tryd.underlying3
  have a4 := headpart_int (head_many_part hx) W
  rw [show decide (x.ahead = x.ahead) = true by simp] at g1
  rw [show (x.height == x.height) = true by simp] at g2
  rw [show decide (x.root = x.root) = true by simp] at g3
  rw [show (x.many == x.many) = true by simp] at g4
  rw [Op.eqFields, if_pos k1, t1, o1]
  rw [Sem.run_bind, a1, Result.andThen_ok, Sem.run_bind, a1, Result.andThen_ok, Sem.run_bind, g1, Result.andThen_ok]
  simp only [Bool.not_true, Bool.false_eq_true, if_false]
  rw [Op.eqFields, if_pos k2, t2, o2]
  rw [Sem.run_bind, a2, Result.andThen_ok, Sem.run_bind, a2, Result.andThen_ok, Sem.run_bind, g2, Result.andThen_ok]
  simp only [Bool.not_true, Bool.false_eq_true, if_false]
  rw [Op.eqFields, if_pos k3, t3, o3]
  rw [Sem.run_bind, a3, Result.andThen_ok, Sem.run_bind, a3, Result.andThen_ok, Sem.run_bind, g3, Result.andThen_ok]
  simp only [Bool.not_true, Bool.false_eq_true, if_false]
  rw [Op.eqFields, if_pos k4, t4, o4]
  rw [Sem.run_bind, a4, Result.andThen_ok, Sem.run_bind, a4, Result.andThen_ok, Sem.run_bind, g4, Result.andThen_ok]
  simp only [Bool.not_true, Bool.false_eq_true, if_false]
  simp [Op.eqFields, Sem.run_pure]
theorem no_guardH : Tryd.prog.eqGuardType Tryd.prog.depth 25 = false := by kernel_rfl
theorem wpList_eqlH19 {ops : Array Oper} {rest : List Oper} {o : Oper} {A : Act} {w : World} {Q : Exit → Act → World → Prop} (hw : Region.wanted o (yielded ops A.tmps) = true) {u v : Operand} {rt : TypeId} (ho : o.op = .binOp .eql 25 u v rt) (x : PHead) (hu : A.eval u = .agg x.cells.toArray) (hv : A.eval v = .agg x.cells.toArray) (hx : HeadIn x)
    (h : wpList Tryd.prog ops Q rest (A.put o.dst (.bool true)) w) : wpList Tryd.prog ops Q (o :: rest) A w :=
  wpList_step fun K hK => by
    have hr : (binOp .eql 25 (.agg x.cells.toArray) (.agg x.cells.toArray)).run Tryd.prog w = .ok (.bool true) w := by
      rw [run_eql_struct, run_eqHead19 x hx]
      rfl
    rw [if_pos hw]
    unfold Oper.wp execOp
    simp only [ho, hu, hv, run_eqGuard_agg w .eql 25 u v _ _ no_guardH, Sem.run_bind, Sem.run_pure, Result.andThen_ok, hr]
    exact hK _ _ h
theorem yields_neqH19 {S : World → Prop} {ops : Array Oper} {o : Oper} {a : Act} {u v : Operand} {rt : TypeId} {x : PHead} (hw : Region.wanted o (yielded ops a.tmps) = true) (ho : o.op = .binOp .neq 25 u v rt) (hu : a.eval u = .agg x.cells.toArray) (hv : a.eval v = .agg x.cells.toArray) (hx : HeadIn x) : YieldsIf Tryd.prog ops S o (.bool false) a :=
  .inl ⟨hw, fun w _ => by
    have h : (binOp .neq 25 (.agg x.cells.toArray) (.agg x.cells.toArray)).run Tryd.prog w = .ok (.bool false) w := by
      rw [run_neq_struct, run_eqHead19 x hx]
      rfl
    unfold execOp
    simp only [ho, hu, hv, run_eqGuard_agg w .neq 25 u v _ _ no_guardH, Sem.run_bind, Sem.run_pure, Result.andThen_ok, h]⟩
end Go.Proofs.YtlnenkmcegadmaaDoor
