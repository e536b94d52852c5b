/- Two receipts compared. No function of the program is named. -/
import Derived.Test.YtcmdpmialehjgaaGreatDoorRecMem
import Derived.Test.YtcmdpmialehjgaaGreatDoorMemory
import Derived.Laws.StructEq
namespace Go.Proofs.YtcmdpmialehjgaaGreatDoor
open Go.RowKit

set_option maxRecDepth 100000 in
theorem run_eqSumsIn (d : Nat) (s t : List UInt8) (hs : s.length = 32) (ht : t.length = 32) (W : World) : (Op.equalIn (d + 2) 23 (.agg (cellsOf s).toArray) (.agg (cellsOf t).toArray)).run Tryz.prog W = .ok (decide (s = t)) W := by
  obtain ⟨i0, hi, _⟩ := info_parts Tryz.info5
  have h := run_equalIn_array (P := Tryz.prog) W (d + 1) (cellsOf s).toArray (cellsOf t).toArray Tryz.underlying23 hi
  rw [Tryz.cells5] at h
  rw [h, run_eqItems_bytes d s t W _ (fun i hi => by rw [List.mem_range] at hi; omega)]
  congr 1
  rw [decide_eq_decide]
  constructor
  · intro h
    exact bytes_eq s t (by omega) (fun i hi => h i (by rw [List.mem_range]; omega))
  · rintro rfl i _
    rfl
theorem recpart_sum {x : PRec} {off : Nat} {s : List UInt8} (h : (x.cells.toArray.extract off (off + 32)) = (cellsOf s).toArray) (W : World) : (part 23 x.cells.toArray off).run Tryz.prog W = .ok (.agg (cellsOf s).toArray) W := by
  have h1 : (isAgg 23).run Tryz.prog W = .ok true W := by kernel_rfl
  have h2 : (sizeOf 23).run Tryz.prog W = .ok 32 W := by kernel_rfl
  simp only [part, Sem.run_bind, h1, h2, Result.andThen_ok, if_true, Sem.run_pure, h]
theorem recpart_int {x : PRec} {off : Nat} {z : Int} (h : x.cells.toArray[off]? = some (.int .i64 z)) (W : World) : (part 3 x.cells.toArray off).run Tryz.prog W = .ok (.int .i64 z) W := by
  have h1 : (isAgg 3).run Tryz.prog W = .ok false W := Tryz.isAgg3 W
  simp [part, Sem.run_bind, h1, Result.andThen_ok, Sem.run_pure, h]
theorem rec_hint_part {x : PRec} (h : RecIn x) : x.cells.toArray.extract 3 (3 + 32) = (cellsOf x.hint).toArray := by
  apply Array.toList_inj.1
  have e : (cellsOf x.hint).length = 32 := by rw [cellsOf_len, h.hint]
  simp [PRec.cells, e]
theorem rec_blob_part {x : PRec} (h : RecIn x) : x.cells.toArray.extract 35 (35 + 32) = (cellsOf x.blob).toArray := by
  apply Array.toList_inj.1
  have e : (cellsOf x.hint).length = 32 := by rw [cellsOf_len, h.hint]
  have e2 : (cellsOf x.blob).length = 32 := by rw [cellsOf_len, h.blob]
  simp [PRec.cells, e]
  exact List.take_of_length_le (by omega)
def recEq (x y : PRec) : Bool := decide (x.tower = y.tower) && (decide (x.channel = y.channel) && (decide (x.state = y.state) && (decide (x.hint = y.hint) && decide (x.blob = y.blob))))
theorem recEq_iff {x y : PRec} : recEq x y = true ↔ x = y := by
  obtain ⟨a, b, c, d, e⟩ := x
  obtain ⟨a', b', c', d', e'⟩ := y
  simp [recEq]
theorem recEq_same (x : PRec) : recEq x x = true := recEq_iff.2 rfl
set_option maxRecDepth 100000 in
theorem run_eqRecs (x y : PRec) (hx : RecIn x) (hy : RecIn y) (W : World) : (Op.equalIn 10000 25 (.agg x.cells.toArray) (.agg y.cells.toArray)).run Tryz.prog W = .ok (recEq x y) W := by
  rw [run_equalIn_struct W 9999 25 _ _ (by kernel_rfl) (by kernel_rfl)]
  have hf : (Tryz.prog.fieldsOf 25).toList.map (fun f => (f.name, f.type, f.offset)) = [("Tower", 3, 0), ("Channel", 3, 1), ("State", 3, 2), ("Hint", 23, 3), ("Blob", 23, 35)] := by kernel_rfl
  revert hf
  generalize (Tryz.prog.fieldsOf 25).toList = fs
  intro hf
  have hl : fs.length = 5 := by have h9 := congrArg List.length hf; simpa using h9
  obtain ⟨f1, fs, rfl⟩ : ∃ f1 l, fs = f1 :: l := by cases fs with
    | nil => simp at hl
    | cons f l => exact ⟨f, l, rfl⟩
  obtain ⟨f2, fs, rfl⟩ : ∃ f1 l, fs = f1 :: l := by cases fs with
    | nil => simp at hl
    | cons f l => exact ⟨f, l, rfl⟩
  obtain ⟨f3, fs, rfl⟩ : ∃ f1 l, fs = f1 :: l := by cases fs with
    | nil => simp at hl
    | cons f l => exact ⟨f, l, rfl⟩
  obtain ⟨f4, fs, rfl⟩ : ∃ f1 l, fs = f1 :: l := by cases fs with
    | nil => simp at hl
    | cons f l => exact ⟨f, l, rfl⟩
  obtain ⟨f5, fs, rfl⟩ : ∃ f1 l, fs = f1 :: l := by cases fs with
    | nil => simp at hl
    | cons f l => exact ⟨f, l, rfl⟩
  obtain rfl : fs = [] := List.eq_nil_of_length_eq_zero (by simpa using hl)
  simp only [List.map_cons, List.map_nil, List.cons.injEq, Prod.mk.injEq, and_true] at hf
  obtain ⟨⟨n1, t1, o1⟩, ⟨n2, t2, o2⟩, ⟨n3, t3, o3⟩, ⟨n4, t4, o4⟩, n5, t5, o5⟩ := hf
  have k1 : f1.name ≠ "_" := by rw [n1]; decide
  have g1 := run_equalIn_int (P := Tryz.prog) W 9998 3 .i64 .i64 x.tower y.tower Tryz.underlying3
  have a1 := recpart_int (x := x) (off := 0) (z := x.tower) rfl W
  have b1 := recpart_int (x := y) (off := 0) (z := y.tower) rfl W
  rw [show (x.tower == y.tower) = decide (x.tower = y.tower) by rw [Bool.eq_iff_iff]; simp] at g1
  have k2 : f2.name ≠ "_" := by rw [n2]; decide
  have g2 := run_equalIn_int (P := Tryz.prog) W 9998 3 .i64 .i64 x.channel y.channel Tryz.underlying3
  have a2 := recpart_int (x := x) (off := 1) (z := x.channel) rfl W
  have b2 := recpart_int (x := y) (off := 1) (z := y.channel) rfl W
  rw [show (x.channel == y.channel) = decide (x.channel = y.channel) by rw [Bool.eq_iff_iff]; simp] at g2
  have k3 : f3.name ≠ "_" := by rw [n3]; decide
  have g3 := run_equalIn_int (P := Tryz.prog) W 9998 3 .i64 .i64 x.state y.state Tryz.underlying3
  have a3 := recpart_int (x := x) (off := 2) (z := x.state) rfl W
  have b3 := recpart_int (x := y) (off := 2) (z := y.state) rfl W
  rw [show (x.state == y.state) = decide (x.state = y.state) by rw [Bool.eq_iff_iff]; simp] at g3
  have k4 : f4.name ≠ "_" := by rw [n4]; decide
  have g4 := run_eqSumsIn 9997 x.hint y.hint hx.hint hy.hint W
  have a4 := recpart_sum (rec_hint_part hx) W
  have b4 := recpart_sum (rec_hint_part hy) W
  have k5 : f5.name ≠ "_" := by rw [n5]; decide
  have g5 := run_eqSumsIn 9997 x.blob y.blob hx.blob hy.blob W
  have a5 := recpart_sum (rec_blob_part hx) W
  have b5 := recpart_sum (rec_blob_part hy) W
  unfold recEq
  generalize decide (x.tower = y.tower) = r1 at g1 ⊢
  generalize decide (x.channel = y.channel) = r2 at g2 ⊢
  generalize decide (x.state = y.state) = r3 at g3 ⊢
  generalize decide (x.hint = y.hint) = r4 at g4 ⊢
  generalize decide (x.blob = y.blob) = r5 at g5 ⊢
  rw [Op.eqFields, if_pos k1, t1, o1]
  rw [Sem.run_bind, a1, Result.andThen_ok, Sem.run_bind, b1, Result.andThen_ok, Sem.run_bind, g1, Result.andThen_ok]
  cases r1
  · simp [Sem.run_pure]
  simp only [Bool.not_true, Bool.false_eq_true, if_false]
  rw [Bool.true_and]
  rw [Op.eqFields, if_pos k2, t2, o2]
  rw [Sem.run_bind, a2, Result.andThen_ok, Sem.run_bind, b2, Result.andThen_ok, Sem.run_bind, g2, Result.andThen_ok]
  cases r2
  · simp [Sem.run_pure]
  simp only [Bool.not_true, Bool.false_eq_true, if_false]
  rw [Bool.true_and]
  rw [Op.eqFields, if_pos k3, t3, o3]
  rw [Sem.run_bind, a3, Result.andThen_ok, Sem.run_bind, b3, Result.andThen_ok, Sem.run_bind, g3, Result.andThen_ok]
  cases r3
  · simp [Sem.run_pure]
  simp only [Bool.not_true, Bool.false_eq_true, if_false]
  rw [Bool.true_and]
  rw [Op.eqFields, if_pos k4, t4, o4]
  rw [Sem.run_bind, a4, Result.andThen_ok, Sem.run_bind, b4, Result.andThen_ok, Sem.run_bind, g4, Result.andThen_ok]
  cases r4
  · simp [Sem.run_pure]
  simp only [Bool.not_true, Bool.false_eq_true, if_false]
  rw [Bool.true_and]
  rw [Op.eqFields, if_pos k5, t5, o5]
  rw [Sem.run_bind, a5, Result.andThen_ok, Sem.run_bind, b5, Result.andThen_ok, Sem.run_bind, g5, Result.andThen_ok]
  cases r5
  · simp [Sem.run_pure]
  simp only [Bool.not_true, Bool.false_eq_true, if_false]
  simp [Op.eqFields, Sem.run_pure]
end Go.Proofs.YtcmdpmialehjgaaGreatDoor
