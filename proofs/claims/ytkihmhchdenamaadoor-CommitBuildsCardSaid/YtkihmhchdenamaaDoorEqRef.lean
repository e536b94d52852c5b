/- Two refs (a sum and a place) compared. No function of the program is named. -/
import Derived.Test.YtkihmhchdenamaaDoorRefs
import Derived.Test.YtkihmhchdenamaaDoorMemory
import Derived.Laws.StructEq
namespace Go.Proofs.YtkihmhchdenamaaDoor
open Go.RowKit

set_option maxRecDepth 100000 in
theorem run_eqSumsAt (d : Nat) (s t : List UInt8) (hs : s.length = 32) (ht : t.length = 32) (W : World) : (Op.equalIn (d + 2) 23 (.agg (cellsOf s).toArray) (.agg (cellsOf t).toArray)).run Tryd.prog W = .ok (decide (s = t)) W := by
  obtain ⟨i0, hi, _⟩ := info_parts Tryd.info5
  have h := run_equalIn_array (P := Tryd.prog) W (d + 1) (cellsOf s).toArray (cellsOf t).toArray Tryd.underlying23 hi
  rw [Tryd.cells5] at h
  rw [h, run_eqItems_bytes d s t W _ (fun i hi => by rw [List.mem_range] at hi; omega)]
  congr 1
  rw [decide_eq_decide]
  constructor
  · intro h
    exact bytes_eq s t (by omega) (fun i hi => h i (by rw [List.mem_range]; omega))
  · rintro rfl i _
    rfl
theorem run_part_sum (s : List UInt8) (z : Int) (hs : s.length = 32) (W : World) : (part 23 (refCells s z).toArray 0).run Tryd.prog W = .ok (.agg (cellsOf s).toArray) W := by
  have h1 : (isAgg 23).run Tryd.prog W = .ok true W := by kernel_rfl
  have h2 : (sizeOf 23).run Tryd.prog W = .ok 32 W := by kernel_rfl
  have e : (refCells s z).toArray.extract 0 (0 + 32) = (cellsOf s).toArray := by
    apply Array.toList_inj.1
    simp [refCells, cellsOf_len, hs]
  simp only [part, Sem.run_bind, h1, h2, Result.andThen_ok, if_true, Sem.run_pure, e]
theorem run_part_place (s : List UInt8) (z : Int) (hs : s.length = 32) (W : World) : (part 3 (refCells s z).toArray 32).run Tryd.prog W = .ok (.int .i64 z) W := by
  have h1 : (isAgg 3).run Tryd.prog W = .ok false W := Tryd.isAgg3 W
  have e : (refCells s z).toArray[32]? = some (.int .i64 z) := by
    simp only [List.getElem?_toArray, refCells]
    rw [List.getElem?_append_right (by rw [cellsOf_len, hs]; omega), cellsOf_len, hs]
    rfl
  simp [part, Sem.run_bind, h1, Result.andThen_ok, Sem.run_pure, e]
theorem run_eqRefs (s t : List UInt8) (a b : Int) (hs : s.length = 32) (ht : t.length = 32) (W : World) : (Op.equalIn 10000 25 (.agg (refCells s a).toArray) (.agg (refCells t b).toArray)).run Tryd.prog W = .ok (decide (s = t) && decide (a = b)) W := by
  rw [run_equalIn_struct W 9999 25 _ _ (by kernel_rfl) (by kernel_rfl)]
  have hf : (Tryd.prog.fieldsOf 25).toList.map (fun f => (f.name, f.type, f.offset)) = [("Tx", 23, 0), ("At", 3, 32)] := by kernel_rfl
  revert hf
  generalize (Tryd.prog.fieldsOf 25).toList = fs
  intro hf
  have hl : fs.length = 2 := by have h9 := congrArg List.length hf; simpa using h9
  obtain ⟨f1, fs, rfl⟩ : ∃ f1 l, fs = f1 :: l := by cases fs with
    | nil => simp at hl
    | cons f l => exact ⟨f, l, rfl⟩
  obtain ⟨f2, fs, rfl⟩ : ∃ f2 l, fs = f2 :: l := by cases fs with
    | nil => simp at hl
    | cons f l => exact ⟨f, l, rfl⟩
  obtain rfl : fs = [] := List.eq_nil_of_length_eq_zero (by simpa using hl)
  simp only [List.map_cons, List.map_nil, List.cons.injEq, Prod.mk.injEq, and_true] at hf
  obtain ⟨⟨n1, t1, o1⟩, n2, t2, o2⟩ := hf
  have k1 : f1.name ≠ "_" := by rw [n1]; decide
  have k2 : f2.name ≠ "_" := by rw [n2]; decide
  have g1 := run_eqSumsAt 9997 s t hs ht W
  have g2 := run_equalIn_int (P := Tryd.prog) W 9998 3 .i64 .i64 a b Tryd.underlying3
  generalize hr : decide (s = t) = r at g1
  rw [Op.eqFields, if_pos k1, t1, o1]
  simp only [Sem.run_bind, run_part_sum s a hs, run_part_sum t b ht, Result.andThen_ok, g1]
  cases r
  · rfl
  · simp only [Bool.not_true, Bool.false_eq_true, if_false, Bool.true_and]
    rw [Op.eqFields, if_pos k2, t2, o2]
    simp only [Sem.run_bind, run_part_place s a hs, run_part_place t b ht, Result.andThen_ok, g2]
    by_cases h : a = b
    · subst h
      simp [Op.eqFields, Sem.run_pure]
    · have hb : (a == b) = false := by simpa using h
      rw [hb, decide_eq_false h]
      rfl
end Go.Proofs.YtkihmhchdenamaaDoor
