/- Two sums of 32 bytes are compared. -/
import Derived.Test.YtjmdkgjfcfnbiaaDoorJoin
import Derived.ChangeKeysEq
import Derived.Laws.StructEq
namespace Go.Proofs.YtjmdkgjfcfnbiaaDoor
open Go.RowKit

theorem Tryd.cells5 : Tryd.prog.cellsOf 5 = 1 := by kernel_rfl
theorem Tryd.plain5 : Tryd.prog.plainKey 5 = true := by kernel_rfl
theorem Tryd.info5 : (Tryd.prog.info? 5).map (fun i => (i.zero, i.size, i.bytes)) = some (some (.int .u8 0), 1, 1) := by kernel_rfl
theorem run_eqItems_bytes (d : Nat) (s t : List UInt8) (W : World) : ∀ is : List Nat, (∀ i ∈ is, i < s.length ∧ i < t.length) →
    (Op.eqItems (d + 1) 5 1 (cellsOf s).toArray (cellsOf t).toArray is).run Tryd.prog W = .ok (decide (∀ i ∈ is, s.getD i 0 = t.getD i 0)) W
  | [], _ => by simp [Op.eqItems]
  | i :: is, h => by
    have hi := h i (by simp)
    have ih := run_eqItems_bytes d s t W is (fun j hj => h j (by simp [hj]))
    have p1 : (part 5 (cellsOf s).toArray (i * 1)).run Tryd.prog W = .ok (.int .u8 (((s.getD i 0).toNat : Nat) : Int)) W := run_part_plain W Tryd.plain5 (by rw [Nat.mul_one]; simpa using cellsOf_get hi.1)
    have p2 : (part 5 (cellsOf t).toArray (i * 1)).run Tryd.prog W = .ok (.int .u8 (((t.getD i 0).toNat : Nat) : Int)) W := run_part_plain W Tryd.plain5 (by rw [Nat.mul_one]; simpa using cellsOf_get hi.2)
    have p3 := run_equalIn_int (P := Tryd.prog) W d 5 .u8 .u8 (((s.getD i 0).toNat : Nat) : Int) (((t.getD i 0).toNat : Nat) : Int) Tryd.underlying5
    simp only [Op.eqItems, Sem.run_bind, p1, p2, p3, Result.andThen_ok]
    by_cases e : s.getD i 0 = t.getD i 0
    · rw [show ((((s.getD i 0).toNat : Nat) : Int) == (((t.getD i 0).toNat : Nat) : Int)) = true by rw [e]; simp]
      simp only [Bool.not_true, Bool.false_eq_true, if_false]
      rw [ih]
      congr 1
      simp only [List.forall_mem_cons, e, true_and]
    · have hne : (((((s.getD i 0).toNat : Nat) : Int)) == (((t.getD i 0).toNat : Nat) : Int)) = false := by
        apply beq_eq_false_iff_ne.2
        intro h'
        apply e
        apply UInt8.toNat_inj.1
        omega
      rw [hne]
      simp only [Bool.not_false, if_true, Sem.run_pure]
      congr 1
      simp only [List.forall_mem_cons, e, false_and, decide_false]
theorem bytes_eq (s t : List UInt8) (hl : s.length = t.length) (h : ∀ i, i < s.length → s.getD i 0 = t.getD i 0) : s = t := by
  apply List.ext_getElem hl
  intro i h1 h2
  have := h i h1
  simpa [List.getD, h1, h2] using this
theorem run_eqSums (s t : List UInt8) (hs : s.length = 32) (ht : t.length = 32) (W : World) : (Op.equalIn 10000 23 (.agg (cellsOf s).toArray) (.agg (cellsOf t).toArray)).run Tryd.prog W = .ok (decide (s = t)) W := by
  obtain ⟨i0, hi, _⟩ := info_parts Tryd.info5
  have h := run_equalIn_array (P := Tryd.prog) W 9999 (cellsOf s).toArray (cellsOf t).toArray Tryd.underlying23 hi
  rw [Tryd.cells5] at h
  rw [h, run_eqItems_bytes 9998 s t W _ (fun i hi => by rw [List.mem_range] at hi; omega)]
  congr 1
  rw [decide_eq_decide]
  constructor
  · intro h
    exact bytes_eq s t (by omega) (fun i hi => h i (by rw [List.mem_range]; omega))
  · rintro rfl i _
    rfl
end Go.Proofs.YtjmdkgjfcfnbiaaDoor
