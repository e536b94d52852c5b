/- What the statements' own helpers come to: the example; bytes cut; a sum as bytes. -/
import Derived.Test.YtfjedbfghcdbdaaDoorJoin
import Derived.Lib.SlBytesConst
namespace Go.Proofs.YtfjedbfghcdbdaaDoor
open Go.RowKit

theorem abc_cells : (cellsOf (sumOf [97, 98, 99])).toArray = #[.int .u8 186, .int .u8 120, .int .u8 22, .int .u8 191, .int .u8 143, .int .u8 1, .int .u8 207, .int .u8 234, .int .u8 65, .int .u8 65, .int .u8 64, .int .u8 222, .int .u8 93, .int .u8 174, .int .u8 34, .int .u8 35, .int .u8 176, .int .u8 3, .int .u8 97, .int .u8 163, .int .u8 150, .int .u8 23, .int .u8 122, .int .u8 156, .int .u8 180, .int .u8 16, .int .u8 255, .int .u8 97, .int .u8 242, .int .u8 0, .int .u8 21, .int .u8 173] := by
  rw [sum_abc]; rfl
/-- The example's sum, as cells. -/
def abcRow : Array Value := #[.int .u8 186, .int .u8 120, .int .u8 22, .int .u8 191, .int .u8 143, .int .u8 1, .int .u8 207, .int .u8 234, .int .u8 65, .int .u8 65, .int .u8 64, .int .u8 222, .int .u8 93, .int .u8 174, .int .u8 34, .int .u8 35, .int .u8 176, .int .u8 3, .int .u8 97, .int .u8 163, .int .u8 150, .int .u8 23, .int .u8 122, .int .u8 156, .int .u8 180, .int .u8 16, .int .u8 255, .int .u8 97, .int .u8 242, .int .u8 0, .int .u8 21, .int .u8 173]
theorem of_abc {w : World} {a : Option Addr} {c : Nat} (h : Row w a 3 c [97, 98, 99]) (hk : KsAt w) : Calls Tryd.prog 8 #[.slice a 3 c] w fun e w' => e = .returned (.agg abcRow) ∧ Below w.heap.size w w' := by
  have := of_any h hk (by omega)
  rw [abc_cells] at this
  exact this
theorem abcRow_size : abcRow.size = 32 := rfl
theorem abcRow_all : abcRow.all (·.oneCell') = true := by decide +kernel
set_option maxRecDepth 100000 in
set_option maxHeartbeats 1600000 in
theorem awake_any {w : World} (hk : KsAt w) : Calls Tryd.prog 10 #[] w fun e w' => e = .returned (.bool true) ∧ Below w.heap.size w w' := by
  have HK := Lib.hid hk
  clear hk
  have kc := fun (w : World) (C : Array Value) (n c : Nat) => Lib.run_convert_bytes_const (P := Tryd.prog) w 22 5 C n c Tryd.underlying22 Tryd.underlying5
  go_enter Tryd.func10, Tryd.ntmps10
  go_wp2_with fail
  have b1 : Below w.heap.size w (w.alloc (.cells #[.int .u8 97, .int .u8 98, .int .u8 99] 5 (3, 4))) := (Below.refl _ _).alloc (Nat.le_refl _) _
  have r1 : Row (w.alloc (.cells #[.int .u8 97, .int .u8 98, .int .u8 99] 5 (3, 4))) (some ⟨w.heap.size, 0, none⟩) 3 3 [97, 98, 99] := row_all (t := 5) (heap_alloc_new _ _) 3 rfl (by omega)
  refine (of_abc r1 (HK.out.below b1)).mono ?_
  rintro e w1 ⟨rfl, hb1⟩
  have HB := Lib.hid (b1.trans (hb1.mono b1.size))
  clear b1 r1 hb1
  go_upto_region 2 with (refine wpList_store_row rfl 26 _ _ rfl w1.heap.size abcRow rfl rfl 26 (cellsOf zero32).toArray (heap_alloc_new _ _) (by rw [abcRow_size]; exact Tryd.size26) (by rw [abcRow_size]; rfl) abcRow_all ?_)
  rw [← zero32_is]
  have hg : ((w1.alloc (.cells (cellsOf zero32).toArray 26)).setRow w1.heap.size abcRow).heap[w1.heap.size]? = some (.cells abcRow 26 (0, 0)) := setRow_heap _ _ _ _ _ _ (heap_alloc_new _ _)
  have hb2 : Below w.heap.size w ((w1.alloc (.cells (cellsOf zero32).toArray 26)).setRow w1.heap.size abcRow) := by
    have b2 : Below w.heap.size w (w1.alloc (.cells (cellsOf zero32).toArray 26)) := HB.out.alloc HB.out.size _
    exact b2.trans (((but_setRow _ w1.heap.size _).mono b2.size).below HB.out.size)
  revert hg hb2
  generalize ((w1.alloc (.cells (cellsOf zero32).toArray 26)).setRow w1.heap.size abcRow) = w2
  generalize w1.heap.size = g
  intro hg hb2
  have c0 : w2.cell? ⟨g, 0, none⟩ = some (.int .u8 186) := cell_of_row w2 g 0 _ _ _ hg
  have c1 : w2.cell? ⟨g, 1, none⟩ = some (.int .u8 120) := cell_of_row w2 g 1 _ _ _ hg
  have c2 : w2.cell? ⟨g, 2, none⟩ = some (.int .u8 22) := cell_of_row w2 g 2 _ _ _ hg
  have c3 : w2.cell? ⟨g, 3, none⟩ = some (.int .u8 191) := cell_of_row w2 g 3 _ _ _ hg
  have c31 : w2.cell? ⟨g, 31, none⟩ = some (.int .u8 173) := cell_of_row w2 g 31 _ _ _ hg
  have HB2 := Lib.hid hb2
  clear hg hb2
  simp only [Act.put]
  go_wp2_with fail
  go_ret
  exact ⟨rfl, HB2.out⟩
theorem cut_any {w : World} {a : Option Addr} {n c : Nat} {l : List UInt8} (h : Row w a n c l) : Calls Tryd.prog 6 #[.slice a n c] w fun e w' => e = .returned (.slice a (min n 200) c) ∧ Row w a (min n 200) c (l.take 200) ∧ w = w' := by
  have hr : Row w a (min n 200) c (l.take 200) := by
    rw [show l.take 200 = l.take (min n 200) by rw [← h.1, List.take_eq_take_iff]; omega]
    exact h.take (by omega)
  have HR := Lib.hid hr
  have h1 := h.2.1
  have h2 := h.2.2.1
  unfold maxLen at h2
  clear h hr
  by_cases h200 : 200 < n
  · rw [Nat.min_eq_right (by omega)] at HR ⊢
    go_enter Tryd.func6, Tryd.ntmps6
    go_wp2
    go_ret
    exact ⟨rfl, HR.out, rfl⟩
  · rw [Nat.min_eq_left (by omega)] at HR ⊢
    go_enter Tryd.func6, Tryd.ntmps6
    go_wp2
    go_ret
    exact ⟨rfl, HR.out, rfl⟩
end Go.Proofs.YtfjedbfghcdbdaaDoor
