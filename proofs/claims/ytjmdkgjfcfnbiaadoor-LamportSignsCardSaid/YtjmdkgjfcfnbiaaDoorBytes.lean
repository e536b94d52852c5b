/- What wordOf and bytesOf come to: four bytes as a word, a word as four bytes. -/
import Derived.Test.YtjmdkgjfcfnbiaaDoorSpec
import Derived.Test.YtjmdkgjfcfnbiaaDoorMem
import Derived.Test.YtjmdkgjfcfnbiaaDoorSmall
namespace Go.Proofs.YtjmdkgjfcfnbiaaDoor
open Go.RowKit

theorem ret_int {k : IntKind} {a b : Int} (h : a = b) : Ending.returned (.int k a) = .returned (.int k b) := by rw [h]
theorem byte_lt (l : List UInt8) (i : Nat) : ∃ x, x = (l.getD i 0).toNat ∧ x < 256 := ⟨_, rfl, UInt8.toNat_lt _⟩
theorem join32 (i : Nat) (x y : Int) (hx0 : 0 ≤ x) (hx : x % 2 ^ i = 0) (hx1 : x < 4294967296) (hy0 : 0 ≤ y) (hy : y < 2 ^ i) (hy1 : y < 4294967296) : bits .or .u32 x y = x + y :=
  bits_join .u32 32 (by decide) (fun n h0 h1 => by rw [IntKind.wrap_u32']; omega) i x y hx0 hx (by omega) hy0 hy (by omega)
theorem word_or (x0 x1 x2 x3 : Nat) (h0 : x0 < 256) (h1 : x1 < 256) (h2 : x2 < 256) (h3 : x3 < 256) :
    bits .or .u32 (bits .or .u32 (bits .or .u32 ((x0 : Int) * 16777216) ((x1 : Int) * 65536)) ((x2 : Int) * 256)) (x3 : Int) = num (BitVec.ofNat 32 (x0 * 16777216 + x1 * 65536 + x2 * 256 + x3)) := by
  have j1 := join32 24 ((x0 : Int) * 16777216) ((x1 : Int) * 65536) (by omega) (by omega) (by omega) (by omega) (by omega) (by omega)
  have j2 := join32 16 ((x0 : Int) * 16777216 + (x1 : Int) * 65536) ((x2 : Int) * 256) (by omega) (by omega) (by omega) (by omega) (by omega) (by omega)
  have j3 := join32 8 ((x0 : Int) * 16777216 + (x1 : Int) * 65536 + (x2 : Int) * 256) (x3 : Int) (by omega) (by omega) (by omega) (by omega) (by omega) (by omega)
  rw [j1, j2, j3, num_ofNat _ (by omega)]
  simp

theorem wordOf_any {w : World} {a : Option Addr} {n c : Nat} {l : List UInt8} (h : Row w a n c l) (hn : 4 ≤ n) : Calls Tryd.prog 28 #[.slice a n c] w fun e w' => e = .returned (.int .u32 (num (word l 0))) ∧ ∃ m, w' = w.drewN m := by
  obtain ⟨b, off, rfl, _, hc⟩ := h.2.2.2.2 (by omega)
  have c0 := hc 0 (by omega)
  have c1 := hc 1 (by omega)
  have c2 := hc 2 (by omega)
  have c3 := hc 3 (by omega)
  rw [Nat.add_zero] at c0
  have i0 : (0 : Int) < n := by omega
  have i1 : (1 : Int) < n := by omega
  have i2 : (2 : Int) < n := by omega
  have i3 : (3 : Int) < n := by omega
  obtain ⟨x0, hx0, g0⟩ := byte_lt l 0
  obtain ⟨x1, hx1, g1⟩ := byte_lt l 1
  obtain ⟨x2, hx2, g2⟩ := byte_lt l 2
  obtain ⟨x3, hx3, g3⟩ := byte_lt l 3
  have hw : word l 0 = BitVec.ofNat 32 (x0 * 16777216 + x1 * 65536 + x2 * 256 + x3) := by rw [hx0, hx1, hx2, hx3]; rfl
  rw [← hx0] at c0
  rw [← hx1] at c1
  rw [← hx2] at c2
  rw [← hx3] at c3
  rw [hw]
  clear h hc hn hx0 hx1 hx2 hx3 hw
  go_enter Tryd.func28, Tryd.ntmps28
  go_wp2_with fail
  go_quiet (fail)
  go_wp2
  go_ret
  exact ⟨ret_int (word_or x0 x1 x2 x3 g0 g1 g2 g3), _, rfl⟩
theorem four_cells (x : BitVec 32) : (cellsOf (four x)).toArray = #[.int .u8 (num x / 16777216 % 256), .int .u8 (num x / 65536 % 256), .int .u8 (num x / 256 % 256), .int .u8 (num x % 256)] := by
  simp [cellsOf, four, num]
theorem Tryd.size48 : (Tryd.prog.info? 48).map (·.size) = some 4 := by kernel_rfl
theorem bytesOf_any (x : BitVec 32) (w : World) : Calls Tryd.prog 21 #[.int .u32 (num x)] w fun e w' => e = .returned (.agg (cellsOf (four x)).toArray) ∧ Below w.heap.size w w' := by
  rw [four_cells]
  go_enter Tryd.func21, Tryd.ntmps21
  go_wp2
  exact bodyPost_ret (results_cell_row rfl _ _ w.heap.size 48 _ (0, 0) _ rfl (heap_alloc_new _ _) Tryd.underlying48 rfl Tryd.size48) rfl ⟨rfl, (Below.refl _ _).alloc (Nat.le_refl _) _⟩
end Go.Proofs.YtjmdkgjfcfnbiaaDoor
