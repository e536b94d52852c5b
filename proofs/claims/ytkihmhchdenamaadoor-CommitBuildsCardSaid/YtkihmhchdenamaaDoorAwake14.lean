/- The statement's own example (law 14). -/
import Derived.Test.YtkihmhchdenamaaDoorComOwner
import Derived.Test.YtkihmhchdenamaaDoorComBuild
namespace Go.Proofs.YtkihmhchdenamaaDoor
open Go.RowKit

def byte14 (b : UInt8) : List UInt8 := b :: List.replicate 31 0
def exC : PChan := ⟨0, 1, 2, zero32, 0, 5, 4, 3⟩
def exD : PChan := ⟨0, 1, 2, zero32, 0, 5, 3, 3⟩
def exS : PState := ⟨0, 5, 0, byte14 1, byte14 2⟩
theorem build_exC (w : World) : (Instr.build 27 ([(1, (.int .i64 1 : Value)), (2, .int .i64 2), (4, .int .i64 5), (6, .int .i64 3), (5, .int .i64 4)] : List (Nat × Value)).toArray).run Tryd.prog w = .ok (.agg exC.cells.toArray) w := by kernel_rfl
theorem build_byte1 (w : World) : (Instr.build 23 ([(0, (.int .u8 1 : Value))] : List (Nat × Value)).toArray).run Tryd.prog w = .ok (.agg (cellsOf (byte14 1)).toArray) w := by kernel_rfl
theorem build_byte2 (w : World) : (Instr.build 23 ([(0, (.int .u8 2 : Value))] : List (Nat × Value)).toArray).run Tryd.prog w = .ok (.agg (cellsOf (byte14 2)).toArray) w := by kernel_rfl
theorem build_bytes12 (w : World) : (Instr.build 28 ([(0, (.agg (cellsOf (byte14 1)).toArray : Value)), (1, .agg (cellsOf (byte14 2)).toArray)] : List (Nat × Value)).toArray).run Tryd.prog w = .ok (.agg (pairCells (byte14 1) (byte14 2)).toArray) w := by kernel_rfl
theorem build_exS (w : World) : (Instr.build 30 ([(1, (.int .i64 5 : Value)), (3, .agg (pairCells (byte14 1) (byte14 2)).toArray)] : List (Nat × Value)).toArray).run Tryd.prog w = .ok (.agg exS.cells.toArray) w := by kernel_rfl
theorem exC_in : ChanIn exC := by constructor <;> first | rfl | (constructor <;> decide)
theorem exS_in : StateIn exS := by constructor <;> first | rfl | (constructor <;> decide)
theorem exC_set : exC.cells.set 37 (.int .i64 3) = exD.cells := by rfl
theorem exC_ok : chanOk exC = true := by rfl
theorem exD_bad : chanOk exD = false := by rfl
theorem exS_ok : stateOk exC exS = true := by rfl
set_option linter.unusedSimpArgs false in
set_option maxRecDepth 100000 in
set_option maxHeartbeats 6400000 in
theorem awake14_any (w : World) : Calls Tryd.prog 10 #[] w fun e w' => e = .returned (.bool true) ∧ Below w.heap.size w w' := by
  have HRC : Hid (∀ W : World, Calls Tryd.prog 6 #[.agg exC.cells.toArray] W fun e w' => e = .returned (.bool true) ∧ Below W.heap.size W w') := Lib.hid fun W => rightChannel_any W (x := exC) rfl
  have HRD : Hid (∀ W : World, Calls Tryd.prog 6 #[.agg exD.cells.toArray] W fun e w' => e = .returned (.bool false) ∧ Below W.heap.size W w') := Lib.hid fun W => rightChannel_any W (x := exD) rfl
  have HBD := Lib.hid (fun (W : World) => build14_1 (w := W) exC_in exS_in exS_ok)
  go_enter Tryd.func10, Tryd.ntmps10
  go_upto_region 2 with (first | (refine wpList_build10 rfl rfl (vs := [(1, .int .i64 1), (2, .int .i64 2), (4, .int .i64 5), (6, .int .i64 3), (5, .int .i64 4)]) rfl build_exC ?_; go_frame) | (refine wpList_var rfl rfl 27 rfl _ _ rfl noChan.cells.toArray Tryd.zeroChan rfl exC.cells (fun _ => rfl) (fun _ => rfl) rfl (PChan.one _) ?_; intro g w1 hq hh hb; go_frame; have HB1 := Lib.hid hb; have H1 := Lib.hid hh; have HG1 := Lib.hid hq; clear hq hh hb) | fail)
  go_upto_region 3 with (first | (refine wpList_load_row rfl 27 _ rfl g rfl 27 exC.cells.toArray (0, 0) _ H1.out Tryd.underlying27 rfl (chan_sizeA rfl) ?_) | (refine wpList_var rfl rfl 27 rfl _ _ rfl noChan.cells.toArray Tryd.zeroChan rfl exC.cells (fun _ => rfl) (fun _ => rfl) rfl (PChan.one _) ?_; intro d w2 hq hh hb; go_frame; have HB2 := Lib.hid (bthen HB1.out hb); have H12 := Lib.hid (keep hb H1.out); have HD2 := Lib.hid hh; have HN2 := Lib.hid (Nat.le_trans HB1.out.size hq); have NE : Hid (g ≠ d) := Lib.hid (by have h9 := lt_of_block H1.out; omega); clear hq hh hb) | fail)
  go_upto_region 4 with (first | (refine wpList_field10 rfl 3 _ _ rfl d 37 rfl (.int .i64 3) rfl 27 exC.cells HD2.out (by decide) (by kernel_rfl) rfl ?_; intro w3 hh hb; rw [exC_set] at hh; have HB3 := Lib.hid (But.in HB2.out hb HN2.out); have H13 := Lib.hid ((hb.block g (lt_of_block H12.out) NE.out).trans H12.out); have HD3 := Lib.hid hh; clear hh hb) | fail)
  go_upto_region 5 with (first | (refine wpList_load_row rfl 27 _ rfl g rfl 27 exC.cells.toArray (0, 0) _ H13.out Tryd.underlying27 rfl (chan_sizeA rfl) ?_) | (refine wpList_build10 rfl rfl (vs := [(0, .int .u8 1)]) rfl build_byte1 ?_; go_frame) | (refine wpList_build10 rfl rfl (vs := [(0, .int .u8 2)]) rfl build_byte2 ?_; go_frame) | (refine wpList_build10 rfl rfl (vs := [(0, .agg (cellsOf (byte14 1)).toArray), (1, .agg (cellsOf (byte14 2)).toArray)]) rfl build_bytes12 ?_; go_frame) | (refine wpList_build10 rfl rfl (vs := [(1, .int .i64 5), (3, .agg (pairCells (byte14 1) (byte14 2)).toArray)]) rfl build_exS ?_; go_frame) | (go_at_call 4; (with_reducible refine (HBD.out _).mono ?_); rintro e w4 ⟨a0, a1, a2, a3, a4, a5, a6, rfl, ht, hb⟩; have HT4 := Lib.hid ht; have HB4 := Lib.hid (bthen HB3.out hb); have H14 := Lib.hid (keep hb H13.out); have HD4 := Lib.hid (keep hb HD3.out); clear ht hb) | (refine wpList_var rfl rfl 38 rfl _ _ rfl noTx.cells.toArray Tryd.zeroTx14 rfl (commitP exC a0 a1 a2 a3 a4 a5 a6 exC.peer exC.client exS.peer exS.client exS.h1).cells (fun _ => rfl) (fun _ => rfl) rfl (PTx.one _) ?_; intro t w5 hq hh hb; go_frame; have HT5 := Lib.hid (HT4.out.below hb); have HB5 := Lib.hid (bthen HB4.out hb); have H15 := Lib.hid (keep hb H14.out); have HD5 := Lib.hid (keep hb HD4.out); have HX5 := Lib.hid hh; clear hq hh hb) | fail)
  go_wp2_with (first | (refine wpList_load_row rfl 27 _ rfl g rfl 27 exC.cells.toArray (0, 0) _ H15.out Tryd.underlying27 rfl (chan_sizeA rfl) ?_) | (go_at_call 6; (first | ((with_reducible refine (HRC.out _).mono ?_); rintro e w6 ⟨rfl, hb⟩; have HB6 := Lib.hid (bthen HB5.out hb); have HB56 := Lib.hid hb; have HD6 := Lib.hid (range_of (keep hb HD5.out)); clear hb) | ((with_reducible refine (HRD.out _).mono ?_); rintro e w7 ⟨rfl, hb⟩; have HB7 := Lib.hid (bthen HB6.out hb); have HB57 := Lib.hid (bthen HB56.out hb); have R7 := Lib.hid (range_of (keep HB57.out H15.out)); have X7 := Lib.hid (range_of (keep HB57.out HX5.out)); have co := (range_cons (range_cons (range_of (keep HB57.out HX5.out))).2).1; rw [Nat.zero_add] at co; replace co : w7.cell? ⟨t, 1, none⟩ = some (.slice a6 2 2) := co; have HOW := Lib.hid (owner14_1 exC_in (HT5.out.below HB57.out) (by decide) rfl (by decide)); clear hb))) | (refine wpList_mid_wanted (by rfl) 27 _ rfl d 0 rfl exD.cells _ HD6.out Tryd.underlying27 rfl (chan_size rfl) ?_) | (refine wpList_mid_wanted (by rfl) 27 _ rfl g 0 rfl exC.cells _ R7.out Tryd.underlying27 rfl (chan_size rfl) ?_) | (refine wpList_mid_wanted (by rfl) 38 _ rfl t 0 rfl (commitP exC a0 a1 a2 a3 a4 a5 a6 exC.peer exC.client exS.peer exS.client exS.h1).cells _ X7.out Tryd.underlying38 rfl (commit_size _ _ _ _ _ _ _ _ _ _ _ _ _) ?_) | (go_at_call 14; (with_reducible refine (HOW.out).mono ?_); rintro e w8 ⟨rfl, hb⟩; have HB8 := Lib.hid (bthen HB7.out hb); clear hb) | fail)
  go_ret
  exact ⟨rfl, HB8.out⟩
end Go.Proofs.YtkihmhchdenamaaDoor
