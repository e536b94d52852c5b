/- What the code's Ref comes to. -/
import Derived.Test.YtnjnomebcggccaaGreatDoorTx
import Derived.Test.YtnjnomebcggccaaGreatDoorCommit
namespace Go.Proofs.YtnjnomebcggccaaGreatDoor
open Go.RowKit

theorem Tryz.refFields14 : ∃ fs, Tryz.prog.underlying 25 = some (.struct fs) ∧ ∀ w : World, ((fs.mapM fun (f : Field) => do pure (f.offset, ← sizeOf f.type)) : Sem (Array (Nat × Nat))).run Tryz.prog w = .ok #[(0, 32), (32, 1)] w := ⟨_, Tryz.underlying25, fun w => by kernel_rfl⟩
theorem Tryz.zeroRef14 : (Tryz.prog.info? 25).map (fun i => (i.zero, i.size, i.bytes)) = some (some (.agg (refCells zero32 0).toArray), 33, 40) := by kernel_rfl
theorem build_ref14 {s : List UInt8} (z : Int) (hl : s.length = 32) (w : World) : (Instr.build 25 ([(0, (.agg (cellsOf s).toArray : Value)), (1, .int .i64 z)] : List (Nat × Value)).toArray).run Tryz.prog w = .ok (.agg (refCells s z).toArray) w := by
  obtain ⟨fs, hu, hm⟩ := Tryz.refFields14
  refine run_build_of hu hm Tryz.zeroRef14 ?_ w
  rw [show ([(0, (.agg (cellsOf s).toArray : Value)), (1, .int .i64 z)] : List (Nat × Value)).toArray.toList = [(0, .agg (cellsOf s).toArray), (1, .int .i64 z)] from rfl, show refCells zero32 0 = cellsOf zero32 ++ ([.int .i64 0] : List Value) from rfl]
  rw [fill_step (off := 0) (n := 32) rfl (vs := cellsOf s) rfl (by rw [cellsOf_len, hl]) (by simp [cellsOf_len, zero32_len]), spl_head (by rw [cellsOf_len, cellsOf_len, hl, zero32_len])]
  rw [fill_step (off := 32) (n := 1) rfl (vs := [.int .i64 z]) rfl rfl (by simp [cellsOf_len, hl])]
  rw [show cellsOf s ++ ([.int .i64 0] : List Value) = cellsOf s ++ (([.int .i64 0] : List Value) ++ []) by simp, spl_at (by rw [cellsOf_len, hl]) (by rfl)]
  unfold Instr.fill
  simp [refCells]
theorem build_ref1_14 {s : List UInt8} (hl : s.length = 32) (w : World) : (Instr.build 25 ([(0, (.agg (cellsOf s).toArray : Value))] : List (Nat × Value)).toArray).run Tryz.prog w = .ok (.agg (refCells s 0).toArray) w := by
  obtain ⟨fs, hu, hm⟩ := Tryz.refFields14
  refine run_build_of hu hm Tryz.zeroRef14 ?_ w
  rw [show ([(0, (.agg (cellsOf s).toArray : Value))] : List (Nat × Value)).toArray.toList = [(0, .agg (cellsOf s).toArray)] from rfl, show refCells zero32 0 = cellsOf zero32 ++ ([.int .i64 0] : List Value) from rfl]
  rw [fill_step (off := 0) (n := 32) rfl (vs := cellsOf s) rfl (by rw [cellsOf_len, hl]) (by simp [cellsOf_len, zero32_len]), spl_head (by rw [cellsOf_len, cellsOf_len, hl, zero32_len])]
  unfold Instr.fill
  simp [refCells]
set_option linter.unusedSimpArgs false in
set_option maxRecDepth 100000 in
set_option maxHeartbeats 6400000 in
theorem ref14_any {w : World} {x : PTx} (h : TxIn w x) (hk : KsAt w) (hf : FrontFew false x) : Calls Tryz.prog 17 #[.agg x.cells.toArray] w fun e w' => e = .returned (.agg (refCells (txSum x) 0).toArray) ∧ Below w.heap.size w w' := by
  obtain ⟨s, hs, hsl, hcon⟩ : ∃ s, txSum x = s ∧ s.length = 32 ∧ ∀ W : World, Below w.heap.size w W → Calls Tryz.prog 10 #[.agg x.cells.toArray] W fun e w' => e = .returned (.agg (cellsOf s).toArray) ∧ Below W.heap.size W w' := ⟨_, rfl, txSum_len x, fun W hW => txSum_any (h.below hW) (hk.below hW) hf⟩
  rw [hs]
  have HSL := Lib.hid hsl
  have HCON := Lib.hid hcon
  have AX := Lib.hid (tx_sizeA h.op.root)
  clear hs hsl hcon h hk hf
  go_enter Tryz.func17, Tryz.ntmps17
  go_upto_region 1 with (first | (refine wpList_new rfl 25 rfl (refCells zero32 0).toArray Tryz.zeroRef14 ?_; intro r w1 hr hh hb; go_frame) | fail)
  have b0 : Below w.heap.size w (w.alloc (.cells x.cells.toArray 35)) := (Below.refl _ _).alloc (Nat.le_refl _) _
  have h1 := keep hb (heap_alloc_new w (.cells x.cells.toArray 35))
  have b1 := bthen b0 hb
  have hr' : w.heap.size ≤ r := Nat.le_trans b0.size hr
  obtain ⟨g, hg⟩ : ∃ g, g = w.heap.size := ⟨_, rfl⟩
  rw [← hg] at h1 ⊢
  have HB1 := Lib.hid b1
  have H1 := Lib.hid h1
  have HR := Lib.hid hh
  have HN : Hid (w.heap.size ≤ r) := Lib.hid hr'
  clear b0 b1 h1 hr' hg hr hh hb
  go_wp2_with (first | (refine wpList_load_row rfl 35 _ rfl g rfl 35 x.cells.toArray (0, 0) _ H1.out Tryz.underlying35 rfl AX.out ?_) | (go_at_call 10; (with_reducible refine (HCON.out _ HB1.out).mono ?_); rintro e w2 ⟨rfl, hb⟩; have HB2 := Lib.hid (bthen HB1.out hb); have HR2 := Lib.hid (keep hb HR.out); clear hb) | (refine wpList_build10 rfl rfl (vs := [(0, .agg (cellsOf s).toArray), (1, .int .i64 0)]) rfl (build_ref14 0 HSL.out) ?_; go_frame) | (refine wpList_row10 rfl 25 _ _ rfl r (refCells s 0) rfl rfl 25 (refCells zero32 0) HR2.out (refSize HSL.out) (by rw [refCells_len HSL.out, refCells_len zero32_len]) (refCells_one _ _) ?_; intro w9 hh9 hb9) | fail)
  refine bodyPost_ret (results_cell_row rfl _ _ r 25 (refCells s 0).toArray (0, 0) _ rfl hh9 Tryz.underlying25 rfl (by rw [List.size_toArray]; exact refSize HSL.out)) rfl ?_
  exact ⟨rfl, But.in HB2.out hb9 HN.out⟩
end Go.Proofs.YtnjnomebcggccaaGreatDoor
