/- Heads and blocks in memory; slices of transactions. No function of the program is named. A head's sum. A slice of sums that grows, and where it then lies; a literal of one sum, of none; a cut of a row's own; the library's Clone at sums. The sums of transactions, one by one. Transactions that are few and small, plainly. No function of the program is named. A row of the call's own of things of any kind: made of zero things, and written into, a thing or a part of one. No function of the program is named. What block.copied comes to: transactions that are alike, in rows of their own. -/
import Derived.Test.YtlnenkmcegadmaaDoorChanMem
import Derived.Test.YtlnenkmcegadmaaDoorTx
import Derived.Test.YtlnenkmcegadmaaDoorBuilds
import Derived.Test.YtlnenkmcegadmaaDoorSignKit
import Derived.Test.YtlnenkmcegadmaaDoorMerkle
import Derived.Test.YtlnenkmcegadmaaDoorSteps
import Derived.Maps.AppendAt
import Derived.Lib.SliceRun
import Derived.Test.YtlnenkmcegadmaaDoorSigs
import Derived.Test.YtlnenkmcegadmaaDoorSliceOf
namespace Go.Proofs.YtlnenkmcegadmaaDoor
open Go.RowKit

/-- Transactions in a slice. -/
def txK : Sort8 PTx := ⟨40, PTx.cells, fun w x => TxIn w x, noTx, by omega, fun _ _ h => PTx.len h.op.root, PTx.one, fun h hb => TxIn.below h hb⟩
structure PHead where
  ahead : List UInt8
  height : Int
  root : List UInt8
  many : Int
def PHead.cells (h : PHead) : List Value := cellsOf h.ahead ++ (.int .i64 h.height :: (cellsOf h.root ++ [.int .i64 h.many]))
def noHead : PHead := ⟨zero32, 0, zero32, 0⟩
structure HeadIn (h : PHead) : Prop where
  ahead : h.ahead.length = 32
  height : Fits h.height
  root : h.root.length = 32
  many : Fits h.many
theorem noHead_in : HeadIn noHead := ⟨rfl, by constructor <;> decide, rfl, by constructor <;> decide⟩
theorem PHead.len {h : PHead} (h1 : h.ahead.length = 32) (h2 : h.root.length = 32) : h.cells.length = 66 := by simp [PHead.cells, cellsOf_len, h1, h2]
theorem PHead.one (h : PHead) : ∀ v ∈ h.cells, v.oneCell' = true := by
  intro v hv
  simp only [PHead.cells, List.mem_cons, List.mem_append, List.not_mem_nil, or_false] at hv
  rcases hv with hv | rfl | hv | rfl
  · exact cellsOf_one _ v hv
  · rfl
  · exact cellsOf_one _ v hv
  · rfl
structure PBlock where
  head : PHead
  a : Option Addr
  n : Nat
  c : Nat
  txs : List PTx
def PBlock.cells (b : PBlock) : List Value := b.head.cells ++ [.slice b.a b.n b.c]
def noBlock : PBlock := ⟨noHead, none, 0, 0, []⟩
structure BlockIn (w : World) (b : PBlock) : Prop where
  head : HeadIn b.head
  txs : SliceOf txK w b.a b.n b.c b.txs
theorem BlockIn.below {w w' : World} {b : PBlock} (h : BlockIn w b) (hb : Below w.heap.size w w') : BlockIn w' b := ⟨h.head, h.txs.below hb⟩
theorem PBlock.len {b : PBlock} (h : HeadIn b.head) : b.cells.length = 67 := by simp [PBlock.cells, PHead.len h.ahead h.root]
theorem PBlock.one (b : PBlock) : ∀ v ∈ b.cells, v.oneCell' = true := by
  intro v hv
  simp only [PBlock.cells, List.mem_append, List.mem_cons, List.not_mem_nil, or_false] at hv
  rcases hv with hv | rfl
  · exact PHead.one _ v hv
  · rfl
/-- The parts of a head that lies somewhere. -/
structure HeadAt (w : World) (b o : Nat) (h : PHead) : Prop where
  ahead : w.rangeAt b o (cellsOf h.ahead)
  height : w.cell? ⟨b, o + 32, none⟩ = some (.int .i64 h.height)
  root : w.rangeAt b (o + 33) (cellsOf h.root)
  many : w.cell? ⟨b, o + 65, none⟩ = some (.int .i64 h.many)
theorem head_at {w : World} {b o : Nat} {h : PHead} (h1 : h.ahead.length = 32) (h2 : h.root.length = 32) (r : w.rangeAt b o h.cells) : HeadAt w b o h := by
  have r0 := range_append r
  have r1 := r0.2
  rw [cellsOf_len, h1] at r1
  have r2 := range_cons r1
  have r3 := range_append r2.2
  have r4 := r3.2
  rw [cellsOf_len, h2] at r4
  exact ⟨r0.1, r2.1, r3.1, (range_cons r4).1⟩
theorem block_head {w : World} {b o : Nat} {x : PBlock} (r : w.rangeAt b o x.cells) : w.rangeAt b o x.head.cells := (range_append r).1
theorem block_txs {w : World} {b o : Nat} {x : PBlock} (h : HeadIn x.head) (r : w.rangeAt b o x.cells) : w.cell? ⟨b, o + 66, none⟩ = some (.slice x.a x.n x.c) := by
  have r1 := (range_append r).2
  rw [PHead.len h.ahead h.root] at r1
  exact (range_cons r1).1
theorem Tryd.sizeHead19 : (Tryd.prog.info? 25).map (·.size) = some 66 := by kernel_rfl
theorem Tryd.sizeBlock19 : (Tryd.prog.info? 30).map (·.size) = some 67 := by kernel_rfl
theorem head_size {h : PHead} (h1 : h.ahead.length = 32) (h2 : h.root.length = 32) : (Tryd.prog.info? 25).map (·.size) = some h.cells.length := by rw [PHead.len h1 h2]; exact Tryd.sizeHead19
theorem block_size {b : PBlock} (h : HeadIn b.head) : (Tryd.prog.info? 30).map (·.size) = some b.cells.length := by rw [PBlock.len h]; exact Tryd.sizeBlock19
theorem Tryd.zeroHead19 : (Tryd.prog.info? 25).map (fun i => (i.zero, i.size, i.bytes)) = some (some (.agg noHead.cells.toArray), 66, 80) := by kernel_rfl
theorem Tryd.zeroBlock19 : (Tryd.prog.info? 30).map (fun i => (i.zero, i.size, i.bytes)) = some (some (.agg noBlock.cells.toArray), 67, 104) := by kernel_rfl
theorem Tryd.headFields19 : ∃ fs, Tryd.prog.underlying 25 = some (.struct fs) ∧ ∀ w : World, ((fs.mapM fun (f : Field) => do pure (f.offset, ← sizeOf f.type)) : Sem (Array (Nat × Nat))).run Tryd.prog w = .ok #[(0, 32), (32, 1), (33, 32), (65, 1)] w := ⟨_, Tryd.underlying25, fun w => by kernel_rfl⟩
theorem build_head19 {s r : List UInt8} (y m : Int) (hs : s.length = 32) (hr : r.length = 32) (w : World) : (Instr.build 25 ([(0, (.agg (cellsOf s).toArray : Value)), (1, .int .i64 y), (2, .agg (cellsOf r).toArray), (3, .int .i64 m)] : List (Nat × Value)).toArray).run Tryd.prog w = .ok (.agg (PHead.cells ⟨s, y, r, m⟩).toArray) w := by
  obtain ⟨fs, hu, hm⟩ := Tryd.headFields19
  refine run_build_of hu hm Tryd.zeroHead19 ?_ w
  rw [show ([(0, (.agg (cellsOf s).toArray : Value)), (1, .int .i64 y), (2, .agg (cellsOf r).toArray), (3, .int .i64 m)] : List (Nat × Value)).toArray.toList = [(0, .agg (cellsOf s).toArray), (1, .int .i64 y), (2, .agg (cellsOf r).toArray), (3, .int .i64 m)] from rfl, show noHead.cells = cellsOf zero32 ++ ([.int .i64 0] ++ (cellsOf zero32 ++ ([.int .i64 0] : List Value))) from rfl]
  rw [fill_step (off := 0) (n := 32) rfl (vs := cellsOf s) rfl (by rw [cellsOf_len, hs]) (by simp [cellsOf_len, zero32_len]), spl_head (by rw [cellsOf_len, cellsOf_len, hs, zero32_len])]
  rw [fill_step (off := 32) (n := 1) rfl (vs := [.int .i64 y]) rfl rfl (by simp [cellsOf_len, hs, zero32_len]), spl_at (by rw [cellsOf_len, hs]) (by rfl)]
  rw [fill_step (off := 33) (n := 32) rfl (vs := cellsOf r) rfl (by rw [cellsOf_len, hr]) (by simp [cellsOf_len, hs, zero32_len])]
  rw [show cellsOf s ++ (([.int .i64 y] : List Value) ++ (cellsOf zero32 ++ ([.int .i64 0] : List Value))) = (cellsOf s ++ ([.int .i64 y] : List Value)) ++ (cellsOf zero32 ++ ([.int .i64 0] : List Value)) by simp, spl_at (by simp [cellsOf_len, hs]) (by rw [cellsOf_len, cellsOf_len, hr, zero32_len])]
  rw [fill_step (off := 65) (n := 1) rfl (vs := [.int .i64 m]) rfl rfl (by simp [cellsOf_len, hs, hr])]
  rw [show (cellsOf s ++ ([.int .i64 y] : List Value)) ++ (cellsOf r ++ ([.int .i64 0] : List Value)) = ((cellsOf s ++ ([.int .i64 y] : List Value)) ++ cellsOf r) ++ (([.int .i64 0] : List Value) ++ []) by simp, spl_at (by simp [cellsOf_len, hs, hr]) (by rfl)]
  unfold Instr.fill
  simp [PHead.cells]
theorem Tryd.blockFields19 : ∃ fs, Tryd.prog.underlying 30 = some (.struct fs) ∧ ∀ w : World, ((fs.mapM fun (f : Field) => do pure (f.offset, ← sizeOf f.type)) : Sem (Array (Nat × Nat))).run Tryd.prog w = .ok #[(0, 66), (66, 1)] w := ⟨_, Tryd.underlying30, fun w => by kernel_rfl⟩
theorem build_block19 {h : PHead} (hh : HeadIn h) (a : Option Addr) (n c : Nat) (xs : List PTx) (w : World) : (Instr.build 30 ([(0, (.agg h.cells.toArray : Value)), (1, .slice a n c)] : List (Nat × Value)).toArray).run Tryd.prog w = .ok (.agg (PBlock.cells ⟨h, a, n, c, xs⟩).toArray) w := by
  obtain ⟨fs, hu, hm⟩ := Tryd.blockFields19
  have hl := PHead.len hh.ahead hh.root
  have h0 : noHead.cells.length = 66 := PHead.len rfl rfl
  refine run_build_of hu hm Tryd.zeroBlock19 ?_ w
  rw [show ([(0, (.agg h.cells.toArray : Value)), (1, .slice a n c)] : List (Nat × Value)).toArray.toList = [(0, .agg h.cells.toArray), (1, .slice a n c)] from rfl, show noBlock.cells = noHead.cells ++ ([.slice none 0 0] : List Value) from rfl]
  rw [fill_step (off := 0) (n := 66) rfl (vs := h.cells) rfl hl (by rw [List.length_append, h0]; omega), spl_head (by rw [h0, hl])]
  rw [fill_step (off := 66) (n := 1) rfl (vs := [.slice a n c]) rfl rfl (by rw [List.length_append, hl]; simp)]
  rw [show h.cells ++ ([.slice none 0 0] : List Value) = h.cells ++ (([.slice none 0 0] : List Value) ++ []) by simp, spl_at hl.symm (by rfl)]
  unfold Instr.fill
  simp [PBlock.cells]
theorem build_noHead19 (w : World) : (Instr.build 25 ([] : List (Nat × Value)).toArray).run Tryd.prog w = .ok (.agg noHead.cells.toArray) w := by kernel_rfl
theorem build_noBlock19 (w : World) : (Instr.build 30 ([] : List (Nat × Value)).toArray).run Tryd.prog w = .ok (.agg noBlock.cells.toArray) w := by kernel_rfl
end Go.Proofs.YtlnenkmcegadmaaDoor
namespace Go.Proofs.YtlnenkmcegadmaaDoor
open Go.RowKit

def headB (h : PHead) : List UInt8 := h.ahead ++ (numB h.height ++ (h.root ++ numB h.many))
def headSum (h : PHead) : List UInt8 := sumOf (partsOf 81 [headB h])
theorem headSum_len (h : PHead) : (headSum h).length = 32 := sumOf_len _
theorem sumLen19 {s : List UInt8} (hs : s.length = 32) : (Tryd.prog.info? 23).map (·.size) = some (cellsOf s).length := by rw [cellsOf_len, hs]; exact Tryd.size23
theorem Tryd.zeroRow19 : (Tryd.prog.info? 45).map (fun i => (i.zero, i.size, i.bytes)) = some (some (.slice none 0 0), 1, 24) := by kernel_rfl
theorem step_row19 {ops : Array Oper} {o : Oper} {tmps : Array Value} {ds : List Deferred} {w : World} {K : Act → World → Prop} {Q : Exit → Act → World → Prop} {E : Prop} {d : Nat} {x : Operand} {a : Option Addr} {n c : Nat} (hd : o.dst = some d) (hw : Region.wanted o (yielded ops tmps) = true) (ho : o.op = .buildSlice 88 1 #[(0, x)])
    (hx : Act.eval { tmps := tmps, defers := ds } x = .slice a n c)
    (h : ∀ (p : Nat) (w' : World), w.heap.size ≤ p → w'.heap[p]? = some (.cells #[.slice a n c] 45 (0, 0)) → Below w.heap.size w w' → K { tmps := tmps.setIfInBounds d (.slice (some ⟨p, 0, none⟩) 1 1), defers := ds } w') :
    if Region.wanted o (yielded ops tmps) = true then Oper.wp Tryd.prog o { tmps := tmps, defers := ds } w K Q else E := by
  rw [if_pos hw]
  obtain ⟨ie, h1, h2, h3, _⟩ := info_parts Tryd.zeroRow19
  have hrun : (Instr.buildSlice 88 1 #[(0, .slice a n c)]).run Tryd.prog w = .ok (.slice (some ⟨w.heap.size, 0, none⟩) 1 1) (w.alloc (.cells #[.slice a n c] 45)) :=
    run_buildSlice w 88 45 1 _ _ ie _ Tryd.underlying88 h1 h2 (by rw [h3]; omega) (by rw [h3]; omega) (by rw [h3]; simp [Instr.fill, Value.cells]; rw [show Array.range 1 = #[0] by rfl]; simp)
  unfold Oper.wp execOp
  simp only [ho, List.map_toArray, List.map_cons, List.map_nil, hx, Sem.run_bind, hrun, Sem.run_pure, Result.andThen_ok]
  show K (Act.put _ o.dst _) _
  rw [hd]
  exact h _ _ (Nat.le_refl _) (heap_alloc_new _ _) ((Below.refl _ _).alloc (Nat.le_refl _) _)
set_option linter.unusedSimpArgs false in
set_option maxRecDepth 100000 in
set_option maxHeartbeats 6400000 in
theorem headSum_any {w : World} {h : PHead} (hh : HeadIn h) (hk : KsAt w) : Calls Tryd.prog 10 #[.agg h.cells.toArray] w fun e w' => e = .returned (.agg (cellsOf (headSum h)).toArray) ∧ Below w.heap.size w w' := by
  have n1 := (numB_len h.height).2
  have n2 := (numB_len h.many).2
  obtain ⟨F, hF⟩ : ∃ F, F = headB h := ⟨_, rfl⟩
  have hFl : F.length ≤ 100 := by rw [hF]; simp [headB, hh.ahead, hh.root]; omega
  have hlen : (partsOf 81 [F]).length ≤ 1125899906842624 := by
    unfold partsOf partOf
    simp only [List.flatMap_cons, List.flatMap_nil, List.length_cons, List.length_append, four_len, List.length_nil]
    omega
  have TE : Hid (F = ((([] ++ h.ahead) ++ numB h.height) ++ h.root) ++ numB h.many) := Lib.hid (by rw [hF]; simp [headB])
  have e : headSum h = sumOf (partsOf 81 [F]) := by unfold headSum; rw [hF]
  obtain ⟨s, hs, hsl, hj⟩ : ∃ s, sumOf (partsOf 81 [F]) = s ∧ s.length = 32 ∧ ∀ (W : World) (a : Option Addr) (n c : Nat), Rows2 W a n c [F] → KsAt W → Calls Tryd.prog 26 #[.int .u8 81, .slice a n c] W fun e w' => e = .returned (.agg (cellsOf s).toArray) ∧ Below W.heap.size W w' := ⟨_, rfl, sumOf_len _, fun W a n c hr hK => join_any 81 81 rfl hr hK hlen⟩
  rw [e, hs]
  obtain ⟨NA, hNA⟩ : ∃ NA, NA = numB h.height := ⟨_, rfl⟩
  obtain ⟨NZ, hNZ⟩ : ∃ NZ, NZ = numB h.many := ⟨_, rfl⟩
  have TE : Hid (((([] ++ h.ahead) ++ NA) ++ h.root) ++ NZ = F) := Lib.hid (by rw [hNA, hNZ]; exact TE.out.symm)
  have HL0 : Hid ((([] : List UInt8) ++ h.ahead).length + 9 ≤ 140737488355328) := Lib.hid (by simp [hh.ahead])
  have HL1 : Hid (((([] : List UInt8) ++ h.ahead) ++ NA).length ≤ 1000000) := Lib.hid (by rw [hNA]; simp [hh.ahead]; omega)
  have HL2 : Hid ((((([] : List UInt8) ++ h.ahead) ++ NA) ++ h.root).length + 9 ≤ 140737488355328) := Lib.hid (by rw [hNA]; simp [hh.ahead, hh.root]; omega)
  have HFL : Hid (F.length ≤ 140737488355328) := Lib.hid (by omega)
  have HNA := Lib.hid hNA
  have HNZ := Lib.hid hNZ
  have HJ := Lib.hid hj
  have HSL := Lib.hid hsl
  have HK := Lib.hid hk
  have SXA := Lib.hid (sumLen19 hh.ahead)
  have SXR := Lib.hid (sumLen19 hh.root)
  have HH := Lib.hid hh
  have SS := Lib.hid (size_of hsl)
  have SZ : Hid ((cellsOf zero32).toArray.size = (cellsOf s).toArray.size) := Lib.hid (by rw [List.size_toArray, List.size_toArray, cellsOf_len, cellsOf_len, hsl]; exact zero32_len)
  clear hh hk hF hFl hlen e hs hsl hj hNA hNZ n1 n2
  go_enter Tryd.func10, Tryd.ntmps10
  go_upto_region 1 with (fail)
  rw [← zero32_is]
  have b2 : Below w.heap.size w ((w.alloc (.cells h.cells.toArray 25)).alloc (.cells (cellsOf zero32).toArray 23)) := ((Below.refl _ _).alloc (Nat.le_refl _) _).alloc (by simp) _
  have h1 : ((w.alloc (.cells h.cells.toArray 25)).alloc (.cells (cellsOf zero32).toArray 23)).heap[w.heap.size]? = some (.cells h.cells.toArray 25 (0, 0)) := by
    rw [heap_alloc_old _ _ (by simp), heap_alloc_new]
  have h2 : ((w.alloc (.cells h.cells.toArray 25)).alloc (.cells (cellsOf zero32).toArray 23)).heap[w.heap.size + 1]? = some (.cells (cellsOf zero32).toArray 23 (0, 0)) := heap_alloc_at _ _ _ (by simp)
  revert b2 h1 h2
  generalize ((w.alloc (.cells h.cells.toArray 25)).alloc (.cells (cellsOf zero32).toArray 23)) = w2
  obtain ⟨g, hg⟩ : ∃ g, g = w.heap.size := ⟨_, rfl⟩
  obtain ⟨gr, hgr⟩ : ∃ gr, gr = g + 1 := ⟨_, rfl⟩
  rw [← hg, ← hgr]
  intro b2 h1 h2
  rw [hg] at b2
  have HB2 := Lib.hid b2
  have H1 := Lib.hid h1
  have H2 := Lib.hid h2
  have HGR : Hid (w.heap.size ≤ gr) := Lib.hid (by omega)
  clear b2 h1 h2 hg hgr
  go_upto_region 2 with (fail)
  have b3 : Below w2.heap.size w2 (w2.alloc (.cells #[.pointer none, .int .i64 0] 61)) := (Below.refl _ _).alloc (Nat.le_refl _) _
  have h4 := heap_alloc_new w2 (.cells #[.pointer none, .int .i64 0] 61)
  revert b3 h4
  generalize (w2.alloc (.cells #[.pointer none, .int .i64 0] 61)) = w3
  obtain ⟨pb, hpb⟩ : ∃ pb, pb = w2.heap.size := ⟨_, rfl⟩
  rw [← hpb]
  intro b3 h4
  rw [hpb] at b3
  have H13 := Lib.hid (keep b3 H1.out)
  have H23 := Lib.hid (keep b3 H2.out)
  have HB3 := Lib.hid (bthen HB2.out b3)
  have HGN : Hid (g ≠ pb) := Lib.hid (by have h9 := lt_of_block H1.out; omega)
  have HGN2 : Hid (gr ≠ pb) := Lib.hid (by have h9 := lt_of_block H2.out; omega)
  have HPG : Hid (w.heap.size ≤ pb) := Lib.hid (by have h9 := HB2.out.size; omega)
  obtain ⟨B, hB⟩ : ∃ B, B = w3.heap.size := ⟨_, rfl⟩
  have HBE := Lib.hid hB
  have HGB : Hid (g < B) := Lib.hid (by rw [hB]; exact lt_of_block H13.out)
  have HGB2 : Hid (gr < B) := Lib.hid (by rw [hB]; exact lt_of_block H23.out)
  have HCA : Hid (∀ W : World, But B pb w3 W → HeadAt W g 0 h) := Lib.hid fun W hW => head_at HH.out.ahead HH.out.root (range_of (But.heap hW H13.out HGB.out HGN.out))
  have HRA : Hid (∀ W : World, But B pb w3 W → W.heap[gr]? = some (.cells (cellsOf zero32).toArray 23 (0, 0))) := Lib.hid fun W hW => But.heap hW H23.out HGB2.out HGN2.out
  have HP0 : Hid (PenAt w3.drew B pb []) := Lib.hid (.inl ⟨h4, rfl⟩)
  clear hB b3 h4 hpb HB2 H1 H2
  refine wp_region_held_drew (S := fun w' => But B pb w3 w') (by kernel_rfl) (by have h9 := But.refl B pb w3; exact ⟨h9.os, h9.tape, h9.output, h9.size, h9.block⟩) (fun hHeld => ?_)
  refine tkP 0 rfl rfl ?_
  refine tkA 1 rfl rfl (yieldsIf_load_mid (by rfl) _ _ rfl g 0 rfl (cellsOf h.ahead) _ (fun w0 hSw => (HCA.out _ hSw).ahead) Tryd.underlying23 rfl SXA.out) ?_
  refine tkP 3 rfl rfl ?_
  refine tkA 4 rfl rfl (yields_cell (by rfl) rfl rfl (b := g) (o := 32) (fun w0 hSw => (HCA.out _ hSw).height) Tryd.isAgg3) ?_
  refine tkP 6 rfl rfl ?_
  refine tkA 7 rfl rfl (yieldsIf_load_mid (by rfl) _ _ rfl g 33 rfl (cellsOf h.root) _ (fun w0 hSw => (HCA.out _ hSw).root) Tryd.underlying23 rfl SXR.out) ?_
  refine tkP 9 rfl rfl ?_
  refine tkA 10 rfl rfl (yields_cell (by rfl) rfl rfl (b := g) (o := 65) (fun w0 hSw => (HCA.out _ hSw).many) Tryd.isAgg3) ?_
  refine tkR 2 rfl (fun K hK => ?_)
  have HZv1 : Hid (B ≤ (w3.drew).heap.size) := Lib.hid (by have h9 := But.size hHeld; rw [← HBE.out] at h9; exact h9)
  have HCv1 := Lib.hid (psum_at _ HH.out.ahead HP0.out HZv1.out (by simp))
  go_simp
  go_wp2_with ((go_at_call 24; (with_reducible refine HCv1.out.mono ?_); rintro e v1 ⟨rfl, hp, hb⟩; have HPv1 := Lib.hid hp; have HSv1 := Lib.hid hb; clear hp hb))
  refine hK.out _ _ (by (try dsimp only); exact But.trans hHeld HSv1.out) (fun hHeld => ?_)
  clear hK K
  refine tkR 5 rfl (fun K hK => ?_)
  have HZv2 : Hid (B ≤ (v1).heap.size) := Lib.hid (by have h9 := But.size hHeld; rw [← HBE.out] at h9; exact h9)
  have HCv2 := Lib.hid (pnum_at h.height HPv1.out HZv2.out HL0.out HH.out.height.2)
  go_simp
  go_wp2_with ((go_at_call 25; (with_reducible refine HCv2.out.mono ?_); rintro e v2 ⟨rfl, hp, hb⟩; have HPv2 := Lib.hid hp; have HSv2 := Lib.hid hb; clear hp hb))
  refine hK.out _ _ (by (try dsimp only); exact But.trans hHeld HSv2.out) (fun hHeld => ?_)
  clear hK K
  refine tkR 8 rfl (fun K hK => ?_)
  have HZv3 : Hid (B ≤ (v2).heap.size) := Lib.hid (by have h9 := But.size hHeld; rw [← HBE.out] at h9; exact h9)
  have HCv3 := Lib.hid (psum_at _ HH.out.root (show PenAt v2 B pb (([] ++ h.ahead) ++ NA) by rw [HNA.out]; exact HPv2.out) HZv3.out HL1.out)
  go_simp
  go_wp2_with ((go_at_call 24; (with_reducible refine HCv3.out.mono ?_); rintro e v3 ⟨rfl, hp, hb⟩; have HPv3 := Lib.hid hp; have HSv3 := Lib.hid hb; clear hp hb))
  refine hK.out _ _ (by (try dsimp only); exact But.trans hHeld HSv3.out) (fun hHeld => ?_)
  clear hK K
  refine tkR 11 rfl (fun K hK => ?_)
  have HZv4 : Hid (B ≤ (v3).heap.size) := Lib.hid (by have h9 := But.size hHeld; rw [← HBE.out] at h9; exact h9)
  have HCv4 := Lib.hid (pnum_at h.many HPv3.out HZv4.out HL2.out HH.out.many.2)
  go_simp
  go_wp2_with ((go_at_call 25; (with_reducible refine HCv4.out.mono ?_); rintro e v4 ⟨rfl, hp, hb⟩; have HPv4 := Lib.hid hp; have HSv4 := Lib.hid hb; clear hp hb))
  refine hK.out _ _ (by (try dsimp only); exact But.trans hHeld HSv4.out) (fun hHeld => ?_)
  clear hK K
  refine wpAnyH_done (by kernel_rfl) ?_ _
  have HB4 := Lib.hid (show But B pb w3 v4 from hHeld)
  clear hHeld
  have HP5 : Hid (PenAt v4 B pb F) := Lib.hid (by rw [← TE.out, HNZ.out]; exact HPv4.out)
  have hz4 : B ≤ v4.heap.size := by have h9 := HB4.out.size; rw [← HBE.out] at h9; exact h9
  go_upto_region 3 with (fail)
  go_wp2_with fail
  refine (bytes_any HP5.out HFL.out).mono ?_
  rintro e w5 ⟨a5, n5, c5, rfl, hr5, _, hb5⟩
  have HR5 := Lib.hid hr5
  have HB5 : Hid (But B pb w3 w5) := Lib.hid (HB4.out.trans (But.of (hb5.mono hz4)))
  clear hr5 hb5
  go_wp2_with fail
  have b6 : Below w5.heap.size w5 (w5.alloc (.cells #[.slice a5 n5 c5] 45)) := (Below.refl _ _).alloc (Nat.le_refl _) _
  have HWW : ∀ W : World, But B pb w3 W → Below w.heap.size w W := fun W hW => HB3.out.trans (But.below (But.mono hW (by rw [HBE.out]; exact HB3.out.size)) HPG.out)
  refine (HJ.out _ _ _ _ (rows2_one (heap_alloc_new _ _) (HR5.out.below b6)) ((HK.out.below (HWW _ HB5.out)).below b6)).mono ?_
  rintro e w7 ⟨rfl, hb7⟩
  have HB7 : Hid (But B pb w3 w7) := Lib.hid (HB5.out.trans (But.of ((b6.trans (hb7.mono b6.size)).mono (by have h8 := HB5.out.size; rw [← HBE.out] at h8; exact h8))))
  have HT1 := Lib.hid (HRA.out _ HB7.out)
  clear b6 hb7
  go_wp2_with (refine wpList_store_row rfl 23 _ _ rfl gr (cellsOf s).toArray rfl rfl 23 (cellsOf zero32).toArray HT1.out SS.out SZ.out (all_oneCell_toArray (cellsOf_one s)) ?_)
  refine bodyPost_ret (results_cell_row rfl _ _ gr 23 (cellsOf s).toArray (0, 0) _ rfl (setRow_heap w7 gr _ _ 23 _ HT1.out) Tryd.underlying23 rfl SS.out) rfl ⟨rfl, ?_⟩
  have b7 := HWW _ HB7.out
  exact b7.trans (((but_setRow _ gr _).mono b7.size).below HGR.out)
set_option linter.unusedSimpArgs false in
set_option maxRecDepth 100000 in
set_option maxHeartbeats 6400000 in
theorem headLaw_any {w : World} {h : PHead} (hh : HeadIn h) (hk : KsAt w) : Calls Tryd.prog 11 #[.agg h.cells.toArray] w fun e w' => e = .returned (.agg (cellsOf (headSum h)).toArray) ∧ Below w.heap.size w w' := by
  have n1 := (numB_len h.height).2
  have n2 := (numB_len h.many).2
  obtain ⟨F, hF⟩ : ∃ F, F = headB h := ⟨_, rfl⟩
  have hFl : F.length ≤ 100 := by rw [hF]; simp [headB, hh.ahead, hh.root]; omega
  have hlen : (partsOf 81 [F]).length ≤ 1125899906842624 := by
    unfold partsOf partOf
    simp only [List.flatMap_cons, List.flatMap_nil, List.length_cons, List.length_append, four_len, List.length_nil]
    omega
  have TE : Hid (F = ((([] ++ h.ahead) ++ numB h.height) ++ h.root) ++ numB h.many) := Lib.hid (by rw [hF]; simp [headB])
  have e : headSum h = sumOf (partsOf 81 [F]) := by unfold headSum; rw [hF]
  obtain ⟨s, hs, hsl, hj⟩ : ∃ s, sumOf (partsOf 81 [F]) = s ∧ s.length = 32 ∧ ∀ (W : World) (a : Option Addr) (n c : Nat), Rows2 W a n c [F] → KsAt W → Calls Tryd.prog 26 #[.int .u8 81, .slice a n c] W fun e w' => e = .returned (.agg (cellsOf s).toArray) ∧ Below W.heap.size W w' := ⟨_, rfl, sumOf_len _, fun W a n c hr hK => join_any 81 81 rfl hr hK hlen⟩
  rw [e, hs]
  obtain ⟨NA, hNA⟩ : ∃ NA, NA = numB h.height := ⟨_, rfl⟩
  obtain ⟨NZ, hNZ⟩ : ∃ NZ, NZ = numB h.many := ⟨_, rfl⟩
  have TE : Hid (((([] ++ h.ahead) ++ NA) ++ h.root) ++ NZ = F) := Lib.hid (by rw [hNA, hNZ]; exact TE.out.symm)
  have HL0 : Hid ((([] : List UInt8) ++ h.ahead).length + 9 ≤ 140737488355328) := Lib.hid (by simp [hh.ahead])
  have HL1 : Hid (((([] : List UInt8) ++ h.ahead) ++ NA).length ≤ 1000000) := Lib.hid (by rw [hNA]; simp [hh.ahead]; omega)
  have HL2 : Hid ((((([] : List UInt8) ++ h.ahead) ++ NA) ++ h.root).length + 9 ≤ 140737488355328) := Lib.hid (by rw [hNA]; simp [hh.ahead, hh.root]; omega)
  have HFL : Hid (F.length ≤ 140737488355328) := Lib.hid (by omega)
  have HNA := Lib.hid hNA
  have HNZ := Lib.hid hNZ
  have HJ := Lib.hid hj
  have HSL := Lib.hid hsl
  have HK := Lib.hid hk
  have SXA := Lib.hid (sumLen19 hh.ahead)
  have SXR := Lib.hid (sumLen19 hh.root)
  have HH := Lib.hid hh
  have SS := Lib.hid (size_of hsl)
  have SZ : Hid ((cellsOf zero32).toArray.size = (cellsOf s).toArray.size) := Lib.hid (by rw [List.size_toArray, List.size_toArray, cellsOf_len, cellsOf_len, hsl]; exact zero32_len)
  clear hh hk hF hFl hlen e hs hsl hj hNA hNZ n1 n2
  go_enter Tryd.func11, Tryd.ntmps11
  go_upto_region 1 with (fail)
  rw [← zero32_is]
  have b2 : Below w.heap.size w ((w.alloc (.cells h.cells.toArray 25)).alloc (.cells (cellsOf zero32).toArray 23)) := ((Below.refl _ _).alloc (Nat.le_refl _) _).alloc (by simp) _
  have h1 : ((w.alloc (.cells h.cells.toArray 25)).alloc (.cells (cellsOf zero32).toArray 23)).heap[w.heap.size]? = some (.cells h.cells.toArray 25 (0, 0)) := by
    rw [heap_alloc_old _ _ (by simp), heap_alloc_new]
  have h2 : ((w.alloc (.cells h.cells.toArray 25)).alloc (.cells (cellsOf zero32).toArray 23)).heap[w.heap.size + 1]? = some (.cells (cellsOf zero32).toArray 23 (0, 0)) := heap_alloc_at _ _ _ (by simp)
  revert b2 h1 h2
  generalize ((w.alloc (.cells h.cells.toArray 25)).alloc (.cells (cellsOf zero32).toArray 23)) = w2
  obtain ⟨g, hg⟩ : ∃ g, g = w.heap.size := ⟨_, rfl⟩
  obtain ⟨gr, hgr⟩ : ∃ gr, gr = g + 1 := ⟨_, rfl⟩
  rw [← hg, ← hgr]
  intro b2 h1 h2
  rw [hg] at b2
  have HB2 := Lib.hid b2
  have H1 := Lib.hid h1
  have H2 := Lib.hid h2
  have HGR : Hid (w.heap.size ≤ gr) := Lib.hid (by omega)
  clear b2 h1 h2 hg hgr
  go_upto_region 2 with (fail)
  have b3 : Below w2.heap.size w2 (w2.alloc (.cells #[.pointer none, .int .i64 0] 61)) := (Below.refl _ _).alloc (Nat.le_refl _) _
  have h4 := heap_alloc_new w2 (.cells #[.pointer none, .int .i64 0] 61)
  revert b3 h4
  generalize (w2.alloc (.cells #[.pointer none, .int .i64 0] 61)) = w3
  obtain ⟨pb, hpb⟩ : ∃ pb, pb = w2.heap.size := ⟨_, rfl⟩
  rw [← hpb]
  intro b3 h4
  rw [hpb] at b3
  have H13 := Lib.hid (keep b3 H1.out)
  have H23 := Lib.hid (keep b3 H2.out)
  have HB3 := Lib.hid (bthen HB2.out b3)
  have HGN : Hid (g ≠ pb) := Lib.hid (by have h9 := lt_of_block H1.out; omega)
  have HGN2 : Hid (gr ≠ pb) := Lib.hid (by have h9 := lt_of_block H2.out; omega)
  have HPG : Hid (w.heap.size ≤ pb) := Lib.hid (by have h9 := HB2.out.size; omega)
  obtain ⟨B, hB⟩ : ∃ B, B = w3.heap.size := ⟨_, rfl⟩
  have HBE := Lib.hid hB
  have HGB : Hid (g < B) := Lib.hid (by rw [hB]; exact lt_of_block H13.out)
  have HGB2 : Hid (gr < B) := Lib.hid (by rw [hB]; exact lt_of_block H23.out)
  have HCA : Hid (∀ W : World, But B pb w3 W → HeadAt W g 0 h) := Lib.hid fun W hW => head_at HH.out.ahead HH.out.root (range_of (But.heap hW H13.out HGB.out HGN.out))
  have HRA : Hid (∀ W : World, But B pb w3 W → W.heap[gr]? = some (.cells (cellsOf zero32).toArray 23 (0, 0))) := Lib.hid fun W hW => But.heap hW H23.out HGB2.out HGN2.out
  have HP0 : Hid (PenAt w3.drew B pb []) := Lib.hid (.inl ⟨h4, rfl⟩)
  clear hB b3 h4 hpb HB2 H1 H2
  have HGGR : Hid (g ≠ gr) := Lib.hid (fun e => by have h9 := H13.out; have h8 := H23.out; rw [e, h8] at h9; simp at h9)
  have HWW : Hid (∀ W : World, But B pb w3 W → Below w.heap.size w W) := Lib.hid (fun W hW => HB3.out.trans (But.below (But.mono hW (by rw [HBE.out]; exact HB3.out.size)) HPG.out))
  have HB0 : Hid (But B pb w3 w3.drew) := Lib.hid (by have h9 := But.refl B pb w3; exact ⟨h9.os, h9.tape, h9.output, h9.size, h9.block⟩)
  refine wp_region_held_drew (S := fun w' => HeadAt w' g 0 h) (by kernel_rfl) (HCA.out _ HB0.out) (fun hHeld => ?_)
  refine tkP 0 rfl rfl ?_
  refine tkA 1 rfl rfl (yieldsIf_load_mid (by rfl) _ _ rfl g 0 rfl (cellsOf h.ahead) _ (fun w0 hSw => hSw.ahead) Tryd.underlying23 rfl SXA.out) ?_
  refine tkP 3 rfl rfl ?_
  refine tkA 4 rfl rfl (yields_cell (by rfl) rfl rfl (b := g) (o := 32) (fun w0 hSw => hSw.height) Tryd.isAgg3) ?_
  refine tkP 6 rfl rfl ?_
  refine tkA 7 rfl rfl (yieldsIf_load_mid (by rfl) _ _ rfl g 33 rfl (cellsOf h.root) _ (fun w0 hSw => hSw.root) Tryd.underlying23 rfl SXR.out) ?_
  refine tkP 9 rfl rfl ?_
  refine tkA 10 rfl rfl (yields_cell (by rfl) rfl rfl (b := g) (o := 65) (fun w0 hSw => hSw.many) Tryd.isAgg3) ?_
  refine tkR 2 rfl (fun K hK => ?_)
  have HZv1 : B ≤ (w3.drew).heap.size := by have h9 := HB0.out.size; rw [← HBE.out] at h9; exact h9
  have HCv1 := Lib.hid (psum_at _ HH.out.ahead HP0.out HZv1 (by simp))
  go_simp
  go_wp2_with ((go_at_call 24; (with_reducible refine HCv1.out.mono ?_); rintro e v1 ⟨rfl, hp, hb⟩; have HPv1 := Lib.hid hp; have HBv1 : Hid (But B pb w3 v1) := Lib.hid (But.trans HB0.out hb); clear hp hb))
  refine hK.out _ _ (by (try dsimp only); exact HCA.out _ HBv1.out) (fun hHeld => ?_)
  clear hK K
  refine tkR 5 rfl (fun K hK => ?_)
  have HZv2 : B ≤ (v1).heap.size := by have h9 := HBv1.out.size; rw [← HBE.out] at h9; exact h9
  have HCv2 := Lib.hid (pnum_at h.height HPv1.out HZv2 HL0.out HH.out.height.2)
  go_simp
  go_wp2_with ((go_at_call 25; (with_reducible refine HCv2.out.mono ?_); rintro e v2 ⟨rfl, hp, hb⟩; have HPv2 := Lib.hid hp; have HBv2 : Hid (But B pb w3 v2) := Lib.hid (But.trans HBv1.out hb); clear hp hb))
  refine hK.out _ _ (by (try dsimp only); exact HCA.out _ HBv2.out) (fun hHeld => ?_)
  clear hK K
  refine tkR 8 rfl (fun K hK => ?_)
  have HZv3 : B ≤ (v2).heap.size := by have h9 := HBv2.out.size; rw [← HBE.out] at h9; exact h9
  have HCv3 := Lib.hid (psum_at _ HH.out.root (show PenAt v2 B pb (([] ++ h.ahead) ++ NA) by rw [HNA.out]; exact HPv2.out) HZv3 HL1.out)
  go_simp
  go_wp2_with ((go_at_call 24; (with_reducible refine HCv3.out.mono ?_); rintro e v3 ⟨rfl, hp, hb⟩; have HPv3 := Lib.hid hp; have HBv3 : Hid (But B pb w3 v3) := Lib.hid (But.trans HBv2.out hb); clear hp hb))
  refine hK.out _ _ (by (try dsimp only); exact HCA.out _ HBv3.out) (fun hHeld => ?_)
  clear hK K
  refine tkR 11 rfl (fun K hK => ?_)
  have HZv4 : B ≤ (v3).heap.size := by have h9 := HBv3.out.size; rw [← HBE.out] at h9; exact h9
  have HCv4 := Lib.hid (pnum_at h.many HPv3.out HZv4 HL2.out HH.out.many.2)
  go_simp
  go_wp2_with ((go_at_call 25; (with_reducible refine HCv4.out.mono ?_); rintro e v4 ⟨rfl, hp, hb⟩; have HPv4 := Lib.hid hp; have HBv4 : Hid (But B pb w3 v4) := Lib.hid (But.trans HBv3.out hb); clear hp hb))
  refine hK.out _ _ (by (try dsimp only); exact HCA.out _ HBv4.out) (fun hHeld => ?_)
  clear hK K
  refine tkR 12 rfl (fun K hK => ?_)
  have HP5 : Hid (PenAt v4 B pb F) := Lib.hid (by rw [← TE.out, HNZ.out]; exact HPv4.out)
  have hz4 : B ≤ v4.heap.size := by have h9 := HBv4.out.size; rw [← HBE.out] at h9; exact h9
  have HBY := Lib.hid (bytes_any HP5.out HFL.out)
  go_simp
  go_wp2_with ((go_at_call 27; (with_reducible refine HBY.out.mono ?_); rintro e w5 ⟨a5, n5, c5, rfl, hr5, _, hb5⟩; have HR5 := Lib.hid hr5; have HB5 : Hid (But B pb w3 w5) := Lib.hid (But.trans HBv4.out (But.of (hb5.mono hz4))); clear hr5 hb5))
  refine hK.out _ _ (by (try dsimp only); exact HCA.out _ HB5.out) (fun hHeld => ?_)
  clear hK K
  refine tkR 13 rfl (fun K hK => ?_)
  refine step_row19 rfl (by rfl) rfl (by rfl) ?_
  intro p5 w6 hp hh6 hb6
  have HB6 : Hid (But B pb w3 w6) := Lib.hid (But.trans HB5.out (But.of (hb6.mono (by have h9 := HB5.out.size; rw [← HBE.out] at h9; exact h9))))
  have HRW := Lib.hid (rows2_one hh6 (HR5.out.below hb6))
  clear hp hh6 hb6
  refine hK.out _ _ (by (try dsimp only); exact HCA.out _ HB6.out) (fun hHeld => ?_)
  clear hK K
  refine tkR 14 rfl (fun K hK => ?_)
  have HJ2 := Lib.hid (HJ.out _ _ _ _ HRW.out (HK.out.below (HWW.out _ HB6.out)))
  have hz6 : B ≤ w6.heap.size := by have h9 := HB6.out.size; rw [← HBE.out] at h9; exact h9
  go_simp
  go_wp2_with ((go_at_call 26; (with_reducible refine HJ2.out.mono ?_); rintro e w7 ⟨rfl, hb7⟩; have HB7 : Hid (But B pb w3 w7) := Lib.hid (But.trans HB6.out (But.of (hb7.mono hz6))); clear hb7))
  refine hK.out _ _ (by (try dsimp only); exact HCA.out _ HB7.out) (fun hHeld => ?_)
  clear hK K
  refine tkR 15 rfl (fun K hK => ?_)
  have HT1 := Lib.hid (HRA.out _ HB7.out)
  refine step_store_row (by rfl) 23 _ _ rfl gr (cellsOf s).toArray (by rfl) (by rfl) 23 (cellsOf zero32).toArray HT1.out SS.out SZ.out (all_oneCell_toArray (cellsOf_one s)) ?_
  refine hK.out _ _ (by (try dsimp only); exact head_at HH.out.ahead HH.out.root (range_of (But.heap (but_setRow w7 gr (cellsOf s).toArray) (But.heap HB7.out H13.out HGB.out HGN.out) (lt_of_block (But.heap HB7.out H13.out HGB.out HGN.out)) HGGR.out))) (fun hHeld => ?_)
  clear hK K
  refine wpAnyH_done (by kernel_rfl) ?_ _
  clear hHeld
  go_wp2_with fail
  refine bodyPost_ret (results_cell_row rfl _ _ gr 23 (cellsOf s).toArray (0, 0) _ rfl (setRow_heap w7 gr _ _ 23 _ HT1.out) Tryd.underlying23 rfl SS.out) rfl ⟨rfl, ?_⟩
  have b7 := HWW.out _ HB7.out
  exact b7.trans (((but_setRow _ gr _).mono b7.size).below HGR.out)
end Go.Proofs.YtlnenkmcegadmaaDoor
namespace Go.Proofs.YtlnenkmcegadmaaDoor
open Go.RowKit

theorem own_zero13 {w : World} {B : Nat} (hB : B ≤ w.heap.size) : OwnS (w.alloc (.cells #[] 23)) B (.slice (some ⟨w.heap.size, 0, none⟩) 0 0) [] := by
  have h := own_lit (w := w) (B := B) [] (fun _ h => by cases h) hB 0 rfl (by omega)
  exact h
/-- A join of two slices of sums, the first of the call's own: it lies where it lay, or in a new block. -/
theorem append_sums_at (w : World) (B : Nat) (v : Value) (ls : List (List UInt8)) (h : OwnS w B v ls) (ad : Addr) (m c : Nat) (q : List (List UInt8)) (hq : Sums w (some ad) m c q) (hb : ls.length + m ≤ 4000000) (hbase : B ≤ w.heap.size) :
    ∃ a' c' w', (Builtin.append_ #[36, 36] 36 #[v, .slice (some ad) m c]).run Tryd.prog w = .ok (.slice a' (ls.length + m) c') w' ∧ OwnS w' B (.slice a' (ls.length + m) c') (ls ++ q) ∧ w.grownBy w' v.ownBlock ∧ ((Value.slice a' (ls.length + m) c').ownBlock = v.ownBlock ∨ (Value.slice a' (ls.length + m) c').ownBlock = some w.heap.size) := by
  obtain ⟨ie, i1, i2, i3, i4⟩ := info_parts sum_zero
  have hql := hq.1
  have hall : ∀ s ∈ ls ++ q, s.length = 32 := fun s hs => by
    rcases List.mem_append.1 hs with hs | hs
    · exact h.2 s hs
    · exact hq.2.2.2.2.1 s hs
  obtain ⟨v', w', h1, h2, h3, _, h5⟩ := run_append_own_at (P := Tryd.prog) w B 36 36 23 ie _ 32 32 Tryd.underlying36 i1 i2 i3 i4 rfl (by decide) v ls.length (seqCells ls) h.1 ad m c (seqCells q) (by rw [seqCells_len hq.2.2.2.2.1, hql])
        (fun j u hj => by
          have hjm : j < m * 32 := by
            have := (List.getElem?_eq_some_iff.1 hj).1
            rw [seqCells_len hq.2.2.2.2.1, hql] at this
            exact this
          obtain ⟨b, off, he, _, hc⟩ := hq.2.2.2.2.2 (by omega)
          cases he
          have e1 : (⟨b, off, none⟩ : Addr).add j = ⟨b, off + j, none⟩ := by simp [Addr.add]
          have ej : j = j / 32 * 32 + j % 32 := by omega
          have e2 := seqCells_get hq.2.2.2.2.1 (j := j / 32) (i := j % 32) (by omega)
          rw [← ej] at e2
          rw [e2] at hj
          have := hc (j / 32) (by omega) (j % 32) u hj
          rw [e1, show off + j = off + j / 32 * 32 + j % 32 by omega]
          exact this)
        seqCells_one (by unfold maxLen; omega) (by omega) hbase
  have h6 : OwnS w' B v' (ls ++ q) := ⟨by rw [List.length_append, hql, seqCells_append]; exact h2, hall⟩
  obtain ⟨a', c', rfl, _⟩ := h6.shape
  have e : (ls ++ q).length = ls.length + m := by rw [List.length_append, hql]
  rw [e] at h1 h6 h5
  exact ⟨a', c', w', h1, h6, h3, h5⟩
section
variable {ops : Array Oper} {rest : List Oper} {o : Oper} {a : Act} {w : World} {Q : Exit → Act → World → Prop}
theorem wpList_append_at13 (hg : o.guard = none) (x y : Operand)
    (ho : o.op = .call { callee := .builtin .append, args := #[x, y], argTypes := #[36, 36] }) (hty : o.type = 36) (B : Nat) (v : Value) (ls : List (List UInt8)) (n : Nat) (hn : ls.length = n) (hx : a.eval x = v) (h : OwnS w B v ls) (ad : Addr) (m c : Nat) (q : List (List UInt8)) (hy : a.eval y = .slice (some ad) m c) (hq : Sums w (some ad) m c q) (hb : n + m ≤ 4000000) (hbase : B ≤ w.heap.size)
    (hk : ∀ a' c' w', OwnS w' B (.slice a' (n + m) c') (ls ++ q) → w.grownBy w' v.ownBlock → ((Value.slice a' (n + m) c').ownBlock = v.ownBlock ∨ (Value.slice a' (n + m) c').ownBlock = some w.heap.size) → wpList Tryd.prog ops Q rest (a.put o.dst (.slice a' (n + m) c')) w') : wpList Tryd.prog ops Q (o :: rest) a w := by
  subst hn
  refine wpList_plain hg fun K hK => ?_
  obtain ⟨a', c', w', h1, h2, h3, h4⟩ := append_sums_at w B v ls h ad m c q hq hb hbase
  unfold Oper.wp execOp
  simp only [ho, hty, resolve, invoke, builtin, Sem.run_bind, Sem.run_pure, Result.andThen_ok, List.map_toArray, List.map_cons, List.map_nil, hx, hy, h1]
  exact hK _ _ (hk a' c' w' h2 h3 h4)
theorem step_append_at13 {K : Act → World → Prop} {E : Prop} {tmps : Array Value} {ds : List Deferred} {d : Nat} (hd : o.dst = some d) (hw : Region.wanted o (yielded ops tmps) = true) (x y : Operand)
    (ho : o.op = .call { callee := .builtin .append, args := #[x, y], argTypes := #[36, 36] }) (hty : o.type = 36) (B : Nat) (v : Value) (ls : List (List UInt8)) (n : Nat) (hn : ls.length = n) (hx : Act.eval { tmps := tmps, defers := ds } x = v) (h : OwnS w B v ls) (ad : Addr) (m c : Nat) (q : List (List UInt8)) (hy : Act.eval { tmps := tmps, defers := ds } y = .slice (some ad) m c) (hq : Sums w (some ad) m c q) (hb : n + m ≤ 4000000) (hbase : B ≤ w.heap.size)
    (hk : ∀ a' c' w', OwnS w' B (.slice a' (n + m) c') (ls ++ q) → w.grownBy w' v.ownBlock → ((Value.slice a' (n + m) c').ownBlock = v.ownBlock ∨ (Value.slice a' (n + m) c').ownBlock = some w.heap.size) → K { tmps := tmps.setIfInBounds d (.slice a' (n + m) c'), defers := ds } w') :
    if Region.wanted o (yielded ops tmps) = true then Oper.wp Tryd.prog o { tmps := tmps, defers := ds } w K Q else E := by
  subst hn
  rw [if_pos hw]
  obtain ⟨a', c', w', h1, h2, h3, h4⟩ := append_sums_at w B v ls h ad m c q hq hb hbase
  unfold Oper.wp execOp
  simp only [ho, hty, resolve, invoke, builtin, Sem.run_bind, Sem.run_pure, Result.andThen_ok, List.map_toArray, List.map_cons, List.map_nil, hx, hy, h1]
  show K (Act.put _ o.dst _) _
  rw [hd]
  exact hk a' c' w' h2 h3 h4
theorem one_own {s : List UInt8} (hs : s.length = 32) : OwnS (w.alloc (.cells (cellsOf s).toArray 23)) w.heap.size (.slice (some ⟨w.heap.size, 0, none⟩) 1 1) [s] := by
  have h := own_lit (w := w) (B := w.heap.size) [s] (by simp [hs]) (Nat.le_refl _) 1 rfl (by omega)
  rw [seqCells_single] at h
  exact h
/-- A literal of one sum. -/
theorem step_one13 {K : Act → World → Prop} {E : Prop} {tmps : Array Value} {ds : List Deferred} {d : Nat} {s : List UInt8} {x : Operand} (hd : o.dst = some d) (hw : Region.wanted o (yielded ops tmps) = true)
    (ho : o.op = .buildSlice 36 1 #[(0, x)]) (hx : Act.eval { tmps := tmps, defers := ds } x = .agg (cellsOf s).toArray) (hs : s.length = 32)
    (h : ∀ (p : Nat) (w' : World), w.heap.size ≤ p → Sums w' (some ⟨p, 0, none⟩) 1 1 [s] → Below w.heap.size w w' → K { tmps := tmps.setIfInBounds d (.slice (some ⟨p, 0, none⟩) 1 1), defers := ds } w') :
    if Region.wanted o (yielded ops tmps) = true then Oper.wp Tryd.prog o { tmps := tmps, defers := ds } w K Q else E := by
  rw [if_pos hw]
  have hb := run_build1 w s hs
  unfold Oper.wp execOp
  simp only [ho, List.map_toArray, List.map_cons, List.map_nil, hx, Sem.run_bind, Sem.run_pure, Result.andThen_ok, hb]
  show K (Act.put _ o.dst _) _
  rw [hd]
  exact h _ _ (Nat.le_refl _) (one_own hs).sums ((Below.refl _ _).alloc (Nat.le_refl _) _)
theorem wpList_one13 {s : List UInt8} (hg : o.guard = none) (x : Operand)
    (ho : o.op = .buildSlice 36 1 #[(0, x)]) (hx : a.eval x = .agg (cellsOf s).toArray) (hs : s.length = 32)
    (h : ∀ (p : Nat) (w' : World), w.heap.size ≤ p → Sums w' (some ⟨p, 0, none⟩) 1 1 [s] → Below w.heap.size w w' → wpList Tryd.prog ops Q rest (a.put o.dst (.slice (some ⟨p, 0, none⟩) 1 1)) w') : wpList Tryd.prog ops Q (o :: rest) a w := by
  refine wpList_plain hg fun K hK => ?_
  have hb := run_build1 w s hs
  unfold Oper.wp execOp
  simp only [ho, List.map_toArray, List.map_cons, List.map_nil, hx, Sem.run_bind, Sem.run_pure, Result.andThen_ok, hb]
  exact hK _ _ (h _ _ (Nat.le_refl _) (one_own hs).sums ((Below.refl _ _).alloc (Nat.le_refl _) _))
/-- The cut '[:A]', taken first. -/
theorem yields_upto13 {S : World → Prop} {x : Operand} {hi : Operand} {ad : Option Addr} {n c A : Nat} (hw : Region.wanted o (yielded ops a.tmps) = true) (ho : o.op = .slice 36 x none (some hi) none) (hx : a.eval x = .slice ad n c) (hhi : a.eval hi = .int .i64 (A : Int)) (hA : A ≤ c) :
    YieldsIf Tryd.prog ops S o (.slice ad A c) a :=
  .inl ⟨hw, fun w _ => by
    have h := run_cut_to (a := ad) (n := n) hA w
    unfold execOp
    simp only [ho, hx, hhi, Option.map_some, Option.map_none, Sem.run_bind, h, Result.andThen_ok, Sem.run_pure]⟩
end
theorem agRow13 (w : World) : (isAgg 36).run Tryd.prog w = .ok false w := by kernel_rfl
theorem OwnS.stay {w w' : World} {B : Nat} {v : Value} {ls : List (List UInt8)} (h : OwnS w B v ls) (hk : ∀ k, v.ownBlock = some k → w'.heap[k]? = w.heap[k]?) : OwnS w' B v ls := by
  refine ⟨⟨h.1.1, ?_⟩, h.2⟩
  rcases h.1.2 with h0 | ⟨g, cap, cur, hv, hB, hh, r⟩
  · exact .inl h0
  · exact .inr ⟨g, cap, cur, hv, hB, by rw [hk g (by rw [hv]; rfl)]; exact hh, r⟩
theorem OwnS.full {w : World} {B n c : Nat} {a : Option Addr} {ls : List (List UInt8)} (h : OwnS w B (.slice a n c) ls) (h0 : ls ≠ []) : ∃ g, a = some ⟨g, 0, none⟩ ∧ B ≤ g ∧ g < w.heap.size := by
  rcases h.1.2 with ⟨_, e⟩ | ⟨g, cap, cur, e, hB, hh, _⟩
  · exact absurd (List.eq_nil_of_length_eq_zero e) h0
  · cases e
    exact ⟨g, rfl, hB, lt_of_block hh⟩
end Go.Proofs.YtlnenkmcegadmaaDoor
namespace Go.Proofs.YtlnenkmcegadmaaDoor
open Go.RowKit

theorem sums_xs19 {xs : List PTx} {n j : Nat} (hn : xs.length = n) (hj : j < n) : (xs.map txSum).getD j [] = txSum (xs.getD j noTx) := by
  have h : j < xs.length := by omega
  simp [List.getD, h]
/-- What the sum of each is, and that it is told in any later world. -/
def EachSum (w : World) (n : Nat) (xs : List PTx) (us : List (List UInt8)) : Prop := us.length = n ∧ ∀ j, j < n → ∃ s, us.getD j [] = s ∧ s.length = 32 ∧ ∀ W : World, Below w.heap.size w W → Calls Tryd.prog 17 #[.agg (xs.getD j noTx).cells.toArray] W fun e w' => e = .returned (.agg (cellsOf s).toArray) ∧ Below W.heap.size W w'
theorem eachSum {w : World} {a : Option Addr} {n c : Nat} {xs : List PTx} (h : SliceOf txK w a n c xs) (hk : KsAt w) (hf : ∀ x ∈ xs, FrontFew false x) : EachSum w n xs (xs.map txSum) :=
  ⟨by rw [List.length_map, h.1], fun j hj => ⟨_, sums_xs19 h.1 hj, txSum_len _, fun W hW => txSum_any (x := xs.getD j noTx) ((h.below hW).get hj) (hk.below hW) (hf _ (h.mem hj))⟩⟩
/-- All below is as it was. -/
structure AtB (w0 w : World) : Prop where
  below : Below w0.heap.size w0 w
set_option linter.unusedSimpArgs false in
set_option maxRecDepth 100000 in
set_option maxHeartbeats 6400000 in
/-- Of any transactions: their sums, in a row of its own. -/
theorem bsums_any {w : World} {a : Option Addr} {n c : Nat} {xs : List PTx} (h : SliceOf txK w a n c xs) (hk : KsAt w) (hf : ∀ x ∈ xs, FrontFew false x) (hn : n ≤ 1000) :
    Calls Tryd.prog 22 #[.slice a n c] w fun e w' => e = .returned (.slice (some ⟨w.heap.size, 0, none⟩) n n) ∧ Sums w' (some ⟨w.heap.size, 0, none⟩) n n (xs.map txSum) ∧ Below w.heap.size w w' := by
  obtain ⟨ie, i1, i2, i3, i4⟩ := info32
  have hn63 := h.len63
  have hes := eachSum h hk hf
  have H := Lib.hid h
  revert hes
  generalize xs.map txSum = us
  intro hes
  have HES := Lib.hid hes
  have I1 := Lib.hid i1
  have I2 := Lib.hid i2
  have I3 := Lib.hid i3
  have I4 := Lib.hid i4
  clear h hk hf hes i1 i2 i3 i4
  go_enter Tryd.func22, Tryd.ntmps22
  go_upto_region 3 with (first | (at_make; refine wpList_make_full _ rfl _ _ 36 rfl w.heap.size 23 ie _ 32 Tryd.underlying36 I1.out I2.out I3.out _ _ _ _ n rfl rfl rfl rfl (by rw [I4.out]; omega) (by unfold maxLen; omega) (Nat.le_refl _) ?_; intro w1 hown hgrow) | fail)
  have hf0 : Holds w w.heap.size n (soFar us n 0) w1 := ⟨by unfold soFar; rw [List.take_zero, List.nil_append, Nat.sub_zero]; exact made_own hown, ⟨hgrow.os, hgrow.tape, hgrow.output, hgrow.size, fun k hk => hgrow.block k hk (by simp)⟩⟩
  have HF0 := Lib.hid hf0
  clear hown hgrow hf0
  obtain ⟨g, hg⟩ : ∃ g, g = w.heap.size := ⟨_, rfl⟩
  rw [← hg] at HF0 ⊢
  have HG := Lib.hid hg
  clear hg
  go_loopw [11] (fun i wr => ∃ j : Nat, j ≤ n ∧ i = .int .i64 j ∧ Holds w g n (soFar us n j) wr) (fun i _ => n - (intOf i).toNat)
  case atStart => exact ⟨0, Nat.zero_le _, rfl, HF0.out⟩
  case round =>
    obtain ⟨j, hj, rfl, hat⟩ := hrel
    have HAT := Lib.hid hat
    clear hat HF0
    by_cases hjn : j < n
    · have HJN := Lib.hid hjn
      have f1 : (j : Int) < (n : Int) := by omega
      have f0 : (0 : Int) ≤ (j : Int) := by omega
      have ft : ((j : Int)).toNat = j := by omega
      obtain ⟨b1, o1, e1, hlt1, hc1⟩ := (H.out.below HAT.out.below).2.2.2.2.2 (by omega)
      have hx := (H.out.below HAT.out.below).get hjn
      have hrx := hc1 j hjn
      replace hx : TxIn wr (xs.getD j noTx) := hx
      replace hrx : wr.rangeAt b1 (o1 + j * 40) (PTx.cells (xs.getD j noTx)) := hrx
      obtain ⟨s, hu, hsl, hts⟩ := HES.out.2 j hjn
      revert hx hrx hts
      generalize xs.getD j noTx = y
      intro hx hrx hts
      subst e1
      have RX : Hid (wr.rangeAt b1 (o1 + j * 40) y.cells) := Lib.hid hrx
      have SY := Lib.hid (tx_size (x := y) hx.op.root)
      have HYL := Lib.hid hx.op.root
      have HTS := Lib.hid hts
      have HSL := Lib.hid hsl
      have HU := Lib.hid hu
      clear hc1 hrx hx hts hsl hu
      go_upto_region 5 with (first
        | (refine wpList_load_mid rfl 50 _ rfl b1 (o1 + j * 40) rfl y.cells _ RX.out Tryd.underlying50 rfl SY.out ?_)
        | (refine wpList_new rfl 50 rfl noTx.cells.toArray Tryd.zeroTx160 ?_; intro q w5 hq hh hb; go_frame; have HQ := Lib.hid hh; have HNQ : Hid (wr.heap.size ≤ q) := Lib.hid hq; have HB5 := Lib.hid hb; clear hq hh hb)
        | (refine wpList_row10 rfl 50 _ _ rfl q y.cells rfl rfl 50 noTx.cells HQ.out SY.out (by rw [PTx.len HYL.out]; rfl) y.one ?_; intro w6 hh hb; have RQ := Lib.hid (range_of hh); have HB6 := Lib.hid (But.in HB5.out hb HNQ.out); clear hh hb) | fail)
      have HA6 := Lib.hid (HAT.out.more HB6.out)
      have HC6 := Lib.hid (HTS.out w6 HA6.out.below)
      clear HAT HQ HNQ HB5 HB6 HTS RX
      have SZS : Hid ((Tryd.prog.info? 23).map (·.size) = some (cellsOf s).toArray.size) := Lib.hid (by rw [List.size_toArray, cellsOf_len, HSL.out]; exact Tryd.size23)
      go_upto_region 6 with (first
        | (refine wpList_load_mid rfl 50 _ rfl q (0) rfl y.cells _ RQ.out Tryd.underlying50 rfl SY.out ?_)
        | (go_at_call 17; (with_reducible refine HC6.out.mono ?_); rintro e w7 ⟨rfl, hb⟩; have HA7 := Lib.hid (HA6.out.more hb); have TH := Lib.hid (show w7.there g (j * 32) (cellsOf s).toArray.size by rw [List.size_toArray, cellsOf_len, HSL.out]; exact HA7.out.own.there HJN.out); clear hb)
        | (refine wpList_store_mid rfl 23 _ _ rfl g (j * 32) (cellsOf s).toArray rfl rfl TH.out SZS.out (all_oneCell_toArray (cellsOf_one s)) ?_) | fail)
      have h4 := HA7.out.step HJN.out HSL.out
      rw [soFar_step us n j HES.out.1 HJN.out s HU.out] at h4
      have H4 := Lib.hid h4
      clear h4 HA7 HA6 HC6 TH RQ
      revert H4
      generalize World.setCells w7 _ _ _ = w8
      intro H4
      go_wp2_with fail
      go_roundw
      case rel => exact ⟨j + 1, by omega, by go_num, H4.out⟩
      case measure => simp [intOf]; omega
    · obtain rfl : j = n := by omega
      go_wp2_with fail
      go_ret
      have ho := HAT.out.own
      rw [show soFar us j j = us from row_end us zero32 j HES.out.1] at ho
      exact ⟨by rw [← HG.out]; rfl, by rw [← HG.out]; exact ho.sums, HAT.out.below⟩
theorem bsums_some {w : World} {a : Option Addr} {n c : Nat} {xs : List PTx} (h : SliceOf txK w a n c xs) (hk : KsAt w) (hf : ∀ x ∈ xs, FrontFew false x) (hn : n ≤ 1000) :
    Calls Tryd.prog 22 #[.slice a n c] w fun e w' => ∃ q, e = .returned (.slice (some ⟨q, 0, none⟩) n n) ∧ Sums w' (some ⟨q, 0, none⟩) n n (xs.map txSum) ∧ Below w.heap.size w w' :=
  (bsums_any h hk hf hn).mono fun _ _ ⟨h1, h2, h3⟩ => ⟨_, h1, h2, h3⟩
set_option linter.unusedSimpArgs false in
set_option maxRecDepth 100000 in
set_option maxHeartbeats 6400000 in
/-- The law's: joined one by one. -/
theorem lsums_any {w : World} {a : Option Addr} {n c : Nat} {xs : List PTx} (h : SliceOf txK w a n c xs) (hk : KsAt w) (hf : ∀ x ∈ xs, FrontFew false x) (hn : n ≤ 1000) :
    Calls Tryd.prog 12 #[.slice a n c] w fun e w' => ∃ a' c', e = .returned (.slice a' n c') ∧ Sums w' a' n c' (xs.map txSum) ∧ (∀ x, a' = some x → w.heap.size ≤ x.block) ∧ Below w.heap.size w w' := by
  have hn63 := h.len63
  have hes := eachSum h hk hf
  have H := Lib.hid h
  revert hes
  generalize xs.map txSum = us
  intro hes
  have HES := Lib.hid hes
  clear h hk hf hes
  go_enter Tryd.func12, Tryd.ntmps12
  go_upto_region 3 with (fail)
  go_loopw [3, 4] (fun v i wr => ∃ (j : Nat) (a8 : Option Addr) (c8 : Nat), j ≤ n ∧ i = .int .i64 j ∧ v = .slice a8 j c8 ∧ OwnS wr w.heap.size (.slice a8 j c8) (us.take j) ∧ Below w.heap.size w wr) (fun _ i _ => n - (intOf i).toNat)
  case atStart => exact ⟨0, none, 0, Nat.zero_le _, rfl, rfl, OwnS.nil _ _, Below.refl _ _⟩
  case round =>
    obtain ⟨j, a8, c8, hj, rfl, rfl, hown, hbl⟩ := hrel
    have HOW := Lib.hid hown
    have HAT := Lib.hid (AtB.mk hbl)
    clear hown hbl
    by_cases hjn : j < n
    · have HJN := Lib.hid hjn
      have f1 : (j : Int) < (n : Int) := by omega
      have f0 : (0 : Int) ≤ (j : Int) := by omega
      have ft : ((j : Int)).toNat = j := by omega
      obtain ⟨b1, o1, e1, hlt1, hc1⟩ := (H.out.below HAT.out.below).2.2.2.2.2 (by omega)
      have hx := (H.out.below HAT.out.below).get hjn
      have hrx := hc1 j hjn
      replace hx : TxIn wr (xs.getD j noTx) := hx
      replace hrx : wr.rangeAt b1 (o1 + j * 40) (PTx.cells (xs.getD j noTx)) := hrx
      obtain ⟨s, hu, hsl, hts⟩ := HES.out.2 j hjn
      revert hx hrx hts
      generalize xs.getD j noTx = y
      intro hx hrx hts
      subst e1
      have RX : Hid (wr.rangeAt b1 (o1 + j * 40) y.cells) := Lib.hid hrx
      have SY := Lib.hid (tx_size (x := y) hx.op.root)
      have HYL := Lib.hid hx.op.root
      have HTS := Lib.hid hts
      have HSL := Lib.hid hsl
      have HU := Lib.hid hu
      clear hc1 hrx hx hts hsl hu
      have HC := Lib.hid (HTS.out wr HAT.out.below)
      have HST : Hid (us.take (j + 1) = us.take j ++ [s]) := Lib.hid (by rw [← HU.out]; exact take_getD (d := []) (by rw [HES.out.1]; exact hjn))
      have HLEN : Hid ((us.take j).length = j) := Lib.hid (by rw [List.length_take, HES.out.1]; omega)
      have HJ1 : Hid (j + 1 ≤ 4000000) := Lib.hid (by omega)
      clear HTS HU
      go_upto_region 4 with (first
        | (refine wpList_load_mid rfl 50 _ rfl b1 (o1 + j * 40) rfl y.cells _ RX.out Tryd.underlying50 rfl SY.out ?_)
        | (go_at_call 17; (with_reducible refine HC.out.mono ?_); rintro e w5 ⟨rfl, hb⟩; have HA5 := Lib.hid (AtB.mk (bthen HAT.out.below hb)); have HOW5 := Lib.hid (HOW.out.below hb); clear hb)
        | (refine wpList_one13 rfl _ rfl rfl HSL.out ?_; intro p w6 hp hq hb; go_frame; have HQ := Lib.hid hq; have HA6 := Lib.hid (AtB.mk (bthen HA5.out.below hb)); have HOW6 := Lib.hid (HOW5.out.below hb); clear hp hq hb)
        | (at_builtin; refine wpList_append_at13 rfl _ _ rfl rfl w.heap.size (.slice a8 j c8) (us.take j) j HLEN.out rfl HOW6.out ⟨p, 0, none⟩ 1 1 [s] rfl HQ.out HJ1.out HA6.out.below.size ?_; intro a7 c7 w7 ho hg _; go_frame; have HO7 := Lib.hid ho; have HA7 := Lib.hid (AtB.mk (HA6.out.below.trans (HOW6.out.grows hg HA6.out.below.size))); clear ho hg) | fail)
      clear HQ HOW6 HOW5 HOW HC HAT HA5 HA6 RX
      go_wp2_with fail
      go_roundw
      case rel => exact ⟨j + 1, a7, c7, by omega, by go_num, rfl, by rw [HST.out]; exact HO7.out, HA7.out.below⟩
      case measure => simp [intOf]; omega
    · obtain rfl : j = n := by omega
      have ho := HOW.out
      rw [List.take_of_length_le (by rw [HES.out.1]; exact Nat.le_refl _)] at ho
      obtain ⟨a', c', e8, hnew⟩ := ho.shape
      have HO := Lib.hid ho
      have HN : Hid (∀ x, a8 = some x → w.heap.size ≤ x.block) := Lib.hid (by cases e8; exact hnew)
      clear ho hnew HOW e8
      go_wp2_with fail
      go_ret
      exact ⟨a8, c8, rfl, HO.out.sums, HN.out, HAT.out.below⟩
end Go.Proofs.YtlnenkmcegadmaaDoor
namespace Go.Proofs.YtlnenkmcegadmaaDoor
open Go.RowKit

/-- What is small of a transaction, plainly. -/
structure Small19 (x : PTx) : Prop where
  ins : x.ins.length ≤ 20
  outs : x.outs.length ≤ 20
  pre : ∀ y ∈ x.ins, y.pre.length ≤ 100
  ws : ∀ z ∈ x.outs, z.ws.length ≤ 20 ∧ ∀ u ∈ z.ws, u.ks.length ≤ 20
  data : x.op.data.length ≤ 65536
theorem small_strip19 {y x : PTx} (h : y.strip = x.strip) (hx : Small19 x) : Small19 y := by
  have h1 : y.ins.map PIn.strip = x.ins.map PIn.strip := congrArg PTx.ins h
  have h2 : y.outs.map POut.strip = x.outs.map POut.strip := congrArg PTx.outs h
  have h3 : y.op.strip = x.op.strip := congrArg PTx.op h
  have e1 := congrArg List.length h1
  have e2 := congrArg List.length h2
  simp at e1 e2
  refine ⟨by rw [e1]; exact hx.ins, by rw [e2]; exact hx.outs, fun p hp => ?_, fun z hz => ?_, ?_⟩
  · have h9 : PIn.strip p ∈ x.ins.map PIn.strip := by rw [← h1]; exact List.mem_map_of_mem hp
    obtain ⟨q, hq, e⟩ := List.mem_map.1 h9
    have e9 : (PIn.strip q).pre = (PIn.strip p).pre := congrArg PIn.pre e
    replace e9 : q.pre = p.pre := e9
    rw [← e9]
    exact hx.pre q hq
  · have h9 : POut.strip z ∈ x.outs.map POut.strip := by rw [← h2]; exact List.mem_map_of_mem hz
    obtain ⟨q, hq, e⟩ := List.mem_map.1 h9
    have e9 : (POut.strip q).ws = (POut.strip z).ws := congrArg POut.ws e
    replace e9 : q.ws.map PWay.strip = z.ws.map PWay.strip := e9
    have e8 := congrArg List.length e9
    simp at e8
    have h8 := hx.ws q hq
    refine ⟨by omega, fun u hu => ?_⟩
    have h7 : PWay.strip u ∈ q.ws.map PWay.strip := by rw [e9]; exact List.mem_map_of_mem hu
    obtain ⟨v, hv, e6⟩ := List.mem_map.1 h7
    have e5 : (PWay.strip v).ks = (PWay.strip u).ks := congrArg PWay.ks e6
    replace e5 : v.ks = u.ks := e5
    rw [← e5]
    exact h8.2 v hv
  · have e9 : (POp.strip y.op).data = (POp.strip x.op).data := congrArg POp.data h3
    replace e9 : y.op.data = x.op.data := e9
    rw [e9]
    exact hx.data
theorem small_few19 {w : World} {x : PTx} (h : TxIn w x) (hx : Small19 x) (hs : x.sn ≤ 1000) : FewTxG x := by
  refine ⟨by rw [← h.ins.1]; have := hx.ins; omega, by rw [← h.outs.1]; have := hx.outs; omega, fun y hy => ?_, fun z hz => ?_, fun z hz u hu => ?_, ?_, hs⟩
  · have h1 : InIn w y := h.ins.2.2.2.2.1 y hy
    rw [← h1.pre.1]
    have := hx.pre y hy
    omega
  · have h1 : OutIn w z := h.outs.2.2.2.2.1 z hz
    rw [← h1.ws.1]
    have := (hx.ws z hz).1
    omega
  · have := (hx.ws z hz).2 u hu
    omega
  · rw [← h.op.data.1]
    have := hx.data
    omega
theorem small_front19 {w : World} {x : PTx} (sh : Bool) (h : TxIn w x) (hx : Small19 x) : FrontFew sh x := by
  refine frontFew sh h (by rw [← h.ins.1]; exact hx.ins) (by rw [← h.outs.1]; exact hx.outs) (fun y hy => ?_) hx.ws (by rw [← h.op.data.1]; exact hx.data)
  have h1 : InIn w y := h.ins.2.2.2.2.1 y hy
  rw [← h1.pre.1]
  exact hx.pre y hy
theorem frontB_strip19 (sh : Bool) (x : PTx) : frontB sh x.strip = frontB sh x := by
  show numB ((x.ins.map PIn.strip).length : Nat) ++ (insB sh (x.ins.map PIn.strip) ++ (numB ((x.outs.map POut.strip).length : Nat) ++ (outsB (x.outs.map POut.strip) ++ opB x.op.strip))) = _
  rw [insB_strip, outsB_strip, List.length_map, List.length_map]
  rfl
theorem txSum_alike19 {x t : PTx} (h : x.strip = t.strip) : txSum x = txSum t := by
  unfold txSum
  rw [← frontB_strip19 false x, ← frontB_strip19 false t, h]
theorem sums_alike19 {xs ys : List PTx} (h : ys.map PTx.strip = xs.map PTx.strip) : ys.map txSum = xs.map txSum := by
  have e : ∀ zs : List PTx, zs.map txSum = (zs.map PTx.strip).map fun z => sumOf (partsOf 41 [frontB false z]) := fun zs => by
    rw [List.map_map]
    refine List.map_congr_left fun z _ => ?_
    show txSum z = sumOf (partsOf 41 [frontB false z.strip])
    rw [frontB_strip19]
    rfl
  rw [e, e, h]
theorem all_strip19 {P : PTx → Prop} (hP : ∀ {y x : PTx}, y.strip = x.strip → P x → P y) {xs ys : List PTx} (h : ys.map PTx.strip = xs.map PTx.strip) (hx : ∀ x ∈ xs, P x) : ∀ y ∈ ys, P y := fun y hy => by
  have h9 : PTx.strip y ∈ xs.map PTx.strip := by rw [← h]; exact List.mem_map_of_mem hy
  obtain ⟨x, hx2, e⟩ := List.mem_map.1 h9
  exact hP e.symm (hx x hx2)
/-- Its signs are those of another one. -/
def PTx.withSigns19 (y : PTx) (a : Option Addr) (n c : Nat) (ss : List PSign) : PTx := ⟨y.ia, y.inn, y.ic, y.ins, y.oa, y.on, y.oc, y.outs, y.op, a, n, c, ss⟩
theorem withSigns_cells19 {y : PTx} (hr : y.op.root.length = 32) (a : Option Addr) (n c : Nat) (ss : List PSign) : (y.withSigns19 a n c ss).cells = y.cells.set 39 (.slice a n c) := by
  have h9 := POp.len hr
  show Value.slice y.ia y.inn y.ic :: .slice y.oa y.on y.oc :: (y.op.cells ++ [.slice a n c]) = (Value.slice y.ia y.inn y.ic :: .slice y.oa y.on y.oc :: (y.op.cells ++ [.slice y.sa y.sn y.sc])).set 39 (.slice a n c)
  show _ = Value.slice y.ia y.inn y.ic :: .slice y.oa y.on y.oc :: ((y.op.cells ++ [Value.slice y.sa y.sn y.sc]).set 37 (.slice a n c))
  rw [List.set_append_right _ _ (by omega), h9]
  rfl
theorem withSigns_strip19 {y t : PTx} (h : SameTx y t) (a : Option Addr) (n c : Nat) : (y.withSigns19 a n c t.signs).strip = t.strip := by
  have e1 := congrArg List.length h.ins
  have e2 := congrArg List.length h.outs
  simp at e1 e2
  show PTx.mk none y.ins.length 0 (y.ins.map PIn.strip) none y.outs.length 0 (y.outs.map POut.strip) y.op.strip none t.signs.length 0 t.signs = PTx.mk none t.ins.length 0 (t.ins.map PIn.strip) none t.outs.length 0 (t.outs.map POut.strip) t.op.strip none t.signs.length 0 t.signs
  rw [h.ins, h.outs, h.op, e1, e2]
end Go.Proofs.YtlnenkmcegadmaaDoor
namespace Go.Proofs.YtlnenkmcegadmaaDoor
open Go.RowKit
variable {α : Type}

theorem flat_put {f : α → List Value} {k : Nat} {d : α} {xs : List α} (h : ∀ x ∈ xs, (f x).length = k) {j : Nat} (hj : j < xs.length) {x' : α} (hx : (f x').length = k) {off : Nat} {vs : List Value} (hov : off + vs.length ≤ k) (hk : 0 < k)
    (hc : ∀ i, i < k → (f x')[i]? = if off ≤ i ∧ i < off + vs.length then vs[i - off]? else (f (xs.getD j d))[i]?) (i : Nat) :
    ((xs.set j x').flatMap f)[i]? = if j * k + off ≤ i ∧ i < j * k + off + vs.length ∧ i < xs.length * k then vs[i - (j * k + off)]? else (xs.flatMap f)[i]? := by
  have h' : ∀ y ∈ xs.set j x', (f y).length = k := fun y hy => by
    rcases List.mem_or_eq_of_mem_set hy with hy | rfl
    · exact h y hy
    · exact hx
  by_cases hi : i < xs.length * k
  · obtain ⟨q, hq⟩ : ∃ q, q = i / k := ⟨_, rfl⟩
    obtain ⟨r, hr⟩ : ∃ r, r = i % k := ⟨_, rfl⟩
    have hrk : r < k := by rw [hr]; exact Nat.mod_lt _ hk
    have e : i = q * k + r := by rw [hq, hr]; exact (Nat.div_add_mod' i k).symm
    have hql : q < xs.length := by rw [hq]; exact Nat.div_lt_of_lt_mul (by rw [Nat.mul_comm]; exact hi)
    have hjk : j * k + k ≤ xs.length * k := by have := Nat.mul_le_mul_right k (show j + 1 ≤ xs.length from hj); rw [Nat.add_mul, Nat.one_mul] at this; exact this
    have e1 := flat_get (d := d) h' (j := q) (i := r) (by rw [List.length_set]; exact hql) hrk
    have e2 := flat_get (d := d) h (j := q) (i := r) hql hrk
    rw [e, e1, e2]
    by_cases c : q = j
    · subst c
      have e3 : (xs.set q x').getD q d = x' := by rw [List.getD_eq_getElem?_getD, List.getElem?_set_self hj]; rfl
      rw [e3, hc r hrk]
      by_cases c2 : off ≤ r ∧ r < off + vs.length
      · rw [if_pos c2, if_pos ⟨by omega, by omega, by omega⟩, show q * k + r - (q * k + off) = r - off by omega]
      · rw [if_neg c2, if_neg (fun c3 => c2 ⟨by omega, by omega⟩)]
    · have e3 : (xs.set j x').getD q d = xs.getD q d := by rw [List.getD_eq_getElem?_getD, List.getElem?_set_ne (fun e => c e.symm), ← List.getD_eq_getElem?_getD]
      rw [e3, if_neg]
      intro c3
      rcases Nat.lt_or_gt_of_ne c with c4 | c4
      · have := Nat.mul_le_mul_right k (show q + 1 ≤ j from c4)
        rw [Nat.add_mul, Nat.one_mul] at this
        omega
      · have := Nat.mul_le_mul_right k (show j + 1 ≤ q from c4)
        rw [Nat.add_mul, Nat.one_mul] at this
        omega
  · rw [if_neg (fun c => hi c.2.2), List.getElem?_eq_none (by rw [cells_flat_len h', List.length_set]; omega), List.getElem?_eq_none (by rw [cells_flat_len h]; omega)]
/-- A thing of a row, or a part of one, is written. -/
theorem OwnOf.put {K : Sort8 α} {t : TypeId} {w : World} {B g n c j off : Nat} {xs : List α} {vs : List Value} (h : OwnOf K t w B (.slice (some ⟨g, 0, none⟩) n c) xs) (hj : j < n) (x' : α) (hx : (K.cells x').length = K.size) (hov : off + vs.length ≤ K.size)
    (hc : ∀ i, i < K.size → (K.cells x')[i]? = if off ≤ i ∧ i < off + vs.length then vs[i - off]? else (K.cells (xs.getD j K.dflt))[i]?) :
    OwnOf K t (w.setCells g (j * K.size + off) vs) B (.slice (some ⟨g, 0, none⟩) n c) (xs.set j x') ∧ But w.heap.size g w (w.setCells g (j * K.size + off) vs) := by
  obtain ⟨a, c', e, _⟩ := h.shape
  have hn : xs.length = n := by cases e; rfl
  have h1 := h.1
  rw [hn] at h1
  obtain ⟨ys, r1, r2, r3, r4⟩ := setCells_own vs (j * K.size + off) w _ h1
  have e : ys = (xs.set j x').flatMap K.cells := by
    apply List.ext_getElem?
    intro i
    rw [r4 i, flat_put (d := K.dflt) h.2 (by omega) hx hov K.pos hc i, cells_flat_len h.2]
  rw [e] at r1
  refine ⟨⟨by rw [List.length_set, hn]; exact r1, fun t ht => ?_⟩, r3⟩
  rcases List.mem_or_eq_of_mem_set ht with ht | rfl
  · exact h.2 t ht
  · exact hx
/-- .. a whole thing. -/
theorem OwnOf.putAll {K : Sort8 α} {t : TypeId} {w : World} {B g n c j : Nat} {xs : List α} (h : OwnOf K t w B (.slice (some ⟨g, 0, none⟩) n c) xs) (hj : j < n) (x' : α) (hx : (K.cells x').length = K.size) :
    OwnOf K t (w.setCells g (j * K.size) (K.cells x')) B (.slice (some ⟨g, 0, none⟩) n c) (xs.set j x') ∧ But w.heap.size g w (w.setCells g (j * K.size) (K.cells x')) := by
  have h9 := h.put (off := 0) (vs := K.cells x') hj x' hx (by omega) (fun i hi => by rw [if_pos ⟨by omega, by omega⟩, Nat.sub_zero])
  rw [Nat.add_zero] at h9
  exact h9
/-- .. one cell of it. -/
theorem OwnOf.putCell {K : Sort8 α} {t : TypeId} {w : World} {B g n c j off : Nat} {xs : List α} {v : Value} (h : OwnOf K t w B (.slice (some ⟨g, 0, none⟩) n c) xs) (hj : j < n) (x' : α) (hoff : off < K.size) (hx : K.cells x' = (K.cells (xs.getD j K.dflt)).set off v) (hl : (K.cells (xs.getD j K.dflt)).length = K.size) :
    OwnOf K t (w.setCell ⟨g, j * K.size + off, none⟩ v) B (.slice (some ⟨g, 0, none⟩) n c) (xs.set j x') ∧ But w.heap.size g w (w.setCell ⟨g, j * K.size + off, none⟩ v) :=
  h.put (off := off) (vs := [v]) hj x' (by rw [hx, List.length_set, hl]) (by simp; omega) (fun i hi => by
    rw [hx]
    by_cases c : i = off
    · subst c
      rw [if_pos ⟨by omega, by simp⟩, List.getElem?_set_self (by omega), Nat.sub_self]
      rfl
    · rw [if_neg (by simp; omega), List.getElem?_set_ne (fun e => c e.symm)])
theorem OwnOf.there {K : Sort8 α} {t : TypeId} {w : World} {B g n c j : Nat} {xs : List α} (h : OwnOf K t w B (.slice (some ⟨g, 0, none⟩) n c) xs) (hj : j < n) : w.there g (j * K.size) K.size := by
  obtain ⟨a, c', e, _⟩ := h.shape
  have hn : xs.length = n := by cases e; rfl
  have h1 := h.1
  rw [hn] at h1
  intro i hi
  refine ⟨?_, h1.frozenAt _⟩
  have h2 := Nat.mul_le_mul_right K.size (show j + 1 ≤ n by omega)
  rw [Nat.add_mul, Nat.one_mul] at h2
  rw [h1.cellAt _ (by omega), List.getElem?_eq_getElem (by rw [cells_flat_len h.2, hn]; omega)]
  rfl
theorem OwnOf.cellIn {K : Sort8 α} {t : TypeId} {w : World} {B g n c j i : Nat} {xs : List α} (h : OwnOf K t w B (.slice (some ⟨g, 0, none⟩) n c) xs) (hj : j < n) (hi : i < K.size) : w.cell? ⟨g, j * K.size + i, none⟩ = (K.cells (xs.getD j K.dflt))[i]? ∧ w.frozen? ⟨g, j * K.size + i, none⟩ = false := by
  obtain ⟨a, c', e, _⟩ := h.shape
  have hn : xs.length = n := by cases e; rfl
  have h1 := h.1
  rw [hn] at h1
  have h2 := Nat.mul_le_mul_right K.size (show j + 1 ≤ n by omega)
  rw [Nat.add_mul, Nat.one_mul] at h2
  exact ⟨by rw [h1.cellAt _ (by omega), flat_get (d := K.dflt) h.2 (by omega) hi], h1.frozenAt _⟩
/-- What 'make' of so many holds. -/
theorem made_flat (K : Sort8 α) (hd : (K.cells K.dflt).length = K.size) (n : Nat) : (madeCells (K.cells K.dflt).toArray (n * K.size)).toList = (List.replicate n K.dflt).flatMap K.cells := by
  have hp := K.pos
  have hall : ∀ x ∈ List.replicate n K.dflt, (K.cells x).length = K.size := fun x hx => by rw [(List.mem_replicate.1 hx).2]; exact hd
  apply List.ext_getElem?
  intro i
  by_cases hi : i < n * K.size
  · obtain ⟨q, hq⟩ : ∃ q, q = i / K.size := ⟨_, rfl⟩
    obtain ⟨r, hr⟩ : ∃ r, r = i % K.size := ⟨_, rfl⟩
    have hrk : r < K.size := by rw [hr]; exact Nat.mod_lt _ hp
    have e : i = q * K.size + r := by rw [hq, hr]; exact (Nat.div_add_mod' i K.size).symm
    have hql : q < n := by rw [hq]; exact Nat.div_lt_of_lt_mul (by rw [Nat.mul_comm]; exact hi)
    have e1 := flat_get (d := K.dflt) hall (j := q) (i := r) (by rw [List.length_replicate]; exact hql) hrk
    rw [← e] at e1
    have e2 : (List.replicate n K.dflt).getD q K.dflt = K.dflt := by simp [List.getD, hql]
    rw [e1, e2, madeCells, Array.toList_map, Array.toList_range, List.getElem?_map, List.getElem?_range hi]
    simp only [Option.map_some, List.size_toArray, hd]
    rw [← hr, List.getElem?_eq_getElem (by rw [hd]; exact hrk)]
    rw [getElem!_pos _ _ (by simp [hd]; exact hrk)]
    simp
  · rw [List.getElem?_eq_none (by simp [madeCells]; omega), List.getElem?_eq_none (by rw [cells_flat_len hall, List.length_replicate]; omega)]
theorem made_of {K : Sort8 α} {t : TypeId} {w : World} {B n : Nat} {v : Value} (hd : (K.cells K.dflt).length = K.size) (h : w.ownsRow B t K.size v n (madeCells (Value.cells (.agg (K.cells K.dflt).toArray)) (n * K.size)).toList) : OwnOf K t w B v (List.replicate n K.dflt) := by
  refine ⟨?_, fun x hx => by rw [(List.mem_replicate.1 hx).2]; exact hd⟩
  rw [List.length_replicate, ← made_flat K hd]
  exact h
end Go.Proofs.YtlnenkmcegadmaaDoor
namespace Go.Proofs.YtlnenkmcegadmaaDoor
open Go.RowKit

/-- How the row stands while transactions are copied into it. -/
structure CopT (w0 : World) (g n j : Nat) (xs ys : List PTx) (w : World) : Prop where
  own : OwnOf txK 50 w w0.heap.size (.slice (some ⟨g, 0, none⟩) n n) ys
  done : ∀ k, k < j → TxIn w (ys.getD k noTx) ∧ AllT (g < ·) (ys.getD k noTx) ∧ (ys.getD k noTx).strip = (xs.getD k noTx).strip
  below : Below w0.heap.size w0 w
theorem CopT.more {w0 w w' : World} {g n j : Nat} {xs ys : List PTx} (h : CopT w0 g n j xs ys w) (hb : Below w.heap.size w w') : CopT w0 g n j xs ys w' :=
  ⟨h.own.below hb, fun k hk => ⟨(h.done k hk).1.below hb, (h.done k hk).2⟩, h.below.trans (hb.mono h.below.size)⟩
theorem CopT.lt {w0 w : World} {g n j : Nat} {xs ys : List PTx} (h : CopT w0 g n j xs ys w) : w0.heap.size ≤ g ∧ g < w.heap.size := h.own.lt g rfl
theorem CopT.len {w0 w : World} {g n j : Nat} {xs ys : List PTx} (h : CopT w0 g n j xs ys w) : ys.length = n := by
  obtain ⟨a, c, e, _⟩ := h.own.shape
  cases e
  rfl
theorem CopT.but {w0 w w' : World} {g n j : Nat} {xs ys zs : List PTx} (h : CopT w0 g n j xs ys w) (ho : OwnOf txK 50 w' w0.heap.size (.slice (some ⟨g, 0, none⟩) n n) zs) (hb : But w.heap.size g w w') (he : ∀ k, k < j → zs.getD k noTx = ys.getD k noTx) : CopT w0 g n j xs zs w' :=
  ⟨ho, fun k hk => by
    rw [he k hk]
    obtain ⟨h1, h2, h3⟩ := h.done k hk
    exact ⟨h1.butT (h2.mono fun b hb => by omega) hb, h2, h3⟩, h.below.trans ((hb.mono h.below.size).below h.lt.1)⟩
/-- A transaction's cells are written at place j. -/
theorem CopT.put {w0 w : World} {g n j : Nat} {xs ys : List PTx} {y : PTx} (h : CopT w0 g n j xs ys w) (hj : j < n) (hy : y.op.root.length = 32) : CopT w0 g n j xs (ys.set j y) (w.setCells g (j * 40) y.cells) := by
  obtain ⟨h1, h2⟩ := h.own.putAll hj y (PTx.len hy)
  refine h.but h1 h2 fun k hk => ?_
  rw [List.getD_eq_getElem?_getD, List.getElem?_set_ne (by omega), ← List.getD_eq_getElem?_getD]
/-- Its signs are written: it is done. -/
theorem CopT.sign {w0 w : World} {g n j : Nat} {xs ys : List PTx} {y t : PTx} {a : Option Addr} {c : Nat} (h : CopT w0 g n j xs (ys.set j y) w) (hl : ys.length = n) (hj : j < n) (hy : TxIn w y) (hn : AllTx (g < ·) y) (hs : SliceOf signK w a t.sn c t.signs) (hsn : AllO (g < ·) t.sn a) (hsm : SameTx y t) (ht : xs.getD j noTx = t) :
    CopT w0 g n (j + 1) xs (ys.set j (y.withSigns19 a t.sn c t.signs)) (w.setCell ⟨g, j * 40 + 39, none⟩ (.slice a t.sn c)) := by
  have hjl : j < ys.length := by omega
  have e1 : (ys.set j y).getD j noTx = y := by rw [List.getD_eq_getElem?_getD, List.getElem?_set_self hjl]; rfl
  have hroot := hy.op.root
  have hset : txK.cells (y.withSigns19 a t.sn c t.signs) = (txK.cells ((ys.set j y).getD j txK.dflt)).set 39 (.slice a t.sn c) := by
    show (y.withSigns19 a t.sn c t.signs).cells = (PTx.cells ((ys.set j y).getD j noTx)).set 39 (.slice a t.sn c)
    rw [e1]
    exact withSigns_cells19 hroot _ _ _ _
  obtain ⟨h1, h2⟩ := h.own.putCell (off := 39) hj (y.withSigns19 a t.sn c t.signs) (by show 39 < 40; omega) hset (by show (PTx.cells ((ys.set j y).getD j noTx)).length = 40; rw [e1]; exact PTx.len hroot)
  rw [List.set_set] at h1
  have hx : TxIn w (y.withSigns19 a t.sn c t.signs) := ⟨hy.ins, hy.outs, hy.op, hs⟩
  have hall : AllT (g < ·) (y.withSigns19 a t.sn c t.signs) := ⟨⟨hn.ia, hn.oa, hn.pre, hn.ws, hn.ks, hn.data⟩, hsn⟩
  refine ⟨h1, fun k hk => ?_, h.below.trans ((h2.mono h.below.size).below h.lt.1)⟩
  by_cases hkj : k = j
  · subst hkj
    have e2 : (ys.set k (y.withSigns19 a t.sn c t.signs)).getD k noTx = y.withSigns19 a t.sn c t.signs := by rw [List.getD_eq_getElem?_getD, List.getElem?_set_self hjl]; rfl
    rw [e2, ht]
    exact ⟨hx.butT (hall.mono fun b hb => by omega) h2, hall, withSigns_strip19 hsm _ _ _⟩
  · have hkj2 : k < j := by omega
    have e2 : ∀ z : PTx, (ys.set j z).getD k noTx = ys.getD k noTx := fun z => by rw [List.getD_eq_getElem?_getD, List.getElem?_set_ne (by omega), ← List.getD_eq_getElem?_getD]
    obtain ⟨k1, k2, k3⟩ := h.done k hkj2
    rw [e2] at k1 k2 k3 ⊢
    exact ⟨k1.butT (k2.mono fun b hb => by omega) h2, k2, k3⟩
theorem CopT.all {w0 w : World} {g n : Nat} {xs ys : List PTx} (h : CopT w0 g n n xs ys w) (hx : xs.length = n) : SliceOf txK w (some ⟨g, 0, none⟩) n n ys ∧ ys.map PTx.strip = xs.map PTx.strip ∧ ∀ y ∈ ys, AllT (g < ·) y := by
  have hl := h.len
  refine ⟨?_, ?_, fun y hy => ?_⟩
  · refine h.own.slice fun y hy => ?_
    obtain ⟨k, hk, rfl⟩ := List.getElem_of_mem hy
    have h9 := (h.done k (by omega)).1
    rw [List.getD_eq_getElem?_getD, List.getElem?_eq_getElem hk] at h9
    exact h9
  · apply List.ext_getElem?
    intro k
    by_cases hk : k < n
    · have h9 := (h.done k hk).2.2
      rw [List.getD_eq_getElem?_getD, List.getD_eq_getElem?_getD, List.getElem?_eq_getElem (by omega), List.getElem?_eq_getElem (by omega)] at h9
      rw [List.getElem?_map, List.getElem?_map, List.getElem?_eq_getElem (by omega), List.getElem?_eq_getElem (by omega)]
      exact congrArg some h9
    · rw [List.getElem?_eq_none (by rw [List.length_map]; omega), List.getElem?_eq_none (by rw [List.length_map]; omega)]
  · obtain ⟨k, hk, rfl⟩ := List.getElem_of_mem hy
    have h9 := (h.done k (by omega)).2.1
    rw [List.getD_eq_getElem?_getD, List.getElem?_eq_getElem hk] at h9
    exact h9
/-- Transactions stay where a block is written that none of them lies in. -/
theorem txs_but19 {w w' : World} {q n c r : Nat} {ys : List PTx} (h : SliceOf txK w (some ⟨q, 0, none⟩) n c ys) (hq : q ≠ r) (hall : ∀ y ∈ ys, AllT (· ≠ r) y) (hb : But w.heap.size r w w') : SliceOf txK w' (some ⟨q, 0, none⟩) n c ys :=
  h.moved (B := w.heap.size) (p := r) (fun h0 x e => ⟨h.block h0 x e, by cases e; exact hq⟩) (fun y hy => TxIn.butT (show TxIn w y from h.2.2.2.2.1 y hy) (hall y hy) hb) hb
set_option linter.unusedSimpArgs false in
set_option maxRecDepth 100000 in
set_option maxHeartbeats 6400000 in
theorem bcopied_any {w : World} {a : Option Addr} {n c : Nat} {xs : List PTx} (h : SliceOf txK w a n c xs) (hk : KsAt w) (hs : ∀ x ∈ xs, Small19 x ∧ x.sn ≤ 20) (hn : n ≤ 1000) :
    Calls Tryd.prog 23 #[.slice a n c] w fun e w' => ∃ ys, e = .returned (.slice (some ⟨w.heap.size, 0, none⟩) n n) ∧ SliceOf txK w' (some ⟨w.heap.size, 0, none⟩) n n ys ∧ ys.map PTx.strip = xs.map PTx.strip ∧ (∀ y ∈ ys, AllT (w.heap.size ≤ ·) y) ∧ Below w.heap.size w w' := by
  obtain ⟨ie, i1, i2, i3, i4⟩ := info_parts Tryd.zeroTx160
  have hn63 := h.len63
  have hxl := h.1
  have hsg : ∀ j, j < n → ∀ W : World, Below w.heap.size w W → Calls Tryd.prog 36 #[.agg (xs.getD j noTx).cells.toArray, .slice none 0 0] W fun e w' => ∃ y : PTx, e = .returned (.agg y.cells.toArray) ∧ TxIn w' y ∧ SameTx y (xs.getD j noTx) ∧ NewTx W.heap.size y ∧ Below W.heap.size W w' := fun j hj W hW => by
    have ht : TxIn W (xs.getD j noTx) := (h.below hW).get hj
    have h9 : Small19 (xs.getD j noTx) ∧ (xs.getD j noTx).sn ≤ 20 := hs _ (h.mem hj)
    exact txSelfG_any ht (small_few19 ht h9.1 (by omega)) (small_front19 false ht h9.1) (hk.below hW) h9.2
  have hcl : ∀ j, j < n → ∀ W : World, Below w.heap.size w W → Calls Tryd.prog 37 #[.slice (xs.getD j noTx).sa (xs.getD j noTx).sn (xs.getD j noTx).sc] W fun e w' => ∃ a' c', e = .returned (.slice a' (xs.getD j noTx).sn c') ∧ SliceOf signK w' a' (xs.getD j noTx).sn c' (xs.getD j noTx).signs ∧ AllO (W.heap.size ≤ ·) (xs.getD j noTx).sn a' ∧ Below W.heap.size W w' := fun j hj W hW => by
    have ht : TxIn W (xs.getD j noTx) := (h.below hW).get hj
    refine (cloneSigns_any ht.signs (by have h9 : (xs.getD j noTx).sn ≤ 20 := (hs _ (h.mem hj)).2; omega)).mono ?_
    rintro e w' ⟨a', c', e1, e2, _, e3, e4⟩
    exact ⟨a', c', e1, e2, (new_row15 e3).all, e4⟩
  have H := Lib.hid h
  have HXL := Lib.hid hxl
  have HSG := Lib.hid hsg
  have HCL := Lib.hid hcl
  have I1 := Lib.hid i1
  have I2 := Lib.hid i2
  have I3 := Lib.hid i3
  have I4 := Lib.hid i4
  clear h hk hs hsg hcl hxl i1 i2 i3 i4
  go_enter Tryd.func23, Tryd.ntmps23
  go_upto_region 3 with (first | (at_make; refine wpList_make_full _ rfl _ _ 26 rfl w.heap.size 50 ie _ 40 Tryd.underlying26 I1.out I2.out I3.out _ _ _ _ n rfl rfl rfl rfl (by rw [I4.out]; omega) (by unfold maxLen; omega) (Nat.le_refl _) ?_; intro w1 hown hgrow) | fail)
  have hf0 : CopT w w.heap.size n 0 xs (List.replicate n noTx) w1 := ⟨made_of (K := txK) (PTx.len rfl) hown, fun k hk => absurd hk (by omega), ⟨hgrow.os, hgrow.tape, hgrow.output, hgrow.size, fun k hk => hgrow.block k hk (by simp)⟩⟩
  have HF0 := Lib.hid hf0
  clear hown hgrow hf0
  obtain ⟨g, hg⟩ : ∃ g, g = w.heap.size := ⟨_, rfl⟩
  rw [← hg] at HF0 ⊢
  have HG := Lib.hid hg
  clear hg
  go_loopw [11] (fun i wr => ∃ (j : Nat) (ys : List PTx), j ≤ n ∧ i = .int .i64 j ∧ CopT w g n j xs ys wr) (fun i _ => n - (intOf i).toNat)
  case atStart => exact ⟨0, _, Nat.zero_le _, rfl, HF0.out⟩
  case round =>
    obtain ⟨j, ys, hj, rfl, hat⟩ := hrel
    have HAT := Lib.hid hat
    clear hat HF0
    by_cases hjn : j < n
    · have HJN := Lib.hid hjn
      have f1 : (j : Int) < (n : Int) := by omega
      have f0 : (0 : Int) ≤ (j : Int) := by omega
      have ft : ((j : Int)).toNat = j := by omega
      have HYSL := Lib.hid HAT.out.len
      obtain ⟨b1, o1, e1, hlt1, hc1⟩ := (H.out.below HAT.out.below).2.2.2.2.2 (by omega)
      have hx := (H.out.below HAT.out.below).get hjn
      have hrx := hc1 j hjn
      replace hx : TxIn wr (xs.getD j noTx) := hx
      replace hrx : wr.rangeAt b1 (o1 + j * 40) (PTx.cells (xs.getD j noTx)) := hrx
      have hsg := HSG.out j hjn
      have hcl := HCL.out j hjn
      obtain ⟨t, ht⟩ : ∃ t, xs.getD j noTx = t := ⟨_, rfl⟩
      rw [ht] at hx hrx hsg hcl
      subst e1
      have RX : Hid (wr.rangeAt b1 (o1 + j * 40) t.cells) := Lib.hid hrx
      have ST := Lib.hid (tx_size (x := t) hx.op.root)
      have HTL := Lib.hid hx.op.root
      have HT := Lib.hid ht
      have HSGJ := Lib.hid hsg
      have HCLJ := Lib.hid hcl
      have AXY : Hid (∀ y : PTx, y.op.root.length = 32 → (Tryd.prog.info? 50).map (·.size) = some y.cells.toArray.size) := Lib.hid (fun y h => tx_sizeA h)
      clear hc1 hrx hx hsg hcl ht hlt1
      go_upto_region 5 with (first
        | (refine wpList_load_mid rfl 50 _ rfl b1 (o1 + j * 40) rfl t.cells _ RX.out Tryd.underlying50 rfl ST.out ?_)
        | (refine wpList_new rfl 50 rfl noTx.cells.toArray Tryd.zeroTx160 ?_; intro q w5 hq hh hb; go_frame; have HQ := Lib.hid hh; have HNQ : Hid (wr.heap.size ≤ q) := Lib.hid hq; have HB5 := Lib.hid hb; clear hq hh hb)
        | (refine wpList_row10 rfl 50 _ _ rfl q t.cells rfl rfl 50 noTx.cells HQ.out ST.out (by rw [PTx.len HTL.out]; rfl) t.one ?_; intro w6 hh hb; have RQ := Lib.hid hh; have HB6 := Lib.hid (But.in HB5.out hb HNQ.out); clear hh hb) | fail)
      have HA6 := Lib.hid (HAT.out.more HB6.out)
      have HC6 := Lib.hid (HSGJ.out w6 HA6.out.below)
      have HRQ : Hid (∀ W : World, Below w6.heap.size w6 W → W.rangeAt q 0 t.cells) := Lib.hid (fun W hW => range_of (keep hW RQ.out))
      have R6 := Lib.hid (HRQ.out _ (Below.refl _ _))
      have HQG : Hid (q ≠ g) := Lib.hid (by have h9 := HAT.out.lt; have h8 := HNQ.out; omega)
      clear HAT HQ HNQ HB5 HB6 HSGJ RX
      go_upto_region 6 with (first
        | (refine wpList_load_mid rfl 50 _ rfl q (0) rfl t.cells _ R6.out Tryd.underlying50 rfl ST.out ?_)
        | (go_at_call 36; (with_reducible refine HC6.out.mono ?_); rintro e w7 ⟨y, rfl, hty, hsm, hnw, hb⟩; have HA7 := Lib.hid (HA6.out.more hb); have TH := Lib.hid (show w7.there g (j * 40) y.cells.toArray.size from (by rw [List.size_toArray, PTx.len hty.op.root]; exact HA7.out.own.there HJN.out)); have SZY := Lib.hid (AXY.out y hty.op.root); have HTY := Lib.hid hty; have HSM := Lib.hid hsm; have HNW := Lib.hid (show AllT (g < ·) y from ⟨hnw.all.mono fun b hb2 => (by have h9 := HA6.out.lt; omega), hnw.signs.mono fun b hb2 => (by have h9 := HA6.out.lt; omega)⟩); have HR7 := Lib.hid (keep hb RQ.out); clear hty hsm hnw hb)
        | (refine wpList_store_mid rfl 50 _ _ rfl g (j * 40) y.cells.toArray rfl rfl TH.out SZY.out (all_oneCell_toArray y.one) ?_) | fail)
      have h8 := HA7.out.put HJN.out HTY.out.op.root
      have hb8 := (HA7.out.own.putAll HJN.out y (PTx.len HTY.out.op.root)).2
      replace hb8 : But w7.heap.size g w7 (w7.setCells g (j * 40) y.cells) := hb8
      have ht8 := HTY.out.butT (HNW.out.mono fun b hb => by omega) hb8
      have hr8 := (hb8.block q (lt_of_block HR7.out) HQG.out).trans HR7.out
      have HA8 := Lib.hid h8
      have HT8 := Lib.hid ht8
      have HR8 := Lib.hid hr8
      clear h8 hb8 ht8 hr8 HA7 HTY TH SZY HR7 HA6 HC6 RQ HRQ R6
      revert HA8 HT8 HR8
      generalize World.setCells w7 _ _ _ = w8
      intro HA8 HT8 HR8
      have c39 : w8.cell? ⟨q, 39, none⟩ = some (.slice t.sa t.sn t.sc) := by
        have h9 := tx_signs HTL.out (range_of HR8.out)
        rw [Nat.zero_add] at h9
        exact h9
      have HC8 := Lib.hid (HCLJ.out w8 HA8.out.below)
      go_upto_region 7 with (first
        | (go_at_call 37; (with_reducible refine HC8.out.mono ?_); rintro e w9 ⟨a9, c9, rfl, hsl, hsn, hb⟩; have HA9 := Lib.hid (HA8.out.more hb); have HT9 := Lib.hid (HT8.out.below hb); have HSL := Lib.hid hsl; have HSN := Lib.hid (show AllO (g < ·) t.sn a9 from hsn.mono fun b hb2 => (by have h9 := HA8.out.lt; omega)); have c9g := HA9.out.own.cellIn (i := 39) HJN.out (by show 39 < 40; omega); have c9v : w9.cell? ⟨g, j * 40 + 39, none⟩ = some (.slice y.sa y.sn y.sc) := (c9g.1.trans (by show (PTx.cells ((ys.set j y).getD j noTx))[39]? = _; rw [List.getD_eq_getElem?_getD, List.getElem?_set_self (by rw [HYSL.out]; exact HJN.out)]; exact sign_cell15 HT9.out.op.root)); have c9f : w9.frozen? ⟨g, j * 40 + 39, none⟩ = false := c9g.2; clear hsl hsn hb c9g) | fail)
      have h10 := HA9.out.sign HYSL.out HJN.out HT9.out HNW.out.1 HSL.out HSN.out HSM.out HT.out
      have HZ := Lib.hid h10
      clear h10 c39 c9v c9f HA9 HA8 HT9 HT8 HSL HSN HSM HNW HC8 HCLJ HR8
      revert HZ
      generalize World.setCell w9 _ _ = wz
      intro HZ
      go_wp2_with fail
      go_roundw
      case rel => exact ⟨j + 1, _, by omega, by go_num, HZ.out⟩
      case measure => simp [intOf]; omega
    · obtain rfl : j = n := by omega
      go_wp2_with fail
      go_ret
      obtain ⟨h1, h2, h3⟩ := HAT.out.all HXL.out
      exact ⟨ys, by rw [← HG.out]; rfl, by rw [← HG.out]; exact h1, h2, fun y hy => (h3 y hy).mono fun b hb => by rw [← HG.out]; omega, HAT.out.below⟩
end Go.Proofs.YtlnenkmcegadmaaDoor
