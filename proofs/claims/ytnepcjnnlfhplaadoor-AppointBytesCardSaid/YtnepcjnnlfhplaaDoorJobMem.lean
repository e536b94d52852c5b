/- Jobs: in memory, their bytes, and what bytes are read as. No function of the program is named. -/
import Derived.Test.YtnepcjnnlfhplaaDoorNumbers
import Derived.Test.YtnepcjnnlfhplaaDoorRead
import Derived.Test.YtnepcjnnlfhplaaDoorWire
import Derived.Test.YtnepcjnnlfhplaaDoorMemory
import Derived.Test.YtnepcjnnlfhplaaDoorSteps
import Derived.Test.YtnepcjnnlfhplaaDoorBuilds
namespace Go.Proofs.YtnepcjnnlfhplaaDoor
open Go.RowKit

structure PJob where
  channel : Int
  state : Int
  hint : List UInt8
  a : Option Addr
  n : Nat
  c : Nat
  blob : List UInt8
def PJob.cells (x : PJob) : List Value := .int .i64 x.channel :: .int .i64 x.state :: (cellsOf x.hint ++ [.slice x.a x.n x.c])
def noJob : PJob := ⟨0, 0, zero32, none, 0, 0, []⟩
structure JobIn (w : World) (x : PJob) : Prop where
  channel : Fits x.channel
  state : Fits x.state
  hint : x.hint.length = 32
  blob : Row w x.a x.n x.c x.blob
theorem JobIn.below {w w' : World} {x : PJob} (h : JobIn w x) (hb : Below w.heap.size w w') : JobIn w' x := ⟨h.channel, h.state, h.hint, h.blob.below hb⟩
theorem noJob_in (w : World) : JobIn w noJob := ⟨⟨by decide, by decide⟩, ⟨by decide, by decide⟩, rfl, Row.nil w⟩
theorem PJob.len {x : PJob} (h : x.hint.length = 32) : x.cells.length = 35 := by simp [PJob.cells, cellsOf_len, h]
theorem PJob.one (x : PJob) : ∀ v ∈ x.cells, v.oneCell' = true := by
  intro v hv
  simp only [PJob.cells, List.mem_cons, List.mem_append, List.not_mem_nil, or_false] at hv
  rcases hv with rfl | rfl | hv | rfl
  · rfl
  · rfl
  · exact cellsOf_one _ v hv
  · rfl
theorem Tryd.infoJob : (Tryd.prog.info? 51).map (fun i => (i.zero, i.size, i.bytes)) = some (some (.agg noJob.cells.toArray), 35, 72) := by kernel_rfl
theorem Tryd.sizeJob : (Tryd.prog.info? 51).map (·.size) = some 35 := by kernel_rfl
theorem job_size {x : PJob} (h : x.hint.length = 32) : (Tryd.prog.info? 51).map (·.size) = some x.cells.length := by rw [PJob.len h]; exact Tryd.sizeJob
theorem job_sizeA {x : PJob} (h : x.hint.length = 32) : (Tryd.prog.info? 51).map (·.size) = some x.cells.toArray.size := by rw [List.size_toArray]; exact job_size h
theorem build_job0 (w : World) : (Instr.build 51 ([] : List (Nat × Value)).toArray).run Tryd.prog w = .ok (.agg noJob.cells.toArray) w := by kernel_rfl
theorem Tryd.jobFields : ∃ fs, Tryd.prog.underlying 51 = some (.struct fs) ∧ ∀ w : World, ((fs.mapM fun (f : Field) => do pure (f.offset, ← sizeOf f.type)) : Sem (Array (Nat × Nat))).run Tryd.prog w = .ok #[(0, 1), (1, 1), (2, 32), (34, 1)] w := ⟨_, Tryd.underlying51, fun w => by kernel_rfl⟩
theorem build_job (ch st : Int) {h : List UInt8} (hl : h.length = 32) (a : Option Addr) (n c : Nat) (blob : List UInt8) (w : World) : (Instr.build 51 ([(0, (.int .i64 ch : Value)), (1, .int .i64 st), (2, .agg (cellsOf h).toArray), (3, .slice a n c)] : List (Nat × Value)).toArray).run Tryd.prog w = .ok (.agg (PJob.cells ⟨ch, st, h, a, n, c, blob⟩).toArray) w := by
  obtain ⟨fs, hu, hm⟩ := Tryd.jobFields
  refine run_build_of hu hm Tryd.infoJob ?_ w
  rw [show ([(0, (.int .i64 ch : Value)), (1, .int .i64 st), (2, .agg (cellsOf h).toArray), (3, .slice a n c)] : List (Nat × Value)).toArray.toList = [(0, .int .i64 ch), (1, .int .i64 st), (2, .agg (cellsOf h).toArray), (3, .slice a n c)] from rfl, show noJob.cells = ([.int .i64 0] : List Value) ++ (([.int .i64 0] : List Value) ++ (cellsOf zero32 ++ ([.slice none 0 0] : List Value))) from rfl]
  rw [fill_step (off := 0) (n := 1) rfl (vs := [.int .i64 ch]) rfl rfl (by simp), spl_head (by rfl)]
  rw [fill_step (off := 1) (n := 1) rfl (vs := [.int .i64 st]) rfl rfl (by simp), spl_at (k := 1) (cs := [.int .i64 ch]) (by rfl) (by rfl)]
  rw [show ([.int .i64 ch] : List Value) ++ (([.int .i64 st] : List Value) ++ (cellsOf zero32 ++ ([.slice none 0 0] : List Value))) = ([.int .i64 ch, .int .i64 st] : List Value) ++ (cellsOf zero32 ++ ([.slice none 0 0] : List Value)) from rfl]
  rw [fill_step (off := 2) (n := 32) rfl (vs := cellsOf h) rfl (by rw [cellsOf_len, hl]) (by simp [cellsOf_len, zero32_size]), spl_at (k := 2) (cs := [.int .i64 ch, .int .i64 st]) (by rfl) (by rw [cellsOf_len, cellsOf_len, hl]; rfl)]
  rw [show ([.int .i64 ch, .int .i64 st] : List Value) ++ (cellsOf h ++ ([.slice none 0 0] : List Value)) = (([.int .i64 ch, .int .i64 st] : List Value) ++ cellsOf h) ++ (([.slice none 0 0] : List Value) ++ []) by simp]
  rw [fill_step (off := 34) (n := 1) rfl (vs := [.slice a n c]) rfl rfl (by simp [cellsOf_len, hl]), spl_at (by simp [cellsOf_len, hl]) (by rfl)]
  unfold Instr.fill
  simp [PJob.cells]
/-! Its parts, where it lies. -/
theorem job_channel {w : World} {g o : Nat} {x : PJob} (h : w.rangeAt g o x.cells) : w.cell? ⟨g, o, none⟩ = some (.int .i64 x.channel) := h 0 _ rfl
theorem job_state {w : World} {g o : Nat} {x : PJob} (h : w.rangeAt g o x.cells) : w.cell? ⟨g, o + 1, none⟩ = some (.int .i64 x.state) := h 1 _ rfl
theorem job_hint {w : World} {g o : Nat} {x : PJob} (h : w.rangeAt g o x.cells) : w.rangeAt g (o + 2) (cellsOf x.hint) := fun j v hv => by
  have hj : j < (cellsOf x.hint).length := (List.getElem?_eq_some_iff.1 hv).1
  rw [Nat.add_assoc, Nat.add_comm 2 j]
  refine h (j + 2) v ?_
  show (cellsOf x.hint ++ [.slice x.a x.n x.c])[j]? = some v
  rw [List.getElem?_append_left hj]
  exact hv
theorem job_blob {w : World} {g o : Nat} {x : PJob} (hx : x.hint.length = 32) (h : w.rangeAt g o x.cells) : w.cell? ⟨g, o + 34, none⟩ = some (.slice x.a x.n x.c) := h 34 _ (by
  show (cellsOf x.hint ++ [.slice x.a x.n x.c])[32]? = _
  have e : (cellsOf x.hint).length = 32 := by rw [cellsOf_len, hx]
  rw [List.getElem?_append_right (by omega), e]
  rfl)

/-! ### Which may be, and the bytes -/
def jobOk (x : PJob) : Bool := decide (0 ≤ x.channel) && (decide (x.channel ≤ 1048576) && (decide (0 ≤ x.state) && decide (x.state ≤ 1048576)))
theorem jobOk_iff {x : PJob} : jobOk x = true ↔ (0 ≤ x.channel ∧ x.channel ≤ 1048576) ∧ 0 ≤ x.state ∧ x.state ≤ 1048576 := by simp [jobOk, and_assoc]
def jobB (x : PJob) : List UInt8 := numB x.channel ++ (numB x.state ++ (x.hint ++ (numB (x.blob.length : Nat) ++ x.blob)))
theorem jobB_len {x : PJob} (h : x.hint.length = 32) : (jobB x).length ≤ 59 + x.blob.length := by
  have n1 := (numB_len x.channel).2
  have n2 := (numB_len x.state).2
  have n3 := (numB_len ((x.blob.length : Nat) : Int)).2
  simp only [jobB, List.length_append]
  omega
end Go.Proofs.YtnepcjnnlfhplaaDoor
