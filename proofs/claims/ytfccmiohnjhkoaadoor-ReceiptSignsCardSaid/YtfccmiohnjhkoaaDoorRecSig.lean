/- A receipt with a signature, in memory. No function of the program is named. -/
import Derived.Test.YtfccmiohnjhkoaaDoorRecMem
import Derived.Test.YtfccmiohnjhkoaaDoorBuilds
namespace Go.Proofs.YtfccmiohnjhkoaaDoor
open Go.RowKit

def sigCells (x : PRec) (a : Option Addr) (n c : Nat) : List Value := x.cells ++ [.slice a n c]
def noSig : List Value := sigCells noRec none 0 0
theorem sig_len {x : PRec} (h : RecIn x) (a : Option Addr) (n c : Nat) : (sigCells x a n c).length = 68 := by simp [sigCells, PRec.len h]
theorem sig_one (x : PRec) (a : Option Addr) (n c : Nat) : ∀ v ∈ sigCells x a n c, v.oneCell' = true := by
  intro v hv
  simp only [sigCells, List.mem_append, List.mem_cons, List.not_mem_nil, or_false] at hv
  rcases hv with hv | rfl
  · exact x.one v hv
  · rfl
theorem Tryd.sizeSig : (Tryd.prog.info? 38).map (·.size) = some 68 := by kernel_rfl
theorem sig_size {x : PRec} (h : RecIn x) (a : Option Addr) (n c : Nat) : (Tryd.prog.info? 38).map (·.size) = some (sigCells x a n c).length := by rw [sig_len h]; exact Tryd.sizeSig
theorem sig_sizeA {x : PRec} (h : RecIn x) (a : Option Addr) (n c : Nat) : (Tryd.prog.info? 38).map (·.size) = some (sigCells x a n c).toArray.size := by rw [List.size_toArray]; exact sig_size h a n c
theorem sig_zero {x : PRec} (h : RecIn x) (a : Option Addr) (n c : Nat) : noSig.toArray.size = (sigCells x a n c).toArray.size := by rw [List.size_toArray, List.size_toArray, noSig, sig_len h, sig_len noRec_in]
theorem Tryd.infoSig : (Tryd.prog.info? 38).map (fun i => (i.zero, i.size, i.bytes)) = some (some (.agg noSig.toArray), 68, 112) := by kernel_rfl
theorem build_sig0 (w : World) : (Instr.build 38 ([] : List (Nat × Value)).toArray).run Tryd.prog w = .ok (.agg noSig.toArray) w := by kernel_rfl
theorem Tryd.sigFields : ∃ fs, Tryd.prog.underlying 38 = some (.struct fs) ∧ ∀ w : World, ((fs.mapM fun (f : Field) => do pure (f.offset, ← sizeOf f.type)) : Sem (Array (Nat × Nat))).run Tryd.prog w = .ok #[(0, 67), (67, 1)] w := ⟨_, Tryd.underlying38, fun w => by kernel_rfl⟩
theorem build_sig {x : PRec} (hx : RecIn x) (a : Option Addr) (n c : Nat) (w : World) : (Instr.build 38 ([(0, (.agg x.cells.toArray : Value)), (1, .slice a n c)] : List (Nat × Value)).toArray).run Tryd.prog w = .ok (.agg (sigCells x a n c).toArray) w := by
  obtain ⟨fs, hu, hm⟩ := Tryd.sigFields
  refine run_build_of hu hm Tryd.infoSig ?_ w
  have hl := PRec.len hx
  have h0 : noRec.cells.length = 67 := PRec.len noRec_in
  rw [show ([(0, (.agg x.cells.toArray : Value)), (1, .slice a n c)] : List (Nat × Value)).toArray.toList = [(0, .agg x.cells.toArray), (1, .slice a n c)] from rfl, show noSig = noRec.cells ++ ([.slice none 0 0] : List Value) from rfl]
  rw [fill_step (off := 0) (n := 67) rfl (vs := x.cells) rfl hl (by simp [h0]), spl_head (by rw [hl, h0])]
  rw [fill_step (off := 67) (n := 1) rfl (vs := [.slice a n c]) rfl rfl (by simp [hl]), show (x.cells ++ ([.slice none 0 0] : List Value)) = x.cells ++ (([.slice none 0 0] : List Value) ++ []) by simp, spl_at hl.symm (by rfl)]
  unfold Instr.fill
  simp [sigCells]
theorem row_under {w : World} {a : Option Addr} {n c : Nat} {l : List UInt8} (h : Row w a n c l) : 0 < n → ∀ x, a = some x → x.block < w.heap.size := fun h0 x e => by
  obtain ⟨b, off, e2, hlt, _⟩ := h.2.2.2.2 h0
  rw [e] at e2
  cases e2
  exact hlt
end Go.Proofs.YtfccmiohnjhkoaaDoor
