/- PROVED: whatever out and place ViewNobody is called with, it returns true and leaves them as they were (a nil view, and one that nobody made, have no coins). Conditions: none beyond those that every given row bears. -/
import Derived.Test.YtdeilkpcmgcbaaaRows
import Derived.WalkKit
import Derived.ProofKit
import Derived.OpenShut
import Derived.ShutString
import Derived.ChangeOld
import Derived.Below
import Derived.Test.YtdeilkpcmgcbaaaCallOpen
import Derived.Test.YtdeilkpcmgcbaaaNobody9
namespace Go.Proofs.Ytdeilkpcmgcbaaa.viewNobody
open Go.ChangeShapes Go.WideShapes Go.ChangeAt Go.RowKit Go.Deep
open Go.ChangeMaps (open_string shut_string)
set_option linter.unusedVariables false

theorem own : ownKnob Try.prog.godebug = none := by kernel_rfl
theorem laidOut : laidOutB Try.prog = true := by kernel_rfl
set_option maxRecDepth 100000 in
theorem lifted (os : Os) (started : os.Started) (H : Type) (enc : TypeId × Value → H) :
    ReturnsInHanded {} Try.checked os 5 .any (Rows.viewNobodySpec.pre6 enc Try.prog Try.f5 Rows.viewNobodyRow.domain false) (Rows.viewNobodySpec.post enc Try.prog Try.f5 false true false false) := by
  refine returnsInHanded_of_change (C := Try.checked) own started (by kernel_rfl) Try.func5
    (ChangeSpec.witness6 (enc := enc) (C := Try.checked) false ⟨#[], #[.agg #[.int .i64 0, .slice none 0 0], .agg (refCells zero32 0).toArray], []⟩ 8 (by kernel_rfl) (by kernel_rfl) (by kernel_rfl) (by kernel_rfl)) ?_
  intro W base args ds gs before hval0 hW hcnd _
  have hval : ∀ (j : Nat) t v, Try.f5.params[j]? = some t → args[j]? = some v → Value.okWide Try.prog W .any base t v := hval0
  have hW' := hW
  obtain ⟨p, q, hA0, hV, rfl, hfz, hnd⟩ := hW
  have hA : DataW.TrodAll enc Try.prog W 0 (fun _ => true) true Try.f5.params.toList args.toList ds p := hA0
  rw [Try.params5] at hA hval
  obtain ⟨v0, vs0, d0, ds0, p0, q0, hargs, rfl, rfl, h0, r0⟩ := trodAll_cons hA
  obtain ⟨v1, vs1, d1, ds1, p1, q1, rfl, rfl, rfl, h1, r1⟩ := trodAll_cons r0
  obtain ⟨rfl, rfl, rfl⟩ := trodAll_nil r1
  obtain rfl : args = #[v0, v1] := by cases args; simp_all
  obtain ⟨rfl, rfl⟩ := trodVars_none hV
  obtain ⟨c0, rfl, hsz0⟩ := okWide_struct Try.underlying28 (hval 0 28 v0 rfl rfl)
  obtain ⟨c1, rfl, hsz1⟩ := okWide_struct Try.underlying32 (hval 1 32 v1 rfl rfl)
  have k0 := h0
  have lt0 : ∀ x ∈ p0, x.block < W.heap.size := by obtain ⟨m, hm⟩ := k0; exact DataW.trod_lt m _ _ _ hm
  have k1 := h1
  have lt1 : ∀ x ∈ p1, x.block < W.heap.size := by obtain ⟨m, hm⟩ := k1; exact DataW.trod_lt m _ _ _ hm
  obtain ⟨m0, oa0, on0, oc0, ys0, hs0, hw0, rfl⟩ : ∃ m a n c ys, Fits m ∧ Ways W a n c ys ∧ c0 = #[.int .i64 m, .slice a n c] := by
    obtain ⟨fuel, hf0⟩ := h0
    have hf := hf0
    simp only [Value.cells] at hf
    obtain ⟨m, a, n, c, ys, e, h1, h2⟩ := out_open hf
    exact ⟨m, a, n, c, ys, h1, h2, Array.toList_inj.1 (by rw [e])⟩
  obtain ⟨s1, z1, hs1, hz1, rfl⟩ : ∃ s z, s.length = 32 ∧ Fits z ∧ c1 = (refCells s z).toArray := by
    obtain ⟨fuel, hf0⟩ := h1
    have hf := hf0
    simp only [Value.cells] at hf
    obtain ⟨s, z, h1, h2, e⟩ := ref_cells hf
    exact ⟨s, z, h1, h2, Array.toList_inj.1 (by rw [e]; rfl)⟩
  clear hA0 hval0
  have hwalk := nobody9_walk (w0 := W) (m := m0) (a := oa0) (n := on0) (c := oc0) hs1 hz1
  refine hwalk.mono fun e W' ⟨he, bel⟩ => ?_
  subst he
  exact ⟨_, rfl, _, _, _, [], _, [], hW', trodAll_mk1 (shut_bool Try.underlying4 _), (trodAll_cons_mk (Below.trod laidOut (by kernel_rfl) (of_decide_eq_true (by kernel_rfl)) k0 bel lt0) (trodAll_cons_mk (Below.trod laidOut (by kernel_rfl) (of_decide_eq_true (by kernel_rfl)) k1 bel lt1) trodAll_mk0)), rfl, bel.frame _, fun h => by cases h⟩

theorem over : Rows.viewNobodyRow.holds Try.pinned (OpenSpec.ofChange Rows.viewNobodySpec) :=
  OpenClaim.holds_of_wide 5 Try.f5 rfl rfl rfl rfl rfl rfl rfl ⟨rfl, rfl, rfl, rfl, rfl⟩ rfl rfl rfl rfl rfl (by kernel_rfl) Try.func5 (by kernel_rfl)
    (of_decide_eq_true (by kernel_rfl)) (by unfold Func.isWrapper; first | (rw [if_pos (by decide +kernel)]; kernel_rfl) | (rw [if_neg (by decide +kernel)]; exact ⟨rfl, rfl⟩))
    (fun os started H enc _ => lifted os started H enc)

/-- ████ THE STATEMENT ████ -/
theorem proved : Rows.ViewNobodySaid := over
#print axioms proved
end Go.Proofs.Ytdeilkpcmgcbaaa.viewNobody
