/- PROVED: whatever proof, tower, channel, root, facts and height ProofChecks is called with, it returns true and leaves them as they were (why any proof does not hold, or that it does, is as the document says). Conditions: those that the given row bears, the listed variable's contents (tied by the card) among them. -/
import Derived.Test.YtcmdpmialehjgaaGreatDoorRows
import Derived.Test.YtcmdpmialehjgaaGreatDoorOpens
import Derived.Test.YtcmdpmialehjgaaGreatDoorPrfPut
import Derived.Test.YtcmdpmialehjgaaGreatDoorPrfGet
import Derived.Test.YtcmdpmialehjgaaGreatDoorAwake17
import Derived.Test.YtcmdpmialehjgaaGreatDoorChecksAll17
import Derived.Test.YtcmdpmialehjgaaGreatDoorTie
import Derived.Test.YtcmdpmialehjgaaGreatDoorCards
import Derived.WalkKit
import Derived.ProofKit
import Derived.OpenShut
import Derived.ShutString
import Derived.ChangeOld
import Derived.Below
import Derived.SevenTiedAt
namespace Go.Proofs.YtcmdpmialehjgaaGreatDoor.proofChecks
open Go.ChangeShapes Go.WideShapes Go.ChangeAt Go.RowKit Go.Deep
set_option linter.unusedVariables false

theorem own : ownKnob Tryz.prog.godebug = none := by kernel_rfl
theorem laidOut : laidOutB Tryz.prog = true := by kernel_rfl
/-- The door's own heap meets the condition. -/
theorem door_met (os : Os) (args : Array Value) : laidMetH Tryz.prog laidKs ((World.doorLaid Tryz.prog 14 os).forCall (fun _ _ => 0) ⟨#[], args, []⟩).memory :=
  laidMetH_of_parts3 (fuel := 8) (laidMet_of_run' 8 (by kernel_rfl) (by kernel_rfl)) (by kernel_rfl) (by kernel_rfl)

set_option maxRecDepth 100000 in
theorem lifted (os : Os) (started : os.Started) (H : Type) (enc : TypeId × Value → H) :
    ReturnsInHanded {} Tryz.checked os 5 .any (fun w args => (Rows.proofChecksSpec.pre enc Tryz.prog Tryz.f5 [] false w args ∧ laidMetH Tryz.prog laidKs w) ∧ sizedMet enc Tryz.prog Tryz.f5 (OpenSpec.ofChange Rows.proofChecksSpec) false w args)
      (Rows.proofChecksSpec.post enc Tryz.prog Tryz.f5 false true false false) := by
  refine returnsInHanded_of_change_and (C := Tryz.checked) (X := fun w _ => laidMetH Tryz.prog laidKs w) (fun _ _ _ hh h => h.of_heap hh) own started (by kernel_rfl) Tryz.func5
    (ChangeSpec.witness_shaped (enc := enc) (C := Tryz.checked) (os := os) (X := fun w _ => laidMetH Tryz.prog laidKs w) false (World.doorLaid Tryz.prog 14 os) #[.agg noPrf.cells.toArray, .int .i64 0, .agg noChan.cells.toArray, .agg (cellsOf zero32).toArray, .agg noFacts.cells.toArray, .int .i64 0] 64 rfl (World.shaped_of_RefB (by kernel_rfl) (by kernel_rfl)) (by kernel_rfl) (by kernel_rfl) (by kernel_rfl) (door_met os _)) ?_
  intro W base args ds gs before hval0 hW _ _ hL _
  have hval : ∀ (j : Nat) t v, Tryz.f5.params[j]? = some t → args[j]? = some v → Value.okWide Tryz.prog W .any base t v := hval0
  have hW' := hW
  obtain ⟨p, q, hA0, hV, rfl, hfz, hnd⟩ := hW
  have hA : DataW.TrodAll enc Tryz.prog W 0 (fun _ => true) true Tryz.f5.params.toList args.toList ds p := hA0
  rw [Tryz.params5] at hA hval
  obtain ⟨v0, vs0, d0, ds0, p0, q0, hargs, rfl, rfl, h0, r0⟩ := trodAll_cons hA
  obtain ⟨v1, vs1, d1, ds1, p1, q1, rfl, rfl, rfl, h1, r1⟩ := trodAll_cons r0
  obtain ⟨v2, vs2, d2, ds2, p2, q2, rfl, rfl, rfl, h2, r2⟩ := trodAll_cons r1
  obtain ⟨v3, vs3, d3, ds3, p3, q3, rfl, rfl, rfl, h3, r3⟩ := trodAll_cons r2
  obtain ⟨v4, vs4, d4, ds4, p4, q4, rfl, rfl, rfl, h4, r4⟩ := trodAll_cons r3
  obtain ⟨v5, vs5, d5, ds5, p5, q5, rfl, rfl, rfl, h5, r5⟩ := trodAll_cons r4
  obtain ⟨rfl, rfl, rfl⟩ := trodAll_nil r5
  obtain rfl : args = #[v0, v1, v2, v3, v4, v5] := by cases args; simp_all
  obtain ⟨rfl, rfl⟩ := trodVars_none hV
  obtain ⟨c0, rfl, hsz0⟩ := okWide_struct Tryz.underlying28 (hval 0 28 v0 rfl rfl)
  obtain ⟨a1, rfl, rfl, rfl, w1⟩ := open_int Tryz.underlying3 (hval 1 3 v1 rfl rfl) h1
  obtain ⟨c2, rfl, hsz2⟩ := okWide_struct Tryz.underlying49 (hval 2 49 v2 rfl rfl)
  obtain ⟨c3, rfl, hsz3⟩ := okWide_array Tryz.underlying23 (hval 3 23 v3 rfl rfl)
  obtain ⟨c4, rfl, hsz4⟩ := okWide_struct Tryz.underlying58 (hval 4 58 v4 rfl rfl)
  obtain ⟨a5, rfl, rfl, rfl, w5⟩ := open_int Tryz.underlying3 (hval 5 3 v5 rfl rfl) h5
  have k0 := h0
  have lt0 : ∀ x ∈ p0, x.block < W.heap.size := by obtain ⟨m, hm⟩ := k0; exact DataW.trod_lt m _ _ _ hm
  have k2 := h2
  have lt2 : ∀ x ∈ p2, x.block < W.heap.size := by obtain ⟨m, hm⟩ := k2; exact DataW.trod_lt m _ _ _ hm
  have k3 := h3
  have lt3 : ∀ x ∈ p3, x.block < W.heap.size := by obtain ⟨m, hm⟩ := k3; exact DataW.trod_lt m _ _ _ hm
  have k4 := h4
  have lt4 : ∀ x ∈ p4, x.block < W.heap.size := by obtain ⟨m, hm⟩ := k4; exact DataW.trod_lt m _ _ _ hm
  obtain ⟨x0, hs0, rfl⟩ : ∃ x : PPrf, PrfIn W x ∧ c0 = x.cells.toArray := by
    obtain ⟨fuel, hf0⟩ := h0
    have hf := hf0
    simp only [Value.cells] at hf
    obtain ⟨y, hy, e⟩ := prf_open hf
    exact ⟨y, hy, Array.toList_inj.1 (by rw [e])⟩
  obtain ⟨x2, hs2, rfl⟩ : ∃ x : PChan, ChanIn x ∧ c2 = x.cells.toArray := by
    obtain ⟨fuel, hf0⟩ := h2
    have hf := hf0
    simp only [Value.cells] at hf
    obtain ⟨y, hy, e⟩ := chan_open hf
    exact ⟨y, hy, Array.toList_inj.1 (by rw [e])⟩
  obtain ⟨s3, hs3, rfl⟩ : ∃ s : List UInt8, s.length = 32 ∧ c3 = (cellsOf s).toArray := by
    obtain ⟨fuel, hf⟩ := h3
    exact sum_open (hsz3.trans cellsSum) (by simpa [Value.cells] using hf)
  obtain ⟨x4, hs4, rfl⟩ : ∃ x : PFacts, FactsIn W x ∧ c4 = x.cells.toArray := by
    obtain ⟨fuel, hf0⟩ := h4
    have hf := hf0
    simp only [Value.cells] at hf
    obtain ⟨y, hy, e⟩ := facts_open hf
    exact ⟨y, hy, Array.toList_inj.1 (by rw [e])⟩
  clear hA0 hval0
  have hwalk := checksAll17 (tower := a1) (height := a5) hs0 hs2 hs3 hs4 (ks_of_laid hL) (fun W9 h9 => awake17 (fun W9 x9 h9 => put17_any h9) (fun W9 a9 n9 c9 b9 h9 q9 => get17_any h9 q9))
  refine hwalk.mono fun e W' ⟨he, bel⟩ => ?_
  subst he
  exact ⟨_, rfl, _, _, _, [], _, [], hW', trodAll_mk1 (shut_bool Tryz.underlying4 _), (trodAll_cons_mk (Below.trod laidOut (by kernel_rfl) (of_decide_eq_true (by kernel_rfl)) k0 bel lt0) (trodAll_cons_mk (shut_int Tryz.underlying3 w1) (trodAll_cons_mk (Below.trod laidOut (by kernel_rfl) (of_decide_eq_true (by kernel_rfl)) k2 bel lt2) (trodAll_cons_mk (Below.trod laidOut (by kernel_rfl) (of_decide_eq_true (by kernel_rfl)) k3 bel lt3) (trodAll_cons_mk (Below.trod laidOut (by kernel_rfl) (of_decide_eq_true (by kernel_rfl)) k4 bel lt4) (trodAll_cons_mk (shut_int Tryz.underlying3 w5) trodAll_mk0)))))), rfl, bel.frame _, fun h => by cases h⟩

theorem over : Rows.ProofChecksSaid :=
  OpenClaim.holds_of_wide 5 Tryz.f5 rfl rfl rfl rfl rfl rfl rfl ⟨rfl, rfl, rfl, rfl, rfl⟩ rfl rfl rfl rfl rfl (by kernel_rfl) Tryz.func5 (by kernel_rfl)
    (of_decide_eq_true (by kernel_rfl)) (by unfold Func.isWrapper; first | (rw [if_pos (by decide +kernel)]; kernel_rfl) | (rw [if_neg (by decide +kernel)]; exact ⟨rfl, rfl⟩))
    (fun os started H enc _ => lifted os started H enc)

/-- ████ THE STATEMENT, AS ITS TIED CARD ████ -/
theorem proved : Rows.ProofChecksCardSaid :=
  Claim7.holds_tied_plain_at .later [] [.data] true (true, "fcc6e25f9a0b91f8ae49a4cb596d11e5c23f02f826e4d9ec0a002492e2cb882f") false
    over (fun _ h => by cases h) (by kernel_rfl) (fun _ h => by cases h) proofChecks_row_tie rfl ⟨rfl, rfl⟩ (by kernel_rfl) rfl
    (fun f fn hf hfn => by
      obtain rfl : f = 5 := Option.some.inj ((show Tryz.prog.funcNamed "bartizan/bartizanlaw17.ProofChecks" = some 5 by kernel_rfl).symm.trans hf) |>.symm
      obtain rfl : fn = Tryz.f5 := (Option.some.inj (Tryz.func5.symm.trans hfn)).symm
      exact ⟨by kernel_rfl, fun j t ht => by
        rw [Tryz.params5] at ht
        have hm : t ∈ [28, 3, 49, 23, 58, 3] := by simpa using Array.mem_of_getElem? ht
        have hall : ([28, 3, 49, 23, 58, 3].all fun u => !Tryz.prog.wantsStandIn u) = true := by kernel_rfl
        exact (show Tryz.prog.wantsStandIn t = false by simpa using List.all_eq_true.1 hall t hm)⟩)
    (by kernel_rfl)
#print axioms proved
end Go.Proofs.YtcmdpmialehjgaaGreatDoor.proofChecks
