/- PROVED: whatever numbers, sum, transaction and receipt AppointJobs is called with, it returns true and leaves them as they were (which jobs are made, their receipts, and which receipts fit, are as the document says). Conditions: those that the given row bears, the listed variable's contents (tied by the card) among them. -/
import Derived.Test.YtnepcjnnlfhplaaDoorRows
import Derived.Test.YtnepcjnnlfhplaaDoorOpenSum
import Derived.Test.YtnepcjnnlfhplaaDoorTxOpen
import Derived.Test.YtnepcjnnlfhplaaDoorOpenRec
import Derived.Test.YtnepcjnnlfhplaaDoorAwake16
import Derived.Test.YtnepcjnnlfhplaaDoorJobs16
import Derived.Test.YtnepcjnnlfhplaaDoorTie
import Derived.Test.YtnepcjnnlfhplaaDoorCards
import Derived.WalkKit
import Derived.ProofKit
import Derived.OpenShut
import Derived.ShutString
import Derived.ChangeOld
import Derived.Below
import Derived.SevenTiedAt
namespace Go.Proofs.YtnepcjnnlfhplaaDoor.appointJobs
open Go.ChangeShapes Go.WideShapes Go.ChangeAt Go.RowKit Go.Deep
set_option linter.unusedVariables false

theorem own : ownKnob Tryd.prog.godebug = none := by kernel_rfl
theorem laidOut : laidOutB Tryd.prog = true := by kernel_rfl
/-- The door's own heap meets the condition. -/
theorem door_met (os : Os) (args : Array Value) : laidMetH Tryd.prog laidKs ((World.doorLaid Tryd.prog 14 os).forCall (fun _ _ => 0) ⟨#[], args, []⟩).memory :=
  laidMetH_of_parts3 (fuel := 8) (laidMet_of_run' 8 (by kernel_rfl) (by kernel_rfl)) (by kernel_rfl) (by kernel_rfl)

set_option maxRecDepth 100000 in
theorem lifted (os : Os) (started : os.Started) (H : Type) (enc : TypeId × Value → H) :
    ReturnsInHanded {} Tryd.checked os 5 .any (fun w args => (Rows.appointJobsSpec.pre enc Tryd.prog Tryd.f5 [] false w args ∧ laidMetH Tryd.prog laidKs w) ∧ sizedMet enc Tryd.prog Tryd.f5 (OpenSpec.ofChange Rows.appointJobsSpec) false w args)
      (Rows.appointJobsSpec.post enc Tryd.prog Tryd.f5 false true false false) := by
  refine returnsInHanded_of_change_and (C := Tryd.checked) (X := fun w _ => laidMetH Tryd.prog laidKs w) (fun _ _ _ hh h => h.of_heap hh) own started (by kernel_rfl) Tryd.func5
    (ChangeSpec.witness_shaped (enc := enc) (C := Tryd.checked) (os := os) (X := fun w _ => laidMetH Tryd.prog laidKs w) false (World.doorLaid Tryd.prog 14 os) #[.int .i64 0, .int .i64 0, .agg (cellsOf zero32).toArray, .agg noTx.cells.toArray, .agg noRec.cells.toArray] 64 rfl (World.shaped_of_RefB (by kernel_rfl) (by kernel_rfl)) (by kernel_rfl) (by kernel_rfl) (by kernel_rfl) (door_met os _)) ?_
  intro W base args ds gs before hval0 hW _ _ hL _
  have hval : ∀ (j : Nat) t v, Tryd.f5.params[j]? = some t → args[j]? = some v → Value.okWide Tryd.prog W .any base t v := hval0
  have hW' := hW
  obtain ⟨p, q, hA0, hV, rfl, hfz, hnd⟩ := hW
  have hA : DataW.TrodAll enc Tryd.prog W 0 (fun _ => true) true Tryd.f5.params.toList args.toList ds p := hA0
  rw [Tryd.params5] at hA hval
  obtain ⟨v0, vs0, d0, ds0, p0, q0, hargs, rfl, rfl, h0, r0⟩ := trodAll_cons hA
  obtain ⟨v1, vs1, d1, ds1, p1, q1, rfl, rfl, rfl, h1, r1⟩ := trodAll_cons r0
  obtain ⟨v2, vs2, d2, ds2, p2, q2, rfl, rfl, rfl, h2, r2⟩ := trodAll_cons r1
  obtain ⟨v3, vs3, d3, ds3, p3, q3, rfl, rfl, rfl, h3, r3⟩ := trodAll_cons r2
  obtain ⟨v4, vs4, d4, ds4, p4, q4, rfl, rfl, rfl, h4, r4⟩ := trodAll_cons r3
  obtain ⟨rfl, rfl, rfl⟩ := trodAll_nil r4
  obtain rfl : args = #[v0, v1, v2, v3, v4] := by cases args; simp_all
  obtain ⟨rfl, rfl⟩ := trodVars_none hV
  obtain ⟨a0, rfl, rfl, rfl, w0⟩ := open_int Tryd.underlying3 (hval 0 3 v0 rfl rfl) h0
  obtain ⟨a1, rfl, rfl, rfl, w1⟩ := open_int Tryd.underlying3 (hval 1 3 v1 rfl rfl) h1
  obtain ⟨c2, rfl, hsz2⟩ := okWide_array Tryd.underlying23 (hval 2 23 v2 rfl rfl)
  obtain ⟨c3, rfl, hsz3⟩ := okWide_struct Tryd.underlying31 (hval 3 31 v3 rfl rfl)
  obtain ⟨c4, rfl, hsz4⟩ := okWide_struct Tryd.underlying49 (hval 4 49 v4 rfl rfl)
  have k2 := h2
  have lt2 : ∀ x ∈ p2, x.block < W.heap.size := by obtain ⟨m, hm⟩ := k2; exact DataW.trod_lt m _ _ _ hm
  have k3 := h3
  have lt3 : ∀ x ∈ p3, x.block < W.heap.size := by obtain ⟨m, hm⟩ := k3; exact DataW.trod_lt m _ _ _ hm
  have k4 := h4
  have lt4 : ∀ x ∈ p4, x.block < W.heap.size := by obtain ⟨m, hm⟩ := k4; exact DataW.trod_lt m _ _ _ hm
  obtain ⟨s2, hs2, rfl⟩ : ∃ s : List UInt8, s.length = 32 ∧ c2 = (cellsOf s).toArray := by
    obtain ⟨fuel, hf⟩ := h2
    exact sum_open (hsz2.trans cellsSum) (by simpa [Value.cells] using hf)
  obtain ⟨x3, hs3, rfl⟩ : ∃ x : PTx, TxIn W x ∧ c3 = x.cells.toArray := by
    obtain ⟨fuel, hf0⟩ := h3
    have hf := hf0
    simp only [Value.cells] at hf
    obtain ⟨y, hy, e⟩ := tx_open hf
    exact ⟨y, hy, Array.toList_inj.1 (by rw [e])⟩
  obtain ⟨x4, hs4, rfl⟩ : ∃ x : PRec, RecIn x ∧ c4 = x.cells.toArray := by
    obtain ⟨fuel, hf0⟩ := h4
    have hf := hf0
    simp only [Value.cells] at hf
    obtain ⟨y, hy, e⟩ := rec_open hf
    exact ⟨y, hy, Array.toList_inj.1 (by rw [e])⟩
  clear hA0 hval0
  have hwalk := jobs16_walk (ch := a0) (st := a1) hs2 hs3 hs4 (ks_of_laid hL) (fun W9 h9 => awake16 ((ks_of_laid hL).below h9))
  refine hwalk.mono fun e W' ⟨he, bel⟩ => ?_
  subst he
  exact ⟨_, rfl, _, _, _, [], _, [], hW', trodAll_mk1 (shut_bool Tryd.underlying4 _), (trodAll_cons_mk (shut_int Tryd.underlying3 w0) (trodAll_cons_mk (shut_int Tryd.underlying3 w1) (trodAll_cons_mk (Below.trod laidOut (by kernel_rfl) (of_decide_eq_true (by kernel_rfl)) k2 bel lt2) (trodAll_cons_mk (Below.trod laidOut (by kernel_rfl) (of_decide_eq_true (by kernel_rfl)) k3 bel lt3) (trodAll_cons_mk (Below.trod laidOut (by kernel_rfl) (of_decide_eq_true (by kernel_rfl)) k4 bel lt4) trodAll_mk0))))), rfl, bel.frame _, fun h => by cases h⟩

theorem over : Rows.AppointJobsSaid :=
  OpenClaim.holds_of_wide 5 Tryd.f5 rfl rfl rfl rfl rfl rfl rfl ⟨rfl, rfl, rfl, rfl, rfl⟩ rfl rfl rfl rfl rfl (by kernel_rfl) Tryd.func5 (by kernel_rfl)
    (of_decide_eq_true (by kernel_rfl)) (by unfold Func.isWrapper; first | (rw [if_pos (by decide +kernel)]; kernel_rfl) | (rw [if_neg (by decide +kernel)]; exact ⟨rfl, rfl⟩))
    (fun os started H enc _ => lifted os started H enc)

/-- ████ THE STATEMENT, AS ITS TIED CARD ████ -/
theorem proved : Rows.AppointJobsCardSaid :=
  Claim7.holds_tied_plain_at .later [] [.data] true (true, "d9d131d2077af83c3d0599c6450b357333d7eae2e79835fd8a4cf8503ae45ee7") false
    over (fun _ h => by cases h) (by kernel_rfl) (fun _ h => by cases h) appointJobs_row_tie rfl ⟨rfl, rfl⟩ (by kernel_rfl) rfl
    (fun f fn hf hfn => by
      obtain rfl : f = 5 := Option.some.inj ((show Tryd.prog.funcNamed "bartizan/bartizanlaw16.AppointJobs" = some 5 by kernel_rfl).symm.trans hf) |>.symm
      obtain rfl : fn = Tryd.f5 := (Option.some.inj (Tryd.func5.symm.trans hfn)).symm
      exact ⟨by kernel_rfl, fun j t ht => by
        rw [Tryd.params5] at ht
        have hm : t ∈ [3, 3, 23, 31, 49] := by simpa using Array.mem_of_getElem? ht
        have hall : ([3, 3, 23, 31, 49].all fun u => !Tryd.prog.wantsStandIn u) = true := by kernel_rfl
        exact (show Tryd.prog.wantsStandIn t = false by simpa using List.all_eq_true.1 hall t hm)⟩)
    (by kernel_rfl)
#print axioms proved
end Go.Proofs.YtnepcjnnlfhplaaDoor.appointJobs
