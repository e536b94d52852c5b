/- Chapter 12's example: a receipt of the tower 16 may not be. -/
import Derived.Test.YtfccmiohnjhkoaaDoorRecRight
import Derived.Test.YtfccmiohnjhkoaaDoorRecPut
import Derived.Test.YtfccmiohnjhkoaaDoorRecGet
import Derived.Test.YtfccmiohnjhkoaaDoorWanted
namespace Go.Proofs.YtfccmiohnjhkoaaDoor
open Go.RowKit

def recT (k : Int) : PRec := ⟨k, 0, 0, zero32, zero32⟩
theorem build_recT (k : Int) (w : World) : (Instr.build 26 ([(0, (.int .i64 k : Value))] : List (Nat × Value)).toArray).run Tryd.prog w = .ok (.agg (recT k).cells.toArray) w := by kernel_rfl
set_option linter.unusedSimpArgs false in
set_option maxRecDepth 100000 in
set_option maxHeartbeats 6400000 in
theorem awake12_any (w : World) : Calls Tryd.prog 4 #[] w fun e w' => e = .returned (.bool true) ∧ Below w.heap.size w w' := by
  obtain ⟨B0, hp, hg⟩ : ∃ B0, (∀ W : World, Calls Tryd.prog 15 #[.agg noSig.toArray] W (TextOut W B0)) ∧ ∀ (W : World) (a : Option Addr) (n c : Nat), Row W a n c B0 → Calls Tryd.prog 14 #[.slice a n c] W fun e w' => ∃ (cs : List Value), e = .returned (.tuple #[.agg cs.toArray, .int .i64 0]) ∧ cs.length = 68 ∧ (∀ v ∈ cs, v.oneCell' = true) ∧ Below W.heap.size W w' := by
    refine ⟨signedB noRec [], fun W => recput_any noRec_in (Row.nil W) (by omega), fun W a n c hr => ?_⟩
    have hn : n ≤ 1000000 := by
      have h9 := hr.1
      have h8 : (signedB noRec []).length = 69 := by decide
      omega
    refine (recget_any hr hn).mono ?_
    rintro e w' ⟨a', n', c', rfl, _, _, hb⟩
    rw [(get_back noRec_in noRec_ok (q := []) (by simp)).1]
    exact ⟨_, rfl, sig_len (getX_in _) _ _ _, sig_one _ _ _ _, hb⟩
  have HP := Lib.hid hp
  have HG := Lib.hid hg
  have HR16 : Hid (∀ W : World, Calls Tryd.prog 16 #[.agg (recT 16).cells.toArray] W fun e w' => e = .returned (.bool false) ∧ Below W.heap.size W w') := Lib.hid fun W => by
    have h9 := recright_any W (recT 16)
    rw [show recOk (recT 16) = false by decide] at h9
    exact h9
  have HR15 : Hid (∀ W : World, Calls Tryd.prog 16 #[.agg (recT 15).cells.toArray] W fun e w' => e = .returned (.bool true) ∧ Below W.heap.size W w') := Lib.hid fun W => by
    have h9 := recright_any W (recT 15)
    rw [show recOk (recT 15) = true by decide] at h9
    exact h9
  clear hp hg
  go_enter Tryd.func4, Tryd.ntmps4
  go_upto_region 2 with (first
    | (refine wpList_build10 rfl rfl (vs := []) (by rfl) build_sig0 ?_)
    | (go_at_call 15; (with_reducible refine (HP.out _).mono ?_); rintro e w1 ⟨a1, n1, c1, rfl, hr1, _, hb1⟩; have HR1 := Lib.hid hr1; have HB1 := Lib.hid hb1; clear hr1 hb1)
    | (go_at_call 14; (with_reducible refine (HG.out _ _ _ _ HR1.out).mono ?_); rintro e w2 ⟨cs, rfl, hl, h1, hb2⟩; have HB2 := Lib.hid (bthen HB1.out hb2); have HLN := Lib.hid hl; have HON := Lib.hid h1; clear hl h1 hb2)
    | (refine wpList_new rfl 38 rfl noSig.toArray Tryd.infoSig ?_; intro g w3 hg3 h3 b3; have H3 := Lib.hid h3; have HB3 := Lib.hid (bthen HB2.out b3); have HGE := Lib.hid (Nat.le_trans HB2.out.size hg3); clear h3 b3 hg3; go_frame)
    | (refine wpList_store_row rfl 38 _ _ rfl g cs.toArray rfl rfl 38 noSig.toArray H3.out (by rw [List.size_toArray, HLN.out]; exact Tryd.sizeSig) (by rw [List.size_toArray, List.size_toArray, HLN.out]; exact sig_len noRec_in none 0 0) (all_oneCell_toArray HON.out) ?_)
    | fail)
  have hb4 := But.in HB3.out (but_setRow w3 g cs.toArray) HGE.out
  revert hb4
  generalize w3.setRow g cs.toArray = w4
  intro hb4
  have HB4 := Lib.hid hb4
  clear hb4 H3 HB3 HB1 HB2
  go_wp2_with (first
    | (refine wpList_build10 rfl rfl (vs := [(0, .int .i64 16)]) (by rfl) (build_recT 16) ?_)
    | (refine wpList_build_wanted (by rfl) rfl (vs := [(0, .int .i64 15)]) (by rfl) (build_recT 15) ?_)
    | (go_at_call 16; (with_reducible refine (HR16.out _).mono ?_); rintro e w5 ⟨rfl, hb5⟩; have HB5 := Lib.hid (bthen HB4.out hb5); clear hb5)
    | (go_at_call 16; (with_reducible refine (HR15.out _).mono ?_); rintro e w6 ⟨rfl, hb6⟩; have HB6 := Lib.hid (bthen HB5.out hb6); clear hb6)
    | fail)
  go_ret
  exact ⟨rfl, HB6.out⟩
end Go.Proofs.YtfccmiohnjhkoaaDoor
