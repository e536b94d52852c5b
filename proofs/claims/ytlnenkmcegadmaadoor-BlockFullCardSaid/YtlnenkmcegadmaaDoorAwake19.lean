/- The statements' own example (law 19): a block of no transactions is right. -/
import Derived.Test.YtlnenkmcegadmaaDoorBlkLaw
namespace Go.Proofs.YtlnenkmcegadmaaDoor
open Go.RowKit

def Tryd.txAt19 : SortAt Tryd.prog txK 26 50 := ⟨160, by omega, by show 40 ≤ 100000; omega, .agg noTx.cells.toArray, Tryd.underlying26, Tryd.zeroTx160, by show noTx.cells.toArray.size = 40; rw [List.size_toArray]; exact PTx.len rfl⟩
theorem build_tx19 (w : World) : (Instr.build 50 ([] : List (Nat × Value)).toArray).run Tryd.prog w = .ok (.agg noTx.cells.toArray) w := by kernel_rfl
theorem build_txs19 (a : Option Addr) (n c : Nat) (xs : List PTx) (w : World) : (Instr.build 30 ([(1, (.slice a n c : Value))] : List (Nat × Value)).toArray).run Tryd.prog w = .ok (.agg (PBlock.cells ⟨noHead, a, n, c, xs⟩).toArray) w := by kernel_rfl
theorem wpList_litw19 {α : Type} {P : Program} {K : Sort8 α} {ts t : TypeId} (S : SortAt P K ts t) {ops : Array Oper} {rest : List Oper} {o : Oper} {A : Act} {w : World} {Q : Exit → Act → World → Prop} (hw : Region.wanted o (yielded ops A.tmps) = true) (u : Operand) (ho : o.op = .buildSlice ts 1 #[(0, u)]) (x : α) (hu : A.eval u = .agg (K.cells x).toArray) (hx : (K.cells x).length = K.size)
    (h : ∀ (p : Nat) (w' : World), w.heap.size ≤ p → w'.heap[p]? = some (.cells (K.cells x).toArray t (0, 0)) → Below w.heap.size w w' → wpList P ops Q rest (A.put o.dst (.slice (some ⟨p, 0, none⟩) 1 1)) w') : wpList P ops Q (o :: rest) A w :=
  wpList_step fun K' hK => by
    rw [if_pos hw]
    unfold Oper.wp execOp
    simp only [ho, Sem.run_bind, Sem.run_pure, Result.andThen_ok, List.map_toArray, List.map_cons, List.map_nil, hu, run_lit_sgn S hx w]
    exact hK _ _ (h _ _ (Nat.le_refl _) (heap_alloc_new _ _) ((Below.refl _ _).alloc (Nat.le_refl _) _))
theorem noTx_in19 (w : World) : TxIn w noTx := ⟨SliceOf.nil _ _, SliceOf.nil _ _, ⟨by constructor <;> decide, by constructor <;> decide, by constructor <;> decide, by constructor <;> decide, rfl, Row.nil w⟩, SliceOf.nil _ _⟩
theorem noTx_small19 : Small19 noTx := ⟨by show 0 ≤ 20; omega, by show 0 ≤ 20; omega, fun y hy => (by cases hy), fun z hz => (by cases hz), by show 0 ≤ 65536; omega⟩
set_option linter.unusedSimpArgs false in
set_option maxRecDepth 100000 in
set_option maxHeartbeats 6400000 in
theorem awake19_any {w : World} (hk : KsAt w) : Calls Tryd.prog 8 #[] w fun e w' => e = .returned (.bool true) ∧ Below w.heap.size w w' := by
  obtain ⟨Z, hZ⟩ : ∃ Z, Z = (⟨headSum noHead, 1, rootSum [], 0⟩ : PHead) := ⟨_, rfl⟩
  have hm0 := make_ok (w := w) (h := noHead) (a := none) (n := 0) (c := 0) (xs := []) noHead_in (by decide) (by decide) (SliceOf.nil _ _) hk (fun x hx => by cases hx) (by omega)
  have hm : Calls Tryd.prog 9 #[.agg noHead.cells.toArray, .slice none 0 0] w fun e w' => ∃ q : Nat, e = .returned (.tuple #[.agg (PBlock.cells ⟨Z, some ⟨q, 0, none⟩, 0, 0, []⟩).toArray, .int .i64 0]) ∧ SliceOf txK w' (some ⟨q, 0, none⟩) 0 0 [] ∧ Below w.heap.size w w' := by
    refine hm0.mono ?_
    rintro e w' ⟨q, ys, he, _, hs, _, _, hb⟩
    obtain rfl : ys = [] := List.eq_nil_of_length_eq_zero hs.1
    exact ⟨q, by rw [he, hZ]; rfl, hs, hb⟩
  have HZI : Hid (HeadIn Z) := Lib.hid (by rw [hZ]; exact ⟨headSum_len _, by constructor <;> decide, (show (rootSum []).length = 32 from rootSum_len _), by constructor <;> decide⟩)
  have HRV : Hid (∀ q : Nat, rightV ⟨Z, some ⟨q, 0, none⟩, 0, 0, []⟩ = true) := Lib.hid fun q => by
    rw [hZ]
    unfold rightV
    simp
  have HH1 : Hid (Z.height = 1) := Lib.hid (by rw [hZ])
  have HM := Lib.hid hm
  have HK := Lib.hid hk
  clear hm0 hm hk hZ
  go_enter Tryd.func8, Tryd.ntmps8
  go_upto_region 2 with (first
    | (refine wpList_build10 rfl rfl (vs := []) rfl build_noHead19 ?_; go_frame)
    | (go_at_call 9; (with_reducible refine HM.out.mono ?_); rintro e w2 ⟨q, rfl, hs, hb⟩; have HS := Lib.hid hs; have HB2 := Lib.hid hb; have SB := Lib.hid (block_size (b := ⟨Z, some ⟨q, 0, none⟩, 0, 0, []⟩) HZI.out); clear hs hb)
    | (refine wpList_new rfl 30 rfl noBlock.cells.toArray Tryd.zeroBlock19 ?_; intro p w3 hq hh hb; go_frame; have HP := Lib.hid hh; have HN : Hid (w2.heap.size ≤ p) := Lib.hid hq; have HB3 := Lib.hid hb; clear hq hh hb)
    | (refine wpList_row10 rfl 30 _ _ rfl p (PBlock.cells ⟨Z, some ⟨q, 0, none⟩, 0, 0, []⟩) rfl rfl 30 noBlock.cells HP.out SB.out (by rw [show (PBlock.cells ⟨Z, some ⟨q, 0, none⟩, 0, 0, []⟩).length = 67 from PBlock.len HZI.out]; rfl) (PBlock.one _) ?_; intro w4 hh hb; have HX4 := Lib.hid (But.in HB3.out hb HN.out); have RP := Lib.hid (range_of hh); clear hh hb) | fail)
  have HB4 := Lib.hid (bthen HB2.out HX4.out)
  have HBI : Hid (BlockIn w4 ⟨Z, some ⟨q, 0, none⟩, 0, 0, []⟩) := Lib.hid ⟨HZI.out, HS.out.below HX4.out⟩
  have HR1 := Lib.hid (right_any19 HBI.out (HK.out.below HB4.out) (fun x hx => by cases hx) (by show 0 ≤ 1000; omega))
  rw [HRV.out q] at HR1
  have cy : Hid (∀ W : World, Below w4.heap.size w4 W → W.cell? ⟨p, 32, none⟩ = some (.int .i64 1)) := Lib.hid fun W hW => by
    have h9 := (head_at HZI.out.ahead HZI.out.root (block_head (rangeAt_below RP.out (Nat.lt_of_not_le fun h9 => by
      have h8 := RP.out 0 _ (List.getElem?_eq_getElem (by rw [PBlock.len HZI.out]; omega))
      have h7 := World.block_lt_of_cell? w4 _ h8
      exact absurd h7 (by show ¬ p < w4.heap.size; omega)) hW))).height
    rw [Nat.zero_add, HH1.out] at h9
    exact h9
  have HR2 : Hid (∀ (W : World) (g : Nat), KsAt W → W.heap[g]? = some (.cells noTx.cells.toArray 50 (0, 0)) → Calls Tryd.prog 14 #[.agg (PBlock.cells ⟨noHead, some ⟨g, 0, none⟩, 1, 1, [noTx]⟩).toArray] W fun e w' => e = .returned (.bool false) ∧ Below W.heap.size W w') := Lib.hid fun W g hW hg => by
    have hb : BlockIn W ⟨noHead, some ⟨g, 0, none⟩, 1, 1, [noTx]⟩ := ⟨noHead_in, slice_one (K := txK) hg (noTx_in19 W)⟩
    have h9 := right_any19 hb hW (fun x hx => by simp at hx; subst hx; exact small_front19 false (noTx_in19 W) noTx_small19) (by show 1 ≤ 1000; omega)
    rw [show rightV ⟨noHead, some ⟨g, 0, none⟩, 1, 1, [noTx]⟩ = false by unfold rightV; rfl] at h9
    exact h9
  clear HM HS HB2 HP HN HB3 HX4 HRV HH1
  go_wp2_with (first
    | (refine wpList_mid_wanted (by rfl) 30 _ rfl p 0 rfl (PBlock.cells ⟨Z, some ⟨q, 0, none⟩, 0, 0, []⟩) _ RP.out Tryd.underlying30 rfl SB.out ?_)
    | (go_at_call 14; (with_reducible refine HR1.out.mono ?_); rintro e w5 ⟨rfl, hb⟩; have HB5 := Lib.hid (bthen HB4.out hb); have c5 := cy.out _ hb; clear hb)
    | (refine wpList_build_wanted (by rfl) rfl (vs := []) rfl build_tx19 ?_; go_frame)
    | (refine wpList_litw19 Tryd.txAt19 (by rfl) _ rfl noTx rfl (PTx.len rfl) ?_; intro g6 w6 hp hh hb; go_frame; have HB6 := Lib.hid (bthen HB5.out hb); have HR6 := Lib.hid (HR2.out w6 g6 (HK.out.below HB6.out) hh); clear hp hh hb)
    | (refine wpList_build_wanted (by rfl) rfl (vs := [(1, .slice (some ⟨g6, 0, none⟩) 1 1)]) rfl (build_txs19 (some ⟨g6, 0, none⟩) 1 1 [noTx]) ?_; go_frame)
    | (go_at_call 14; (with_reducible refine HR6.out.mono ?_); rintro e w7 ⟨rfl, hb⟩; have HB7 := Lib.hid (bthen HB6.out hb); clear hb) | fail)
  go_ret
  exact ⟨rfl, HB7.out⟩
end Go.Proofs.YtlnenkmcegadmaaDoor
