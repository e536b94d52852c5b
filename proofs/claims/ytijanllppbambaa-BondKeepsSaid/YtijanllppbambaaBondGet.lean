/- bond.Get, bond.Holds: what a tower, a hold is. -/
import Derived.Test.YtijanllppbambaaBondAt
namespace Go.Proofs.Ytijanllppbambaa
open Go.RowKit Go.Maps

/-- What Get tells, in all later worlds. -/
def GetIs (w : World) (pv : Value) (n : Int) (v : PTow) (ok : Bool) : Prop := ∀ W : World, Below w.heap.size w W → Calls Try.prog 28 #[pv, .int .i64 n] W fun e w' => e = .returned (.tuple #[.agg v.cells.toArray, .bool ok]) ∧ Below W.heap.size W w'
def HoldsIs (w : World) (pv : Value) (n id : Int) (v : PHold) (ok : Bool) : Prop := ∀ W : World, Below w.heap.size w W → Calls Try.prog 15 #[pv, .int .i64 n, .int .i64 id] W fun e w' => e = .returned (.tuple #[.agg v.cells.toArray, .bool ok]) ∧ Below W.heap.size W w'
theorem GetIs.below {w w' : World} {pv : Value} {n : Int} {v : PTow} {ok : Bool} (h : GetIs w pv n v ok) (hb : Below w.heap.size w w') : GetIs w' pv n v ok := fun W hW => h W (bthen hb hW)
theorem HoldsIs.below {w w' : World} {pv : Value} {n id : Int} {v : PHold} {ok : Bool} (h : HoldsIs w pv n id v ok) (hb : Below w.heap.size w w') : HoldsIs w' pv n id v ok := fun W hW => h W (bthen hb hW)
set_option linter.unusedSimpArgs false in
set_option maxRecDepth 100000 in
set_option maxHeartbeats 12800000 in
theorem tow_at9 {w : World} {vb tb hb : Nat} {n : Int} {v : PTow} {ok : Bool} (hb9 : w.heap[vb]? = some (.cells #[.map (some tb), .map (some hb)] 51 (0, 0))) (hv : v.root.length = 32) (hl : ∀ W : World, Below w.heap.size w W → (Instr.lookup 48 (.map (some tb)) (.int .i64 n) true).run Try.prog W = .ok (.tuple #[.agg v.cells.toArray, .bool ok]) W) : GetIs w (.pointer (some ⟨vb, 0, none⟩)) n v ok := fun W0 hW0 => by
  have HG := Lib.hid ((given_yes hb9).below hW0)
  have HL : Hid (∀ W : World, Below W0.heap.size W0 W → _) := Lib.hid (fun W hW => hl W (bthen hW0 hW))
  have HB9 := Lib.hid (keep hW0 hb9)
  clear hb9 hl hW0
  go_enter Try.func28, Try.ntmps28
  go_wp2_with (first | (refine wpList_new rfl 67 rfl noTow.cells.toArray Try.zeroTow ?_; intro g4 w4 n4 h4 k4; have H4 := Lib.hid h4; have K4 := Lib.hid k4; have N4 := Lib.hid n4; have c0 := cell_of_row w4 vb 0 _ _ _ (keep k4 HB9.out); have HGW := Lib.hid (HG.out.below k4); clear h4 k4 n4; go_frame) | (go_at_call 30; refine (HGW.out _ (Below.refl _ _)).mono ?_; rintro e w5 ⟨rfl, rfl⟩) | (refine wpList_look10 rfl rfl rfl rfl (HL.out w4 K4.out) ?_; go_frame) | (refine wpList_var rfl rfl 67 rfl _ _ rfl noTow.cells.toArray Try.zeroTow rfl v.cells (fun _ => rfl) (fun _ => rfl) (PTow.len hv) v.one ?_; intro g6 w6 n6 h6 k6; have H6 := Lib.hid h6; have K6 := Lib.hid k6; have H46 := Lib.hid (keep k6 H4.out); have N6 := Lib.hid n6; clear h6 k6 n6 c0; go_frame) | (refine wpList_load_row rfl 67 _ rfl g6 rfl 67 v.cells.toArray (0, 0) _ H6.out Try.underlying67 rfl (tow_sizeA hv) ?_) | (refine wpList_row10 rfl 67 _ _ rfl g4 v.cells rfl rfl 67 noTow.cells H46.out (tow_size hv) (by rw [(PTow.len (x := noTow) rfl), PTow.len hv]) v.one ?_; intro w8 h8 k8; have H8 := Lib.hid h8; have K8 := Lib.hid k8; clear h8 k8; go_frame) | fail)
  exact bodyPost_ret (results_cell_then rfl _ _ g4 67 _ _ _ (.bool ok) rfl rfl H8.out Try.underlying67 rfl (tow_sizeA hv)) rfl ⟨rfl, But.in (bthen K4.out K6.out) K8.out N4.out⟩
set_option linter.unusedSimpArgs false in
set_option maxRecDepth 100000 in
set_option maxHeartbeats 12800000 in
theorem tow_none {w : World} {pv : Value} (h : BoardNone w pv) (n : Int) : GetIs w pv n noTow false := fun W0 hW0 => by
  have HG := Lib.hid ((given_no h).below hW0)
  have hv : noTow.root.length = 32 := rfl
  have HV := Lib.hid hv
  clear h hW0 hv
  go_enter Try.func28, Try.ntmps28
  go_wp2_with (first | (refine wpList_new rfl 67 rfl noTow.cells.toArray Try.zeroTow ?_; intro g4 w4 n4 h4 k4; have H4 := Lib.hid h4; have K4 := Lib.hid k4; have N4 := Lib.hid n4; have HGW := Lib.hid (HG.out.below k4); clear h4 k4 n4; go_frame) | (go_at_call 30; refine (HGW.out _ (Below.refl _ _)).mono ?_; rintro e w5 ⟨rfl, rfl⟩) | (refine wpList_build10 rfl rfl (vs := []) (by rfl) build_noTow ?_; go_frame) | (refine wpList_row10 rfl 67 _ _ rfl g4 noTow.cells rfl rfl 67 noTow.cells H4.out (tow_size HV.out) rfl noTow.one ?_; intro w8 h8 k8; have H8 := Lib.hid h8; have K8 := Lib.hid k8; clear h8 k8; go_frame) | fail)
  exact bodyPost_ret (results_cell_then rfl _ _ g4 67 _ _ _ (.bool false) rfl rfl H8.out Try.underlying67 rfl (tow_sizeA HV.out)) rfl ⟨rfl, But.in K4.out K8.out N4.out⟩
set_option linter.unusedSimpArgs false in
set_option maxRecDepth 100000 in
set_option maxHeartbeats 12800000 in
theorem hold_at9 {w : World} {vb tb hb : Nat} {n id : Int} {v : PHold} {ok : Bool} (hb9 : w.heap[vb]? = some (.cells #[.map (some tb), .map (some hb)] 51 (0, 0))) (hv : HoldIn v) (hl : ∀ W : World, Below w.heap.size w W → (Instr.lookup 49 (.map (some hb)) (.agg #[.int .i64 n, .int .i64 id]) true).run Try.prog W = .ok (.tuple #[.agg v.cells.toArray, .bool ok]) W) : HoldsIs w (.pointer (some ⟨vb, 0, none⟩)) n id v ok := fun W0 hW0 => by
  have HG := Lib.hid ((given_yes hb9).below hW0)
  have HL : Hid (∀ W : World, Below W0.heap.size W0 W → _) := Lib.hid (fun W hW => hl W (bthen hW0 hW))
  have HB9 := Lib.hid (keep hW0 hb9)
  clear hb9 hl hW0
  go_enter Try.func15, Try.ntmps15
  go_wp2_with (first | (refine wpList_new rfl 53 rfl noHold.cells.toArray Try.zeroHold ?_; intro g4 w4 n4 h4 k4; have H4 := Lib.hid h4; have K4 := Lib.hid k4; have N4 := Lib.hid n4; have c0 := cell_of_row w4 vb 1 _ _ _ (keep k4 HB9.out); have HGW := Lib.hid (HG.out.below k4); clear h4 k4 n4; go_frame) | (go_at_call 30; refine (HGW.out _ (Below.refl _ _)).mono ?_; rintro e w5 ⟨rfl, rfl⟩) | (refine wpList_build10 rfl rfl (vs := [(0, .int .i64 n), (1, .int .i64 id)]) (by rfl) (build_two n id) ?_; go_frame) | (refine wpList_look10 rfl rfl rfl rfl (HL.out w4 K4.out) ?_; go_frame) | (refine wpList_var rfl rfl 53 rfl _ _ rfl noHold.cells.toArray Try.zeroHold rfl v.cells (fun _ => rfl) (fun _ => rfl) (PHold.len hv) v.one ?_; intro g6 w6 n6 h6 k6; have H6 := Lib.hid h6; have K6 := Lib.hid k6; have H46 := Lib.hid (keep k6 H4.out); have N6 := Lib.hid n6; clear h6 k6 n6 c0; go_frame) | (refine wpList_load_row rfl 53 _ rfl g6 rfl 53 v.cells.toArray (0, 0) _ H6.out Try.underlying53 rfl (hold_sizeA hv) ?_) | (refine wpList_row10 rfl 53 _ _ rfl g4 v.cells rfl rfl 53 noHold.cells H46.out (hold_size hv) (by rw [(PHold.len noHold_in), PHold.len hv]) v.one ?_; intro w8 h8 k8; have H8 := Lib.hid h8; have K8 := Lib.hid k8; clear h8 k8; go_frame) | fail)
  exact bodyPost_ret (results_cell_then rfl _ _ g4 53 _ _ _ (.bool ok) rfl rfl H8.out Try.underlying53 rfl (hold_sizeA hv)) rfl ⟨rfl, But.in (bthen K4.out K6.out) K8.out N4.out⟩
set_option linter.unusedSimpArgs false in
set_option maxRecDepth 100000 in
set_option maxHeartbeats 12800000 in
theorem hold_none {w : World} {pv : Value} (h : BoardNone w pv) (n id : Int) : HoldsIs w pv n id noHold false := fun W0 hW0 => by
  have HG := Lib.hid ((given_no h).below hW0)
  have hv : HoldIn noHold := noHold_in
  have HV := Lib.hid hv
  clear h hW0 hv
  go_enter Try.func15, Try.ntmps15
  go_wp2_with (first | (refine wpList_new rfl 53 rfl noHold.cells.toArray Try.zeroHold ?_; intro g4 w4 n4 h4 k4; have H4 := Lib.hid h4; have K4 := Lib.hid k4; have N4 := Lib.hid n4; have HGW := Lib.hid (HG.out.below k4); clear h4 k4 n4; go_frame) | (go_at_call 30; refine (HGW.out _ (Below.refl _ _)).mono ?_; rintro e w5 ⟨rfl, rfl⟩) | (refine wpList_build10 rfl rfl (vs := []) (by rfl) build_noHold ?_; go_frame) | (refine wpList_row10 rfl 53 _ _ rfl g4 noHold.cells rfl rfl 53 noHold.cells H4.out (hold_size HV.out) rfl noHold.one ?_; intro w8 h8 k8; have H8 := Lib.hid h8; have K8 := Lib.hid k8; clear h8 k8; go_frame) | fail)
  exact bodyPost_ret (results_cell_then rfl _ _ g4 53 _ _ _ (.bool false) rfl rfl H8.out Try.underlying53 rfl (hold_sizeA HV.out)) rfl ⟨rfl, But.in K4.out K8.out N4.out⟩
section
variable {B : Nat} {w : World} {pv : Value} {tb hb N : Nat} {ts : List PTE} {hs : List PHE}
theorem lookT_num {n : Int} {ts : List PTE} {x : PTE} (h : lookT n ts = some x) : x ∈ ts ∧ x.n = n := lookK_mem h
theorem BoardAt.get_yes (h : BoardAt B w pv tb hb N ts hs) {n : Int} {x : PTE} (hx : lookT n ts = some x) : GetIs w pv n x.t true := by
  obtain ⟨vb, rfl, h2⟩ := h.has
  obtain ⟨k, _, h4⟩ := h.mt
  obtain ⟨h5, h6⟩ := lookT_num hx
  have hf : Fits n := by have h7 := h.inv.tn x h5; rw [h6] at h7; constructor <;> omega
  refine tow_at9 h2 (h.inv.tr x h5) (fun W hW => ?_)
  have h8 := (h4.below hW).look (x := ⟨n, hf⟩) (e := 67) Try.underlying48 (z := .agg noTow.cells.toArray) (by obtain ⟨ie, i1, i2, _, _⟩ := info_parts Try.zeroTow; simp [zeroValue, typeInfo, i1, i2]) (v := .agg x.t.cells.toArray) (by unfold towF; rw [hx]; rfl)
  exact h8
theorem BoardAt.get_no (h : BoardAt B w pv tb hb N ts hs) {n : Int} (hf : Fits n) (hx : lookT n ts = none) : GetIs w pv n noTow false := by
  obtain ⟨vb, rfl, h2⟩ := h.has
  obtain ⟨k, _, h4⟩ := h.mt
  refine tow_at9 h2 rfl (fun W hW => ?_)
  have h8 := (h4.below hW).look_no (x := ⟨n, hf⟩) (e := 67) Try.underlying48 (z := .agg noTow.cells.toArray) (by obtain ⟨ie, i1, i2, _, _⟩ := info_parts Try.zeroTow; simp [zeroValue, typeInfo, i1, i2]) (by unfold towF; rw [hx]; rfl)
  exact h8
theorem BoardAt.holds_yes (h : BoardAt B w pv tb hb N ts hs) {n id : Int} {x : PHE} (hx : lookH n id hs = some x) : HoldsIs w pv n id x.h true := by
  obtain ⟨vb, rfl, h2⟩ := h.has
  obtain ⟨k, _, h4⟩ := h.mh
  obtain ⟨h5, h6⟩ := lookK_mem hx
  have h7 := h.inv.hin x h5
  have e1 : x.n = n := congrArg Prod.fst h6
  have e2 : x.h.ch.id = id := congrArg Prod.snd h6
  have f1 : Fits n := by rw [← e1]; exact h7.n
  have f2 : Fits id := by rw [← e2]; exact h7.h.ch.id
  refine hold_at9 h2 h7.h (fun W hW => ?_)
  have h8 := (h4.below hW).look (x := ⟨n, id, f1, f2⟩) (e := 53) Try.underlying49 (z := .agg noHold.cells.toArray) (by obtain ⟨ie, i1, i2, _, _⟩ := info_parts Try.zeroHold; simp [zeroValue, typeInfo, i1, i2]) (v := .agg x.h.cells.toArray) (by unfold holF; rw [hx]; rfl)
  exact h8
theorem BoardAt.holds_no (h : BoardAt B w pv tb hb N ts hs) {n id : Int} (f1 : Fits n) (f2 : Fits id) (hx : lookH n id hs = none) : HoldsIs w pv n id noHold false := by
  obtain ⟨vb, rfl, h2⟩ := h.has
  obtain ⟨k, _, h4⟩ := h.mh
  refine hold_at9 h2 noHold_in (fun W hW => ?_)
  have h8 := (h4.below hW).look_no (x := ⟨n, id, f1, f2⟩) (e := 53) Try.underlying49 (z := .agg noHold.cells.toArray) (by obtain ⟨ie, i1, i2, _, _⟩ := info_parts Try.zeroHold; simp [zeroValue, typeInfo, i1, i2]) (by unfold holF; rw [hx]; rfl)
  exact h8
end
end Go.Proofs.Ytijanllppbambaa
