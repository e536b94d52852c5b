/- A transaction of one in that a key signs: what copied and Signed come to there. -/
import Derived.Test.YtodbhopeknlgiaaGreatDoorTxRead
import Derived.Test.YtodbhopeknlgiaaGreatDoorTxKeys
import Derived.Test.YtodbhopeknlgiaaGreatDoorLock
import Derived.Lib.BufferMore
namespace Go.Proofs.YtodbhopeknlgiaaGreatDoor
open Go.RowKit

theorem wpList_append_of {α : Type} {P : Program} {K : Sort8 α} {ts t : TypeId} (S : SortAt P K ts t) {w : World} {ops : Array Oper} {rest : List Oper} {o : Oper} {A : Act} {Q : Exit → Act → World → Prop} (hgd : o.guard = none) (s x : Operand)
    (ho : o.op = .call { callee := .builtin .append, args := #[s, x], argTypes := #[ts, ts] }) (hty : o.type = ts) (B : Nat) (v : Value) (xs : List α) (hs : A.eval s = v) (hown : OwnOf K t w B v xs) (p : Nat) (y : α) (hx : A.eval x = .slice (some ⟨p, 0, none⟩) 1 1) {tp : TypeId} {fr : Nat × Nat} (hp : w.heap[p]? = some (.cells (K.cells y).toArray tp fr)) (hl : (K.cells y).length = K.size) (hb : xs.length + 1 ≤ 1000000) (hbase : B ≤ w.heap.size)
    (h : ∀ a' c' w', OwnOf K t w' B (.slice a' (xs.length + 1) c') (xs ++ [y]) → w.grownBy w' v.ownBlock → wpList P ops Q rest (A.put o.dst (.slice a' (xs.length + 1) c')) w') : wpList P ops Q (o :: rest) A w := by
  refine wpList_plain hgd fun K' hK => ?_
  obtain ⟨a', c', w', h1, h2, h3⟩ := append_of S w B v xs hown p y hp hl hb hbase
  unfold Oper.wp execOp
  simp only [ho, hty, resolve, invoke, builtin, Sem.run_bind, Sem.run_pure, Result.andThen_ok, List.map_toArray, List.map_cons, List.map_nil, hs, hx, h1]
  exact hK _ _ (h a' c' w' h2 h3)
/-- A store of what is there. -/
theorem store_same {w : World} {g i : Nat} {t : TypeId} {cs : Array Value} {v : Value} (h : w.heap[g]? = some (.cells cs t (0, 0))) (hi : cs[i]? = some v) : Below w.heap.size w (w.setCell ⟨g, i, none⟩ v) := by
  have hb : But w.heap.size g w (w.setCell ⟨g, i, none⟩ v) := (But.refl _ g _).setCell _ (.inl rfl) _
  refine ⟨hb.os, hb.tape, hb.output, hb.size, fun k hk => ?_⟩
  by_cases e : k = g
  · subst e
    rw [heap_setCell_same w k i cs t v h, h]
    congr 2
    apply Array.ext_getElem?
    intro j
    rw [Array.getElem?_setIfInBounds]
    by_cases e : i = j
    · subst e
      have hlt := (Array.getElem?_eq_some_iff.1 hi).1
      rw [if_pos rfl, if_pos hlt, hi]
    · rw [if_neg e]
  · exact hb.block k hk e
set_option linter.unusedSimpArgs false in
set_option maxRecDepth 100000 in
set_option maxHeartbeats 12800000 in
theorem cloneIn_nil (w : World) : Calls Tryz.prog 70 #[.slice none 0 0] w fun e w' => e = .returned (.slice none 0 0) ∧ w = w' := by
  have hq : ∀ W : World, (binOp .eql 22 (.slice none 0 0) (.slice none 0 0)).run Tryz.prog W = .ok (.bool true) W := fun W => Lib.run_eql_slice_nil_nil W _ _ Tryz.underlying22
  go_enter Tryz.func70, Tryz.ntmps70
  go_wp2
  go_ret
  exact ⟨rfl, rfl⟩
set_option linter.unusedSimpArgs false in
set_option maxRecDepth 100000 in
set_option maxHeartbeats 12800000 in
theorem cloneOut_nil (w : World) : Calls Tryz.prog 71 #[.slice none 0 0] w fun e w' => e = .returned (.slice none 0 0) ∧ w = w' := by
  have hq : ∀ W : World, (binOp .eql 23 (.slice none 0 0) (.slice none 0 0)).run Tryz.prog W = .ok (.bool true) W := fun W => Lib.run_eql_slice_nil_nil W _ _ Tryz.underlying23
  go_enter Tryz.func71, Tryz.ntmps71
  go_wp2
  go_ret
  exact ⟨rfl, rfl⟩
set_option linter.unusedSimpArgs false in
set_option maxRecDepth 100000 in
set_option maxHeartbeats 12800000 in
theorem cloneSign_nil (w : World) : Calls Tryz.prog 72 #[.slice none 0 0] w fun e w' => e = .returned (.slice none 0 0) ∧ w = w' := by
  have hq : ∀ W : World, (binOp .eql 29 (.slice none 0 0) (.slice none 0 0)).run Tryz.prog W = .ok (.bool true) W := fun W => Lib.run_eql_slice_nil_nil W _ _ Tryz.underlying29
  go_enter Tryz.func72, Tryz.ntmps72
  go_wp2
  go_ret
  exact ⟨rfl, rfl⟩
theorem own_zero {α : Type} (K : Sort8 α) (t : TypeId) {w : World} {B : Nat} (hB : B ≤ w.heap.size) : OwnOf K t (w.alloc (.cells #[] t)) B (.slice (some ⟨w.heap.size, 0, none⟩) 0 0) [] := ⟨World.ownsRow_made w #[] 0 hB (Nat.zero_le _) (by simp), fun _ h => by cases h⟩
set_option linter.unusedSimpArgs false in
set_option maxRecDepth 100000 in
set_option maxHeartbeats 12800000 in
theorem cloneIn_one {w : World} {p : Nat} {y : PIn} {fr : Nat × Nat} (hp : w.heap[p]? = some (.cells y.cells.toArray 58 fr)) (hl : y.tx.length = 32) : Calls Tryz.prog 70 #[.slice (some ⟨p, 0, none⟩) 1 1] w fun e w' => ∃ (a : Option Addr) (c : Nat), e = .returned (.slice a 1 c) ∧ OwnOf inK 58 w' w.heap.size (.slice a 1 c) [y] ∧ Below w.heap.size w w' := by
  have b1 : Below w.heap.size w (w.alloc (.cells #[] 58)) := (Below.refl _ _).alloc (Nat.le_refl _) _
  have HO := Lib.hid (own_zero inK 58 (Nat.le_refl w.heap.size))
  have HP := Lib.hid ((b1.block p (lt_of_block hp)).trans hp)
  have HB := Lib.hid b1
  have HL := Lib.hid (PIn.len hl)
  have hq : ∀ W : World, (binOp .eql 22 (.slice (some ⟨p, 0, none⟩) 1 1) (.slice none 0 0)).run Tryz.prog W = .ok (.bool false) W := fun W => Lib.run_eql_slice_some_nil W _ _ _ Tryz.underlying22
  clear hp hl b1
  go_enter Tryz.func70, Tryz.ntmps70
  go_wp2_with (at_builtin; refine wpList_append_of inS rfl _ _ rfl rfl w.heap.size (.slice (some ⟨w.heap.size, 0, none⟩) 0 0) [] rfl HO.out p y rfl HP.out HL.out (by simp) HB.out.size ?_; intro a8 c8 w8 ho8 hg8; have HO8 := Lib.hid ho8; have HB8 := Lib.hid (HB.out.trans (HO.out.grows hg8 HB.out.size)); clear ho8 hg8)
  go_ret
  exact ⟨a8, c8, rfl, HO8.out, HB8.out⟩
set_option linter.unusedSimpArgs false in
set_option maxRecDepth 100000 in
set_option maxHeartbeats 12800000 in
theorem indexSign_nil (f : Value) (w : World) : Calls Tryz.prog 77 #[.slice none 0 0, f] w fun e w' => e = .returned (.int .i64 (-1)) ∧ w = w' := by
  go_enter Tryz.func77, Tryz.ntmps77
  go_upto_region 2 with (fail)
  go_loop [8] (fun x => x = .int .i64 0) (fun _ => 0)
  case atStart => rfl
  case round =>
    subst hrel
    go_wp2
    go_ret
    exact ⟨rfl, rfl⟩
theorem deleteSign_nil (f : Value) (w : World) : Calls Tryz.prog 48 #[.slice none 0 0, f] w fun e w' => e = .returned (.slice none 0 0) ∧ w = w' := by
  go_enter Tryz.func48, Tryz.ntmps48
  go_wp2_with (first | (go_at_call 77; (with_reducible refine (indexSign_nil _ _).mono ?_); rintro e w9 ⟨rfl, rfl⟩) | fail)
  go_ret
  exact ⟨rfl, rfl⟩
set_option linter.unusedSimpArgs false in
set_option maxRecDepth 100000 in
set_option maxHeartbeats 12800000 in
theorem insertSign_one (a : Option Addr) (c : Nat) (f : Value) (w : World) : Calls Tryz.prog 101 #[.slice a 1 c, .int .i64 0, .int .i64 1, f] w fun e w' => e = .returned (.tuple #[]) ∧ w = w' := by
  go_enter Tryz.func101, Tryz.ntmps101
  go_upto_region 1 with (fail)
  go_loop [8] (fun x => x = .int .i64 1) (fun _ => 0)
  case atStart => rfl
  case round =>
    subst hrel
    go_wp2
    go_end0
    exact ⟨rfl, rfl⟩
theorem stableSign_one (a : Option Addr) (c : Nat) (f : Value) (w : World) : Calls Tryz.prog 80 #[.slice a 1 c, .int .i64 1, f] w fun e w' => e = .returned (.tuple #[]) ∧ w = w' := by
  go_enter Tryz.func80, Tryz.ntmps80
  go_upto_region 2 with (fail)
  go_loop [7, 8] (fun x y => x = .int .i64 0 ∧ y = .int .i64 20) (fun _ _ => 0)
  case atStart => exact ⟨rfl, rfl⟩
  case round =>
    obtain ⟨rfl, rfl⟩ := hrel
    go_wp2_with (first | (go_at_call 101; (with_reducible refine (insertSign_one _ _ _ _).mono ?_); rintro e w9 ⟨rfl, rfl⟩) | fail)
    go_loop [6] (fun x => x = .int .i64 20) (fun _ => 0)
    case atStart => rfl
    case round =>
      subst hrel
      go_wp2
      go_end0
      exact ⟨rfl, rfl⟩
theorem sortSign_one (a : Option Addr) (c : Nat) (f : Value) (w : World) : Calls Tryz.prog 51 #[.slice a 1 c, f] w fun e w' => e = .returned (.tuple #[]) ∧ w = w' := by
  go_enter Tryz.func51, Tryz.ntmps51
  go_wp2_with (first | (go_at_call 80; (with_reducible refine (stableSign_one _ _ _ _).mono ?_); rintro e w9 ⟨rfl, rfl⟩) | fail)
  go_end0
  exact ⟨rfl, rfl⟩
theorem compact_one (a : Option Addr) (c : Nat) (w : World) : Calls Tryz.prog 47 #[.slice a 1 c] w fun e w' => e = .returned (.slice a 1 c) ∧ w = w' := by
  go_enter Tryz.func47, Tryz.ntmps47
  go_wp2
  go_ret
  exact ⟨rfl, rfl⟩
/-- A transaction of one in, of zeros. -/
def oneTx (a : Option Addr) (c : Nat) (sa : Option Addr) (sn sc : Nat) (ss : List PSign) : PTx := ⟨a, 1, c, [noIn], none, 0, 0, [], noOp, sa, sn, sc, ss⟩
theorem OwnOf.base {α : Type} {K : Sort8 α} {t : TypeId} {w : World} {B B' : Nat} {v : Value} {xs : List α} (h : OwnOf K t w B v xs) (hB : B' ≤ B) : OwnOf K t w B' v xs := by
  refine ⟨⟨h.1.1, ?_⟩, h.2⟩
  rcases h.1.2 with h0 | ⟨g, cap, cur, hv, hg, r⟩
  · exact .inl h0
  · exact .inr ⟨g, cap, cur, hv, Nat.le_trans hB hg, r⟩
theorem one_txIn {w : World} {B : Nat} {a : Option Addr} {c : Nat} (h : OwnOf inK 58 w B (.slice a 1 c) [noIn]) : SliceOf inK w a 1 c [noIn] := h.slice (fun y hy => by
  simp at hy
  subst hy
  exact ⟨zero32_len, ⟨by decide, by decide⟩, ⟨by decide, by decide⟩, Row.nil _⟩)
theorem own_where {w : World} {B : Nat} {a : Option Addr} {c : Nat} (h : OwnOf inK 58 w B (.slice a 1 c) [noIn]) : ∃ q cur, a = some ⟨q, 0, none⟩ ∧ B ≤ q ∧ w.heap[q]? = some (.cells cur 58 (0, 0)) ∧ cur[34]? = some (.slice none 0 0) := by
  rcases h.1.2 with ⟨hv, h0⟩ | ⟨g, cap, cur, hv, hB, hh, h1, h2, h3, h4⟩
  · cases hv
  · cases hv
    refine ⟨g, cur, rfl, hB, hh, ?_⟩
    have e : ([noIn].flatMap inK.cells)[34]? = some (.slice none 0 0) := rfl
    rw [← h4, List.getElem?_take, if_pos (show 34 < [noIn].length * inK.size by decide)] at e
    simpa using e
set_option linter.unusedSimpArgs false in
set_option maxRecDepth 100000 in
set_option maxHeartbeats 12800000 in
theorem copied_one {w : World} {p : Nat} {fr : Nat × Nat} (hp : w.heap[p]? = some (.cells noIn.cells.toArray 58 fr)) : Calls Tryz.prog 44 #[.agg (oneTx (some ⟨p, 0, none⟩) 1 none 0 0 []).cells.toArray] w fun e w' => ∃ (a : Option Addr) (c : Nat), e = .returned (.agg (oneTx a c none 0 0 []).cells.toArray) ∧ OwnOf inK 58 w' w.heap.size (.slice a 1 c) [noIn] ∧ Below w.heap.size w w' := by
  have HP := Lib.hid hp
  clear hp
  go_enter Tryz.func44, Tryz.ntmps44
  go_upto_region 1 with (fail)
  rw [← noTx_is]
  have b2 : Below w.heap.size w ((w.alloc (.cells (oneTx (some ⟨p, 0, none⟩) 1 none 0 0 []).cells.toArray 31)).alloc (.cells noTx.cells.toArray 31)) := ((Below.refl _ _).alloc (Nat.le_refl _) _).alloc (by simp) _
  have h1 : VarC ((w.alloc (.cells (oneTx (some ⟨p, 0, none⟩) 1 none 0 0 []).cells.toArray 31)).alloc (.cells noTx.cells.toArray 31)) w.heap.size 31 (oneTx (some ⟨p, 0, none⟩) 1 none 0 0 []).cells := by
    unfold VarC
    rw [heap_alloc_old _ _ (by simp)]
    exact heap_alloc_new _ _
  have h2 : VarC ((w.alloc (.cells (oneTx (some ⟨p, 0, none⟩) 1 none 0 0 []).cells.toArray 31)).alloc (.cells noTx.cells.toArray 31)) (w.heap.size + 1) 31 noTx.cells := heap_alloc_at _ _ _ (by simp)
  revert b2 h1 h2
  generalize ((w.alloc (.cells (oneTx (some ⟨p, 0, none⟩) 1 none 0 0 []).cells.toArray 31)).alloc (.cells noTx.cells.toArray 31)) = w2
  obtain ⟨g, hg⟩ : ∃ g, g = w.heap.size := ⟨_, rfl⟩
  rw [← hg]
  intro b2 h1 h2
  rw [hg] at b2
  have hgB : w.heap.size ≤ g := by omega
  have HB2 := Lib.hid b2
  have VD : Hid (VarC w2.drew g 31 (oneTx (some ⟨p, 0, none⟩) 1 none 0 0 []).cells) := Lib.hid h1
  have RD : Hid (VarC w2.drew (g + 1) 31 noTx.cells) := Lib.hid h2
  have HPD : Hid (w2.drew.heap[p]? = some (.cells noIn.cells.toArray 58 fr)) := Lib.hid ((b2.block p (lt_of_block HP.out)).trans HP.out)
  have HCI := Lib.hid (fun (_ : Unit) => cloneIn_one (y := noIn) HPD.out zero32_len)
  clear b2 h1 h2 hg HP
  try simp only [Act.put]
  refine wp_region_held_drew (S := fun w' => w'.cell? ⟨g, 1, none⟩ = some (Value.slice none 0 0) ∧ w'.cell? ⟨g, 39, none⟩ = some (Value.slice none 0 0)) (by kernel_rfl) (⟨(VD.out.cell 1).trans rfl, (VD.out.cell 39).trans rfl⟩) (fun hHeld => ?_)
  refine take_at (i := 0) (v := ?_) rfl rfl (by kernel_rfl) (by kernel_rfl) (by kernel_rfl) (fun _ _ _ h => h) (Or.inl ⟨by rfl, ?_⟩) (by assumption) ?_
  rotate_left
  · intro w0 hSw; (try dsimp only at hSw); first | (go_simp; done) | (go_simp; with_reducible rfl)
  simp only [List.setIfInBounds_toArray, List.set_cons_zero, List.set_cons_succ]
  refine take_at (i := 3) (v := ?_) rfl rfl (by kernel_rfl) (by kernel_rfl) (by kernel_rfl) (fun _ _ _ h => h) (Or.inl ⟨by rfl, ?_⟩) (by assumption) ?_
  rotate_left
  · intro w0 hSw; (try dsimp only at hSw); first | (go_simp; done) | (go_simp; with_reducible rfl)
  simp only [List.setIfInBounds_toArray, List.set_cons_zero, List.set_cons_succ]
  refine take_at (i := 4) rfl rfl (by kernel_rfl) (by kernel_rfl) (by kernel_rfl) (fun _ _ _ h => h) (yields_cell (by rfl) rfl rfl (b := g) (o := 1) (fun w0 hSw => hSw.1) Tryz.isAgg23) (by assumption) ?_
  simp only [List.setIfInBounds_toArray, List.set_cons_zero, List.set_cons_succ]
  refine take_at (i := 6) (v := ?_) rfl rfl (by kernel_rfl) (by kernel_rfl) (by kernel_rfl) (fun _ _ _ h => h) (Or.inl ⟨by rfl, ?_⟩) (by assumption) ?_
  rotate_left
  · intro w0 hSw; (try dsimp only at hSw); first | (go_simp; done) | (go_simp; with_reducible rfl)
  simp only [List.setIfInBounds_toArray, List.set_cons_zero, List.set_cons_succ]
  refine take_at (i := 7) rfl rfl (by kernel_rfl) (by kernel_rfl) (by kernel_rfl) (fun _ _ _ h => h) (yields_cell (by rfl) rfl rfl (b := g) (o := 39) (fun w0 hSw => hSw.2) Tryz.isAgg29) (by assumption) ?_
  simp only [List.setIfInBounds_toArray, List.set_cons_zero, List.set_cons_succ]
  refine wpAnyH_ready (rs := [1]) (by kernel_rfl) (by simp) ?_
  refine AllReadyH.cons rfl (fun K hK => ?_) ?_
  · refine step_cell (d := 8) rfl (by rfl) 22 _ rfl g 0 rfl (.slice (some ⟨p, 0, none⟩) 1 1) (by rw [VD.out.cell]; rfl) (Tryz.isAgg22 _) ?_
    refine hK.out _ _ (by (try dsimp only); exact hHeld) (fun hHeld => ?_)
    clear hK K
    refine wpAnyH_ready (rs := [2]) (by kernel_rfl) (by simp) ?_
    refine AllReadyH.cons rfl (fun K hK => ?_) ?_
    · go_simp
      go_wp2_with ((go_at_call 70; (with_reducible refine (HCI.out ()).mono ?_); rintro e y2 ⟨a1, c1, rfl, ho, hb⟩; have OW := Lib.hid ho; have V := Lib.hid (VD.out.below hb); have RV := Lib.hid (RD.out.below hb); have HB := Lib.hid (hb); clear ho hb))
      refine hK.out _ _ (by (try dsimp only); exact ⟨(V.out.cell 1).trans rfl, (V.out.cell 39).trans rfl⟩) (fun hHeld => ?_)
      clear hK K
      refine take_at (i := 9) (v := ?_) rfl rfl (by kernel_rfl) (by kernel_rfl) (by kernel_rfl) (fun _ _ _ h => h) (Or.inl ⟨by rfl, ?_⟩) (by assumption) ?_
      rotate_left
      · intro w0 hSw; (try dsimp only at hSw); first | (go_simp; done) | (go_simp; with_reducible rfl)
      simp only [List.setIfInBounds_toArray, List.set_cons_zero, List.set_cons_succ]
      refine wpAnyH_ready (rs := [5]) (by kernel_rfl) (by simp) ?_
      refine AllReadyH.cons rfl (fun K hK => ?_) ?_
      · go_simp
        go_wp2_with ((go_at_call 71; (with_reducible refine (cloneOut_nil _).mono ?_); rintro e y5 ⟨rfl, rfl⟩))
        refine hK.out _ _ (by (try dsimp only); exact hHeld) (fun hHeld => ?_)
        clear hK K
        refine wpAnyH_ready (rs := [8]) (by kernel_rfl) (by simp) ?_
        refine AllReadyH.cons rfl (fun K hK => ?_) ?_
        · go_simp
          go_wp2_with ((go_at_call 72; (with_reducible refine (cloneSign_nil _).mono ?_); rintro e y8 ⟨rfl, rfl⟩))
          refine hK.out _ _ (by (try dsimp only); exact hHeld) (fun hHeld => ?_)
          clear hK K
          refine wpAnyH_ready (rs := [10]) (by kernel_rfl) (by simp) ?_
          refine AllReadyH.cons rfl (fun K hK => ?_) ?_
          · refine step_store_cell (by rfl) 22 _ _ rfl g 0 (by rfl) (.slice a1 1 c1) (by rfl) (.slice (some ⟨p, 0, none⟩) 1 1) (by rw [V.out.cell]; rfl) (V.out.free 0) (by kernel_rfl) rfl ?_
            have hs := (But.refl y2.heap.size g y2).setCell ⟨g, 0, none⟩ (.inl rfl) (.slice a1 1 c1)
            have V2 := Lib.hid (show VarC (y2.setCell ⟨g, 0, none⟩ (.slice a1 1 c1)) g 31 (oneTx a1 c1 none 0 0 []).cells from VarC.put1 (pre := []) V.out rfl)
            have RV2 := Lib.hid (RV.out.but hs RV.out.lt (by omega))
            have OW2 := Lib.hid (OW.out.but hs (not_typed V.out (by decide)))
            have HS2 := Lib.hid hs
            clear hs
            revert V2 RV2 OW2 HS2
            generalize World.setCell y2 _ _ = y10
            intro V2 RV2 OW2 HS2
            refine hK.out _ _ (by (try dsimp only); exact ⟨(V2.out.cell 1).trans rfl, (V2.out.cell 39).trans rfl⟩) (fun hHeld => ?_)
            clear hK K
            refine take_at (i := 11) (v := ?_) rfl rfl (by kernel_rfl) (by kernel_rfl) (by kernel_rfl) (fun _ _ _ h => h) (Or.inl ⟨by rfl, ?_⟩) (by assumption) ?_
            rotate_left
            · intro w0 hSw; (try dsimp only at hSw); first | (go_simp; done) | (go_simp; with_reducible rfl)
            simp only [List.setIfInBounds_toArray, List.set_cons_zero, List.set_cons_succ]
            refine wpAnyH_ready (rs := [12]) (by kernel_rfl) (by simp) ?_
            refine AllReadyH.cons rfl (fun K hK => ?_) ?_
            · refine step_store_cell (by rfl) 23 _ _ rfl g 1 (by rfl) (.slice none 0 0) (by rfl) (.slice none 0 0) (by rw [V2.out.cell]; rfl) (V2.out.free 1) (by kernel_rfl) rfl ?_
              have hb := store_same (i := 1) (v := .slice none 0 0) V2.out rfl
              have V3 := Lib.hid (V2.out.below hb)
              have RV3 := Lib.hid (RV2.out.below hb)
              have OW3 := Lib.hid (OW2.out.below hb)
              have HS3 := Lib.hid hb
              clear hb
              revert V3 RV3 OW3 HS3
              generalize World.setCell y10 _ _ = y12
              intro V3 RV3 OW3 HS3
              refine hK.out _ _ (by (try dsimp only); exact ⟨(V3.out.cell 1).trans rfl, (V3.out.cell 39).trans rfl⟩) (fun hHeld => ?_)
              clear hK K
              refine take_at (i := 13) (v := ?_) rfl rfl (by kernel_rfl) (by kernel_rfl) (by kernel_rfl) (fun _ _ _ h => h) (Or.inl ⟨by rfl, ?_⟩) (by assumption) ?_
              rotate_left
              · intro w0 hSw; (try dsimp only at hSw); first | (go_simp; done) | (go_simp; with_reducible rfl)
              simp only [List.setIfInBounds_toArray, List.set_cons_zero, List.set_cons_succ]
              refine wpAnyH_ready (rs := [14]) (by kernel_rfl) (by simp) ?_
              refine AllReadyH.cons rfl (fun K hK => ?_) ?_
              · refine step_store_cell (by rfl) 29 _ _ rfl g 39 (by rfl) (.slice none 0 0) (by rfl) (.slice none 0 0) (by rw [V3.out.cell]; rfl) (V3.out.free 39) (by kernel_rfl) rfl ?_
                have hb := store_same (i := 39) (v := .slice none 0 0) V3.out rfl
                have V4 := Lib.hid (V3.out.below hb)
                have RV4 := Lib.hid (RV3.out.below hb)
                have OW4 := Lib.hid (OW3.out.below hb)
                have HS4 := Lib.hid hb
                clear hb
                revert V4 RV4 OW4 HS4
                generalize World.setCell y12 _ _ = y14
                intro V4 RV4 OW4 HS4
                refine hK.out _ _ (by (try dsimp only); exact ⟨(V4.out.cell 1).trans rfl, (V4.out.cell 39).trans rfl⟩) (fun hHeld => ?_)
                clear hK K
                refine wpAnyH_done (by kernel_rfl) ?_ _
                clear hHeld
                have HW : Hid (Below w.heap.size w y14) := Lib.hid ((HB2.out.trans ((below_drew (Below.refl w2.heap.size w2)).mono HB2.out.size)).trans (((HB.out.mono HB2.out.size).trans (((HS2.out.mono (Nat.le_trans HB2.out.size HB.out.size)).below hgB).trans ((HS3.out.mono (Nat.le_trans (Nat.le_trans HB2.out.size HB.out.size) HS2.out.size)).trans (HS4.out.mono (Nat.le_trans (Nat.le_trans (Nat.le_trans HB2.out.size HB.out.size) HS2.out.size) HS3.out.size)))))))
                have OW := Lib.hid (OW4.out.base HB2.out.size)
                clear V V2 V3 RV RV2 RV3 OW2 OW3 OW4 HS2 HS3 HS4 HB VD RD HPD
                obtain ⟨q, cur, rfl, hqB, hq0, hq34⟩ := own_where OW.out
                clear hq0 hq34 cur
                have c0 : y14.cell? ⟨g, 0, none⟩ = some (.slice (some ⟨q, 0, none⟩) 1 c1) := (V4.out.cell 0).trans rfl
                go_upto_region 3 with (fail)
                clear c0
                go_loopw [22] (fun i wr => ∃ k : Nat, k ≤ 1 ∧ i = .int .i64 k ∧ VarC wr g 31 (oneTx (some ⟨q, 0, none⟩) c1 none 0 0 []).cells ∧ VarC wr (g + 1) 31 noTx.cells ∧ OwnOf inK 58 wr w.heap.size (.slice (some ⟨q, 0, none⟩) 1 c1) [noIn] ∧ Below w.heap.size w wr) (fun i _ => 1 - (intOf i).toNat)
                case atStart => exact ⟨0, by omega, rfl, V4.out, RV4.out, OW.out, HW.out⟩
                case round =>
                  obtain ⟨k, hk, rfl, hv, hr, ho, hbw⟩ := hrel
                  have V := Lib.hid hv
                  have RV := Lib.hid hr
                  have OW' := Lib.hid ho
                  have HBW := Lib.hid hbw
                  clear hv hr ho hbw V4 RV4 OW HW
                  by_cases hk0 : k = 0
                  · subst hk0
                    obtain ⟨q', cur, e, _, hqc, hq34⟩ := own_where OW'.out
                    cases e
                    have HQC := Lib.hid hqc
                    have HQ34 := Lib.hid hq34
                    have hlq := lt_of_block hqc
                    have hlg := V.out.lt
                    clear hqc hq34
                    go_upto_region 5 with (fail)
                    try simp only [Act.put]
                    refine wp_region_held_drew (S := fun w' => Below wr.heap.size wr w') (by kernel_rfl) (below_drew (Below.refl _ _)) (fun hHeld => ?_)
                    refine take_at (i := 0) (v := ?_) rfl rfl (by kernel_rfl) (by kernel_rfl) (by kernel_rfl) (fun _ _ _ h => h) (Or.inl ⟨by rfl, ?_⟩) (by assumption) ?_
                    rotate_left
                    · intro w0 hSw; (try dsimp only at hSw); first | (go_simp; done) | (go_simp; with_reducible rfl)
                    simp only [List.setIfInBounds_toArray, List.set_cons_zero, List.set_cons_succ]
                    refine take_at (i := 1) rfl rfl (by kernel_rfl) (by kernel_rfl) (by kernel_rfl) (fun _ _ _ h => h) (yields_cell (by rfl) rfl rfl (b := g) (o := 0) (v := .slice (some ⟨q, 0, none⟩) 1 c1) (fun w0 hSw => (Below.cell hSw (p := ⟨g, 0, none⟩) hlg).trans ((V.out.cell 0).trans rfl)) Tryz.isAgg22) (by assumption) ?_
                    simp only [List.setIfInBounds_toArray, List.set_cons_zero, List.set_cons_succ]
                    refine take_at (i := 2) (v := ?_) rfl rfl (by kernel_rfl) (by kernel_rfl) (by kernel_rfl) (fun _ _ _ h => h) (Or.inl ⟨by rfl, ?_⟩) (by assumption) ?_
                    rotate_left
                    · intro w0 hSw; (try dsimp only at hSw); first | (go_simp; done) | (go_simp; with_reducible rfl)
                    simp only [List.setIfInBounds_toArray, List.set_cons_zero, List.set_cons_succ]
                    refine take_at (i := 3) (v := ?_) rfl rfl (by kernel_rfl) (by kernel_rfl) (by kernel_rfl) (fun _ _ _ h => h) (Or.inl ⟨by rfl, ?_⟩) (by assumption) ?_
                    rotate_left
                    · intro w0 hSw; (try dsimp only at hSw); first | (go_simp; done) | (go_simp; with_reducible rfl)
                    simp only [List.setIfInBounds_toArray, List.set_cons_zero, List.set_cons_succ]
                    refine take_at (i := 4) rfl rfl (by kernel_rfl) (by kernel_rfl) (by kernel_rfl) (fun _ _ _ h => h) (yields_cell (by rfl) rfl rfl (b := g) (o := 0) (v := .slice (some ⟨q, 0, none⟩) 1 c1) (fun w0 hSw => (Below.cell hSw (p := ⟨g, 0, none⟩) hlg).trans ((V.out.cell 0).trans rfl)) Tryz.isAgg22) (by assumption) ?_
                    simp only [List.setIfInBounds_toArray, List.set_cons_zero, List.set_cons_succ]
                    refine take_at (i := 5) (v := ?_) rfl rfl (by kernel_rfl) (by kernel_rfl) (by kernel_rfl) (fun _ _ _ h => h) (Or.inl ⟨by rfl, ?_⟩) (by assumption) ?_
                    rotate_left
                    · intro w0 hSw; (try dsimp only at hSw); first | (go_simp; done) | (go_simp; with_reducible rfl)
                    simp only [List.setIfInBounds_toArray, List.set_cons_zero, List.set_cons_succ]
                    refine take_at (i := 6) (v := ?_) rfl rfl (by kernel_rfl) (by kernel_rfl) (by kernel_rfl) (fun _ _ _ h => h) (Or.inl ⟨by rfl, ?_⟩) (by assumption) ?_
                    rotate_left
                    · intro w0 hSw; (try dsimp only at hSw); first | (go_simp; done) | (go_simp; with_reducible rfl)
                    simp only [List.setIfInBounds_toArray, List.set_cons_zero, List.set_cons_succ]
                    refine take_at (i := 7) (v := ?_) rfl rfl (by kernel_rfl) (by kernel_rfl) (by kernel_rfl) (fun _ _ _ h => h) (Or.inl ⟨by rfl, ?_⟩) (by assumption) ?_
                    rotate_left
                    · intro w0 hSw; (try dsimp only at hSw); first | (go_simp; done) | (go_simp; with_reducible rfl)
                    simp only [List.setIfInBounds_toArray, List.set_cons_zero, List.set_cons_succ]
                    refine take_at (i := 8) rfl rfl (by kernel_rfl) (by kernel_rfl) (by kernel_rfl) (fun _ _ _ h => h) (yields_cell (by rfl) rfl rfl (b := q) (o := 34) (v := .slice none 0 0) (fun w0 hSw => (Below.cell hSw (p := ⟨q, 34, none⟩) hlq).trans (by rw [cell_of_row _ _ _ _ _ _ HQC.out]; simpa using HQ34.out)) Tryz.isAgg26) (by assumption) ?_
                    simp only [List.setIfInBounds_toArray, List.set_cons_zero, List.set_cons_succ]
                    refine wpAnyH_ready (rs := [9]) (by kernel_rfl) (by simp) ?_
                    refine AllReadyH.cons rfl (fun K hK => ?_) ?_
                    · go_simp
                      go_wp2_with ((go_at_call 73; (with_reducible refine (Tryz.bytes_Clone_nil 0 0 _).mono ?_); rintro e y9 ⟨rfl, rfl⟩))
                      refine hK.out _ _ (by (try dsimp only); exact hHeld) (fun hHeld => ?_)
                      clear hK K
                      refine take_at (i := 10) (v := ?_) rfl rfl (by kernel_rfl) (by kernel_rfl) (by kernel_rfl) (fun _ _ _ h => h) (Or.inl ⟨by rfl, ?_⟩) (by assumption) ?_
                      rotate_left
                      · intro w0 hSw; (try dsimp only at hSw); first | (go_simp; done) | (go_simp; with_reducible rfl)
                      simp only [List.setIfInBounds_toArray, List.set_cons_zero, List.set_cons_succ]
                      refine take_at (i := 11) (v := ?_) rfl rfl (by kernel_rfl) (by kernel_rfl) (by kernel_rfl) (fun _ _ _ h => h) (Or.inl ⟨by rfl, ?_⟩) (by assumption) ?_
                      rotate_left
                      · intro w0 hSw; (try dsimp only at hSw); first | (go_simp; done) | (go_simp; with_reducible rfl)
                      simp only [List.setIfInBounds_toArray, List.set_cons_zero, List.set_cons_succ]
                      refine wpAnyH_ready (rs := [12]) (by kernel_rfl) (by simp) ?_
                      refine AllReadyH.cons rfl (fun K hK => ?_) ?_
                      · have hqd : wr.drew.heap[q]? = some (.cells cur 58 (0, 0)) := HQC.out
                        refine step_store_cell (by rfl) 26 _ _ rfl q 34 (by rfl) (.slice none 0 0) (by rfl) (.slice none 0 0) (by rw [cell_of_row _ _ _ _ _ _ hqd]; simpa using HQ34.out) (by simp [World.frozen?, hqd]) (by kernel_rfl) rfl ?_
                        have hb := store_same (i := 34) (v := .slice none 0 0) hqd HQ34.out
                        have HSM := Lib.hid hb
                        clear hb hqd
                        revert HSM
                        generalize World.setCell wr.drew _ _ = y12
                        intro HSM
                        refine hK.out _ _ (by (try dsimp only); exact hHeld.trans (HSM.out.mono hHeld.size)) (fun hHeld => ?_)
                        clear hK K
                        refine wpAnyH_done (by kernel_rfl) ?_ _
                        have HFB := Lib.hid (show Below wr.heap.size wr y12 from hHeld)
                        clear hHeld HSM
                        go_wp2_with fail
                        go_roundw
                        case rel => exact ⟨1, by omega, by go_num, V.out.below HFB.out, RV.out.below HFB.out, OW'.out.below HFB.out, HBW.out.trans (HFB.out.mono HBW.out.size)⟩
                        case measure => simp [intOf]
                      exact AllReadyH.nil
                    exact AllReadyH.nil
                  · obtain rfl : k = 1 := by omega
                    have c1' : wr.cell? ⟨g, 1, none⟩ = some (.slice none 0 0) := (V.out.cell 1).trans rfl
                    go_upto_region 8 with (fail)
                    clear c1'
                    go_loopw [41] (fun i wx => i = .int .i64 0 ∧ wr = wx) (fun _ _ => 0)
                    case atStart => exact ⟨rfl, rfl⟩
                    case round =>
                      obtain ⟨rfl, rfl⟩ := hrel
                      have c38 : wr.cell? ⟨g, 38, none⟩ = some (.slice none 0 0) := (V.out.cell 38).trans rfl
                      have v38 := V.out.free 38
                      go_upto_region 18 with (first | (go_at_call 73; (with_reducible refine (Tryz.bytes_Clone_nil 0 0 _).mono ?_); rintro e w9 ⟨rfl, rfl⟩) | fail)
                      have hb := store_same (i := 38) (v := .slice none 0 0) V.out rfl
                      have V5 := Lib.hid (V.out.below hb)
                      have RV5 := Lib.hid (RV.out.below hb)
                      have OW5 := Lib.hid (OW'.out.below hb)
                      have HB5 := Lib.hid (HBW.out.trans (hb.mono HBW.out.size))
                      clear hb c38 v38 V RV OW' HBW
                      revert V5 RV5 OW5 HB5
                      generalize World.setCell _ _ _ = w5
                      intro V5 RV5 OW5 HB5
                      have RX := Lib.hid V5.out.range
                      have SX := Lib.hid (tx_size (x := oneTx (some ⟨q, 0, none⟩) c1 none 0 0 []) zero32_len)
                      have AX := Lib.hid (tx_sizeA (x := oneTx (some ⟨q, 0, none⟩) c1 none 0 0 []) zero32_len)
                      go_wp2_with (first | (refine wpList_load_mid rfl 31 _ rfl g 0 rfl (oneTx (some ⟨q, 0, none⟩) c1 none 0 0 []).cells _ RX.out Tryz.underlying31 rfl SX.out ?_) | (refine wpList_store_row rfl 31 _ _ rfl (g + 1) (oneTx (some ⟨q, 0, none⟩) c1 none 0 0 []).cells.toArray rfl rfl 31 noTx.cells.toArray RV5.out AX.out rfl (all_oneCell_toArray (PTx.one _)) ?_) | fail)
                      refine bodyPost_ret (results_cell_row rfl _ _ (g + 1) 31 (oneTx (some ⟨q, 0, none⟩) c1 none 0 0 []).cells.toArray (0, 0) _ rfl (setRow_heap w5 (g + 1) _ _ 31 _ RV5.out) Tryz.underlying31 rfl AX.out) rfl ?_
                      exact ⟨some ⟨q, 0, none⟩, c1, rfl, OW5.out.but (but_setRow w5 (g + 1) _) (not_typed RV5.out (by decide)), HB5.out.trans (((but_setRow w5 (g + 1) _).mono HB5.out.size).below (by omega))⟩
              exact AllReadyH.nil
            exact AllReadyH.nil
          exact AllReadyH.nil
        exact AllReadyH.nil
      exact AllReadyH.nil
    exact AllReadyH.nil
  exact AllReadyH.nil
theorem step_store_row {P : Program} {ops : Array Oper} {o : Oper} {a : Act} {w : World} {K : Act → World → Prop} {Q : Exit → Act → World → Prop} {E : Prop} (hw : Region.wanted o (yielded ops a.tmps) = true) (ty : TypeId) (x y : Operand) (ho : o.op = .store ty x y)
    (g : Nat) (cells : Array Value) (hx : a.eval x = .pointer (some ⟨g, 0, none⟩)) (hy : a.eval y = .agg cells) (t : TypeId) (old : Array Value) (hg : w.heap[g]? = some (.cells old t (0, 0))) (hi : (P.info? ty).map (·.size) = some cells.size) (hold : old.size = cells.size) (h1 : cells.all (·.oneCell') = true)
    (h : K (a.put o.dst undef) (w.setRow g cells)) : if Region.wanted o (yielded ops a.tmps) = true then Oper.wp P o a w K Q else E := by
  rw [if_pos hw]
  exact wp_store_row ty x y ho g cells hx hy t old hg hi hold h1 h
theorem step_alloc_of {P : Program} {ops : Array Oper} {o : Oper} {tmps : Array Value} {ds : List Deferred} {w : World} {K : Act → World → Prop} {Q : Exit → Act → World → Prop} {E : Prop} {d : Nat} (hd : o.dst = some d) (hw : Region.wanted o (yielded ops tmps) = true) (ty : TypeId) (ho : o.op = .alloc ty) (cs : Array Value)
    {sz by' : Nat} (hi : (P.info? ty).map (fun i => (i.zero, i.size, i.bytes)) = some (some (.agg cs), sz, by'))
    (h : ∀ p y, w.heap.size ≤ p → y.heap[p]? = some (.cells cs ty (0, 0)) → Below w.heap.size w y → K { tmps := tmps.setIfInBounds d (.pointer (some ⟨p, 0, none⟩)), defers := ds } y) :
    if Region.wanted o (yielded ops tmps) = true then Oper.wp P o { tmps := tmps, defers := ds } w K Q else E := by
  rw [if_pos hw]
  obtain ⟨ie, h1, h2, h3, _⟩ := info_parts hi
  have hrun : (Instr.alloc ty true (.tuple #[])).run P w = .ok (.pointer (some ⟨w.heap.size, 0, none⟩)) (w.alloc (.cells cs ty)) := by
    simp [Instr.alloc, zeroValue, typeInfo, h1, h2, newVar, newRow, Value.cells]
  unfold Oper.wp execOp
  simp only [ho, Sem.run_bind, hrun, Sem.run_pure, Result.andThen_ok]
  show K (Act.put _ o.dst _) _
  rw [hd]
  exact h _ _ (Nat.le_refl _) (heap_alloc_new _ _) ((Below.refl _ _).alloc (Nat.le_refl _) _)
theorem Tryz.zeroSum32 : (Tryz.prog.info? 25).map (fun i => (i.zero, i.size, i.bytes)) = some (some (.agg (cellsOf zero32).toArray), 32, 32) := by kernel_rfl
theorem Tryz.zeroTx160 : (Tryz.prog.info? 31).map (fun i => (i.zero, i.size, i.bytes)) = some (some (.agg noTx.cells.toArray), 40, 160) := by kernel_rfl
theorem Tryz.zeroSign40 : (Tryz.prog.info? 49).map (fun i => (i.zero, i.size, i.bytes)) = some (some (.agg noSign.cells.toArray), 33, 40) := by kernel_rfl
theorem Tryz.signFields : ∃ fs, Tryz.prog.underlying 49 = some (.struct fs) ∧ ∀ w : World, ((fs.mapM fun (f : Field) => do pure (f.offset, ← sizeOf f.type)) : Sem (Array (Nat × Nat))).run Tryz.prog w = .ok #[(0, 1), (1, 32)] w := by
  exact ⟨_, Tryz.underlying49, fun w => by kernel_rfl⟩
theorem fill_sign (s : List UInt8) (hs : s.length = 32) (z : Int) : Instr.fill ((#[(0, 1), (1, 32)] : Array (Nat × Nat))[·]?) noSign.cells.toArray [(0, .int .i64 z), (1, .agg (cellsOf s).toArray)] = some (PSign.cells ⟨z, s⟩).toArray := by
  have hl : (cellsOf s).length = 32 := by rw [cellsOf_len, hs]
  have hz : noSign.cells.length = 33 := rfl
  obtain ⟨I, hI⟩ : ∃ I, I = noSign.cells.toArray.setIfInBounds 0 (.int .i64 z) := ⟨_, rfl⟩
  have hIs : I.size = 33 := by rw [hI, Array.size_setIfInBounds]; rfl
  obtain ⟨g1, g2⟩ := Great.foldl_set 1 (cellsOf s) 0 I
  have e1 : (cellsOf s).toArray.zipIdx.foldl (fun cs (x : Value × Nat) => cs.setIfInBounds (1 + x.2) x.1) I = (((cellsOf s).zipIdx 0).foldl (fun cs (x : Value × Nat) => cs.setIfInBounds (1 + x.2) x.1) I) := by
    rw [← Array.foldl_toList, Array.toList_zipIdx]
  obtain ⟨M, hM⟩ : ∃ M, M = (((cellsOf s).zipIdx 0).foldl (fun cs (x : Value × Nat) => cs.setIfInBounds (1 + x.2) x.1) I) := ⟨_, rfl⟩
  rw [← hM] at g1 g2 e1
  unfold Instr.fill
  simp only [show (#[(0, 1), (1, 32)] : Array (Nat × Nat))[0]? = some (0, 1) from rfl]
  rw [if_neg (by simp [Value.cells, hz])]
  unfold Instr.fill
  simp only [show (#[(0, 1), (1, 32)] : Array (Nat × Nat))[1]? = some (1, 32) from rfl]
  rw [show ((Value.int IntKind.i64 z).cells.zipIdx.foldl (fun cs (x : Value × Nat) => cs.setIfInBounds (0 + x.2) x.1) noSign.cells.toArray) = I by rw [hI]; rfl]
  rw [if_neg (by simp [Value.cells, hl, hIs])]
  rw [show (Value.agg (cellsOf s).toArray).cells = (cellsOf s).toArray from rfl, e1]
  unfold Instr.fill
  congr 1
  apply Array.ext_getElem?
  intro k
  have eR : (PSign.cells ⟨z, s⟩).toArray[k]? = (PSign.cells ⟨z, s⟩)[k]? := by simp
  rw [g2 k, eR]
  unfold PSign.cells
  cases k with
  | zero =>
    rw [if_neg (by omega), hI, Array.getElem?_setIfInBounds]
    rfl
  | succ k =>
    rw [List.getElem?_cons_succ]
    by_cases h1 : k < 32
    · rw [if_pos (by omega)]
      congr 1
    · rw [if_neg (by omega), Array.getElem?_eq_none (by omega), List.getElem?_eq_none (by show (cellsOf s).length ≤ k; omega)]
theorem run_build_sign (s : List UInt8) (hs : s.length = 32) (z : Int) (w : World) : (Instr.build 49 #[(0, .int .i64 z), (1, .agg (cellsOf s).toArray)]).run Tryz.prog w = .ok (.agg (PSign.cells ⟨z, s⟩).toArray) w := by
  obtain ⟨ie, h1, h2, h3, _⟩ := info_parts Tryz.zeroSign40
  obtain ⟨fs, hu, hm⟩ := Tryz.signFields
  have hf := fill_sign s hs z
  have hz : (zeroValue 49).run Tryz.prog w = .ok (.agg noSign.cells.toArray) w := by simp [zeroValue, typeInfo, h1, h2]
  unfold Instr.build
  simp only [Sem.run_bind, hz, Result.andThen_ok, run_underlying hu, hm w]
  rw [show (Value.agg noSign.cells.toArray).cells = noSign.cells.toArray from rfl]
  simp only [hf]
  rfl
theorem run_lit_of {α : Type} {P : Program} {K : Sort8 α} {ts t : TypeId} (S : SortAt P K ts t) {x : α} (hx : (K.cells x).length = K.size) (w : World) : (Instr.buildSlice ts 1 #[(0, .agg (K.cells x).toArray)]).run P w = .ok (.slice (some ⟨w.heap.size, 0, none⟩) 1 1) (w.alloc (.cells (K.cells x).toArray t)) := by
  obtain ⟨ie, h1, h2, h3, _⟩ := info_parts S.info
  have hk := S.ksmall
  have hp := K.pos
  have hf := fill_one K.pos hx ((Array.range (1 * K.size)).map (S.zero.cells[· % S.zero.cells.size]!)) (by simp)
  exact run_buildSlice w ts t 1 _ _ ie _ S.under h1 h2 (by rw [h3]; omega) (by rw [h3]; omega) (by rw [h3]; exact hf)
theorem wpList_build_sign {ops : Array Oper} {rest : List Oper} {o : Oper} {A : Act} {w : World} {Q : Exit → Act → World → Prop} (hgd : o.guard = none) (u v : Operand) (ho : o.op = .build 49 #[(0, u), (1, v)]) (z : Int) (s : List UInt8) (hu : A.eval u = .int .i64 z) (hv : A.eval v = .agg (cellsOf s).toArray) (hs : s.length = 32) {Y : PSign} (hY : Y = ⟨z, s⟩)
    (h : wpList Tryz.prog ops Q rest (A.put o.dst (.agg Y.cells.toArray)) w) : wpList Tryz.prog ops Q (o :: rest) A w := by
  refine wpList_plain hgd fun K hK => ?_
  subst hY
  unfold Oper.wp execOp
  simp only [ho, Sem.run_bind, Sem.run_pure, Result.andThen_ok, List.map_toArray, List.map_cons, List.map_nil, hu, hv, run_build_sign s hs z w]
  exact hK _ _ h
theorem wpList_lit_of {α : Type} {P : Program} {K : Sort8 α} {ts t : TypeId} (S : SortAt P K ts t) {ops : Array Oper} {rest : List Oper} {o : Oper} {A : Act} {w : World} {Q : Exit → Act → World → Prop} (hgd : o.guard = none) (u : Operand) (ho : o.op = .buildSlice ts 1 #[(0, u)]) (x : α) (hu : A.eval u = .agg (K.cells x).toArray) (hx : (K.cells x).length = K.size)
    (h : ∀ (p : Nat) (w' : World), w.heap.size ≤ p → w'.heap[p]? = some (.cells (K.cells x).toArray t (0, 0)) → Below w.heap.size w w' → wpList P ops Q rest (A.put o.dst (.slice (some ⟨p, 0, none⟩) 1 1)) w') : wpList P ops Q (o :: rest) A w := by
  refine wpList_plain hgd fun K' hK => ?_
  unfold Oper.wp execOp
  simp only [ho, Sem.run_bind, Sem.run_pure, Result.andThen_ok, List.map_toArray, List.map_cons, List.map_nil, hu, run_lit_of S hx w]
  exact hK _ _ (h _ _ (Nat.le_refl _) (heap_alloc_new _ _) ((Below.refl _ _).alloc (Nat.le_refl _) _))
/-- How all stands while one is signed. -/
structure SgSt (w0 : World) (g4 p5 p6 : Nat) (a1 : Option Addr) (c1 : Nat) (S : List UInt8) (w : World) : Prop where
  res : VarC w g4 31 noTx.cells
  sum : VarC w p5 25 (cellsOf S)
  var : VarC w p6 31 (oneTx a1 c1 none 0 0 []).cells
  own : OwnOf inK 58 w w0.heap.size (.slice a1 1 c1) [noIn]
  but : Below w0.heap.size w0 w
theorem SgSt.below {w0 w w' : World} {g4 p5 p6 c1 : Nat} {a1 : Option Addr} {S : List UInt8} (h : SgSt w0 g4 p5 p6 a1 c1 S w) (hb : Below w.heap.size w w') : SgSt w0 g4 p5 p6 a1 c1 S w' :=
  ⟨h.res.below hb, h.sum.below hb, h.var.below hb, h.own.below hb, h.but.trans (hb.mono h.but.size)⟩
theorem varC_other {w w' : World} {g p : Nat} {t u : TypeId} {cs : List Value} {ds : Array Value} {fr : Nat × Nat} (h : VarC w g t cs) (hb : But w.heap.size p w w') (hp : w.heap[p]? = some (.cells ds u fr)) (hne : u ≠ t) : VarC w' g t cs := h.but hb h.lt (fun e => by
  unfold VarC at h
  rw [e, hp] at h
  simp at h
  exact hne h.2.1)
theorem SgSt.typed {w0 w w' : World} {g4 p5 p6 c1 p : Nat} {a1 : Option Addr} {S : List UInt8} {ds : Array Value} {u : TypeId} {fr : Nat × Nat} (h : SgSt w0 g4 p5 p6 a1 c1 S w) (hb : But w.heap.size p w w') (hp : w.heap[p]? = some (.cells ds u fr)) (h1 : u ≠ 31) (h2 : u ≠ 25) (h3 : u ≠ 58) (hB : w0.heap.size ≤ p) : SgSt w0 g4 p5 p6 a1 c1 S w' :=
  ⟨varC_other h.res hb hp h1, varC_other h.sum hb hp h2, varC_other h.var hb hp h1, h.own.but hb (not_typed hp h3), h.but.trans ((hb.mono h.but.size).below hB)⟩
theorem ownZ_where {w : World} {B : Nat} {v : Value} {z : Int} (h : OwnZ w 3 B v [z]) : ∃ b c, v = .slice (some ⟨b, 0, none⟩) 1 c ∧ B ≤ b ∧ (∃ cur, w.heap[b]? = some (.cells cur 3 (0, 0))) ∧ w.cell? ⟨b, 0, none⟩ = some (.int .i64 z) ∧ 1 ≤ c ∧ c ≤ maxLen := by
  rcases h.1.2 with ⟨hv, h0⟩ | ⟨g, cap, cur, hv, hB, hh, h1, h2, h3, h4⟩
  · cases h0
  · refine ⟨g, cap, hv, hB, ⟨cur, hh⟩, ?_, h1, h2⟩
    have e : (cellsZ [z])[0]? = some (.int .i64 z) := rfl
    rw [← h4, List.getElem?_take, if_pos (show 0 < [z].length * 1 by simp)] at e
    rw [cell_of_row _ _ _ _ _ _ hh]
    simpa using e
set_option linter.unusedSimpArgs false in
set_option maxRecDepth 100000 in
set_option maxHeartbeats 12800000 in
theorem signed_one {w : World} {p q cq : Nat} {z : Int} {fr : Nat × Nat} {S : List UInt8} (hS : txSum (oneTx (some ⟨p, 0, none⟩) 1 none 0 0 []) = S) (hp : w.heap[p]? = some (.cells noIn.cells.toArray 58 fr)) (hk : KsAt w) (hq : Numbers w (some ⟨q, 0, none⟩) 1 cq [z]) (hz : Fits z) :
    Calls Tryz.prog 20 #[.agg (oneTx (some ⟨p, 0, none⟩) 1 none 0 0 []).cells.toArray, .slice (some ⟨q, 0, none⟩) 1 cq] w fun e w' => ∃ y : PTx, e = .returned (.agg y.cells.toArray) ∧ TxIn w' y ∧ y.strip = (oneTx none 0 none 0 0 [⟨z, S⟩]).strip ∧ Below w.heap.size w w' := by
  have hSl : S.length = 32 := by rw [← hS]; exact txSum_len _
  have hin : ∀ W : World, Below w.heap.size w W → TxIn W (oneTx (some ⟨p, 0, none⟩) 1 none 0 0 []) := fun W hW => ⟨slice_one (K := inK) (x := noIn) ((hW.block p (lt_of_block hp)).trans hp) ⟨zero32_len, ⟨by decide, by decide⟩, ⟨by decide, by decide⟩, Row.nil _⟩, SliceOf.nil _ _, (noTx_in W).op, SliceOf.nil _ _⟩
  have hff : FrontFew false (oneTx (some ⟨p, 0, none⟩) 1 none 0 0 []) := frontFew (w := w) false (hin w (Below.refl _ _)) (show (1 : Nat) ≤ 20 by omega) (show (0 : Nat) ≤ 20 by omega) (fun y hy => by simp [oneTx] at hy; subst hy; show (0 : Nat) ≤ 100; omega) (fun y hy => by simp [oneTx] at hy) (show (0 : Nat) ≤ 65536 by omega)
  have hsum : ∀ W : World, Below w.heap.size w W → Calls Tryz.prog 11 #[.agg (oneTx (some ⟨p, 0, none⟩) 1 none 0 0 []).cells.toArray] W fun e w' => e = .returned (.agg (cellsOf S).toArray) ∧ Below W.heap.size W w' := fun W hW => by rw [← hS]; exact txSum_any (hin W hW) (hk.below hW) hff
  have hcp : ∀ W : World, Below w.heap.size w W → Calls Tryz.prog 44 #[.agg (oneTx (some ⟨p, 0, none⟩) 1 none 0 0 []).cells.toArray] W fun e w' => ∃ (a : Option Addr) (c : Nat), e = .returned (.agg (oneTx a c none 0 0 []).cells.toArray) ∧ OwnOf inK 58 w' W.heap.size (.slice a 1 c) [noIn] ∧ Below W.heap.size W w' := fun W hW => copied_one ((hW.block p (lt_of_block hp)).trans hp)
  have SS := Lib.hid (size_of hSl)
  have SSL := Lib.hid (sumLen hSl)
  have SZ : Hid ((cellsOf zero32).toArray.size = (cellsOf S).toArray.size) := Lib.hid (by rw [List.size_toArray, List.size_toArray, cellsOf_len, cellsOf_len, hSl]; exact zero32_len)
  have SXO := Lib.hid (tx_size (x := oneTx (some ⟨p, 0, none⟩) 1 none 0 0 []) zero32_len)
  have AXO := Lib.hid (show (Tryz.prog.info? 31).map (·.size) = some 40 from Tryz.sizeTx)
  have HSL := Lib.hid hSl
  have HNQ := Lib.hid hq
  have HZ := Lib.hid hz
  clear hS hff hin hk hq hz
  go_enter Tryz.func20, Tryz.ntmps20
  go_upto_region 1 with (fail)
  rw [← noTx_is]
  have b2 : Below w.heap.size w ((w.alloc (.cells (oneTx (some ⟨p, 0, none⟩) 1 none 0 0 []).cells.toArray 31)).alloc (.cells noTx.cells.toArray 31)) := ((Below.refl _ _).alloc (Nat.le_refl _) _).alloc (by simp) _
  have h1 : VarC ((w.alloc (.cells (oneTx (some ⟨p, 0, none⟩) 1 none 0 0 []).cells.toArray 31)).alloc (.cells noTx.cells.toArray 31)) w.heap.size 31 (oneTx (some ⟨p, 0, none⟩) 1 none 0 0 []).cells := by
    unfold VarC
    rw [heap_alloc_old _ _ (by simp)]
    exact heap_alloc_new _ _
  have h2 : VarC ((w.alloc (.cells (oneTx (some ⟨p, 0, none⟩) 1 none 0 0 []).cells.toArray 31)).alloc (.cells noTx.cells.toArray 31)) (w.heap.size + 1) 31 noTx.cells := heap_alloc_at _ _ _ (by simp)
  revert b2 h1 h2
  generalize ((w.alloc (.cells (oneTx (some ⟨p, 0, none⟩) 1 none 0 0 []).cells.toArray 31)).alloc (.cells noTx.cells.toArray 31)) = w2
  obtain ⟨g, hg⟩ : ∃ g, g = w.heap.size := ⟨_, rfl⟩
  rw [← hg]
  intro b2 h1 h2
  rw [hg] at b2
  have hgB : w.heap.size ≤ g := by omega
  have hg1 : g + 1 < w2.heap.size := h2.lt
  have HB2 := Lib.hid b2
  have V2 := Lib.hid h1
  have HSUM := Lib.hid (fun (W : World) (hW : Below w2.heap.size w2 W) => hsum W (b2.trans (hW.mono b2.size)))
  have HCP := Lib.hid (fun (W : World) (hW : Below w2.heap.size w2 W) => (hcp W (b2.trans (hW.mono b2.size))).mono fun (e : Ending) w' ⟨a, c, h1, h2, h3⟩ => (⟨a, c, h1, h2.base (Nat.le_trans b2.size hW.size), h3⟩ : ∃ (a : Option Addr) (c : Nat), e = Ending.returned (.agg (oneTx a c none 0 0 []).cells.toArray) ∧ OwnOf inK 58 w' w.heap.size (.slice a 1 c) [noIn] ∧ Below W.heap.size W w'))
  have HMK : Hid (∀ (W : World) (p5 p6 : Nat) (a1 : Option Addr) (c1 : Nat), Below w2.heap.size w2 W → VarC W p5 25 (cellsOf S) → VarC W p6 31 (oneTx a1 c1 none 0 0 []).cells → OwnOf inK 58 W w.heap.size (.slice a1 1 c1) [noIn] → SgSt w (g + 1) p5 p6 a1 c1 S W) := Lib.hid (fun W p5 p6 a1 c1 hW h5 h6 ho => ⟨h2.below hW, h5, h6, ho, b2.trans (hW.mono b2.size)⟩)
  clear b2 h1 h2 hg hp hsum hcp hSl
  go_cut [5, 6] from 11 to 14 (fun u v w' => ∃ (p5 p6 : Nat) (a1 : Option Addr) (c1 : Nat), u = .pointer (some ⟨p5, 0, none⟩) ∧ v = .pointer (some ⟨p6, 0, none⟩) ∧ SgSt w (g + 1) p5 p6 a1 c1 S w' ∧ w.heap.size ≤ p6 ∧ g + 1 ≠ p6)
  case first =>
    try simp only [Act.put]
    refine wp_region_held_drew (S := fun w' => Below w2.heap.size w2 w') (by kernel_rfl) (below_drew (Below.refl _ _)) (fun hHeld => ?_)
    refine take_at (i := 0) rfl rfl (by kernel_rfl) (by kernel_rfl) (by kernel_rfl) (fun _ _ _ h => h) (yieldsIf_load_mid (by rfl) _ _ rfl g 0 rfl (oneTx (some ⟨p, 0, none⟩) 1 none 0 0 []).cells _ (fun w0 hSw => (V2.out.below hSw).range) Tryz.underlying31 rfl SXO.out) (by assumption) ?_
    simp only [List.setIfInBounds_toArray, List.set_cons_zero, List.set_cons_succ]
    refine take_at (i := 2) rfl rfl (by kernel_rfl) (by kernel_rfl) (by kernel_rfl) (fun _ _ _ h => h) (yieldsIf_load_mid (by rfl) _ _ rfl g 0 rfl (oneTx (some ⟨p, 0, none⟩) 1 none 0 0 []).cells _ (fun w0 hSw => (V2.out.below hSw).range) Tryz.underlying31 rfl SXO.out) (by assumption) ?_
    simp only [List.setIfInBounds_toArray, List.set_cons_zero, List.set_cons_succ]
    refine wpAnyH_ready (rs := [1, 4, 5]) (by kernel_rfl) (by simp) ?_
    refine AllReadyH.cons rfl (fun K hK => ?_) ?_
    · go_simp
      go_wp2_with ((go_at_call 11; (with_reducible refine (HSUM.out _ hHeld).mono ?_); rintro e y1_000 ⟨rfl, hb⟩; have HBB := Lib.hid hb; clear hb))
      refine hK.out _ _ (by (try dsimp only); exact hHeld.trans (HBB.out.mono hHeld.size)) (fun hHeld => ?_)
      clear hK K
      refine wpAnyH_ready (rs := [3, 4, 5]) (by kernel_rfl) (by simp) ?_
      refine AllReadyH.cons rfl (fun K hK => ?_) ?_
      · go_simp
        go_wp2_with ((go_at_call 44; (with_reducible refine (HCP.out _ hHeld).mono ?_); rintro e y3_100 ⟨a1, c1, rfl, ho, hb⟩; have OW := Lib.hid ho; have HBB := Lib.hid hb; clear hb ho))
        refine hK.out _ _ (by (try dsimp only); exact hHeld.trans (HBB.out.mono hHeld.size)) (fun hHeld => ?_)
        clear hK K
        refine wpAnyH_ready (rs := [4, 5]) (by kernel_rfl) (by simp) ?_
        refine AllReadyH.cons rfl (fun K hK => ?_) ?_
        · refine step_alloc_of (d := 5) rfl (by rfl) 25 rfl (cellsOf zero32).toArray Tryz.zeroSum32 ?_
          intro p5 y4_200 hp5 hh5 hb
          have OW := Lib.hid (OW.out.below hb)
          have HV5 : Hid (VarC y4_200 p5 25 (cellsOf zero32)) := Lib.hid hh5
          have HP5 : Hid (w2.heap.size ≤ p5) := Lib.hid (Nat.le_trans hHeld.size hp5)
          have HBB := Lib.hid hb
          clear hb hh5 hp5
          refine hK.out _ _ (by (try dsimp only); exact hHeld.trans (HBB.out.mono hHeld.size)) (fun hHeld => ?_)
          clear hK K
          refine wpAnyH_ready (rs := [5]) (by kernel_rfl) (by simp) ?_
          refine AllReadyH.cons rfl (fun K hK => ?_) ?_
          · refine step_alloc_of (d := 6) rfl (by rfl) 31 rfl noTx.cells.toArray Tryz.zeroTx160 ?_
            intro p6 y5_210 hp6 hh6 hb
            have HV5 := Lib.hid (HV5.out.below hb)
            have OW := Lib.hid (OW.out.below hb)
            have HV6 : Hid (VarC y5_210 p6 31 noTx.cells) := Lib.hid hh6
            have HP6 : Hid (w2.heap.size ≤ p6) := Lib.hid (Nat.le_trans hHeld.size hp6)
            have HBB := Lib.hid hb
            clear hb hh6 hp6
            refine hK.out _ _ (by (try dsimp only); exact hHeld.trans (HBB.out.mono hHeld.size)) (fun hHeld => ?_)
            clear hK K
            refine wpAnyH_ready (rs := [6]) (by kernel_rfl) (by simp) ?_
            refine AllReadyH.cons rfl (fun K hK => ?_) ?_
            · refine step_store_row (by rfl) 25 _ _ rfl p5 (cellsOf S).toArray (by rfl) (by rfl) 25 (cellsOf zero32).toArray HV5.out SS.out SZ.out (all_oneCell_toArray (cellsOf_one S)) ?_
              have hs := but_setRow y5_210 p5 (cellsOf S).toArray
              have HV5b := Lib.hid (show VarC (y5_210.setRow p5 (cellsOf S).toArray) p5 25 (cellsOf S) from setRow_heap y5_210 p5 _ _ 25 _ HV5.out)
              have HV6b := Lib.hid (varC_other HV6.out hs HV5.out (by decide))
              have OWb := Lib.hid (OW.out.but hs (not_typed HV5.out (by decide)))
              have HSS := Lib.hid ((hs.mono hHeld.size).below HP5.out)
              clear hs
              revert HV5b HV6b OWb HSS
              generalize World.setRow y5_210 _ _ = z6
              intro HV5b HV6b OWb HSS
              refine hK.out _ _ (by (try dsimp only); exact hHeld.trans HSS.out) (fun hHeld => ?_)
              clear hK K
              refine wpAnyH_ready (rs := [7]) (by kernel_rfl) (by simp) ?_
              refine AllReadyH.cons rfl (fun K hK => ?_) ?_
              · refine step_store_row (by rfl) 31 _ _ rfl p6 (oneTx a1 c1 none 0 0 []).cells.toArray (by rfl) (by rfl) 31 noTx.cells.toArray HV6b.out AXO.out rfl (all_oneCell_toArray (PTx.one _)) ?_
                have hs := but_setRow z6 p6 (oneTx a1 c1 none 0 0 []).cells.toArray
                have HV6c := Lib.hid (show VarC (z6.setRow p6 (oneTx a1 c1 none 0 0 []).cells.toArray) p6 31 (oneTx a1 c1 none 0 0 []).cells from setRow_heap z6 p6 _ _ 31 _ HV6b.out)
                have HV5c := Lib.hid (varC_other HV5b.out hs HV6b.out (by decide))
                have OWc := Lib.hid (OWb.out.but hs (not_typed HV6b.out (by decide)))
                have HST := Lib.hid ((hs.mono hHeld.size).below HP6.out)
                clear hs
                revert HV6c HV5c OWc HST
                generalize World.setRow z6 _ _ = z7
                intro HV6c HV5c OWc HST
                refine hK.out _ _ (by (try dsimp only); exact hHeld.trans HST.out) (fun hHeld => ?_)
                clear hK K
                refine wpAnyH_done (by kernel_rfl) ?_ _
                have HFB := Lib.hid (show Below w2.heap.size w2 z7 from hHeld)
                clear hHeld HST HSS HV5 HV6 OW HV5b HV6b OWb HBB
                have SG := Lib.hid (HMK.out _ _ _ _ _ HFB.out HV5c.out HV6c.out OWc.out)
                clear HFB HV5c HV6c OWc HP5
                go_wp2_with fail
                go_meet
                exact ⟨p5, p6, a1, c1, rfl, rfl, SG.out, Nat.le_trans HB2.out.size HP6.out, (by have := HP6.out; omega)⟩
              exact AllReadyH.nil
            exact AllReadyH.nil
          exact AllReadyH.nil
        refine AllReadyH.cons rfl (fun K hK => ?_) ?_
        · refine step_alloc_of (d := 6) rfl (by rfl) 31 rfl noTx.cells.toArray Tryz.zeroTx160 ?_
          intro p6 y5_200 hp6 hh6 hb
          have OW := Lib.hid (OW.out.below hb)
          have HV6 : Hid (VarC y5_200 p6 31 noTx.cells) := Lib.hid hh6
          have HP6 : Hid (w2.heap.size ≤ p6) := Lib.hid (Nat.le_trans hHeld.size hp6)
          have HBB := Lib.hid hb
          clear hb hh6 hp6
          refine hK.out _ _ (by (try dsimp only); exact hHeld.trans (HBB.out.mono hHeld.size)) (fun hHeld => ?_)
          clear hK K
          refine wpAnyH_ready (rs := [4]) (by kernel_rfl) (by simp) ?_
          refine AllReadyH.cons rfl (fun K hK => ?_) ?_
          · refine step_alloc_of (d := 5) rfl (by rfl) 25 rfl (cellsOf zero32).toArray Tryz.zeroSum32 ?_
            intro p5 y4_201 hp5 hh5 hb
            have HV6 := Lib.hid (HV6.out.below hb)
            have OW := Lib.hid (OW.out.below hb)
            have HV5 : Hid (VarC y4_201 p5 25 (cellsOf zero32)) := Lib.hid hh5
            have HP5 : Hid (w2.heap.size ≤ p5) := Lib.hid (Nat.le_trans hHeld.size hp5)
            have HBB := Lib.hid hb
            clear hb hh5 hp5
            refine hK.out _ _ (by (try dsimp only); exact hHeld.trans (HBB.out.mono hHeld.size)) (fun hHeld => ?_)
            clear hK K
            refine wpAnyH_ready (rs := [6]) (by kernel_rfl) (by simp) ?_
            refine AllReadyH.cons rfl (fun K hK => ?_) ?_
            · refine step_store_row (by rfl) 25 _ _ rfl p5 (cellsOf S).toArray (by rfl) (by rfl) 25 (cellsOf zero32).toArray HV5.out SS.out SZ.out (all_oneCell_toArray (cellsOf_one S)) ?_
              have hs := but_setRow y4_201 p5 (cellsOf S).toArray
              have HV5b := Lib.hid (show VarC (y4_201.setRow p5 (cellsOf S).toArray) p5 25 (cellsOf S) from setRow_heap y4_201 p5 _ _ 25 _ HV5.out)
              have HV6b := Lib.hid (varC_other HV6.out hs HV5.out (by decide))
              have OWb := Lib.hid (OW.out.but hs (not_typed HV5.out (by decide)))
              have HSS := Lib.hid ((hs.mono hHeld.size).below HP5.out)
              clear hs
              revert HV5b HV6b OWb HSS
              generalize World.setRow y4_201 _ _ = z6
              intro HV5b HV6b OWb HSS
              refine hK.out _ _ (by (try dsimp only); exact hHeld.trans HSS.out) (fun hHeld => ?_)
              clear hK K
              refine wpAnyH_ready (rs := [7]) (by kernel_rfl) (by simp) ?_
              refine AllReadyH.cons rfl (fun K hK => ?_) ?_
              · refine step_store_row (by rfl) 31 _ _ rfl p6 (oneTx a1 c1 none 0 0 []).cells.toArray (by rfl) (by rfl) 31 noTx.cells.toArray HV6b.out AXO.out rfl (all_oneCell_toArray (PTx.one _)) ?_
                have hs := but_setRow z6 p6 (oneTx a1 c1 none 0 0 []).cells.toArray
                have HV6c := Lib.hid (show VarC (z6.setRow p6 (oneTx a1 c1 none 0 0 []).cells.toArray) p6 31 (oneTx a1 c1 none 0 0 []).cells from setRow_heap z6 p6 _ _ 31 _ HV6b.out)
                have HV5c := Lib.hid (varC_other HV5b.out hs HV6b.out (by decide))
                have OWc := Lib.hid (OWb.out.but hs (not_typed HV6b.out (by decide)))
                have HST := Lib.hid ((hs.mono hHeld.size).below HP6.out)
                clear hs
                revert HV6c HV5c OWc HST
                generalize World.setRow z6 _ _ = z7
                intro HV6c HV5c OWc HST
                refine hK.out _ _ (by (try dsimp only); exact hHeld.trans HST.out) (fun hHeld => ?_)
                clear hK K
                refine wpAnyH_done (by kernel_rfl) ?_ _
                have HFB := Lib.hid (show Below w2.heap.size w2 z7 from hHeld)
                clear hHeld HST HSS HV5 HV6 OW HV5b HV6b OWb HBB
                have SG := Lib.hid (HMK.out _ _ _ _ _ HFB.out HV5c.out HV6c.out OWc.out)
                clear HFB HV5c HV6c OWc HP5
                go_wp2_with fail
                go_meet
                exact ⟨p5, p6, a1, c1, rfl, rfl, SG.out, Nat.le_trans HB2.out.size HP6.out, (by have := HP6.out; omega)⟩
              exact AllReadyH.nil
            exact AllReadyH.nil
          exact AllReadyH.nil
        exact AllReadyH.nil
      refine AllReadyH.cons rfl (fun K hK => ?_) ?_
      · refine step_alloc_of (d := 5) rfl (by rfl) 25 rfl (cellsOf zero32).toArray Tryz.zeroSum32 ?_
        intro p5 y4_100 hp5 hh5 hb
        have HV5 : Hid (VarC y4_100 p5 25 (cellsOf zero32)) := Lib.hid hh5
        have HP5 : Hid (w2.heap.size ≤ p5) := Lib.hid (Nat.le_trans hHeld.size hp5)
        have HBB := Lib.hid hb
        clear hb hh5 hp5
        refine hK.out _ _ (by (try dsimp only); exact hHeld.trans (HBB.out.mono hHeld.size)) (fun hHeld => ?_)
        clear hK K
        refine wpAnyH_ready (rs := [3, 5]) (by kernel_rfl) (by simp) ?_
        refine AllReadyH.cons rfl (fun K hK => ?_) ?_
        · go_simp
          go_wp2_with ((go_at_call 44; (with_reducible refine (HCP.out _ hHeld).mono ?_); rintro e y3_110 ⟨a1, c1, rfl, ho, hb⟩; have HV5 := Lib.hid (HV5.out.below hb); have OW := Lib.hid ho; have HBB := Lib.hid hb; clear hb ho))
          refine hK.out _ _ (by (try dsimp only); exact hHeld.trans (HBB.out.mono hHeld.size)) (fun hHeld => ?_)
          clear hK K
          refine wpAnyH_ready (rs := [5]) (by kernel_rfl) (by simp) ?_
          refine AllReadyH.cons rfl (fun K hK => ?_) ?_
          · refine step_alloc_of (d := 6) rfl (by rfl) 31 rfl noTx.cells.toArray Tryz.zeroTx160 ?_
            intro p6 y5_210 hp6 hh6 hb
            have HV5 := Lib.hid (HV5.out.below hb)
            have OW := Lib.hid (OW.out.below hb)
            have HV6 : Hid (VarC y5_210 p6 31 noTx.cells) := Lib.hid hh6
            have HP6 : Hid (w2.heap.size ≤ p6) := Lib.hid (Nat.le_trans hHeld.size hp6)
            have HBB := Lib.hid hb
            clear hb hh6 hp6
            refine hK.out _ _ (by (try dsimp only); exact hHeld.trans (HBB.out.mono hHeld.size)) (fun hHeld => ?_)
            clear hK K
            refine wpAnyH_ready (rs := [6]) (by kernel_rfl) (by simp) ?_
            refine AllReadyH.cons rfl (fun K hK => ?_) ?_
            · refine step_store_row (by rfl) 25 _ _ rfl p5 (cellsOf S).toArray (by rfl) (by rfl) 25 (cellsOf zero32).toArray HV5.out SS.out SZ.out (all_oneCell_toArray (cellsOf_one S)) ?_
              have hs := but_setRow y5_210 p5 (cellsOf S).toArray
              have HV5b := Lib.hid (show VarC (y5_210.setRow p5 (cellsOf S).toArray) p5 25 (cellsOf S) from setRow_heap y5_210 p5 _ _ 25 _ HV5.out)
              have HV6b := Lib.hid (varC_other HV6.out hs HV5.out (by decide))
              have OWb := Lib.hid (OW.out.but hs (not_typed HV5.out (by decide)))
              have HSS := Lib.hid ((hs.mono hHeld.size).below HP5.out)
              clear hs
              revert HV5b HV6b OWb HSS
              generalize World.setRow y5_210 _ _ = z6
              intro HV5b HV6b OWb HSS
              refine hK.out _ _ (by (try dsimp only); exact hHeld.trans HSS.out) (fun hHeld => ?_)
              clear hK K
              refine wpAnyH_ready (rs := [7]) (by kernel_rfl) (by simp) ?_
              refine AllReadyH.cons rfl (fun K hK => ?_) ?_
              · refine step_store_row (by rfl) 31 _ _ rfl p6 (oneTx a1 c1 none 0 0 []).cells.toArray (by rfl) (by rfl) 31 noTx.cells.toArray HV6b.out AXO.out rfl (all_oneCell_toArray (PTx.one _)) ?_
                have hs := but_setRow z6 p6 (oneTx a1 c1 none 0 0 []).cells.toArray
                have HV6c := Lib.hid (show VarC (z6.setRow p6 (oneTx a1 c1 none 0 0 []).cells.toArray) p6 31 (oneTx a1 c1 none 0 0 []).cells from setRow_heap z6 p6 _ _ 31 _ HV6b.out)
                have HV5c := Lib.hid (varC_other HV5b.out hs HV6b.out (by decide))
                have OWc := Lib.hid (OWb.out.but hs (not_typed HV6b.out (by decide)))
                have HST := Lib.hid ((hs.mono hHeld.size).below HP6.out)
                clear hs
                revert HV6c HV5c OWc HST
                generalize World.setRow z6 _ _ = z7
                intro HV6c HV5c OWc HST
                refine hK.out _ _ (by (try dsimp only); exact hHeld.trans HST.out) (fun hHeld => ?_)
                clear hK K
                refine wpAnyH_done (by kernel_rfl) ?_ _
                have HFB := Lib.hid (show Below w2.heap.size w2 z7 from hHeld)
                clear hHeld HST HSS HV5 HV6 OW HV5b HV6b OWb HBB
                have SG := Lib.hid (HMK.out _ _ _ _ _ HFB.out HV5c.out HV6c.out OWc.out)
                clear HFB HV5c HV6c OWc HP5
                go_wp2_with fail
                go_meet
                exact ⟨p5, p6, a1, c1, rfl, rfl, SG.out, Nat.le_trans HB2.out.size HP6.out, (by have := HP6.out; omega)⟩
              exact AllReadyH.nil
            exact AllReadyH.nil
          exact AllReadyH.nil
        refine AllReadyH.cons rfl (fun K hK => ?_) ?_
        · refine step_alloc_of (d := 6) rfl (by rfl) 31 rfl noTx.cells.toArray Tryz.zeroTx160 ?_
          intro p6 y5_110 hp6 hh6 hb
          have HV5 := Lib.hid (HV5.out.below hb)
          have HV6 : Hid (VarC y5_110 p6 31 noTx.cells) := Lib.hid hh6
          have HP6 : Hid (w2.heap.size ≤ p6) := Lib.hid (Nat.le_trans hHeld.size hp6)
          have HBB := Lib.hid hb
          clear hb hh6 hp6
          refine hK.out _ _ (by (try dsimp only); exact hHeld.trans (HBB.out.mono hHeld.size)) (fun hHeld => ?_)
          clear hK K
          refine wpAnyH_ready (rs := [3]) (by kernel_rfl) (by simp) ?_
          refine AllReadyH.cons rfl (fun K hK => ?_) ?_
          · go_simp
            go_wp2_with ((go_at_call 44; (with_reducible refine (HCP.out _ hHeld).mono ?_); rintro e y3_111 ⟨a1, c1, rfl, ho, hb⟩; have HV5 := Lib.hid (HV5.out.below hb); have HV6 := Lib.hid (HV6.out.below hb); have OW := Lib.hid ho; have HBB := Lib.hid hb; clear hb ho))
            refine hK.out _ _ (by (try dsimp only); exact hHeld.trans (HBB.out.mono hHeld.size)) (fun hHeld => ?_)
            clear hK K
            refine wpAnyH_ready (rs := [6]) (by kernel_rfl) (by simp) ?_
            refine AllReadyH.cons rfl (fun K hK => ?_) ?_
            · refine step_store_row (by rfl) 25 _ _ rfl p5 (cellsOf S).toArray (by rfl) (by rfl) 25 (cellsOf zero32).toArray HV5.out SS.out SZ.out (all_oneCell_toArray (cellsOf_one S)) ?_
              have hs := but_setRow y3_111 p5 (cellsOf S).toArray
              have HV5b := Lib.hid (show VarC (y3_111.setRow p5 (cellsOf S).toArray) p5 25 (cellsOf S) from setRow_heap y3_111 p5 _ _ 25 _ HV5.out)
              have HV6b := Lib.hid (varC_other HV6.out hs HV5.out (by decide))
              have OWb := Lib.hid (OW.out.but hs (not_typed HV5.out (by decide)))
              have HSS := Lib.hid ((hs.mono hHeld.size).below HP5.out)
              clear hs
              revert HV5b HV6b OWb HSS
              generalize World.setRow y3_111 _ _ = z6
              intro HV5b HV6b OWb HSS
              refine hK.out _ _ (by (try dsimp only); exact hHeld.trans HSS.out) (fun hHeld => ?_)
              clear hK K
              refine wpAnyH_ready (rs := [7]) (by kernel_rfl) (by simp) ?_
              refine AllReadyH.cons rfl (fun K hK => ?_) ?_
              · refine step_store_row (by rfl) 31 _ _ rfl p6 (oneTx a1 c1 none 0 0 []).cells.toArray (by rfl) (by rfl) 31 noTx.cells.toArray HV6b.out AXO.out rfl (all_oneCell_toArray (PTx.one _)) ?_
                have hs := but_setRow z6 p6 (oneTx a1 c1 none 0 0 []).cells.toArray
                have HV6c := Lib.hid (show VarC (z6.setRow p6 (oneTx a1 c1 none 0 0 []).cells.toArray) p6 31 (oneTx a1 c1 none 0 0 []).cells from setRow_heap z6 p6 _ _ 31 _ HV6b.out)
                have HV5c := Lib.hid (varC_other HV5b.out hs HV6b.out (by decide))
                have OWc := Lib.hid (OWb.out.but hs (not_typed HV6b.out (by decide)))
                have HST := Lib.hid ((hs.mono hHeld.size).below HP6.out)
                clear hs
                revert HV6c HV5c OWc HST
                generalize World.setRow z6 _ _ = z7
                intro HV6c HV5c OWc HST
                refine hK.out _ _ (by (try dsimp only); exact hHeld.trans HST.out) (fun hHeld => ?_)
                clear hK K
                refine wpAnyH_done (by kernel_rfl) ?_ _
                have HFB := Lib.hid (show Below w2.heap.size w2 z7 from hHeld)
                clear hHeld HST HSS HV5 HV6 OW HV5b HV6b OWb HBB
                have SG := Lib.hid (HMK.out _ _ _ _ _ HFB.out HV5c.out HV6c.out OWc.out)
                clear HFB HV5c HV6c OWc HP5
                go_wp2_with fail
                go_meet
                exact ⟨p5, p6, a1, c1, rfl, rfl, SG.out, Nat.le_trans HB2.out.size HP6.out, (by have := HP6.out; omega)⟩
              exact AllReadyH.nil
            exact AllReadyH.nil
          exact AllReadyH.nil
        exact AllReadyH.nil
      refine AllReadyH.cons rfl (fun K hK => ?_) ?_
      · refine step_alloc_of (d := 6) rfl (by rfl) 31 rfl noTx.cells.toArray Tryz.zeroTx160 ?_
        intro p6 y5_100 hp6 hh6 hb
        have HV6 : Hid (VarC y5_100 p6 31 noTx.cells) := Lib.hid hh6
        have HP6 : Hid (w2.heap.size ≤ p6) := Lib.hid (Nat.le_trans hHeld.size hp6)
        have HBB := Lib.hid hb
        clear hb hh6 hp6
        refine hK.out _ _ (by (try dsimp only); exact hHeld.trans (HBB.out.mono hHeld.size)) (fun hHeld => ?_)
        clear hK K
        refine wpAnyH_ready (rs := [3, 4]) (by kernel_rfl) (by simp) ?_
        refine AllReadyH.cons rfl (fun K hK => ?_) ?_
        · go_simp
          go_wp2_with ((go_at_call 44; (with_reducible refine (HCP.out _ hHeld).mono ?_); rintro e y3_101 ⟨a1, c1, rfl, ho, hb⟩; have HV6 := Lib.hid (HV6.out.below hb); have OW := Lib.hid ho; have HBB := Lib.hid hb; clear hb ho))
          refine hK.out _ _ (by (try dsimp only); exact hHeld.trans (HBB.out.mono hHeld.size)) (fun hHeld => ?_)
          clear hK K
          refine wpAnyH_ready (rs := [4]) (by kernel_rfl) (by simp) ?_
          refine AllReadyH.cons rfl (fun K hK => ?_) ?_
          · refine step_alloc_of (d := 5) rfl (by rfl) 25 rfl (cellsOf zero32).toArray Tryz.zeroSum32 ?_
            intro p5 y4_201 hp5 hh5 hb
            have HV6 := Lib.hid (HV6.out.below hb)
            have OW := Lib.hid (OW.out.below hb)
            have HV5 : Hid (VarC y4_201 p5 25 (cellsOf zero32)) := Lib.hid hh5
            have HP5 : Hid (w2.heap.size ≤ p5) := Lib.hid (Nat.le_trans hHeld.size hp5)
            have HBB := Lib.hid hb
            clear hb hh5 hp5
            refine hK.out _ _ (by (try dsimp only); exact hHeld.trans (HBB.out.mono hHeld.size)) (fun hHeld => ?_)
            clear hK K
            refine wpAnyH_ready (rs := [6]) (by kernel_rfl) (by simp) ?_
            refine AllReadyH.cons rfl (fun K hK => ?_) ?_
            · refine step_store_row (by rfl) 25 _ _ rfl p5 (cellsOf S).toArray (by rfl) (by rfl) 25 (cellsOf zero32).toArray HV5.out SS.out SZ.out (all_oneCell_toArray (cellsOf_one S)) ?_
              have hs := but_setRow y4_201 p5 (cellsOf S).toArray
              have HV5b := Lib.hid (show VarC (y4_201.setRow p5 (cellsOf S).toArray) p5 25 (cellsOf S) from setRow_heap y4_201 p5 _ _ 25 _ HV5.out)
              have HV6b := Lib.hid (varC_other HV6.out hs HV5.out (by decide))
              have OWb := Lib.hid (OW.out.but hs (not_typed HV5.out (by decide)))
              have HSS := Lib.hid ((hs.mono hHeld.size).below HP5.out)
              clear hs
              revert HV5b HV6b OWb HSS
              generalize World.setRow y4_201 _ _ = z6
              intro HV5b HV6b OWb HSS
              refine hK.out _ _ (by (try dsimp only); exact hHeld.trans HSS.out) (fun hHeld => ?_)
              clear hK K
              refine wpAnyH_ready (rs := [7]) (by kernel_rfl) (by simp) ?_
              refine AllReadyH.cons rfl (fun K hK => ?_) ?_
              · refine step_store_row (by rfl) 31 _ _ rfl p6 (oneTx a1 c1 none 0 0 []).cells.toArray (by rfl) (by rfl) 31 noTx.cells.toArray HV6b.out AXO.out rfl (all_oneCell_toArray (PTx.one _)) ?_
                have hs := but_setRow z6 p6 (oneTx a1 c1 none 0 0 []).cells.toArray
                have HV6c := Lib.hid (show VarC (z6.setRow p6 (oneTx a1 c1 none 0 0 []).cells.toArray) p6 31 (oneTx a1 c1 none 0 0 []).cells from setRow_heap z6 p6 _ _ 31 _ HV6b.out)
                have HV5c := Lib.hid (varC_other HV5b.out hs HV6b.out (by decide))
                have OWc := Lib.hid (OWb.out.but hs (not_typed HV6b.out (by decide)))
                have HST := Lib.hid ((hs.mono hHeld.size).below HP6.out)
                clear hs
                revert HV6c HV5c OWc HST
                generalize World.setRow z6 _ _ = z7
                intro HV6c HV5c OWc HST
                refine hK.out _ _ (by (try dsimp only); exact hHeld.trans HST.out) (fun hHeld => ?_)
                clear hK K
                refine wpAnyH_done (by kernel_rfl) ?_ _
                have HFB := Lib.hid (show Below w2.heap.size w2 z7 from hHeld)
                clear hHeld HST HSS HV5 HV6 OW HV5b HV6b OWb HBB
                have SG := Lib.hid (HMK.out _ _ _ _ _ HFB.out HV5c.out HV6c.out OWc.out)
                clear HFB HV5c HV6c OWc HP5
                go_wp2_with fail
                go_meet
                exact ⟨p5, p6, a1, c1, rfl, rfl, SG.out, Nat.le_trans HB2.out.size HP6.out, (by have := HP6.out; omega)⟩
              exact AllReadyH.nil
            exact AllReadyH.nil
          exact AllReadyH.nil
        refine AllReadyH.cons rfl (fun K hK => ?_) ?_
        · refine step_alloc_of (d := 5) rfl (by rfl) 25 rfl (cellsOf zero32).toArray Tryz.zeroSum32 ?_
          intro p5 y4_101 hp5 hh5 hb
          have HV6 := Lib.hid (HV6.out.below hb)
          have HV5 : Hid (VarC y4_101 p5 25 (cellsOf zero32)) := Lib.hid hh5
          have HP5 : Hid (w2.heap.size ≤ p5) := Lib.hid (Nat.le_trans hHeld.size hp5)
          have HBB := Lib.hid hb
          clear hb hh5 hp5
          refine hK.out _ _ (by (try dsimp only); exact hHeld.trans (HBB.out.mono hHeld.size)) (fun hHeld => ?_)
          clear hK K
          refine wpAnyH_ready (rs := [3]) (by kernel_rfl) (by simp) ?_
          refine AllReadyH.cons rfl (fun K hK => ?_) ?_
          · go_simp
            go_wp2_with ((go_at_call 44; (with_reducible refine (HCP.out _ hHeld).mono ?_); rintro e y3_111 ⟨a1, c1, rfl, ho, hb⟩; have HV5 := Lib.hid (HV5.out.below hb); have HV6 := Lib.hid (HV6.out.below hb); have OW := Lib.hid ho; have HBB := Lib.hid hb; clear hb ho))
            refine hK.out _ _ (by (try dsimp only); exact hHeld.trans (HBB.out.mono hHeld.size)) (fun hHeld => ?_)
            clear hK K
            refine wpAnyH_ready (rs := [6]) (by kernel_rfl) (by simp) ?_
            refine AllReadyH.cons rfl (fun K hK => ?_) ?_
            · refine step_store_row (by rfl) 25 _ _ rfl p5 (cellsOf S).toArray (by rfl) (by rfl) 25 (cellsOf zero32).toArray HV5.out SS.out SZ.out (all_oneCell_toArray (cellsOf_one S)) ?_
              have hs := but_setRow y3_111 p5 (cellsOf S).toArray
              have HV5b := Lib.hid (show VarC (y3_111.setRow p5 (cellsOf S).toArray) p5 25 (cellsOf S) from setRow_heap y3_111 p5 _ _ 25 _ HV5.out)
              have HV6b := Lib.hid (varC_other HV6.out hs HV5.out (by decide))
              have OWb := Lib.hid (OW.out.but hs (not_typed HV5.out (by decide)))
              have HSS := Lib.hid ((hs.mono hHeld.size).below HP5.out)
              clear hs
              revert HV5b HV6b OWb HSS
              generalize World.setRow y3_111 _ _ = z6
              intro HV5b HV6b OWb HSS
              refine hK.out _ _ (by (try dsimp only); exact hHeld.trans HSS.out) (fun hHeld => ?_)
              clear hK K
              refine wpAnyH_ready (rs := [7]) (by kernel_rfl) (by simp) ?_
              refine AllReadyH.cons rfl (fun K hK => ?_) ?_
              · refine step_store_row (by rfl) 31 _ _ rfl p6 (oneTx a1 c1 none 0 0 []).cells.toArray (by rfl) (by rfl) 31 noTx.cells.toArray HV6b.out AXO.out rfl (all_oneCell_toArray (PTx.one _)) ?_
                have hs := but_setRow z6 p6 (oneTx a1 c1 none 0 0 []).cells.toArray
                have HV6c := Lib.hid (show VarC (z6.setRow p6 (oneTx a1 c1 none 0 0 []).cells.toArray) p6 31 (oneTx a1 c1 none 0 0 []).cells from setRow_heap z6 p6 _ _ 31 _ HV6b.out)
                have HV5c := Lib.hid (varC_other HV5b.out hs HV6b.out (by decide))
                have OWc := Lib.hid (OWb.out.but hs (not_typed HV6b.out (by decide)))
                have HST := Lib.hid ((hs.mono hHeld.size).below HP6.out)
                clear hs
                revert HV6c HV5c OWc HST
                generalize World.setRow z6 _ _ = z7
                intro HV6c HV5c OWc HST
                refine hK.out _ _ (by (try dsimp only); exact hHeld.trans HST.out) (fun hHeld => ?_)
                clear hK K
                refine wpAnyH_done (by kernel_rfl) ?_ _
                have HFB := Lib.hid (show Below w2.heap.size w2 z7 from hHeld)
                clear hHeld HST HSS HV5 HV6 OW HV5b HV6b OWb HBB
                have SG := Lib.hid (HMK.out _ _ _ _ _ HFB.out HV5c.out HV6c.out OWc.out)
                clear HFB HV5c HV6c OWc HP5
                go_wp2_with fail
                go_meet
                exact ⟨p5, p6, a1, c1, rfl, rfl, SG.out, Nat.le_trans HB2.out.size HP6.out, (by have := HP6.out; omega)⟩
              exact AllReadyH.nil
            exact AllReadyH.nil
          exact AllReadyH.nil
        exact AllReadyH.nil
      exact AllReadyH.nil
    refine AllReadyH.cons rfl (fun K hK => ?_) ?_
    · refine step_alloc_of (d := 5) rfl (by rfl) 25 rfl (cellsOf zero32).toArray Tryz.zeroSum32 ?_
      intro p5 y4_000 hp5 hh5 hb
      have HV5 : Hid (VarC y4_000 p5 25 (cellsOf zero32)) := Lib.hid hh5
      have HP5 : Hid (w2.heap.size ≤ p5) := Lib.hid (Nat.le_trans hHeld.size hp5)
      have HBB := Lib.hid hb
      clear hb hh5 hp5
      refine hK.out _ _ (by (try dsimp only); exact hHeld.trans (HBB.out.mono hHeld.size)) (fun hHeld => ?_)
      clear hK K
      refine wpAnyH_ready (rs := [1, 5]) (by kernel_rfl) (by simp) ?_
      refine AllReadyH.cons rfl (fun K hK => ?_) ?_
      · go_simp
        go_wp2_with ((go_at_call 11; (with_reducible refine (HSUM.out _ hHeld).mono ?_); rintro e y1_010 ⟨rfl, hb⟩; have HV5 := Lib.hid (HV5.out.below hb); have HBB := Lib.hid hb; clear hb))
        refine hK.out _ _ (by (try dsimp only); exact hHeld.trans (HBB.out.mono hHeld.size)) (fun hHeld => ?_)
        clear hK K
        refine wpAnyH_ready (rs := [3, 5]) (by kernel_rfl) (by simp) ?_
        refine AllReadyH.cons rfl (fun K hK => ?_) ?_
        · go_simp
          go_wp2_with ((go_at_call 44; (with_reducible refine (HCP.out _ hHeld).mono ?_); rintro e y3_110 ⟨a1, c1, rfl, ho, hb⟩; have HV5 := Lib.hid (HV5.out.below hb); have OW := Lib.hid ho; have HBB := Lib.hid hb; clear hb ho))
          refine hK.out _ _ (by (try dsimp only); exact hHeld.trans (HBB.out.mono hHeld.size)) (fun hHeld => ?_)
          clear hK K
          refine wpAnyH_ready (rs := [5]) (by kernel_rfl) (by simp) ?_
          refine AllReadyH.cons rfl (fun K hK => ?_) ?_
          · refine step_alloc_of (d := 6) rfl (by rfl) 31 rfl noTx.cells.toArray Tryz.zeroTx160 ?_
            intro p6 y5_210 hp6 hh6 hb
            have HV5 := Lib.hid (HV5.out.below hb)
            have OW := Lib.hid (OW.out.below hb)
            have HV6 : Hid (VarC y5_210 p6 31 noTx.cells) := Lib.hid hh6
            have HP6 : Hid (w2.heap.size ≤ p6) := Lib.hid (Nat.le_trans hHeld.size hp6)
            have HBB := Lib.hid hb
            clear hb hh6 hp6
            refine hK.out _ _ (by (try dsimp only); exact hHeld.trans (HBB.out.mono hHeld.size)) (fun hHeld => ?_)
            clear hK K
            refine wpAnyH_ready (rs := [6]) (by kernel_rfl) (by simp) ?_
            refine AllReadyH.cons rfl (fun K hK => ?_) ?_
            · refine step_store_row (by rfl) 25 _ _ rfl p5 (cellsOf S).toArray (by rfl) (by rfl) 25 (cellsOf zero32).toArray HV5.out SS.out SZ.out (all_oneCell_toArray (cellsOf_one S)) ?_
              have hs := but_setRow y5_210 p5 (cellsOf S).toArray
              have HV5b := Lib.hid (show VarC (y5_210.setRow p5 (cellsOf S).toArray) p5 25 (cellsOf S) from setRow_heap y5_210 p5 _ _ 25 _ HV5.out)
              have HV6b := Lib.hid (varC_other HV6.out hs HV5.out (by decide))
              have OWb := Lib.hid (OW.out.but hs (not_typed HV5.out (by decide)))
              have HSS := Lib.hid ((hs.mono hHeld.size).below HP5.out)
              clear hs
              revert HV5b HV6b OWb HSS
              generalize World.setRow y5_210 _ _ = z6
              intro HV5b HV6b OWb HSS
              refine hK.out _ _ (by (try dsimp only); exact hHeld.trans HSS.out) (fun hHeld => ?_)
              clear hK K
              refine wpAnyH_ready (rs := [7]) (by kernel_rfl) (by simp) ?_
              refine AllReadyH.cons rfl (fun K hK => ?_) ?_
              · refine step_store_row (by rfl) 31 _ _ rfl p6 (oneTx a1 c1 none 0 0 []).cells.toArray (by rfl) (by rfl) 31 noTx.cells.toArray HV6b.out AXO.out rfl (all_oneCell_toArray (PTx.one _)) ?_
                have hs := but_setRow z6 p6 (oneTx a1 c1 none 0 0 []).cells.toArray
                have HV6c := Lib.hid (show VarC (z6.setRow p6 (oneTx a1 c1 none 0 0 []).cells.toArray) p6 31 (oneTx a1 c1 none 0 0 []).cells from setRow_heap z6 p6 _ _ 31 _ HV6b.out)
                have HV5c := Lib.hid (varC_other HV5b.out hs HV6b.out (by decide))
                have OWc := Lib.hid (OWb.out.but hs (not_typed HV6b.out (by decide)))
                have HST := Lib.hid ((hs.mono hHeld.size).below HP6.out)
                clear hs
                revert HV6c HV5c OWc HST
                generalize World.setRow z6 _ _ = z7
                intro HV6c HV5c OWc HST
                refine hK.out _ _ (by (try dsimp only); exact hHeld.trans HST.out) (fun hHeld => ?_)
                clear hK K
                refine wpAnyH_done (by kernel_rfl) ?_ _
                have HFB := Lib.hid (show Below w2.heap.size w2 z7 from hHeld)
                clear hHeld HST HSS HV5 HV6 OW HV5b HV6b OWb HBB
                have SG := Lib.hid (HMK.out _ _ _ _ _ HFB.out HV5c.out HV6c.out OWc.out)
                clear HFB HV5c HV6c OWc HP5
                go_wp2_with fail
                go_meet
                exact ⟨p5, p6, a1, c1, rfl, rfl, SG.out, Nat.le_trans HB2.out.size HP6.out, (by have := HP6.out; omega)⟩
              exact AllReadyH.nil
            exact AllReadyH.nil
          exact AllReadyH.nil
        refine AllReadyH.cons rfl (fun K hK => ?_) ?_
        · refine step_alloc_of (d := 6) rfl (by rfl) 31 rfl noTx.cells.toArray Tryz.zeroTx160 ?_
          intro p6 y5_110 hp6 hh6 hb
          have HV5 := Lib.hid (HV5.out.below hb)
          have HV6 : Hid (VarC y5_110 p6 31 noTx.cells) := Lib.hid hh6
          have HP6 : Hid (w2.heap.size ≤ p6) := Lib.hid (Nat.le_trans hHeld.size hp6)
          have HBB := Lib.hid hb
          clear hb hh6 hp6
          refine hK.out _ _ (by (try dsimp only); exact hHeld.trans (HBB.out.mono hHeld.size)) (fun hHeld => ?_)
          clear hK K
          refine wpAnyH_ready (rs := [3]) (by kernel_rfl) (by simp) ?_
          refine AllReadyH.cons rfl (fun K hK => ?_) ?_
          · go_simp
            go_wp2_with ((go_at_call 44; (with_reducible refine (HCP.out _ hHeld).mono ?_); rintro e y3_111 ⟨a1, c1, rfl, ho, hb⟩; have HV5 := Lib.hid (HV5.out.below hb); have HV6 := Lib.hid (HV6.out.below hb); have OW := Lib.hid ho; have HBB := Lib.hid hb; clear hb ho))
            refine hK.out _ _ (by (try dsimp only); exact hHeld.trans (HBB.out.mono hHeld.size)) (fun hHeld => ?_)
            clear hK K
            refine wpAnyH_ready (rs := [6]) (by kernel_rfl) (by simp) ?_
            refine AllReadyH.cons rfl (fun K hK => ?_) ?_
            · refine step_store_row (by rfl) 25 _ _ rfl p5 (cellsOf S).toArray (by rfl) (by rfl) 25 (cellsOf zero32).toArray HV5.out SS.out SZ.out (all_oneCell_toArray (cellsOf_one S)) ?_
              have hs := but_setRow y3_111 p5 (cellsOf S).toArray
              have HV5b := Lib.hid (show VarC (y3_111.setRow p5 (cellsOf S).toArray) p5 25 (cellsOf S) from setRow_heap y3_111 p5 _ _ 25 _ HV5.out)
              have HV6b := Lib.hid (varC_other HV6.out hs HV5.out (by decide))
              have OWb := Lib.hid (OW.out.but hs (not_typed HV5.out (by decide)))
              have HSS := Lib.hid ((hs.mono hHeld.size).below HP5.out)
              clear hs
              revert HV5b HV6b OWb HSS
              generalize World.setRow y3_111 _ _ = z6
              intro HV5b HV6b OWb HSS
              refine hK.out _ _ (by (try dsimp only); exact hHeld.trans HSS.out) (fun hHeld => ?_)
              clear hK K
              refine wpAnyH_ready (rs := [7]) (by kernel_rfl) (by simp) ?_
              refine AllReadyH.cons rfl (fun K hK => ?_) ?_
              · refine step_store_row (by rfl) 31 _ _ rfl p6 (oneTx a1 c1 none 0 0 []).cells.toArray (by rfl) (by rfl) 31 noTx.cells.toArray HV6b.out AXO.out rfl (all_oneCell_toArray (PTx.one _)) ?_
                have hs := but_setRow z6 p6 (oneTx a1 c1 none 0 0 []).cells.toArray
                have HV6c := Lib.hid (show VarC (z6.setRow p6 (oneTx a1 c1 none 0 0 []).cells.toArray) p6 31 (oneTx a1 c1 none 0 0 []).cells from setRow_heap z6 p6 _ _ 31 _ HV6b.out)
                have HV5c := Lib.hid (varC_other HV5b.out hs HV6b.out (by decide))
                have OWc := Lib.hid (OWb.out.but hs (not_typed HV6b.out (by decide)))
                have HST := Lib.hid ((hs.mono hHeld.size).below HP6.out)
                clear hs
                revert HV6c HV5c OWc HST
                generalize World.setRow z6 _ _ = z7
                intro HV6c HV5c OWc HST
                refine hK.out _ _ (by (try dsimp only); exact hHeld.trans HST.out) (fun hHeld => ?_)
                clear hK K
                refine wpAnyH_done (by kernel_rfl) ?_ _
                have HFB := Lib.hid (show Below w2.heap.size w2 z7 from hHeld)
                clear hHeld HST HSS HV5 HV6 OW HV5b HV6b OWb HBB
                have SG := Lib.hid (HMK.out _ _ _ _ _ HFB.out HV5c.out HV6c.out OWc.out)
                clear HFB HV5c HV6c OWc HP5
                go_wp2_with fail
                go_meet
                exact ⟨p5, p6, a1, c1, rfl, rfl, SG.out, Nat.le_trans HB2.out.size HP6.out, (by have := HP6.out; omega)⟩
              exact AllReadyH.nil
            exact AllReadyH.nil
          exact AllReadyH.nil
        exact AllReadyH.nil
      refine AllReadyH.cons rfl (fun K hK => ?_) ?_
      · refine step_alloc_of (d := 6) rfl (by rfl) 31 rfl noTx.cells.toArray Tryz.zeroTx160 ?_
        intro p6 y5_010 hp6 hh6 hb
        have HV5 := Lib.hid (HV5.out.below hb)
        have HV6 : Hid (VarC y5_010 p6 31 noTx.cells) := Lib.hid hh6
        have HP6 : Hid (w2.heap.size ≤ p6) := Lib.hid (Nat.le_trans hHeld.size hp6)
        have HBB := Lib.hid hb
        clear hb hh6 hp6
        refine hK.out _ _ (by (try dsimp only); exact hHeld.trans (HBB.out.mono hHeld.size)) (fun hHeld => ?_)
        clear hK K
        refine wpAnyH_ready (rs := [1]) (by kernel_rfl) (by simp) ?_
        refine AllReadyH.cons rfl (fun K hK => ?_) ?_
        · go_simp
          go_wp2_with ((go_at_call 11; (with_reducible refine (HSUM.out _ hHeld).mono ?_); rintro e y1_011 ⟨rfl, hb⟩; have HV5 := Lib.hid (HV5.out.below hb); have HV6 := Lib.hid (HV6.out.below hb); have HBB := Lib.hid hb; clear hb))
          refine hK.out _ _ (by (try dsimp only); exact hHeld.trans (HBB.out.mono hHeld.size)) (fun hHeld => ?_)
          clear hK K
          refine wpAnyH_ready (rs := [3]) (by kernel_rfl) (by simp) ?_
          refine AllReadyH.cons rfl (fun K hK => ?_) ?_
          · go_simp
            go_wp2_with ((go_at_call 44; (with_reducible refine (HCP.out _ hHeld).mono ?_); rintro e y3_111 ⟨a1, c1, rfl, ho, hb⟩; have HV5 := Lib.hid (HV5.out.below hb); have HV6 := Lib.hid (HV6.out.below hb); have OW := Lib.hid ho; have HBB := Lib.hid hb; clear hb ho))
            refine hK.out _ _ (by (try dsimp only); exact hHeld.trans (HBB.out.mono hHeld.size)) (fun hHeld => ?_)
            clear hK K
            refine wpAnyH_ready (rs := [6]) (by kernel_rfl) (by simp) ?_
            refine AllReadyH.cons rfl (fun K hK => ?_) ?_
            · refine step_store_row (by rfl) 25 _ _ rfl p5 (cellsOf S).toArray (by rfl) (by rfl) 25 (cellsOf zero32).toArray HV5.out SS.out SZ.out (all_oneCell_toArray (cellsOf_one S)) ?_
              have hs := but_setRow y3_111 p5 (cellsOf S).toArray
              have HV5b := Lib.hid (show VarC (y3_111.setRow p5 (cellsOf S).toArray) p5 25 (cellsOf S) from setRow_heap y3_111 p5 _ _ 25 _ HV5.out)
              have HV6b := Lib.hid (varC_other HV6.out hs HV5.out (by decide))
              have OWb := Lib.hid (OW.out.but hs (not_typed HV5.out (by decide)))
              have HSS := Lib.hid ((hs.mono hHeld.size).below HP5.out)
              clear hs
              revert HV5b HV6b OWb HSS
              generalize World.setRow y3_111 _ _ = z6
              intro HV5b HV6b OWb HSS
              refine hK.out _ _ (by (try dsimp only); exact hHeld.trans HSS.out) (fun hHeld => ?_)
              clear hK K
              refine wpAnyH_ready (rs := [7]) (by kernel_rfl) (by simp) ?_
              refine AllReadyH.cons rfl (fun K hK => ?_) ?_
              · refine step_store_row (by rfl) 31 _ _ rfl p6 (oneTx a1 c1 none 0 0 []).cells.toArray (by rfl) (by rfl) 31 noTx.cells.toArray HV6b.out AXO.out rfl (all_oneCell_toArray (PTx.one _)) ?_
                have hs := but_setRow z6 p6 (oneTx a1 c1 none 0 0 []).cells.toArray
                have HV6c := Lib.hid (show VarC (z6.setRow p6 (oneTx a1 c1 none 0 0 []).cells.toArray) p6 31 (oneTx a1 c1 none 0 0 []).cells from setRow_heap z6 p6 _ _ 31 _ HV6b.out)
                have HV5c := Lib.hid (varC_other HV5b.out hs HV6b.out (by decide))
                have OWc := Lib.hid (OWb.out.but hs (not_typed HV6b.out (by decide)))
                have HST := Lib.hid ((hs.mono hHeld.size).below HP6.out)
                clear hs
                revert HV6c HV5c OWc HST
                generalize World.setRow z6 _ _ = z7
                intro HV6c HV5c OWc HST
                refine hK.out _ _ (by (try dsimp only); exact hHeld.trans HST.out) (fun hHeld => ?_)
                clear hK K
                refine wpAnyH_done (by kernel_rfl) ?_ _
                have HFB := Lib.hid (show Below w2.heap.size w2 z7 from hHeld)
                clear hHeld HST HSS HV5 HV6 OW HV5b HV6b OWb HBB
                have SG := Lib.hid (HMK.out _ _ _ _ _ HFB.out HV5c.out HV6c.out OWc.out)
                clear HFB HV5c HV6c OWc HP5
                go_wp2_with fail
                go_meet
                exact ⟨p5, p6, a1, c1, rfl, rfl, SG.out, Nat.le_trans HB2.out.size HP6.out, (by have := HP6.out; omega)⟩
              exact AllReadyH.nil
            exact AllReadyH.nil
          exact AllReadyH.nil
        exact AllReadyH.nil
      exact AllReadyH.nil
    refine AllReadyH.cons rfl (fun K hK => ?_) ?_
    · refine step_alloc_of (d := 6) rfl (by rfl) 31 rfl noTx.cells.toArray Tryz.zeroTx160 ?_
      intro p6 y5_000 hp6 hh6 hb
      have HV6 : Hid (VarC y5_000 p6 31 noTx.cells) := Lib.hid hh6
      have HP6 : Hid (w2.heap.size ≤ p6) := Lib.hid (Nat.le_trans hHeld.size hp6)
      have HBB := Lib.hid hb
      clear hb hh6 hp6
      refine hK.out _ _ (by (try dsimp only); exact hHeld.trans (HBB.out.mono hHeld.size)) (fun hHeld => ?_)
      clear hK K
      refine wpAnyH_ready (rs := [1, 4]) (by kernel_rfl) (by simp) ?_
      refine AllReadyH.cons rfl (fun K hK => ?_) ?_
      · go_simp
        go_wp2_with ((go_at_call 11; (with_reducible refine (HSUM.out _ hHeld).mono ?_); rintro e y1_001 ⟨rfl, hb⟩; have HV6 := Lib.hid (HV6.out.below hb); have HBB := Lib.hid hb; clear hb))
        refine hK.out _ _ (by (try dsimp only); exact hHeld.trans (HBB.out.mono hHeld.size)) (fun hHeld => ?_)
        clear hK K
        refine wpAnyH_ready (rs := [3, 4]) (by kernel_rfl) (by simp) ?_
        refine AllReadyH.cons rfl (fun K hK => ?_) ?_
        · go_simp
          go_wp2_with ((go_at_call 44; (with_reducible refine (HCP.out _ hHeld).mono ?_); rintro e y3_101 ⟨a1, c1, rfl, ho, hb⟩; have HV6 := Lib.hid (HV6.out.below hb); have OW := Lib.hid ho; have HBB := Lib.hid hb; clear hb ho))
          refine hK.out _ _ (by (try dsimp only); exact hHeld.trans (HBB.out.mono hHeld.size)) (fun hHeld => ?_)
          clear hK K
          refine wpAnyH_ready (rs := [4]) (by kernel_rfl) (by simp) ?_
          refine AllReadyH.cons rfl (fun K hK => ?_) ?_
          · refine step_alloc_of (d := 5) rfl (by rfl) 25 rfl (cellsOf zero32).toArray Tryz.zeroSum32 ?_
            intro p5 y4_201 hp5 hh5 hb
            have HV6 := Lib.hid (HV6.out.below hb)
            have OW := Lib.hid (OW.out.below hb)
            have HV5 : Hid (VarC y4_201 p5 25 (cellsOf zero32)) := Lib.hid hh5
            have HP5 : Hid (w2.heap.size ≤ p5) := Lib.hid (Nat.le_trans hHeld.size hp5)
            have HBB := Lib.hid hb
            clear hb hh5 hp5
            refine hK.out _ _ (by (try dsimp only); exact hHeld.trans (HBB.out.mono hHeld.size)) (fun hHeld => ?_)
            clear hK K
            refine wpAnyH_ready (rs := [6]) (by kernel_rfl) (by simp) ?_
            refine AllReadyH.cons rfl (fun K hK => ?_) ?_
            · refine step_store_row (by rfl) 25 _ _ rfl p5 (cellsOf S).toArray (by rfl) (by rfl) 25 (cellsOf zero32).toArray HV5.out SS.out SZ.out (all_oneCell_toArray (cellsOf_one S)) ?_
              have hs := but_setRow y4_201 p5 (cellsOf S).toArray
              have HV5b := Lib.hid (show VarC (y4_201.setRow p5 (cellsOf S).toArray) p5 25 (cellsOf S) from setRow_heap y4_201 p5 _ _ 25 _ HV5.out)
              have HV6b := Lib.hid (varC_other HV6.out hs HV5.out (by decide))
              have OWb := Lib.hid (OW.out.but hs (not_typed HV5.out (by decide)))
              have HSS := Lib.hid ((hs.mono hHeld.size).below HP5.out)
              clear hs
              revert HV5b HV6b OWb HSS
              generalize World.setRow y4_201 _ _ = z6
              intro HV5b HV6b OWb HSS
              refine hK.out _ _ (by (try dsimp only); exact hHeld.trans HSS.out) (fun hHeld => ?_)
              clear hK K
              refine wpAnyH_ready (rs := [7]) (by kernel_rfl) (by simp) ?_
              refine AllReadyH.cons rfl (fun K hK => ?_) ?_
              · refine step_store_row (by rfl) 31 _ _ rfl p6 (oneTx a1 c1 none 0 0 []).cells.toArray (by rfl) (by rfl) 31 noTx.cells.toArray HV6b.out AXO.out rfl (all_oneCell_toArray (PTx.one _)) ?_
                have hs := but_setRow z6 p6 (oneTx a1 c1 none 0 0 []).cells.toArray
                have HV6c := Lib.hid (show VarC (z6.setRow p6 (oneTx a1 c1 none 0 0 []).cells.toArray) p6 31 (oneTx a1 c1 none 0 0 []).cells from setRow_heap z6 p6 _ _ 31 _ HV6b.out)
                have HV5c := Lib.hid (varC_other HV5b.out hs HV6b.out (by decide))
                have OWc := Lib.hid (OWb.out.but hs (not_typed HV6b.out (by decide)))
                have HST := Lib.hid ((hs.mono hHeld.size).below HP6.out)
                clear hs
                revert HV6c HV5c OWc HST
                generalize World.setRow z6 _ _ = z7
                intro HV6c HV5c OWc HST
                refine hK.out _ _ (by (try dsimp only); exact hHeld.trans HST.out) (fun hHeld => ?_)
                clear hK K
                refine wpAnyH_done (by kernel_rfl) ?_ _
                have HFB := Lib.hid (show Below w2.heap.size w2 z7 from hHeld)
                clear hHeld HST HSS HV5 HV6 OW HV5b HV6b OWb HBB
                have SG := Lib.hid (HMK.out _ _ _ _ _ HFB.out HV5c.out HV6c.out OWc.out)
                clear HFB HV5c HV6c OWc HP5
                go_wp2_with fail
                go_meet
                exact ⟨p5, p6, a1, c1, rfl, rfl, SG.out, Nat.le_trans HB2.out.size HP6.out, (by have := HP6.out; omega)⟩
              exact AllReadyH.nil
            exact AllReadyH.nil
          exact AllReadyH.nil
        refine AllReadyH.cons rfl (fun K hK => ?_) ?_
        · refine step_alloc_of (d := 5) rfl (by rfl) 25 rfl (cellsOf zero32).toArray Tryz.zeroSum32 ?_
          intro p5 y4_101 hp5 hh5 hb
          have HV6 := Lib.hid (HV6.out.below hb)
          have HV5 : Hid (VarC y4_101 p5 25 (cellsOf zero32)) := Lib.hid hh5
          have HP5 : Hid (w2.heap.size ≤ p5) := Lib.hid (Nat.le_trans hHeld.size hp5)
          have HBB := Lib.hid hb
          clear hb hh5 hp5
          refine hK.out _ _ (by (try dsimp only); exact hHeld.trans (HBB.out.mono hHeld.size)) (fun hHeld => ?_)
          clear hK K
          refine wpAnyH_ready (rs := [3]) (by kernel_rfl) (by simp) ?_
          refine AllReadyH.cons rfl (fun K hK => ?_) ?_
          · go_simp
            go_wp2_with ((go_at_call 44; (with_reducible refine (HCP.out _ hHeld).mono ?_); rintro e y3_111 ⟨a1, c1, rfl, ho, hb⟩; have HV5 := Lib.hid (HV5.out.below hb); have HV6 := Lib.hid (HV6.out.below hb); have OW := Lib.hid ho; have HBB := Lib.hid hb; clear hb ho))
            refine hK.out _ _ (by (try dsimp only); exact hHeld.trans (HBB.out.mono hHeld.size)) (fun hHeld => ?_)
            clear hK K
            refine wpAnyH_ready (rs := [6]) (by kernel_rfl) (by simp) ?_
            refine AllReadyH.cons rfl (fun K hK => ?_) ?_
            · refine step_store_row (by rfl) 25 _ _ rfl p5 (cellsOf S).toArray (by rfl) (by rfl) 25 (cellsOf zero32).toArray HV5.out SS.out SZ.out (all_oneCell_toArray (cellsOf_one S)) ?_
              have hs := but_setRow y3_111 p5 (cellsOf S).toArray
              have HV5b := Lib.hid (show VarC (y3_111.setRow p5 (cellsOf S).toArray) p5 25 (cellsOf S) from setRow_heap y3_111 p5 _ _ 25 _ HV5.out)
              have HV6b := Lib.hid (varC_other HV6.out hs HV5.out (by decide))
              have OWb := Lib.hid (OW.out.but hs (not_typed HV5.out (by decide)))
              have HSS := Lib.hid ((hs.mono hHeld.size).below HP5.out)
              clear hs
              revert HV5b HV6b OWb HSS
              generalize World.setRow y3_111 _ _ = z6
              intro HV5b HV6b OWb HSS
              refine hK.out _ _ (by (try dsimp only); exact hHeld.trans HSS.out) (fun hHeld => ?_)
              clear hK K
              refine wpAnyH_ready (rs := [7]) (by kernel_rfl) (by simp) ?_
              refine AllReadyH.cons rfl (fun K hK => ?_) ?_
              · refine step_store_row (by rfl) 31 _ _ rfl p6 (oneTx a1 c1 none 0 0 []).cells.toArray (by rfl) (by rfl) 31 noTx.cells.toArray HV6b.out AXO.out rfl (all_oneCell_toArray (PTx.one _)) ?_
                have hs := but_setRow z6 p6 (oneTx a1 c1 none 0 0 []).cells.toArray
                have HV6c := Lib.hid (show VarC (z6.setRow p6 (oneTx a1 c1 none 0 0 []).cells.toArray) p6 31 (oneTx a1 c1 none 0 0 []).cells from setRow_heap z6 p6 _ _ 31 _ HV6b.out)
                have HV5c := Lib.hid (varC_other HV5b.out hs HV6b.out (by decide))
                have OWc := Lib.hid (OWb.out.but hs (not_typed HV6b.out (by decide)))
                have HST := Lib.hid ((hs.mono hHeld.size).below HP6.out)
                clear hs
                revert HV6c HV5c OWc HST
                generalize World.setRow z6 _ _ = z7
                intro HV6c HV5c OWc HST
                refine hK.out _ _ (by (try dsimp only); exact hHeld.trans HST.out) (fun hHeld => ?_)
                clear hK K
                refine wpAnyH_done (by kernel_rfl) ?_ _
                have HFB := Lib.hid (show Below w2.heap.size w2 z7 from hHeld)
                clear hHeld HST HSS HV5 HV6 OW HV5b HV6b OWb HBB
                have SG := Lib.hid (HMK.out _ _ _ _ _ HFB.out HV5c.out HV6c.out OWc.out)
                clear HFB HV5c HV6c OWc HP5
                go_wp2_with fail
                go_meet
                exact ⟨p5, p6, a1, c1, rfl, rfl, SG.out, Nat.le_trans HB2.out.size HP6.out, (by have := HP6.out; omega)⟩
              exact AllReadyH.nil
            exact AllReadyH.nil
          exact AllReadyH.nil
        exact AllReadyH.nil
      refine AllReadyH.cons rfl (fun K hK => ?_) ?_
      · refine step_alloc_of (d := 5) rfl (by rfl) 25 rfl (cellsOf zero32).toArray Tryz.zeroSum32 ?_
        intro p5 y4_001 hp5 hh5 hb
        have HV6 := Lib.hid (HV6.out.below hb)
        have HV5 : Hid (VarC y4_001 p5 25 (cellsOf zero32)) := Lib.hid hh5
        have HP5 : Hid (w2.heap.size ≤ p5) := Lib.hid (Nat.le_trans hHeld.size hp5)
        have HBB := Lib.hid hb
        clear hb hh5 hp5
        refine hK.out _ _ (by (try dsimp only); exact hHeld.trans (HBB.out.mono hHeld.size)) (fun hHeld => ?_)
        clear hK K
        refine wpAnyH_ready (rs := [1]) (by kernel_rfl) (by simp) ?_
        refine AllReadyH.cons rfl (fun K hK => ?_) ?_
        · go_simp
          go_wp2_with ((go_at_call 11; (with_reducible refine (HSUM.out _ hHeld).mono ?_); rintro e y1_011 ⟨rfl, hb⟩; have HV5 := Lib.hid (HV5.out.below hb); have HV6 := Lib.hid (HV6.out.below hb); have HBB := Lib.hid hb; clear hb))
          refine hK.out _ _ (by (try dsimp only); exact hHeld.trans (HBB.out.mono hHeld.size)) (fun hHeld => ?_)
          clear hK K
          refine wpAnyH_ready (rs := [3]) (by kernel_rfl) (by simp) ?_
          refine AllReadyH.cons rfl (fun K hK => ?_) ?_
          · go_simp
            go_wp2_with ((go_at_call 44; (with_reducible refine (HCP.out _ hHeld).mono ?_); rintro e y3_111 ⟨a1, c1, rfl, ho, hb⟩; have HV5 := Lib.hid (HV5.out.below hb); have HV6 := Lib.hid (HV6.out.below hb); have OW := Lib.hid ho; have HBB := Lib.hid hb; clear hb ho))
            refine hK.out _ _ (by (try dsimp only); exact hHeld.trans (HBB.out.mono hHeld.size)) (fun hHeld => ?_)
            clear hK K
            refine wpAnyH_ready (rs := [6]) (by kernel_rfl) (by simp) ?_
            refine AllReadyH.cons rfl (fun K hK => ?_) ?_
            · refine step_store_row (by rfl) 25 _ _ rfl p5 (cellsOf S).toArray (by rfl) (by rfl) 25 (cellsOf zero32).toArray HV5.out SS.out SZ.out (all_oneCell_toArray (cellsOf_one S)) ?_
              have hs := but_setRow y3_111 p5 (cellsOf S).toArray
              have HV5b := Lib.hid (show VarC (y3_111.setRow p5 (cellsOf S).toArray) p5 25 (cellsOf S) from setRow_heap y3_111 p5 _ _ 25 _ HV5.out)
              have HV6b := Lib.hid (varC_other HV6.out hs HV5.out (by decide))
              have OWb := Lib.hid (OW.out.but hs (not_typed HV5.out (by decide)))
              have HSS := Lib.hid ((hs.mono hHeld.size).below HP5.out)
              clear hs
              revert HV5b HV6b OWb HSS
              generalize World.setRow y3_111 _ _ = z6
              intro HV5b HV6b OWb HSS
              refine hK.out _ _ (by (try dsimp only); exact hHeld.trans HSS.out) (fun hHeld => ?_)
              clear hK K
              refine wpAnyH_ready (rs := [7]) (by kernel_rfl) (by simp) ?_
              refine AllReadyH.cons rfl (fun K hK => ?_) ?_
              · refine step_store_row (by rfl) 31 _ _ rfl p6 (oneTx a1 c1 none 0 0 []).cells.toArray (by rfl) (by rfl) 31 noTx.cells.toArray HV6b.out AXO.out rfl (all_oneCell_toArray (PTx.one _)) ?_
                have hs := but_setRow z6 p6 (oneTx a1 c1 none 0 0 []).cells.toArray
                have HV6c := Lib.hid (show VarC (z6.setRow p6 (oneTx a1 c1 none 0 0 []).cells.toArray) p6 31 (oneTx a1 c1 none 0 0 []).cells from setRow_heap z6 p6 _ _ 31 _ HV6b.out)
                have HV5c := Lib.hid (varC_other HV5b.out hs HV6b.out (by decide))
                have OWc := Lib.hid (OWb.out.but hs (not_typed HV6b.out (by decide)))
                have HST := Lib.hid ((hs.mono hHeld.size).below HP6.out)
                clear hs
                revert HV6c HV5c OWc HST
                generalize World.setRow z6 _ _ = z7
                intro HV6c HV5c OWc HST
                refine hK.out _ _ (by (try dsimp only); exact hHeld.trans HST.out) (fun hHeld => ?_)
                clear hK K
                refine wpAnyH_done (by kernel_rfl) ?_ _
                have HFB := Lib.hid (show Below w2.heap.size w2 z7 from hHeld)
                clear hHeld HST HSS HV5 HV6 OW HV5b HV6b OWb HBB
                have SG := Lib.hid (HMK.out _ _ _ _ _ HFB.out HV5c.out HV6c.out OWc.out)
                clear HFB HV5c HV6c OWc HP5
                go_wp2_with fail
                go_meet
                exact ⟨p5, p6, a1, c1, rfl, rfl, SG.out, Nat.le_trans HB2.out.size HP6.out, (by have := HP6.out; omega)⟩
              exact AllReadyH.nil
            exact AllReadyH.nil
          exact AllReadyH.nil
        exact AllReadyH.nil
      exact AllReadyH.nil
    exact AllReadyH.nil
  case rest =>
    obtain ⟨p5, p6, a1, c1, rfl, rfl, hsg, hp6, hng⟩ := hcut
    have SG := Lib.hid hsg
    have HCB := Lib.hid hsg.but
    have HP6B := Lib.hid hp6
    have HNG := Lib.hid hng
    clear hsg hp6 hng hg1 HSUM HCP HMK V2 SXO AXO SS SZ
    have HCL := Lib.hid (clone_any (HNQ.out.below SG.out.but) (by omega))
    go_wp2_with fail
    refine HCL.out.mono ?_
    rintro e w3 ⟨v, rfl, hov, hb3⟩
    have SG := Lib.hid (SG.out.below hb3)
    have hbs : w.heap.size ≤ wc.heap.size := by have := HCB.out.size; exact this
    have hwc3 : wc.heap.size ≤ w3.heap.size := hb3.size
    have OV := Lib.hid hov
    obtain ⟨b, cv, rfl, hbB, _, _, _, _⟩ := ownZ_where hov
    clear hov hb3 HCL HNQ
    go_upto_region 3 with (fail)
    have b4 : Below w3.heap.size w3 (w3.alloc (.cells #[.slice (some ⟨b, 0, none⟩) 1 cv] 62)) := (Below.refl _ _).alloc (Nat.le_refl _) _
    have h7 : VarC (w3.alloc (.cells #[.slice (some ⟨b, 0, none⟩) 1 cv] 62)) w3.heap.size 62 [.slice (some ⟨b, 0, none⟩) 1 cv] := heap_alloc_new _ _
    revert b4 h7
    generalize (w3.alloc (.cells #[.slice (some ⟨b, 0, none⟩) 1 cv] 62)) = w4
    obtain ⟨p7, hp7⟩ : ∃ p, p = w3.heap.size := ⟨_, rfl⟩
    rw [← hp7]
    intro b4 h7
    rw [hp7] at b4
    have SG := Lib.hid (SG.out.below b4)
    have OV := Lib.hid (OV.out.below b4)
    have V7 := Lib.hid h7
    have hwc4 : wc.heap.size ≤ w4.heap.size := Nat.le_trans hwc3 b4.size
    have HSO := Lib.hid (sort_any OV.out hwc4 (by simp))
    have c7 : w4.cell? ⟨p7, 0, none⟩ = some (.slice (some ⟨b, 0, none⟩) 1 cv) := (V7.out.cell 0).trans rfl
    obtain ⟨_, _, e, _, ⟨cur, hcur⟩, _, _, _⟩ := ownZ_where OV.out
    cases e
    have HCUR := Lib.hid hcur
    clear h7 b4 hp7 hcur OV
    go_wp2_with fail
    refine HSO.out.mono ?_
    rintro e w5 ⟨rfl, ho5, hg5, _⟩
    have hbt : But w4.heap.size b w4 w5 := ⟨hg5.os, hg5.tape, hg5.output, hg5.size, fun k hk hne => hg5.block k hk (fun e => hne (by cases e; rfl))⟩
    have SG := Lib.hid (SG.out.typed hbt HCUR.out (by decide) (by decide) (by decide) (by omega))
    have V7 := Lib.hid (varC_other V7.out hbt HCUR.out (by decide))
    have hz1 : sortedZ [z] = [z] := by simp [sortedZ]
    rw [hz1] at ho5
    have hwc5 : wc.heap.size ≤ w5.heap.size := Nat.le_trans hwc4 hbt.size
    obtain ⟨_, _, e, _, ⟨cur5, hcur5⟩, hcb, _, _⟩ := ownZ_where ho5
    cases e
    have HCB5 := Lib.hid hcb
    have HCU5 := Lib.hid hcur5
    have hlb := lt_of_block hcur5
    have c7' : w5.cell? ⟨p7, 0, none⟩ = some (.slice (some ⟨b, 0, none⟩) 1 cv) := (V7.out.cell 0).trans rfl
    have f7 := V7.out.free 0
    clear c7 ho5 hg5 hbt hz1 hcb hcur5 HSO HCUR
    go_upto_region 5 with (first | (go_at_call 47; (with_reducible refine (compact_one _ _ _).mono ?_); rintro e w9 ⟨rfl, rfl⟩) | fail)
    have hb6 := store_same (i := 0) (v := .slice (some ⟨b, 0, none⟩) 1 cv) V7.out rfl
    have SG6 := Lib.hid (SG.out.below hb6)
    have V76 := Lib.hid (V7.out.below hb6)
    have HC6 := Lib.hid ((hb6.cell (p := ⟨b, 0, none⟩) hlb).trans HCB5.out)
    have HBB6 := Lib.hid ((hb6.block b hlb).trans HCU5.out)
    have hwc6 := Nat.le_trans hwc5 hb6.size
    clear c7' f7 hb6 SG V7 HCB5 HCU5 hlb
    revert SG6 V76 HC6 HBB6 hwc6
    generalize World.setCell w5 _ _ = w6
    intro SG6 V76 HC6 HBB6 hwc6
    have c39 : w6.cell? ⟨p6, 39, none⟩ = some (.slice none 0 0) := (SG6.out.var.cell 39).trans rfl
    have c7 : w6.cell? ⟨p7, 0, none⟩ = some (.slice (some ⟨b, 0, none⟩) 1 cv) := (V76.out.cell 0).trans rfl
    have hmf : ∀ (fn : Fn) (first cap : Array Value) (w : World), (Instr.makeFunc fn first cap).run Tryz.prog w = .ok (.func fn first cap) w := fun _ _ _ _ => rfl
    go_upto_region 7 with (first | (go_at_call 48; (with_reducible refine (deleteSign_nil _ _).mono ?_); rintro e w9 ⟨rfl, rfl⟩) | fail)
    clear c39 c7 V76
    obtain ⟨Y, hY⟩ : ∃ Y : PSign, Y = ⟨z, S⟩ := ⟨_, rfl⟩
    have hYl : Y.sum.length = 32 := by rw [hY]; exact HSL.out
    have hYs : SignIn Y := by rw [hY]; exact ⟨HZ.out, HSL.out⟩
    have HY := Lib.hid hY
    have HYL := Lib.hid (PSign.len hYl)
    have HYS := Lib.hid hYs
    clear hY hYl hYs
    go_loopw [8, 27] (fun l i wr => ∃ (k : Nat) (a8 : Option Addr) (c8 : Nat), k ≤ 1 ∧ i = .int .i64 k ∧ l = .slice a8 k c8 ∧ OwnOf signK 49 wr w.heap.size (.slice a8 k c8) (([Y] : List PSign).take k) ∧ SgSt w (g + 1) p5 p6 a1 c1 S wr ∧ wr.cell? ⟨b, 0, none⟩ = some (.int .i64 z) ∧ wc.heap.size ≤ wr.heap.size ∧ ∃ cb, wr.heap[b]? = some (.cells cb 3 (0, 0))) (fun _ i _ => 1 - (intOf i).toNat)
    case atStart => exact ⟨0, none, 0, by omega, rfl, rfl, OwnOf.nil _ _ _ _, SG6.out, HC6.out, hwc6, ⟨_, HBB6.out⟩⟩
    case round =>
      obtain ⟨k, a8, c8, hk, rfl, rfl, ho8, hs8, hcz, hwr, cb, hcb⟩ := hrel
      have hbr := lt_of_block hcb
      have HCB9 := Lib.hid hcb
      have SG := Lib.hid hs8
      clear SG6 HC6 HBB6 hs8 hwc6 hcb
      by_cases hk0 : k = 0
      · subst hk0
        have O8 := Lib.hid (show OwnOf signK 49 wr w.heap.size (.slice a8 0 c8) [] from ho8)
        have RS5 := Lib.hid SG.out.sum.range
        have HCZ0 := Lib.hid hcz
        have HWR := Lib.hid hwr
        have HBR0 := Lib.hid hbr
        clear ho8
        go_wp2_with (first | (refine wpList_load_mid rfl 25 _ rfl p5 0 rfl (cellsOf S) _ RS5.out Tryz.underlying25 rfl SSL.out ?_) | (refine wpList_build_sign rfl _ _ rfl z S rfl rfl HSL.out HY.out ?_) | (refine wpList_lit_of signS rfl _ rfl Y rfl HYL.out ?_; intro p9 w9 _ hlit hbl; have O9 := Lib.hid (O8.out.below hbl); have HP9 := Lib.hid hlit; have SG9 := Lib.hid (SG.out.below hbl); have HBK := Lib.hid ((hbl.block b HBR0.out).trans HCB9.out); have HCZ := Lib.hid ((hbl.cell (p := ⟨b, 0, none⟩) HBR0.out).trans HCZ0.out); have HSZ9 := Lib.hid SG9.out.but.size; have HW9 := Lib.hid (Nat.le_trans HWR.out hbl.size); have HB9 := Lib.hid (Nat.lt_of_lt_of_le HBR0.out hbl.size); clear hlit hbl) | (at_builtin; refine wpList_append_of signS rfl _ _ rfl rfl w.heap.size (.slice a8 0 c8) [] rfl O9.out p9 Y rfl HP9.out HYL.out (by simp) HSZ9.out ?_; intro aa cc wa ho hg; have HOA := Lib.hid ho; have HGA := Lib.hid hg; clear ho hg) | fail)
        have hfin : SgSt w (g + 1) p5 p6 a1 c1 S wa ∧ wa.cell? ⟨b, 0, none⟩ = some (.int .i64 z) ∧ wc.heap.size ≤ wa.heap.size ∧ ∃ cb, wa.heap[b]? = some (.cells cb 3 (0, 0)) := by
          rcases O9.out.step HGA.out with hb | ⟨gg, cs, _, hBg, hh, hb⟩
          · exact ⟨SG9.out.below hb, (hb.cell (p := ⟨b, 0, none⟩) HB9.out).trans HCZ.out, Nat.le_trans HW9.out hb.size, ⟨_, (hb.block b HB9.out).trans HBK.out⟩⟩
          · have hne : b ≠ gg := fun e => by
              have h9 := HBK.out
              rw [e, hh] at h9
              simp at h9
            exact ⟨SG9.out.typed hb hh (by decide) (by decide) (by decide) hBg, (hb.cell (a := ⟨b, 0, none⟩) HB9.out hne).trans HCZ.out, Nat.le_trans HW9.out hb.size, ⟨_, (hb.block b HB9.out hne).trans HBK.out⟩⟩
        obtain ⟨f1, f2, f3, f4⟩ := hfin
        go_roundw
        case rel => exact ⟨1, aa, cc, by omega, by go_num, rfl, HOA.out, f1, f2, f3, f4⟩
        case measure => simp [intOf]
      · obtain rfl : k = 1 := by omega
        have O8 := Lib.hid (show OwnOf signK 49 wr w.heap.size (.slice a8 1 c8) [Y] from ho8)
        have c39 : wr.cell? ⟨p6, 39, none⟩ = some (.slice none 0 0) := (SG.out.var.cell 39).trans rfl
        have f39 := SG.out.var.free 39
        clear ho8 hcz
        go_upto_region 13 with (first | (go_at_call 51; (with_reducible refine (sortSign_one _ _ _ _).mono ?_); rintro e w9 ⟨rfl, rfl⟩) | fail)
        have hs := (But.refl wr.heap.size p6 wr).setCell ⟨p6, 39, none⟩ (.inl rfl) (.slice a8 1 c8)
        have VF := Lib.hid (show VarC (wr.setCell ⟨p6, 39, none⟩ (.slice a8 1 c8)) p6 31 (oneTx a1 c1 a8 1 c8 [Y]).cells from VarC.put1 (pre := .slice a1 1 c1 :: .slice none 0 0 :: noOp.cells) (post := []) (u := .slice none 0 0) SG.out.var (by simp [POp.len (x := noOp) zero32_len]))
        have hne : g + 1 ≠ p6 := HNG.out
        have RF := Lib.hid (SG.out.res.but hs SG.out.res.lt hne)
        have OF := Lib.hid (SG.out.own.but hs (not_typed SG.out.var (by decide)))
        have O8F := Lib.hid (O8.out.but hs (not_typed SG.out.var (by decide)))
        have BF := Lib.hid (SG.out.but.trans ((hs.mono SG.out.but.size).below HP6B.out))
        clear hs c39 f39 SG O8 hne
        revert VF RF OF O8F BF
        generalize World.setCell wr _ _ = wz
        intro VF RF OF O8F BF
        have RX := Lib.hid VF.out.range
        have SX := Lib.hid (tx_size (x := oneTx a1 c1 a8 1 c8 [Y]) zero32_len)
        have AX := Lib.hid (tx_sizeA (x := oneTx a1 c1 a8 1 c8 [Y]) zero32_len)
        go_wp2_with (first | (refine wpList_load_mid rfl 31 _ rfl p6 0 rfl (oneTx a1 c1 a8 1 c8 [Y]).cells _ RX.out Tryz.underlying31 rfl SX.out ?_) | (refine wpList_store_row rfl 31 _ _ rfl (g + 1) (oneTx a1 c1 a8 1 c8 [Y]).cells.toArray rfl rfl 31 noTx.cells.toArray RF.out AX.out rfl (all_oneCell_toArray (PTx.one _)) ?_) | fail)
        refine bodyPost_ret (results_cell_row rfl _ _ (g + 1) 31 (oneTx a1 c1 a8 1 c8 [Y]).cells.toArray (0, 0) _ rfl (setRow_heap wz (g + 1) _ _ 31 _ RF.out) Tryz.underlying31 rfl AX.out) rfl ?_
        have hfb := but_setRow wz (g + 1) (oneTx a1 c1 a8 1 c8 [Y]).cells.toArray
        refine ⟨oneTx a1 c1 a8 1 c8 [Y], rfl, ⟨one_txIn (OF.out.but hfb (not_typed RF.out (by decide))), SliceOf.nil _ _, (noTx_in _).op, (O8F.out.but hfb (not_typed RF.out (by decide))).slice (fun y hy => by simp at hy; subst hy; exact HYS.out)⟩, by rw [HY.out]; rfl, BF.out.trans ((hfb.mono BF.out.size).below (by omega))⟩
end Go.Proofs.YtodbhopeknlgiaaGreatDoor
