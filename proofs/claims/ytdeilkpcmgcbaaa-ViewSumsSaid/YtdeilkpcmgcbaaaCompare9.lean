/- What view.compare comes to: places by their sums, then by their places. It lays blocks, and nothing else turns. -/
import Derived.Test.YtdeilkpcmgcbaaaLaw9
import Derived.Test.YtdeilkpcmgcbaaaRowOrder
import Derived.Test.YtdeilkpcmgcbaaaShelf
import Derived.Lib.Bytealg
import Derived.Sort.Grow
namespace Go.Proofs.Ytdeilkpcmgcbaaa
open Go.RowKit Go.Sort

/-- New blocks, and draws, and no more. -/
def Grew (w w' : World) : Prop := ∃ q os, w' = grow (w.drewN q) os
theorem Grew.refl (w : World) : Grew w w := ⟨0, #[], by simp [World.drewN]⟩
theorem Grew.drew {w w' : World} (h : Grew w w') : Grew w w'.drew := by
  obtain ⟨q, os, rfl⟩ := h
  exact ⟨q + 1, os, by simp [grow, World.drewN, World.drew, Nat.add_assoc]⟩
theorem Grew.alloc {w w' : World} (h : Grew w w') (o : Obj) : Grew w (w'.alloc o) := by
  obtain ⟨q, os, rfl⟩ := h
  exact ⟨q, os ++ #[o], by rw [alloc_eq_grow, grow_grow]⟩
theorem Grew.below {w w' : World} (h : Grew w w') : Below w.heap.size w w' := by
  obtain ⟨q, os, rfl⟩ := h
  refine ⟨rfl, rfl, rfl, by simp [grow, World.drewN], fun k hk => ?_⟩
  show (w.heap ++ os)[k]? = w.heap[k]?
  exact Array.getElem?_append_left hk
theorem step_two9 {ops : Array Oper} {o : Oper} {tmps : Array Value} {ds : List Deferred} {w : World} {K : Act → World → Prop} {Q : Exit → Act → World → Prop} {E : Prop} {d : Nat} {u v : Operand} {y z : Int} (hd : o.dst = some d) (hw : Region.wanted o (yielded ops tmps) = true) (ho : o.op = .buildSlice 72 2 #[(0, u), (1, v)])
    (hu : Act.eval { tmps := tmps, defers := ds } u = .int .i64 y) (hv : Act.eval { tmps := tmps, defers := ds } v = .int .i64 z)
    (h : K { tmps := tmps.setIfInBounds d (.slice (some ⟨w.heap.size, 0, none⟩) 2 2), defers := ds } (w.alloc (.cells #[.int .i64 y, .int .i64 z] 3))) :
    if Region.wanted o (yielded ops tmps) = true then Oper.wp Try.prog o { tmps := tmps, defers := ds } w K Q else E := by
  rw [if_pos hw]
  obtain ⟨ie, h1, h2, h3, _⟩ := info_parts (show (Try.prog.info? 3).map (fun i => (i.zero, i.size, i.bytes)) = some (some (.int .i64 0), 1, 8) by kernel_rfl)
  have hrun : (Instr.buildSlice 72 2 #[(0, .int .i64 y), (1, .int .i64 z)]).run Try.prog w = .ok (.slice (some ⟨w.heap.size, 0, none⟩) 2 2) (w.alloc (.cells #[.int .i64 y, .int .i64 z] 3)) :=
    run_buildSlice w 72 3 2 _ _ ie _ Try.underlying72 h1 h2 (by rw [h3]; omega) (by rw [h3]; omega) (by rw [h3]; simp [Instr.fill, Value.cells]; rw [show Array.range 2 = #[0, 1] by rfl]; simp)
  unfold Oper.wp execOp
  simp only [ho, List.map_toArray, List.map_cons, List.map_nil, hu, hv, Sem.run_bind, hrun, Sem.run_pure, Result.andThen_ok]
  show K (Act.put _ o.dst _) _
  rw [hd]
  exact h

/-! ### bytes.Compare -/
theorem run_loadBytes9 {w : World} {b : Nat} : ∀ (n off : Nat) (l : List UInt8) (acc : ByteArray), l.length = n → (∀ j, j < n → w.cell? ⟨b, off + j, none⟩ = some (.int .u8 (((l.getD j 0).toNat : Nat) : Int))) → (Extern.Bytes.loadBytes ⟨b, off, none⟩ n acc).run Try.prog w = .ok (⟨acc.data ++ l.toArray⟩ : ByteArray) w
  | 0, _, l, acc, hl, _ => by
    obtain rfl : l = [] := List.eq_nil_of_length_eq_zero hl
    simp [Extern.Bytes.loadBytes]
  | n + 1, off, l, acc, hl, hc => by
    match l, hl with
    | x :: l, hl =>
      have h0 : w.cell? ⟨b, off, none⟩ = some (.int .u8 ((x.toNat : Nat) : Int)) := hc 0 (by omega)
      have ih := run_loadBytes9 (w := w) (b := b) n (off + 1) l (acc.push x) (by simpa using hl) (fun j hj => by
        have h9 := hc (j + 1) (by omega)
        rw [show off + 1 + j = off + (j + 1) by omega, h9]
        simp)
      have hb := x.toNat_lt
      have h8 : (load ⟨b, off, none⟩).run Try.prog w = .ok (.int .u8 ((x.toNat : Nat) : Int)) w := by simp only [run_load, h0]
      have e : (UInt8.ofNat ((x.toNat : Nat) : Int).toNat) = x := by simp
      simp only [Extern.Bytes.loadBytes, Sem.run_bind, h8, Result.andThen]
      show (Extern.Bytes.loadBytes ⟨b, off + 1, none⟩ n (acc.push (UInt8.ofNat ((x.toNat : Nat) : Int).toNat))).run Try.prog w = _
      rw [e, ih]
      simp [ByteArray.push]
theorem bytealg_any {w : World} {b : Nat} {c d b2 : Nat} {s t : List UInt8} (hs : s.length = 32) (ht : t.length = 32) (h1 : w.rangeAt b 0 (cellsOf s)) (h2 : w.rangeAt b2 0 (cellsOf t)) :
    (Extern.BytealgCompare.compare #[.slice (some ⟨b, 0, none⟩) 32 c, .slice (some ⟨b2, 0, none⟩) 32 d]).run Try.prog w = .ok (.int .i64 (Lib.compareBytes s t)) w := by
  have e1 : (Extern.Bytes.bytesOf (.slice (some ⟨b, 0, none⟩) 32 c)).run Try.prog w = .ok (⟨s.toArray⟩ : ByteArray) w := by
    have h9 := run_loadBytes9 (w := w) (b := b) 32 0 s .empty hs (fun j hj => h1 j _ (cellsOf_get (by omega)))
    rw [show ((ByteArray.empty).data ++ s.toArray) = s.toArray from by show #[] ++ s.toArray = _; simp] at h9
    exact h9
  have e2 : (Extern.Bytes.bytesOf (.slice (some ⟨b2, 0, none⟩) 32 d)).run Try.prog w = .ok (⟨t.toArray⟩ : ByteArray) w := by
    have h9 := run_loadBytes9 (w := w) (b := b2) 32 0 t .empty ht (fun j hj => h2 j _ (cellsOf_get (by omega)))
    rw [show ((ByteArray.empty).data ++ t.toArray) = t.toArray from by show #[] ++ t.toArray = _; simp] at h9
    exact h9
  change Sem.run Try.prog (do pure (goInt (Extern.BytealgCompare.cmp (← Extern.Bytes.bytesOf (.slice (some ⟨b, 0, none⟩) 32 c)) (← Extern.Bytes.bytesOf (.slice (some ⟨b2, 0, none⟩) 32 d))))) w = _
  simp only [Sem.run_bind, e1, e2, Sem.run_pure, Result.andThen]
  rw [Lib.cmp_eq]
  rfl
set_option linter.unusedSimpArgs false in
set_option maxRecDepth 100000 in
set_option maxHeartbeats 12800000 in
theorem bytesCompare_any {w : World} {b : Nat} {c d b2 : Nat} {s t : List UInt8} (hs : s.length = 32) (ht : t.length = 32) (h1 : w.rangeAt b 0 (cellsOf s)) (h2 : w.rangeAt b2 0 (cellsOf t)) :
    Calls Try.prog 49 #[.slice (some ⟨b, 0, none⟩) 32 c, .slice (some ⟨b2, 0, none⟩) 32 d] w fun e w' => e = .returned (.int .i64 (Lib.compareBytes s t)) ∧ w = w' := by
  have hrun := bytealg_any (c := c) (d := d) hs ht h1 h2
  generalize Lib.compareBytes s t = r at hrun ⊢
  have HR := Lib.hid hrun
  clear hrun h1 h2 hs ht
  go_enter Try.func49, Try.ntmps49
  go_wp2
  rw [run_callFunc_extern Try.func54 (by kernel_rfl) (by kernel_rfl) (by kernel_rfl) (e := Extern.BytealgCompare.compare) (by kernel_rfl), HR.out]
  simp only [Result.andThen]
  rw [Oper.upon_value]
  go_wp2
  go_ret
  exact ⟨rfl, rfl⟩

/-! ### cmp.Or -/
def firstOf : List Int → Int
  | [] => 0
  | z :: zs => if z = 0 then firstOf zs else z
set_option linter.unusedSimpArgs false in
set_option maxRecDepth 100000 in
set_option maxHeartbeats 12800000 in
theorem or_any {w : World} {a : Option Addr} {n c : Nat} {zs : List Int} (h : Numbers w a n c zs) : Calls Try.prog 48 #[.slice a n c] w fun e w' => e = .returned (.int .i64 (firstOf zs)) ∧ w = w' := by
  obtain ⟨R, hR⟩ : ∃ R, R = firstOf zs := ⟨_, rfl⟩
  rw [← hR]
  have hlen := h.1
  have hn63 : (n : Int) ≤ 9223372036854775807 := by have h1 := h.2.1; have h2 := h.2.2.1; unfold maxLen at h2; omega
  have H := Lib.hid h
  have HR := Lib.hid hR
  have HL := Lib.hid hlen
  clear h hR hlen
  go_enter Try.func48, Try.ntmps48
  go_wp2
  go_loop [8] (fun i => ∃ (k : Nat), k ≤ n ∧ i = .int .i64 k ∧ R = firstOf (zs.drop k)) (fun i => n - (intOf i).toNat)
  case atStart => exact ⟨0, Nat.zero_le _, rfl, HR.out⟩
  case round =>
    obtain ⟨k, hk, rfl, hRk⟩ := hrel
    by_cases hkn : k < n
    · have f1 : (k : Int) < (n : Int) := by omega
      have f0 : (0 : Int) ≤ (k : Int) := by omega
      have ft : ((k : Int)).toNat = k := by omega
      obtain ⟨b, off, rfl, _, hcells⟩ := H.out.2.2.2.2.2 (by omega)
      have hc := hcells k hkn
      rw [drop_cons (by rw [HL.out]; exact hkn)] at hRk
      obtain ⟨z, hz⟩ : ∃ z, z = zs.getD k 0 := ⟨_, rfl⟩
      rw [← hz] at hc hRk
      have HRK := Lib.hid hRk
      clear hRk hz hcells HR
      by_cases h1 : z = 0
      · have hR5 := HRK.out
        rw [firstOf, if_pos h1] at hR5
        have HR5 := Lib.hid hR5
        subst h1
        clear hR5 HRK
        go_wp2
        go_round
        case rel => exact ⟨k + 1, by omega, by go_num, HR5.out⟩
        case measure => simp [intOf]; omega
      · have hR5 := HRK.out
        rw [firstOf, if_neg h1] at hR5
        subst hR5
        clear HRK
        go_wp2
        go_ret
        exact ⟨rfl, rfl⟩
    · have f1 : ¬ ((k : Int) < (n : Int)) := by omega
      have hd : zs.drop k = [] := List.drop_of_length_le (by rw [HL.out]; omega)
      rw [hd] at hRk
      have hRk : R = 0 := hRk
      subst hRk
      clear HR
      go_wp2
      go_ret
      exact ⟨rfl, rfl⟩
/-! ### view.compare -/
/-- A place. -/
structure RefD where
  tx : List UInt8
  place : Int
  hs : tx.length = 32
  hp : Fits place
def RefD.cells (x : RefD) : List Value := refCells x.tx x.place
def refCmp (x y : RefD) : Int := firstOf [Lib.compareBytes x.tx y.tx, Lib.compareInt x.place y.place]
theorem compareBytes_small : ∀ s t : List UInt8, Lib.compareBytes s t = 0 ∨ Lib.compareBytes s t = 1 ∨ Lib.compareBytes s t = -1
  | [], [] => by simp [Lib.compareBytes]
  | [], _ :: _ => by simp [Lib.compareBytes]
  | _ :: _, [] => by simp [Lib.compareBytes]
  | a :: s, b :: t => by
    have ih := compareBytes_small s t
    simp only [Lib.compareBytes]
    split
    · exact .inr (.inr rfl)
    · split
      · exact .inr (.inl rfl)
      · exact ih
theorem compareInt_small (p q : Int) : Lib.compareInt p q = 0 ∨ Lib.compareInt p q = 1 ∨ Lib.compareInt p q = -1 := by
  unfold Lib.compareInt
  split
  · exact .inr (.inr rfl)
  · split
    · exact .inr (.inl rfl)
    · exact .inl rfl
set_option linter.unusedSimpArgs false in
set_option maxRecDepth 100000 in
set_option maxHeartbeats 12800000 in
theorem compare_any (x y : RefD) (w : World) : Calls Try.prog 38 #[.agg x.cells.toArray, .agg y.cells.toArray] w fun e w' => e = .returned (.int .i64 (refCmp x y)) ∧ Grew w w' := by
  obtain ⟨s, p, hs, hp⟩ := x
  obtain ⟨t, q, ht, hq⟩ := y
  show Calls _ _ #[.agg (refCells s p).toArray, .agg (refCells t q).toArray] w _
  obtain ⟨R, hR⟩ : ∃ R, firstOf [Lib.compareBytes s t, Lib.compareInt p q] = R := ⟨_, rfl⟩
  have hR2 : refCmp ⟨s, p, hs, hp⟩ ⟨t, q, ht, hq⟩ = R := hR
  rw [hR2]
  clear hR2
  have fy : Fits (Lib.compareBytes s t) := by rcases compareBytes_small s t with h | h | h <;> rw [h] <;> constructor <;> decide
  have fz : Fits (Lib.compareInt p q) := by rcases compareInt_small p q with h | h | h <;> rw [h] <;> constructor <;> decide
  have hs1 : s.length = 32 := hs
  have ht1 : t.length = 32 := ht
  have b0 : Grew w ((w.alloc (.cells (refCells s p).toArray 32)).alloc (.cells (refCells t q).toArray 32)) := ((Grew.refl w).alloc _).alloc _
  have h1 : ((w.alloc (.cells (refCells s p).toArray 32)).alloc (.cells (refCells t q).toArray 32)).heap[w.heap.size]? = some (.cells (refCells s p).toArray 32 (0, 0)) := by
    rw [heap_alloc_old _ _ (by simp), heap_alloc_new]
  have h2 : ((w.alloc (.cells (refCells s p).toArray 32)).alloc (.cells (refCells t q).toArray 32)).heap[w.heap.size + 1]? = some (.cells (refCells t q).toArray 32 (0, 0)) := heap_alloc_at _ _ _ (by simp)
  clear hs ht hp hq
  go_enter Try.func38, Try.ntmps38
  go_upto_region 1 with (fail)
  revert b0 h1 h2
  generalize ((w.alloc (.cells (refCells s p).toArray 32)).alloc (.cells (refCells t q).toArray 32)) = w2
  obtain ⟨g1, hg1⟩ : ∃ g, g = w.heap.size := ⟨_, rfl⟩
  obtain ⟨g2, hg2⟩ : ∃ g, g = w.heap.size + 1 := ⟨_, rfl⟩
  rw [← hg2, ← hg1]
  intro b0 h1 h2
  have HB := Lib.hid b0
  have r1 : ∀ W, Grew w2 W → W.rangeAt g1 0 (refCells s p) := fun W hW => range_of (((hW.below).block _ (lt_of_block h1)).trans h1)
  have r2 : ∀ W, Grew w2 W → W.rangeAt g2 0 (refCells t q) := fun W hW => range_of (((hW.below).block _ (lt_of_block h2)).trans h2)
  have CA : Hid (∀ W, Grew w2 W → W.cell? ⟨g1, 32, none⟩ = some (.int .i64 p)) := Lib.hid (fun W hW => by have h9 := ref_at hs1 (r1 W hW); exact h9)
  have CB : Hid (∀ W, Grew w2 W → W.cell? ⟨g2, 32, none⟩ = some (.int .i64 q)) := Lib.hid (fun W hW => by have h9 := ref_at ht1 (r2 W hW); exact h9)
  obtain ⟨r, hr, hcon⟩ : ∃ r, Lib.compareBytes s t = r ∧ ∀ W, Grew w2 W → Calls Try.prog 49 #[.slice (some ⟨g1, 0, none⟩) 32 32, .slice (some ⟨g2, 0, none⟩) 32 32] W fun e w' => e = .returned (.int .i64 r) ∧ W = w' := ⟨_, rfl, fun W hW => bytesCompare_any hs1 ht1
    (fun j v hv => r1 W hW j v (by unfold refCells; rw [List.getElem?_append_left (List.getElem?_eq_some_iff.1 hv).1]; exact hv))
    (fun j v hv => r2 W hW j v (by unfold refCells; rw [List.getElem?_append_left (List.getElem?_eq_some_iff.1 hv).1]; exact hv))⟩
  rw [hr] at hR fy
  have BCC := Lib.hid hcon
  have FX := Lib.hid fy
  have FY := Lib.hid fz
  have HG := Lib.hid (Grew.refl w2)
  have HTR : Hid (∀ W, Grew w2 W → Grew w W) := Lib.hid (fun W hW => by
    obtain ⟨q1, o1, rfl⟩ := HB.out
    obtain ⟨q2, o2, rfl⟩ := hW
    exact ⟨q1 + q2, o1 ++ o2, by simp [grow, World.drewN, Nat.add_assoc, Array.append_assoc]⟩)
  have HR := Lib.hid hR
  clear b0 h1 h2 r1 r2 hr hcon fy fz hR hg1 hg2 HB hs1 ht1
  refine wp_region_held_drew (S := fun w' => Grew w2 w') (by kernel_rfl) (HG.out.drew) (fun hHeld => ?_)
  refine take_at (i := 0) (v := ?_) rfl rfl (by kernel_rfl) (by kernel_rfl) (by kernel_rfl) (fun _ _ _ h => h) (Or.inl ⟨by rfl, ?_⟩) (by assumption) ?_
  rotate_left
  · intro w0 hSw; (try dsimp only at hSw); first | (go_simp; done) | (go_simp; with_reducible rfl)
  simp only [List.setIfInBounds_toArray, List.set_cons_zero, List.set_cons_succ]
  refine take_at (i := 1) (v := ?_) rfl rfl (by kernel_rfl) (by kernel_rfl) (by kernel_rfl) (fun _ _ _ h => h) (Or.inl ⟨by rfl, ?_⟩) (by assumption) ?_
  rotate_left
  · intro w0 hSw; (try dsimp only at hSw); first | (go_simp; done) | (go_simp; with_reducible rfl)
  simp only [List.setIfInBounds_toArray, List.set_cons_zero, List.set_cons_succ]
  refine take_at (i := 2) (v := ?_) rfl rfl (by kernel_rfl) (by kernel_rfl) (by kernel_rfl) (fun _ _ _ h => h) (Or.inl ⟨by rfl, ?_⟩) (by assumption) ?_
  rotate_left
  · intro w0 hSw; (try dsimp only at hSw); first | (go_simp; done) | (go_simp; with_reducible rfl)
  simp only [List.setIfInBounds_toArray, List.set_cons_zero, List.set_cons_succ]
  refine take_at (i := 3) (v := ?_) rfl rfl (by kernel_rfl) (by kernel_rfl) (by kernel_rfl) (fun _ _ _ h => h) (Or.inl ⟨by rfl, ?_⟩) (by assumption) ?_
  rotate_left
  · intro w0 hSw; (try dsimp only at hSw); first | (go_simp; done) | (go_simp; with_reducible rfl)
  simp only [List.setIfInBounds_toArray, List.set_cons_zero, List.set_cons_succ]
  refine take_at (i := 5) (v := ?_) rfl rfl (by kernel_rfl) (by kernel_rfl) (by kernel_rfl) (fun _ _ _ h => h) (Or.inl ⟨by rfl, ?_⟩) (by assumption) ?_
  rotate_left
  · intro w0 hSw; (try dsimp only at hSw); first | (go_simp; done) | (go_simp; with_reducible rfl)
  simp only [List.setIfInBounds_toArray, List.set_cons_zero, List.set_cons_succ]
  refine take_at (i := 7) (v := ?_) rfl rfl (by kernel_rfl) (by kernel_rfl) (by kernel_rfl) (fun _ _ _ h => h) (Or.inl ⟨by rfl, ?_⟩) (by assumption) ?_
  rotate_left
  · intro w0 hSw; (try dsimp only at hSw); first | (go_simp; done) | (go_simp; with_reducible rfl)
  simp only [List.setIfInBounds_toArray, List.set_cons_zero, List.set_cons_succ]
  refine take_at (i := 6) rfl rfl (by kernel_rfl) (by kernel_rfl) (by kernel_rfl) (fun _ _ _ h => h) (yields_cell (b := g1) (o := 32) (by rfl) rfl rfl (fun w0 hSw => CA.out w0 hSw) (fun w0 => Try.isAgg3 w0)) (by assumption) ?_
  simp only [List.setIfInBounds_toArray, List.set_cons_zero, List.set_cons_succ]
  refine take_at (i := 8) rfl rfl (by kernel_rfl) (by kernel_rfl) (by kernel_rfl) (fun _ _ _ h => h) (yields_cell (b := g2) (o := 32) (by rfl) rfl rfl (fun w0 hSw => CB.out w0 hSw) (fun w0 => Try.isAgg3 w0)) (by assumption) ?_
  simp only [List.setIfInBounds_toArray, List.set_cons_zero, List.set_cons_succ]
  refine wpAnyH_ready (rs := [4]) (by kernel_rfl) (by simp) ?_
  refine AllReadyH.cons rfl (fun K hK => ?_) ?_
  · go_simp
    refine (BCC.out _ hHeld).mono ?_
    rintro e w5 ⟨rfl, rfl⟩
    dsimp only
    refine hK.out _ _ (by (try dsimp only); exact hHeld) (fun hHeld => ?_)
    clear hK K
    refine wpAnyH_ready (rs := [9]) (by kernel_rfl) (by simp) ?_
    refine AllReadyH.cons rfl (fun K hK => ?_) ?_
    · go_simp
      refine (Try.cmp_Compare_int p q _).mono ?_
      rintro e w6 ⟨rfl, rfl⟩
      dsimp only
      refine hK.out _ _ (by (try dsimp only); exact hHeld) (fun hHeld => ?_)
      clear hK K
      refine wpAnyH_ready (rs := [10]) (by kernel_rfl) (by simp) ?_
      refine AllReadyH.cons rfl (fun K hK => ?_) ?_
      · refine step_two9 rfl (by rfl) rfl rfl rfl ?_
        refine hK.out _ _ (by (try dsimp only); exact hHeld.alloc _) (fun hHeld => ?_)
        clear hK K
        refine wpAnyH_ready (rs := [11]) (by kernel_rfl) (by simp) ?_
        refine AllReadyH.cons rfl (fun K hK => ?_) ?_
        · go_simp
          refine Calls.mono (or_any (zs := [r, Lib.compareInt p q]) ?nn) ?_
          case nn => exact numbers_two (heap_alloc_new _ _) FX.out FY.out
          rintro e w7 ⟨rfl, rfl⟩
          dsimp only
          refine hK.out _ _ (by (try dsimp only); exact hHeld) (fun hHeld => ?_)
          clear hK K
          refine take_at (i := 12) (v := ?_) rfl rfl (by kernel_rfl) (by kernel_rfl) (by kernel_rfl) (fun _ _ _ h => h) (Or.inl ⟨by rfl, ?_⟩) (by assumption) ?_
          rotate_left
          · intro w0 hSw; (try dsimp only at hSw); first | (go_simp; done) | (go_simp; with_reducible rfl)
          simp only [List.setIfInBounds_toArray, List.set_cons_zero, List.set_cons_succ]
          refine wpAnyH_done (by kernel_rfl) ?_ _
          go_wp2_with fail
          go_ret
          have e9 := HR.out
          subst e9
          exact ⟨rfl, HTR.out _ hHeld⟩
        exact AllReadyH.nil
      exact AllReadyH.nil
    exact AllReadyH.nil
  exact AllReadyH.nil

end Go.Proofs.Ytdeilkpcmgcbaaa
