/- maps.Keys at a map by places: its iterator, for every loop body that keeps its word. -/
import Derived.Test.YtdeilkpcmgcbaaaCompare9
import Derived.Test.YtdeilkpcmgcbaaaMapRef
import Derived.Shelf.SlIter.Collect
namespace Go.Proofs.Ytdeilkpcmgcbaaa
open Go.RowKit Go.Maps

/-! ### Steps inside a fence -/
section
variable {F : Fence} {n : Nat} {P : Program} {ops : Array Oper} {rest : List Oper} {o : Oper} {a : Act} {w : World} {Q : Exit → Act → World → Prop}
theorem wpListIn_run {v : Value} {w' : World} (hg : o.guard = none) (hab : o.about P w a.eval = none) (hnd : ∀ c, o.op ≠ .defer c) (hrun : (execOp a.eval o).run P w = .ok (.value v) w')
    (h : wpListIn F n P ops Q rest (a.put o.dst v) w') : wpListIn F n P ops Q (o :: rest) a w := by
  refine wpListIn_plain hg fun K hK => ?_
  unfold Oper.wpIn
  refine ⟨fun f hf => (by rw [hab] at hf; cases hf), ?_⟩
  rw [Oper.semAt_plain F _ _ hnd, hrun]
  exact hK _ _ h
theorem wpListIn_run_skip {w' : World} (hg : o.guard = none) (hab : o.about P w a.eval = none) (hnd : ∀ c, o.op ≠ .defer c) (hrun : (execOp a.eval o).run P w = .ok .skip w')
    (h : wpListIn F n P ops Q rest (a.put o.dst undef) w') : wpListIn F n P ops Q (o :: rest) a w := by
  refine wpListIn_plain hg fun K hK => ?_
  unfold Oper.wpIn
  refine ⟨fun f hf => (by rw [hab] at hf; cases hf), ?_⟩
  rw [Oper.semAt_plain F _ _ hnd, hrun]
  exact hK _ _ h
theorem wpListIn_load_row9 (hg : o.guard = none) (ty : TypeId) (x : Operand) (ho : o.op = .load ty x)
    (g : Nat) (hx : a.eval x = .pointer (some ⟨g, 0, none⟩)) (t : TypeId) (cs : Array Value) (fr : Nat × Nat) (d : TypeDesc) (hc : w.heap[g]? = some (.cells cs t fr))
    (hu : P.underlying ty = some d) (hd : (match d with | .struct _ | .array _ _ => true | _ => false) = true) (hi : (P.info? ty).map (·.size) = some cs.size)
    (h : wpListIn F n P ops Q rest (a.put o.dst (.agg cs)) w) : wpListIn F n P ops Q (o :: rest) a w :=
  wpListIn_run hg (by simp [Oper.about, ho]) (by rw [ho]; intro c e; cases e) (by unfold execOp; simp only [ho, hx, Instr.loadAt, Instr.sureAddr, Sem.run_bind, Sem.run_pure, Result.andThen_ok, run_loadVar_row w g t ty cs fr d hc hu hd hi]) h
theorem wpListIn_store_row9 (hg : o.guard = none) (ty : TypeId) (x y : Operand) (ho : o.op = .store ty x y)
    (g : Nat) (cells : Array Value) (hx : a.eval x = .pointer (some ⟨g, 0, none⟩)) (hy : a.eval y = .agg cells)
    (t : TypeId) (old : Array Value) (hc : w.heap[g]? = some (.cells old t (0, 0))) (hi : (P.info? ty).map (·.size) = some cells.size)
    (hold : old.size = cells.size) (h1 : cells.all (·.oneCell') = true)
    (h : wpListIn F n P ops Q rest (a.put o.dst undef) (w.setRow g cells)) : wpListIn F n P ops Q (o :: rest) a w :=
  wpListIn_run_skip hg (by simp [Oper.about, ho]) (by rw [ho]; intro c e; cases e) (by unfold execOp; simp only [ho, hx, hy, Instr.storeAt, Instr.sureAddr, Sem.run_bind, Sem.run_pure, Result.andThen_ok, run_storeVar_row w g t ty old cells hc hi hold h1]) h
end

/-! ### Places as keys -/
theorem mapM_get {α β : Type} {f : α → Option β} : ∀ {l : List α} {r : List β}, l.mapM f = some r → ∀ x ∈ l, ∃ y, f x = some y
  | [], _, _, _, hx => by cases hx
  | a :: l, r, h, x, hx => by
    rw [List.mapM_cons] at h
    cases h1 : f a with
    | none => rw [h1] at h; cases h
    | some y =>
      rw [h1] at h
      cases h2 : l.mapM f with
      | none => rw [h2] at h; cases h
      | some r' =>
        rcases List.mem_cons.1 hx with rfl | hx
        · exact ⟨y, h1⟩
        · exact mapM_get h2 x hx
theorem byte_back {d : Nat} {v : Value} {r : List Lit} (h : Try.prog.keyLits d 5 [v] = some r) : ∃ b : UInt8, v = .int .u8 ((b.toNat : Nat) : Int) := by
  cases d with
  | zero => cases h
  | succ d =>
    unfold Program.keyLits at h
    simp only [Try.underlying5] at h
    cases v with
    | int q x =>
      simp only at h
      split at h
      · rename_i hq
        obtain ⟨rfl, hw⟩ := hq
        have h1 : IntKind.u8.min = 0 := by decide
        have h2 : IntKind.u8.max = 255 := by decide
        simp [Lit.wf, h1, h2] at hw
        refine ⟨UInt8.ofNat x.toNat, ?_⟩
        rw [UInt8.toNat_ofNat']
        have h3 : x.toNat % 2 ^ 8 = x.toNat := Nat.mod_eq_of_lt (by omega)
        rw [h3]
        congr 1
        omega
      · cases h
    | _ => cases h
theorem int_back {d : Nat} {v : Value} {r : List Lit} (h : Try.prog.keyLits d 3 [v] = some r) : ∃ z : Int, v = .int .i64 z ∧ Fits z := by
  cases d with
  | zero => cases h
  | succ d =>
    unfold Program.keyLits at h
    simp only [Try.underlying3] at h
    cases v with
    | int q x =>
      simp only at h
      split at h
      · rename_i hq
        obtain ⟨rfl, hw⟩ := hq
        have h1 : IntKind.i64.min = -9223372036854775808 := by decide
        have h2 : IntKind.i64.max = 9223372036854775807 := by decide
        simp [Lit.wf, h1, h2] at hw
        exact ⟨x, rfl, hw.1, hw.2⟩
      · cases h
    | _ => cases h
theorem cells_back : ∀ (vs : List Value), (∀ v ∈ vs, ∃ b : UInt8, v = .int .u8 ((b.toNat : Nat) : Int)) → ∃ s : List UInt8, vs = cellsOf s ∧ s.length = vs.length
  | [], _ => ⟨[], rfl, rfl⟩
  | v :: vs, h => by
    obtain ⟨b, rfl⟩ := h v (by simp)
    obtain ⟨s, rfl, hs⟩ := cells_back vs (fun x hx => h x (by simp [hx]))
    exact ⟨b :: s, rfl, by simp [hs]⟩
theorem sum_back {d : Nat} {cs : List Value} {r : List Lit} (hl : cs.length = 32) (h : Try.prog.keyLits d 30 cs = some r) : ∃ s : List UInt8, s.length = 32 ∧ cs = cellsOf s := by
  have hc1 : Try.prog.cellsOf 5 = 1 := by kernel_rfl
  cases d with
  | zero => cases h
  | succ d =>
    unfold Program.keyLits at h
    simp only [Try.underlying30] at h
    split at h
    · cases hm : (List.range 32).mapM (fun i => Try.prog.keyLits d 5 ((cs.drop (i * Try.prog.cellsOf 5)).take (Try.prog.cellsOf 5))) with
      | none => rw [hm] at h; cases h
      | some rr =>
        obtain ⟨s, hs, hsl⟩ := cells_back cs (fun v hv => by
          obtain ⟨i, hi, rfl⟩ := List.getElem_of_mem hv
          obtain ⟨y, hy⟩ := mapM_get hm i (List.mem_range.2 (by omega))
          rw [hc1, Nat.mul_one, List.drop_eq_getElem_cons hi] at hy
          exact byte_back (d := d) (r := y) hy)
        exact ⟨s, by omega, hs⟩
    · cases h
theorem key_ref_back {v : Value} {l : Lit} (h : keyOf Try.prog 32 v = some l) : ∃ x : RefD, v = .agg x.cells.toArray := by
  have hc : Try.prog.cellsOf 32 = 33 := by kernel_rfl
  have hcs : Try.prog.cellsOf 30 = 32 := by kernel_rfl
  have hci : Try.prog.cellsOf 3 = 1 := by kernel_rfl
  unfold keyOf at h
  simp only [Try.underlying32] at h
  split at h
  · rename_i hk
    have hf : v.formed Try.prog 32 = true := by
      cases hh : v.formed Try.prog 32 with
      | true => rfl
      | false => rw [hh] at hk; simp at hk
    cases hl : Try.prog.keyLits (Try.prog.types.size + 1) 32 v.cells.toList with
    | none => rw [hl] at h; cases h
    | some ls =>
      cases v with
      | agg cs =>
        have hcl : cs.toList.length = 33 := by
          simp [Value.formed, Try.underlying32, hc] at hf
          simpa using hf
        have e0 : (Value.agg cs).cells.toList = cs.toList := rfl
        rw [e0] at hl
        unfold Program.keyLits at hl
        simp only [Try.underlying32] at hl
        split at hl
        · cases hm : (List.mapM (fun f : Field => Try.prog.keyLits Try.prog.types.size f.type ((cs.toList.drop f.offset).take (Try.prog.cellsOf f.type))) [{ name := "Tx", type := 30, offset := 0, embedded := false, tag := "", pkgPath := "", byteOffset := 0 }, { name := "At", type := 3, offset := 32, embedded := false, tag := "", pkgPath := "", byteOffset := 32 }]) with
          | none =>
            have : (List.mapM (fun f : Field => Try.prog.keyLits Try.prog.types.size f.type ((cs.toList.drop f.offset).take (Try.prog.cellsOf f.type))) [{ name := "Tx", type := 30, offset := 0, embedded := false, tag := "", pkgPath := "", byteOffset := 0 }, { name := "At", type := 3, offset := 32, embedded := false, tag := "", pkgPath := "", byteOffset := 32 }]).map List.flatten = some ls := hl
            rw [hm] at this
            cases this
          | some rr =>
            obtain ⟨y1, h1⟩ := mapM_get hm { name := "Tx", type := 30, offset := 0, embedded := false, tag := "", pkgPath := "", byteOffset := 0 } (by simp)
            obtain ⟨y2, h2⟩ := mapM_get hm { name := "At", type := 3, offset := 32, embedded := false, tag := "", pkgPath := "", byteOffset := 32 } (by simp)
            simp only [hcs, hci, List.drop_zero] at h1 h2
            obtain ⟨s, hs, hs2⟩ := sum_back (by rw [List.length_take]; omega) h1
            have h3 : cs.toList.drop 32 = [cs.toList[32]'(by omega)] := by
              rw [List.drop_eq_getElem_cons (by omega), List.drop_of_length_le (by omega)]
            rw [h3] at h2
            obtain ⟨z, hz, hzf⟩ := int_back h2
            refine ⟨⟨s, z, hs, hzf⟩, ?_⟩
            apply congrArg Value.agg
            apply Array.toList_inj.1
            show cs.toList = refCells s z
            have e9 := List.take_append_drop 32 cs.toList
            rw [h3, hz, hs2] at e9
            exact e9.symm
        · cases hl
      | _ => simp [Value.formed, Try.underlying32] at hf
  · cases h
theorem refD_key (x : RefD) : ∃ l, keyOf Try.prog 32 (.agg x.cells.toArray) = some l := key_ref x.hs x.hp
theorem refD_inj {x y : RefD} (h : x.cells = y.cells) : x = y := by
  obtain ⟨s, p, hs, hp⟩ := x
  obtain ⟨t, q, ht, hq⟩ := y
  have h9 : refCells s p = refCells t q := h
  unfold refCells at h9
  have hs' : s.length = 32 := hs
  have ht' : t.length = 32 := ht
  have h8 := List.append_inj h9 (by rw [cellsOf_len, cellsOf_len, hs', ht'])
  have h7 : p = q := by simpa using h8.2
  have h6 := cellsOf_same h8.1
  subst h7 h6
  rfl
/-! ### What has come -/
/-- The places that have come are those of the map that are no longer to come; none twice. -/
def Come (D : DataW Value) (left : Lit → Bool) (ss : List RefD) : Prop :=
  ss.Nodup ∧ ∀ (x : RefD) (l : Lit), keyOf Try.prog 32 (.agg x.cells.toArray) = some l → (x ∈ ss ↔ Maps.has D l = true ∧ left l = false)
theorem Come.start (D : DataW Value) : Come D (Maps.has D) [] := ⟨List.nodup_nil, fun x l _ => by cases Maps.has D l <;> simp⟩
theorem Come.step {D : DataW Value} {left : Lit → Bool} {ss : List RefD} {x : RefD} {l : Lit} (h : Come D left ss) (hk : keyOf Try.prog 32 (.agg x.cells.toArray) = some l) (hl : left l = true) (hd : Maps.has D l = true) : Come D (fun z => left z && !z.sameKey l) (ss ++ [x]) := by
  have hx : x ∉ ss := fun e => by
    have h9 := ((h.2 x l hk).1 e).2
    rw [hl] at h9
    cases h9
  refine ⟨List.nodup_append.2 ⟨h.1, by simp, fun a ha b hb e => by
    simp at hb
    subst hb
    subst e
    exact hx ha⟩, fun y k hy => ?_⟩
  by_cases e : y = x
  · subst e
    obtain rfl : k = l := Option.some.inj (hy.symm.trans hk)
    have h9 : k.sameKey k = true := WideAt.sameKey_self (Try.keyRef.key hk)
    simp [hd, h9]
  · have hne : k ≠ l := fun e2 => by
      subst e2
      have h9 := Try.keyRef.inj hy hk
      simp at h9
      exact e (refD_inj h9)
    have h9 : k.sameKey l = false := Maps.sameKey_ne hne
    simp only [List.mem_append, List.mem_singleton, e, or_false, h9, Bool.not_false, Bool.and_true]
    exact h.2 y k hy
theorem Come.done {D : DataW Value} {left : Lit → Bool} {ss : List RefD} (h : Come D left ss) (hl : ∀ k, left k = false) (x : RefD) {l : Lit} (hk : keyOf Try.prog 32 (.agg x.cells.toArray) = some l) : x ∈ ss ↔ Maps.has D l = true := by
  rw [h.2 x l hk, hl]
  simp

/-- A variable that holds a place, made anew. -/
def noRef : RefD := ⟨zero32, 0, by decide, by constructor <;> decide⟩
instance : Inhabited RefD := ⟨noRef⟩
theorem RefD.len (x : RefD) : x.cells.length = 33 := refCells_len x.hs
theorem refD_size (x : RefD) : (Try.prog.info? 32).map (·.size) = some x.cells.toArray.size := by rw [List.size_toArray, RefD.len]; exact Try.sizeRef
theorem refD_zero (x : RefD) : noRef.cells.toArray.size = x.cells.toArray.size := by rw [List.size_toArray, List.size_toArray, RefD.len, RefD.len]
theorem RefD.one (x : RefD) : ∀ v ∈ x.cells, v.oneCell' = true := by
  intro v hv
  unfold RefD.cells refCells at hv
  rcases List.mem_append.1 hv with hv | hv
  · exact cellsOf_one _ v hv
  · simp at hv
    subst hv
    rfl
def layRef (w : World) (x : RefD) : World := (w.alloc (.cells noRef.cells.toArray 32)).setRow w.heap.size x.cells.toArray
theorem layRef_is (w : World) (x : RefD) : (w.alloc (.cells noRef.cells.toArray 32)).setRow w.heap.size x.cells.toArray = layRef w x := rfl
theorem layRef_heap (w : World) (x : RefD) : (layRef w x).heap[w.heap.size]? = some (.cells x.cells.toArray 32 (0, 0)) := setRow_heap _ _ _ _ _ _ (heap_alloc_new _ _)
theorem layRef_size (w : World) (x : RefD) : (layRef w x).heap.size = w.heap.size + 1 := by simp [layRef, World.setRow]
theorem layRef_old (w : World) (x : RefD) {k : Nat} (hk : k < w.heap.size) : (layRef w x).heap[k]? = w.heap[k]? := by
  unfold layRef
  rw [setRow_other _ _ _ _ (by omega), heap_alloc_old _ _ hk]
theorem layRef_grown (w : World) (x : RefD) (r : Option Nat) : w.grownBy (layRef w x) r :=
  ⟨rfl, rfl, rfl, by rw [layRef_size]; omega, fun k hk _ => layRef_old w x hk⟩
theorem layRef_walks (w : World) (x : RefD) : KeepsWalks w (layRef w x) :=
  ⟨by rw [layRef_size]; omega, fun k o hk _ => (layRef_old w x (Array.getElem?_eq_some_iff.1 hk).1).trans hk⟩

/-- Its store, behind its making. -/
theorem wpListIn_layRef {F : Fence} {n : Nat} {ops : Array Oper} {rest : List Oper} {o : Oper} {a : Act} {w : World} {Q : Exit → Act → World → Prop} (hg : o.guard = none) (u v : Operand) (ho : o.op = .store 32 u v) (w0 : World) (x : RefD)
    (hx : a.eval u = .pointer (some ⟨w0.heap.size, 0, none⟩)) (hy : a.eval v = .agg x.cells.toArray) (hw : w = w0.alloc (.cells noRef.cells.toArray 32))
    (h : wpListIn F n Try.prog ops Q rest (a.put o.dst undef) (layRef w0 x)) : wpListIn F n Try.prog ops Q (o :: rest) a w := by
  subst hw
  exact wpListIn_store_row9 hg 32 u v ho w0.heap.size x.cells.toArray hx hy 32 noRef.cells.toArray (heap_alloc_new _ _) (refD_size x) (refD_zero x) (all_oneCell_toArray x.one) h

/-! ### The iterator -/
def KeysOf (F : List UInt8 → Int → Option Value) (ss : List RefD) : Prop := ss.Nodup ∧ ∀ x : RefD, x ∈ ss ↔ F x.tx x.place ≠ none
set_option linter.unusedSimpArgs false in
set_option maxRecDepth 100000 in
set_option maxHeartbeats 12800000 in
theorem keys1_in {Fm : List UInt8 → Int → Option Value} (F : Fence) (n : Nat) (hf : F.fn 47) (hro : F.round = none) (hn : 1 ≤ n) (l Bm b N m : Nat) (J : List RefD → World → Prop)
    (hY : ∀ pre x W, J pre W → pre.length < m → YieldAt F (n - 1) Try.prog l #[.agg x.cells.toArray] W fun e W' => e = .returned (.bool true) ∧ J (pre ++ [x]) W' ∧ KeepsWalks W W')
    (W : World) (hJ : AbidesFrom W.heap.size J) (hm : W.cell? ⟨Bm, 0, none⟩ = some (.map (some b))) (hown : MapRef W b N m Fm) (h0 : J [] W) :
    CallsIn F n Try.prog 47 #[.func (.yield l) #[] #[], .pointer (some ⟨Bm, 0, none⟩)] W fun e W' => (∃ v, e = .returned v) ∧ ∃ ss : List RefD, (KeysOf Fm ss ∧ ss.length ≤ m) ∧ J ss W' := by
  obtain ⟨D, hD, hsz, hF⟩ := hown
  have h1 : 1 ≤ n - 1 + 1 := by omega
  refine callsIn_of_wp Try.func47 rfl hf ?_ hro
  simp only [Try.ntmps47, List.size_toArray, List.length_cons, List.length_nil, Nat.reduceAdd, Nat.reduceSub, Array.replicate_succ, Array.replicate_zero, List.push_toArray, List.append_toArray, List.nil_append, List.cons_append]
  gi_wp2_with (first
    | (gi_at_range; refine wpListIn_range_own _ rfl _ 49 rfl 32 41 Try.keyRef Try.underlying49 _ b N _ rfl hD ?_; intro w0 hrg0 hg0 hs0)
    | gi_in)
  go_frame
  gi_loopw [3] (fun _ wr => ∃ (left : Lit → Bool) (cnt : Nat) (ss : List RefD), wr.ranges Try.prog 32 heldR b W.heap.size N D left cnt ∧ ss.length + cnt ≤ Maps.size D ∧ Come D left ss ∧ J ss wr)
    (fun _ wr => wr.rangeLeft b W.heap.size)
  case atStart =>
    exact ⟨_, _, [], hrg0, by simp, Come.start D, hJ [] W w0 none h0 hg0 (fun r e => by cases e)⟩
  case round =>
    obtain ⟨left, cnt, ss, hrg, hcs, hC, hJs⟩ := hrel
    gi_wp2_with (first
      | (gi_at_next; refine wpListIn_next_ranges _ rfl _ rfl 32 Try.keyRef heldR (fun x : RefD => .agg x.cells.toArray) id (fun key kl hk => key_ref_back hk) (fun v _ _ => ⟨v, rfl⟩) b W.heap.size N _ _ _ rfl hrg ?_ ?_)
      | gi_in)
    · intro hc0 hl0
      gi_wp2
      go_end0
      refine ⟨⟨_, rfl⟩, ss, ⟨⟨hC.1, fun x => ?_⟩, by omega⟩, hJs⟩
      obtain ⟨k, hk⟩ := refD_key x
      rw [hC.done hl0 x hk]
      have hv := hF x.tx x.place k x.hs x.hp hk
      cases hfx : Fm x.tx x.place with
      | none =>
        rw [hfx] at hv
        rw [has_false_of_atKey hv]
        simp
      | some v =>
        rw [hfx] at hv
        rw [has_true_of_atKey hv]
        simp
    · intro x c kl yd yp w2 cnt2 hkey hlk hv hat hrg2 hlt hg2 hs2 hen
      have hJ2 : J ss w2 := hJ ss wr w2 (some W.heap.size) hJs hg2 (fun r e => by cases e; exact ⟨Nat.le_refl _, hrg.iter_walk⟩)
      have hJ3 : J ss (layRef w2 x) := hJ ss w2 _ none hJ2 (layRef_grown w2 x none) (fun r e => by cases e)
      obtain ⟨fn, tmps, assign, body, hy, hR⟩ := hY ss x (layRef w2 x) hJ3 (by omega)
      have hh := layRef_heap w2 x
      have hrg3 := hrg2.of_walks (layRef_walks w2 x)
      have hC2 := hC.step hkey hlk (has_true_of_atKey hat)
      clear hs2 hg2
      gi_wp2_with (first
        | (refine wpListIn_layRef rfl _ _ rfl w2 x rfl rfl rfl ?_)
        | (refine wpListIn_load_row9 rfl 32 _ rfl w2.heap.size rfl 32 x.cells.toArray (0, 0) _ hh Try.underlying32 rfl (refD_size x) ?_)
        | gi_in)
      refine hR.mono ?_
      rintro e W3 ⟨rfl, hJ4, hk3⟩
      gi_wp2
      have hrg4 := hrg3.of_walks hk3
      go_roundw
      case rel => exact ⟨_, cnt2, ss ++ [x], hrg4, by simp; omega, hC2, hJ4⟩
      case measure => rw [hrg4.left_eq, hrg.left_eq]; exact hlt
theorem keys_gives {Fm : List UInt8 → Int → Option Value} (F : Fence) (n : Nat) (hf : F.fn 47) (hro : F.round = none) (hn : 1 ≤ n) (Bm b N m : Nat) (w : World) (hBm : Bm < w.heap.size)
    (hm : w.cell? ⟨Bm, 0, none⟩ = some (.map (some b))) (hown : MapRef w b N m Fm) :
    SeqGives F n Try.prog 47 #[.pointer (some ⟨Bm, 0, none⟩)] (fun x : RefD => .agg x.cells.toArray) (fun ss => KeysOf Fm ss ∧ ss.length ≤ m) m w := fun l J W hW hJ hY h0 =>
  keys1_in F n hf hro hn l Bm b N m J hY W hJ ((hW.cell (p := ⟨Bm, 0, none⟩) hBm).trans hm) (hown.below hW) h0
set_option linter.unusedSimpArgs false in
set_option maxRecDepth 100000 in
set_option maxHeartbeats 12800000 in
theorem keys1_nil_in (F : Fence) (n : Nat) (hf : F.fn 47) (hro : F.round = none) (l Bm : Nat) (J : List RefD → World → Prop) (W : World) (hJ : AbidesFrom W.heap.size J)
    (hm : W.cell? ⟨Bm, 0, none⟩ = some (.map none)) (h0 : J [] W) :
    CallsIn F n Try.prog 47 #[.func (.yield l) #[] #[], .pointer (some ⟨Bm, 0, none⟩)] W fun e W' => (∃ v, e = .returned v) ∧ ∃ ss : List RefD, ss = [] ∧ J ss W' := by
  have hrg := run_range_nilMap (P := Try.prog) W 49 32 41 Try.underlying49
  have hnx : ∀ ty, (Instr.next (.pointer (some ⟨W.heap.size, 0, none⟩)) false ty).run Try.prog (W.alloc (.mapIter none 0 #[] 0)) = _ := fun ty => run_next_nilMap _ ty 0 0 #[]
  refine callsIn_of_wp Try.func47 rfl hf ?_ hro
  simp only [Try.ntmps47, List.size_toArray, List.length_cons, List.length_nil, Nat.reduceAdd, Nat.reduceSub, Array.replicate_succ, Array.replicate_zero, List.push_toArray, List.append_toArray, List.nil_append, List.cons_append]
  gi_wp2
  refine wpIn_loop_rounds 1 ?_
  rw [roundsIn_succ]
  gi_wp2
  go_end0
  exact ⟨⟨_, rfl⟩, [], rfl, hJ [] W _ none h0 (World.grownBy_alloc W _ none) (fun r e => by cases e)⟩
theorem keys_gives_nil (F : Fence) (n : Nat) (hf : F.fn 47) (hro : F.round = none) (Bm : Nat) (w : World) (hBm : Bm < w.heap.size) (hm : w.cell? ⟨Bm, 0, none⟩ = some (.map none)) :
    SeqGives F n Try.prog 47 #[.pointer (some ⟨Bm, 0, none⟩)] (fun x : RefD => .agg x.cells.toArray) (fun ss : List RefD => ss = []) 0 w := fun l J W hW hJ _ h0 =>
  keys1_nil_in F n hf hro l Bm J W hJ ((hW.cell (p := ⟨Bm, 0, none⟩) hBm).trans hm) h0
set_option linter.unusedSimpArgs false in
set_option maxRecDepth 100000 in
set_option maxHeartbeats 12800000 in
theorem keys_any (mb : Option Nat) (w : World) : Calls Try.prog 37 #[.map mb] w fun e w' => e = .returned (.func (.func 47) #[] #[.pointer (some ⟨w.heap.size, 0, none⟩)]) ∧ w' = w.alloc (.cells #[.map mb] 49) := by
  go_enter Try.func37, Try.ntmps37
  go_wp2
  go_ret
  exact ⟨rfl, rfl⟩
end Go.Proofs.Ytdeilkpcmgcbaaa
