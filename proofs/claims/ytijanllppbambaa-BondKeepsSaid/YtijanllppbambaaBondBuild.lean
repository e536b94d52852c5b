/- Towers, holds and channels built; two alike compared. No function of the program is named. -/
import Derived.Test.YtijanllppbambaaBondMem
import Derived.Test.YtijanllppbambaaBondLaws
namespace Go.Proofs.Ytijanllppbambaa
open Go.RowKit

/-! ### Builds -/
theorem foldl_spl (off : Nat) : ∀ (vs : List Value) (s : Nat) (Z : List Value), (vs.zipIdx s).foldl (fun cs (x : Value × Nat) => cs.setIfInBounds (off + x.2) x.1) Z.toArray = (spl Z (off + s) vs).toArray
  | [], _, _ => rfl
  | v :: vs, s, Z => by
    have ih := foldl_spl off vs (s + 1) (Z.set (off + s) v)
    rw [List.zipIdx_cons, List.foldl_cons]
    show List.foldl _ (Z.toArray.setIfInBounds (off + s) v) _ = _
    rw [List.setIfInBounds_toArray, ih]
    rfl
theorem fill_step {place : Nat → Option (Nat × Nat)} {i off n : Nat} {v : Value} {rest : List (Nat × Value)} {Z vs : List Value} (hp : place i = some (off, n)) (hc : v.cells = vs.toArray) (hv : vs.length = n) (hZ : off + n ≤ Z.length) :
    Instr.fill place Z.toArray ((i, v) :: rest) = Instr.fill place (spl Z off vs).toArray rest := by
  have e := foldl_spl off vs 0 Z
  rw [Nat.add_zero] at e
  have e2 : v.cells.zipIdx.foldl (fun cs (x : Value × Nat) => cs.setIfInBounds (off + x.2) x.1) Z.toArray = (spl Z off vs).toArray := by
    rw [hc, ← Array.foldl_toList, Array.toList_zipIdx]
    exact e
  conv => lhs; unfold Instr.fill
  simp only [hp]
  rw [if_neg (by rw [hc]; simp; omega)]
  exact congrArg (fun z => Instr.fill place z rest) e2
/-- A struct's build, out of the table of its fields. -/
theorem run_build_of {P : Program} {t : TypeId} {fs : Array Field} {pl : Array (Nat × Nat)} {Z : List Value} {sz by' : Nat} {parts : Array (Nat × Value)} {cs : List Value} (hu : P.underlying t = some (.struct fs)) (hm : ∀ w : World, ((fs.mapM fun (f : Field) => do pure (f.offset, ← sizeOf f.type)) : Sem (Array (Nat × Nat))).run P w = .ok pl w)
    (hi : (P.info? t).map (fun i => (i.zero, i.size, i.bytes)) = some (some (.agg Z.toArray), sz, by')) (hf : Instr.fill (pl[·]?) Z.toArray parts.toList = some cs.toArray) (w : World) : (Instr.build t parts).run P w = .ok (.agg cs.toArray) w := by
  obtain ⟨ie, h1, h2, _, _⟩ := info_parts hi
  have hz : (zeroValue t).run P w = .ok (.agg Z.toArray) w := by simp [zeroValue, typeInfo, h1, h2]
  unfold Instr.build
  simp only [Sem.run_bind, hz, Result.andThen_ok, run_underlying hu, hm w]
  rw [show (Value.agg Z.toArray).cells = Z.toArray from rfl]
  simp only [hf]
  rfl
theorem Try.towFields : ∃ fs, Try.prog.underlying 67 = some (.struct fs) ∧ ∀ w : World, ((fs.mapM fun (f : Field) => do pure (f.offset, ← sizeOf f.type)) : Sem (Array (Nat × Nat))).run Try.prog w = .ok #[(0, 32), (32, 1), (33, 1), (34, 1)] w := ⟨_, Try.underlying67, fun w => by kernel_rfl⟩
theorem Try.holdFields : ∃ fs, Try.prog.underlying 53 = some (.struct fs) ∧ ∀ w : World, ((fs.mapM fun (f : Field) => do pure (f.offset, ← sizeOf f.type)) : Sem (Array (Nat × Nat))).run Try.prog w = .ok #[(0, 39), (39, 1), (40, 1), (41, 1), (42, 32)] w := ⟨_, Try.underlying53, fun w => by kernel_rfl⟩
theorem Try.teFields : ∃ fs, Try.prog.underlying 71 = some (.struct fs) ∧ ∀ w : World, ((fs.mapM fun (f : Field) => do pure (f.offset, ← sizeOf f.type)) : Sem (Array (Nat × Nat))).run Try.prog w = .ok #[(0, 1), (1, 35)] w := ⟨_, Try.underlying71, fun w => by kernel_rfl⟩
theorem Try.heFields : ∃ fs, Try.prog.underlying 73 = some (.struct fs) ∧ ∀ w : World, ((fs.mapM fun (f : Field) => do pure (f.offset, ← sizeOf f.type)) : Sem (Array (Nat × Nat))).run Try.prog w = .ok #[(0, 1), (1, 74)] w := ⟨_, Try.underlying73, fun w => by kernel_rfl⟩
theorem tow_zero_parts : noTow.cells = cellsOf zero32 ++ ([.int .i64 0, .int .i64 0, .int .i64 0] : List Value) := rfl
theorem spl_head {us bs cs : List Value} (h : us.length = bs.length) : spl (us ++ cs) 0 bs = bs ++ cs := by
  have h9 := spl_mid bs us [] cs h
  simpa using h9
theorem spl_at {k : Nat} {cs us bs es : List Value} (hk : k = cs.length) (h : us.length = bs.length) : spl (cs ++ (us ++ es)) k bs = cs ++ (bs ++ es) := by
  subst hk
  exact spl_mid bs us cs es h
/-- A root alone. -/
theorem build_tow1 {s : List UInt8} (hs : s.length = 32) (w : World) : (Instr.build 67 #[(0, .agg (cellsOf s).toArray)]).run Try.prog w = .ok (.agg (PTow.cells ⟨s, 0, 0, 0⟩).toArray) w := by
  obtain ⟨fs, hu, hm⟩ := Try.towFields
  refine run_build_of hu hm Try.zeroTow ?_ w
  rw [show (#[(0, Value.agg (cellsOf s).toArray)] : Array (Nat × Value)).toList = [(0, .agg (cellsOf s).toArray)] from rfl, tow_zero_parts]
  rw [fill_step (off := 0) (n := 32) rfl (vs := cellsOf s) rfl (by rw [cellsOf_len, hs]) (by simp [cellsOf_len, zero32]), spl_head (by rw [cellsOf_len, cellsOf_len, hs]; rfl)]
  rfl
/-- A root, and what is locked. -/
theorem build_tow2 {s : List UInt8} (hs : s.length = 32) (a : Int) (w : World) : (Instr.build 67 #[(0, .agg (cellsOf s).toArray), (1, .int .i64 a)]).run Try.prog w = .ok (.agg (PTow.cells ⟨s, a, 0, 0⟩).toArray) w := by
  obtain ⟨fs, hu, hm⟩ := Try.towFields
  refine run_build_of hu hm Try.zeroTow ?_ w
  rw [show (#[(0, Value.agg (cellsOf s).toArray), (1, .int .i64 a)] : Array (Nat × Value)).toList = [(0, .agg (cellsOf s).toArray), (1, .int .i64 a)] from rfl, tow_zero_parts]
  rw [fill_step (off := 0) (n := 32) rfl (vs := cellsOf s) rfl (by rw [cellsOf_len, hs]) (by simp [cellsOf_len, zero32]), spl_head (by rw [cellsOf_len, cellsOf_len, hs]; rfl)]
  rw [fill_step (off := 32) (n := 1) rfl (vs := [.int .i64 a]) rfl rfl (by simp [cellsOf_len, hs])]
  rw [show (cellsOf s ++ ([.int .i64 0, .int .i64 0, .int .i64 0] : List Value)) = cellsOf s ++ ([.int .i64 0] ++ [.int .i64 0, .int .i64 0]) from rfl, spl_at (by rw [cellsOf_len, hs]) (by rfl)]
  rfl
/-- All of it. -/
theorem build_tow4 {s : List UInt8} (hs : s.length = 32) (a b c : Int) (w : World) : (Instr.build 67 #[(0, .agg (cellsOf s).toArray), (1, .int .i64 a), (2, .int .i64 b), (3, .int .i64 c)]).run Try.prog w = .ok (.agg (PTow.cells ⟨s, a, b, c⟩).toArray) w := by
  obtain ⟨fs, hu, hm⟩ := Try.towFields
  refine run_build_of hu hm Try.zeroTow ?_ w
  rw [show (#[(0, Value.agg (cellsOf s).toArray), (1, .int .i64 a), (2, .int .i64 b), (3, .int .i64 c)] : Array (Nat × Value)).toList = [(0, .agg (cellsOf s).toArray), (1, .int .i64 a), (2, .int .i64 b), (3, .int .i64 c)] from rfl, tow_zero_parts]
  rw [fill_step (off := 0) (n := 32) rfl (vs := cellsOf s) rfl (by rw [cellsOf_len, hs]) (by simp [cellsOf_len, zero32]), spl_head (by rw [cellsOf_len, cellsOf_len, hs]; rfl)]
  rw [fill_step (off := 32) (n := 1) rfl (vs := [.int .i64 a]) rfl rfl (by simp [cellsOf_len, hs])]
  rw [show (cellsOf s ++ ([.int .i64 0, .int .i64 0, .int .i64 0] : List Value)) = cellsOf s ++ ([.int .i64 0] ++ [.int .i64 0, .int .i64 0]) from rfl, spl_at (by rw [cellsOf_len, hs]) (by rfl)]
  rw [fill_step (off := 33) (n := 1) rfl (vs := [.int .i64 b]) rfl rfl (by simp [cellsOf_len, hs])]
  rw [show (cellsOf s ++ ([.int .i64 a] ++ [.int .i64 0, .int .i64 0] : List Value)) = (cellsOf s ++ [.int .i64 a]) ++ ([.int .i64 0] ++ [.int .i64 0]) by simp, spl_at (by simp [cellsOf_len, hs]) (by rfl)]
  rw [fill_step (off := 34) (n := 1) rfl (vs := [.int .i64 c]) rfl rfl (by simp [cellsOf_len, hs])]
  rw [show ((cellsOf s ++ [.int .i64 a]) ++ ([.int .i64 b] ++ [.int .i64 0]) : List Value) = (cellsOf s ++ [.int .i64 a, .int .i64 b]) ++ ([.int .i64 0] ++ []) by simp, spl_at (by simp [cellsOf_len, hs]) (by rfl)]
  unfold Instr.fill
  simp [PTow.cells]
theorem hold_zero_parts : noHold.cells = noChan.cells ++ (([.int .i64 0] : List Value) ++ (.bool false :: .int .i64 0 :: cellsOf zero32)) := rfl
theorem build_hold {c : PChan} (hc : c.ftx.length = 32) (a : Int) (w : World) : (Instr.build 53 #[(0, .agg c.cells.toArray), (1, .int .i64 a)]).run Try.prog w = .ok (.agg (PHold.cells ⟨c, a, false, 0, zero32⟩).toArray) w := by
  obtain ⟨fs, hu, hm⟩ := Try.holdFields
  refine run_build_of hu hm Try.zeroHold ?_ w
  rw [show (#[(0, Value.agg c.cells.toArray), (1, .int .i64 a)] : Array (Nat × Value)).toList = [(0, .agg c.cells.toArray), (1, .int .i64 a)] from rfl, hold_zero_parts]
  have hl := PChan.len hc
  have h0 : noChan.cells.length = 39 := PChan.len rfl
  rw [fill_step (off := 0) (n := 39) rfl (vs := c.cells) rfl hl (by simp [h0, cellsOf_len, zero32]), spl_head (by rw [hl, h0])]
  rw [fill_step (off := 39) (n := 1) rfl (vs := [.int .i64 a]) rfl rfl (by simp [hl, cellsOf_len, zero32]), spl_at hl.symm (by rfl)]
  rfl
theorem build_te {n : Int} {t : PTow} (ht : t.root.length = 32) (w : World) : (Instr.build 71 #[(0, .int .i64 n), (1, .agg t.cells.toArray)]).run Try.prog w = .ok (.agg (PTE.cells ⟨n, t⟩).toArray) w := by
  obtain ⟨fs, hu, hm⟩ := Try.teFields
  refine run_build_of hu hm Try.zeroTE ?_ w
  rw [show (#[(0, Value.int .i64 n), (1, .agg t.cells.toArray)] : Array (Nat × Value)).toList = [(0, .int .i64 n), (1, .agg t.cells.toArray)] from rfl, show PTE.cells ⟨0, noTow⟩ = ([.int .i64 0] : List Value) ++ noTow.cells from rfl]
  have hl := PTow.len ht
  have h0 : noTow.cells.length = 35 := PTow.len rfl
  rw [fill_step (off := 0) (n := 1) rfl (vs := [.int .i64 n]) rfl rfl (by simp), spl_head (by rfl)]
  rw [fill_step (off := 1) (n := 35) rfl (vs := t.cells) rfl hl (by simp [h0]), show ([.int .i64 n] ++ noTow.cells : List Value) = [.int .i64 n] ++ (noTow.cells ++ []) by simp, spl_at (by rfl) (by rw [hl, h0])]
  unfold Instr.fill
  simp [PTE.cells]
theorem build_he {n : Int} {h : PHold} (hh : HoldIn h) (w : World) : (Instr.build 73 #[(0, .int .i64 n), (1, .agg h.cells.toArray)]).run Try.prog w = .ok (.agg (PHE.cells ⟨n, h⟩).toArray) w := by
  obtain ⟨fs, hu, hm⟩ := Try.heFields
  refine run_build_of hu hm Try.zeroHE ?_ w
  rw [show (#[(0, Value.int .i64 n), (1, .agg h.cells.toArray)] : Array (Nat × Value)).toList = [(0, .int .i64 n), (1, .agg h.cells.toArray)] from rfl, show PHE.cells ⟨0, noHold⟩ = ([.int .i64 0] : List Value) ++ noHold.cells from rfl]
  have hl := PHold.len hh
  have h0 : noHold.cells.length = 74 := PHold.len noHold_in
  rw [fill_step (off := 0) (n := 1) rfl (vs := [.int .i64 n]) rfl rfl (by simp), spl_head (by rfl)]
  rw [fill_step (off := 1) (n := 74) rfl (vs := h.cells) rfl hl (by simp [h0]), show ([.int .i64 n] ++ noHold.cells : List Value) = [.int .i64 n] ++ (noHold.cells ++ []) by simp, spl_at (by rfl) (by rw [hl, h0])]
  unfold Instr.fill
  simp [PHE.cells]
theorem build_two (y z : Int) (w : World) : (Instr.build 76 #[(0, .int .i64 y), (1, .int .i64 z)]).run Try.prog w = .ok (.agg #[.int .i64 y, .int .i64 z]) w := run_build w _ _ _ (by kernel_rfl)
theorem build_noTow (w : World) : (Instr.build 67 #[]).run Try.prog w = .ok (.agg noTow.cells.toArray) w := run_build w _ _ _ (by kernel_rfl)
theorem build_noHold (w : World) : (Instr.build 53 #[]).run Try.prog w = .ok (.agg noHold.cells.toArray) w := run_build w _ _ _ (by kernel_rfl)
theorem build_zero (w : World) : (Instr.build 31 #[]).run Try.prog w = .ok (.agg (cellsOf zero32).toArray) w := run_build w _ _ _ (by kernel_rfl)
def one32 : List UInt8 := 1 :: List.replicate 31 0
theorem build_one (w : World) : (Instr.build 31 #[(0, .int .u8 1)]).run Try.prog w = .ok (.agg (cellsOf one32).toArray) w := run_build w _ _ _ (by kernel_rfl)
theorem build_chan (z : Int) (w : World) : (Instr.build 35 #[(4, .int .i64 z)]).run Try.prog w = .ok (.agg (PChan.cells ⟨0, 0, 0, zero32, 0, z, 0, 0⟩).toArray) w := run_build w _ _ _ (by kernel_rfl)
theorem build_plain (w : World) : (Instr.build 29 #[]).run Try.prog w = .ok (.agg #[.slice none 0 0, .slice none 0 0]) w := run_build w _ _ _ (by kernel_rfl)
theorem build_board (a b : Option Nat) (w : World) : (Instr.build 51 #[(0, .map a), (1, .map b)]).run Try.prog w = .ok (.agg #[.map a, .map b]) w := run_build w _ _ _ (by kernel_rfl)

/-! ### Alike -/
theorem eqFields_same {P : Program} (d : Nat) (xs : Array Value) (W : World) : ∀ fs : List Field, (∀ f ∈ fs, ∃ v, (part f.type xs f.offset).run P W = .ok v W ∧ (Op.equalIn d f.type v v).run P W = .ok true W) → (Op.eqFields d xs xs fs).run P W = .ok true W
  | [], _ => by simp [Op.eqFields, Sem.run_pure]
  | f :: fs, h => by
    have ih := eqFields_same d xs W fs (fun g hg => h g (by simp [hg]))
    obtain ⟨v, h1, h2⟩ := h f (by simp)
    rw [Op.eqFields]
    split
    · simp only [Sem.run_bind, h1, Result.andThen_ok, h2, Bool.not_true, Bool.false_eq_true, if_false, ih]
    · exact ih
theorem part_cell {P : Program} {t : TypeId} {xs : Array Value} {off : Nat} {v : Value} (hag : ∀ w : World, (isAgg t).run P w = .ok false w) (hx : xs[off]? = some v) (W : World) : (part t xs off).run P W = .ok v W := by
  simp [part, Sem.run_bind, hag, Result.andThen_ok, Sem.run_pure, hx]
theorem part_row {P : Program} {t : TypeId} {n off : Nat} {cs ds es : List Value} (hag : ∀ w : World, (isAgg t).run P w = .ok true w) (hsz : ∀ w : World, (sizeOf t).run P w = .ok n w) (ho : off = cs.length) (hn : ds.length = n) (W : World) : (part t (cs ++ (ds ++ es)).toArray off).run P W = .ok (.agg ds.toArray) W := by
  have e : (cs ++ (ds ++ es)).toArray.extract off (off + n) = ds.toArray := by
    apply Array.toList_inj.1
    subst ho hn
    simp
  simp only [part, Sem.run_bind, hag, hsz, Result.andThen_ok, if_true, Sem.run_pure, e]
theorem fields_named {fs : List Field} {l : List (TypeId × Nat)} (h : fs.map (fun f => (f.type, f.offset)) = l) {f : Field} (hf : f ∈ fs) : (f.type, f.offset) ∈ l := by
  rw [← h]
  exact List.mem_map.2 ⟨f, hf, rfl⟩
theorem Try.aggSum : ∀ w : World, (isAgg 31).run Try.prog w = .ok true w := fun w => by kernel_rfl
theorem Try.szSum : ∀ w : World, (sizeOf 31).run Try.prog w = .ok 32 w := fun w => by kernel_rfl
theorem Try.aggRef : ∀ w : World, (isAgg 33).run Try.prog w = .ok true w := fun w => by kernel_rfl
theorem Try.szRef : ∀ w : World, (sizeOf 33).run Try.prog w = .ok 33 w := fun w => by kernel_rfl
theorem Try.aggChan : ∀ w : World, (isAgg 35).run Try.prog w = .ok true w := fun w => by kernel_rfl
theorem Try.szChan : ∀ w : World, (sizeOf 35).run Try.prog w = .ok 39 w := fun w => by kernel_rfl
theorem eq_int_same (d : Nat) (z : Int) (W : World) : (Op.equalIn (d + 1) 3 (.int .i64 z) (.int .i64 z)).run Try.prog W = .ok true W := by
  rw [run_equalIn_int (P := Try.prog) W d 3 .i64 .i64 z z Try.underlying3]
  simp
theorem eq_int64_same (d : Nat) (z : Int) (W : World) : (Op.equalIn (d + 1) 2 (.int .i64 z) (.int .i64 z)).run Try.prog W = .ok true W := by
  rw [run_equalIn_int (P := Try.prog) W d 2 .i64 .i64 z z Try.underlying2]
  simp
theorem eq_bool_same (d : Nat) (b : Bool) (W : World) : (Op.equalIn (d + 1) 4 (.bool b) (.bool b)).run Try.prog W = .ok true W := by
  rw [run_equalIn_bool (P := Try.prog) W d 4 b b Try.underlying4]
  simp
theorem eq_sum_same (d : Nat) {s : List UInt8} (hs : s.length = 32) (W : World) : (Op.equalIn (d + 2) 31 (.agg (cellsOf s).toArray) (.agg (cellsOf s).toArray)).run Try.prog W = .ok true W := by
  rw [run_eqSumsAt d s s hs hs W]
  simp
set_option maxRecDepth 100000 in
theorem eq_ref_same (d : Nat) {s : List UInt8} (z : Int) (hs : s.length = 32) (W : World) : (Op.equalIn (d + 3) 33 (.agg (refCells s z).toArray) (.agg (refCells s z).toArray)).run Try.prog W = .ok true W := by
  rw [run_equalIn_struct W (d + 2) 33 _ _ (by kernel_rfl) (by kernel_rfl)]
  refine eqFields_same _ _ _ _ (fun f hf => ?_)
  have h9 := fields_named (fs := (Try.prog.fieldsOf 33).toList) (l := [(31, 0), (3, 32)]) (by kernel_rfl) hf
  simp only [List.mem_cons, Prod.mk.injEq, List.not_mem_nil, or_false] at h9
  rcases h9 with ⟨h1, h2⟩ | ⟨h1, h2⟩ <;> rw [h1, h2]
  · exact ⟨_, part_row (cs := []) (ds := cellsOf s) (es := [.int .i64 z]) Try.aggSum Try.szSum rfl (by rw [cellsOf_len, hs]) W, eq_sum_same d hs W⟩
  · exact ⟨.int .i64 z, part_cell Try.isAgg3 (by simp only [List.getElem?_toArray, refCells]; rw [List.getElem?_append_right (by rw [cellsOf_len, hs]; omega), cellsOf_len, hs]; rfl) W, eq_int_same (d + 1) z W⟩
theorem get_append {cs ds : List Value} {k : Nat} (h : cs.length ≤ k) : (cs ++ ds)[k]? = ds[k - cs.length]? := List.getElem?_append_right h
set_option maxRecDepth 100000 in
theorem eq_chan_same (d : Nat) {x : PChan} (hx : x.ftx.length = 32) (W : World) : (Op.equalIn (d + 4) 35 (.agg x.cells.toArray) (.agg x.cells.toArray)).run Try.prog W = .ok true W := by
  rw [run_equalIn_struct W (d + 3) 35 _ _ (by kernel_rfl) (by kernel_rfl)]
  refine eqFields_same _ _ _ _ (fun f hf => ?_)
  have h9 := fields_named (fs := (Try.prog.fieldsOf 35).toList) (l := [(3, 0), (3, 1), (3, 2), (33, 3), (2, 36), (3, 37), (3, 38)]) (by kernel_rfl) hf
  have e : x.cells = [.int .i64 x.id, .int .i64 x.client, .int .i64 x.peer] ++ (refCells x.ftx x.fat ++ [.int .i64 x.cap, .int .i64 x.wait, .int .i64 x.window]) := rfl
  have e2 : x.cells = ([.int .i64 x.id, .int .i64 x.client, .int .i64 x.peer] ++ refCells x.ftx x.fat) ++ [.int .i64 x.cap, .int .i64 x.wait, .int .i64 x.window] := by rw [e]; simp
  have hl : (([.int .i64 x.id, .int .i64 x.client, .int .i64 x.peer] : List Value) ++ refCells x.ftx x.fat).length = 36 := by simp [refCells_len hx]
  simp only [List.mem_cons, Prod.mk.injEq, List.not_mem_nil, or_false] at h9
  rcases h9 with ⟨h1, h2⟩ | ⟨h1, h2⟩ | ⟨h1, h2⟩ | ⟨h1, h2⟩ | ⟨h1, h2⟩ | ⟨h1, h2⟩ | ⟨h1, h2⟩ <;> rw [h1, h2]
  · exact ⟨.int .i64 x.id, part_cell Try.isAgg3 rfl W, eq_int_same (d + 2) _ W⟩
  · exact ⟨.int .i64 x.client, part_cell Try.isAgg3 rfl W, eq_int_same (d + 2) _ W⟩
  · exact ⟨.int .i64 x.peer, part_cell Try.isAgg3 rfl W, eq_int_same (d + 2) _ W⟩
  · rw [e]
    exact ⟨_, part_row Try.aggRef Try.szRef rfl (refCells_len hx) W, eq_ref_same d _ hx W⟩
  · exact ⟨.int .i64 x.cap, part_cell Try.isAgg2 (by rw [e2, List.getElem?_toArray, get_append (by rw [hl]; omega), hl]; rfl) W, eq_int64_same (d + 2) _ W⟩
  · exact ⟨.int .i64 x.wait, part_cell Try.isAgg3 (by rw [e2, List.getElem?_toArray, get_append (by rw [hl]; omega), hl]; rfl) W, eq_int_same (d + 2) _ W⟩
  · exact ⟨.int .i64 x.window, part_cell Try.isAgg3 (by rw [e2, List.getElem?_toArray, get_append (by rw [hl]; omega), hl]; rfl) W, eq_int_same (d + 2) _ W⟩
set_option maxRecDepth 100000 in
theorem eq_tow_same {x : PTow} (hx : x.root.length = 32) (W : World) : (Op.equalIn 10000 67 (.agg x.cells.toArray) (.agg x.cells.toArray)).run Try.prog W = .ok true W := by
  rw [run_equalIn_struct W 9999 67 _ _ (by kernel_rfl) (by kernel_rfl)]
  refine eqFields_same _ _ _ _ (fun f hf => ?_)
  have h9 := fields_named (fs := (Try.prog.fieldsOf 67).toList) (l := [(31, 0), (2, 32), (2, 33), (3, 34)]) (by kernel_rfl) hf
  have hl : (cellsOf x.root).length = 32 := by rw [cellsOf_len, hx]
  simp only [List.mem_cons, Prod.mk.injEq, List.not_mem_nil, or_false] at h9
  rcases h9 with ⟨h1, h2⟩ | ⟨h1, h2⟩ | ⟨h1, h2⟩ | ⟨h1, h2⟩ <;> rw [h1, h2]
  · exact ⟨_, part_row (cs := []) (ds := cellsOf x.root) (es := [.int .i64 x.locked, .int .i64 x.asked, .int .i64 x.at9]) Try.aggSum Try.szSum rfl hl W, eq_sum_same 9997 hx W⟩
  · exact ⟨.int .i64 x.locked, part_cell Try.isAgg2 (by unfold PTow.cells; rw [List.getElem?_toArray, get_append (by rw [hl]; omega), hl]; rfl) W, eq_int64_same 9998 _ W⟩
  · exact ⟨.int .i64 x.asked, part_cell Try.isAgg2 (by unfold PTow.cells; rw [List.getElem?_toArray, get_append (by rw [hl]; omega), hl]; rfl) W, eq_int64_same 9998 _ W⟩
  · exact ⟨.int .i64 x.at9, part_cell Try.isAgg3 (by unfold PTow.cells; rw [List.getElem?_toArray, get_append (by rw [hl]; omega), hl]; rfl) W, eq_int_same 9998 _ W⟩
set_option maxRecDepth 100000 in
theorem eq_hold_same {x : PHold} (hx : HoldIn x) (W : World) : (Op.equalIn 10000 53 (.agg x.cells.toArray) (.agg x.cells.toArray)).run Try.prog W = .ok true W := by
  rw [run_equalIn_struct W 9999 53 _ _ (by kernel_rfl) (by kernel_rfl)]
  refine eqFields_same _ _ _ _ (fun f hf => ?_)
  have h9 := fields_named (fs := (Try.prog.fieldsOf 53).toList) (l := [(35, 0), (2, 39), (4, 40), (3, 41), (31, 42)]) (by kernel_rfl) hf
  have hl : x.ch.cells.length = 39 := PChan.len hx.ch.ftx
  have e2 : x.cells = (x.ch.cells ++ [.int .i64 x.amount, .bool x.proved, .int .i64 x.at9]) ++ (cellsOf x.commit ++ []) := by simp [PHold.cells]
  simp only [List.mem_cons, Prod.mk.injEq, List.not_mem_nil, or_false] at h9
  rcases h9 with ⟨h1, h2⟩ | ⟨h1, h2⟩ | ⟨h1, h2⟩ | ⟨h1, h2⟩ | ⟨h1, h2⟩ <;> rw [h1, h2]
  · exact ⟨_, part_row (cs := []) (ds := x.ch.cells) (es := .int .i64 x.amount :: .bool x.proved :: .int .i64 x.at9 :: cellsOf x.commit) Try.aggChan Try.szChan rfl hl W, eq_chan_same 9995 hx.ch.ftx W⟩
  · exact ⟨.int .i64 x.amount, part_cell Try.isAgg2 (by unfold PHold.cells; rw [List.getElem?_toArray, get_append (by rw [hl]; omega), hl]; rfl) W, eq_int64_same 9998 _ W⟩
  · exact ⟨.bool x.proved, part_cell Try.isAgg4 (by unfold PHold.cells; rw [List.getElem?_toArray, get_append (by rw [hl]; omega), hl]; rfl) W, eq_bool_same 9998 _ W⟩
  · exact ⟨.int .i64 x.at9, part_cell Try.isAgg3 (by unfold PHold.cells; rw [List.getElem?_toArray, get_append (by rw [hl]; omega), hl]; rfl) W, eq_int_same 9998 _ W⟩
  · rw [e2]
    exact ⟨_, part_row Try.aggSum Try.szSum (by simp [hl]) (by rw [cellsOf_len, hx.commit]) W, eq_sum_same 9997 hx.commit W⟩
end Go.Proofs.Ytijanllppbambaa
