/- A row built of a place and a coin; rows of the call's own; the places of a view's rows. -/
import Derived.Test.YtdeilkpcmgcbaaaViewTake
import Derived.Test.YtdeilkpcmgcbaaaRowMem
import Derived.Great.FillDense
namespace Go.Proofs.Ytdeilkpcmgcbaaa
open Go.RowKit Go.Maps

theorem fill_two (cs ds : List Value) (Z : Array Value) (hZ : Z.size = cs.length + ds.length) : Instr.fill ((#[(0, cs.length), (cs.length, ds.length)] : Array (Nat × Nat))[·]?) Z [(0, .agg cs.toArray), (1, .agg ds.toArray)] = some (cs ++ ds).toArray := by
  obtain ⟨f1, f2⟩ := Great.foldl_set 0 cs 0 Z
  have e0 : cs.toArray.zipIdx.foldl (fun cs (x : Value × Nat) => cs.setIfInBounds (0 + x.2) x.1) Z = ((cs.zipIdx 0).foldl (fun cs (x : Value × Nat) => cs.setIfInBounds (0 + x.2) x.1) Z) := by
    rw [← Array.foldl_toList, Array.toList_zipIdx]
  obtain ⟨I, hI⟩ : ∃ I, I = ((cs.zipIdx 0).foldl (fun cs (x : Value × Nat) => cs.setIfInBounds (0 + x.2) x.1) Z) := ⟨_, rfl⟩
  rw [← hI] at f1 f2 e0
  obtain ⟨g1, g2⟩ := Great.foldl_set cs.length ds 0 I
  have e1 : ds.toArray.zipIdx.foldl (fun ys9 (x : Value × Nat) => ys9.setIfInBounds (cs.length + x.2) x.1) I = ((ds.zipIdx 0).foldl (fun ys9 (x : Value × Nat) => ys9.setIfInBounds (cs.length + x.2) x.1) I) := by
    rw [← Array.foldl_toList, Array.toList_zipIdx]
  obtain ⟨M, hM⟩ : ∃ M, M = ((ds.zipIdx 0).foldl (fun ys9 (x : Value × Nat) => ys9.setIfInBounds (cs.length + x.2) x.1) I) := ⟨_, rfl⟩
  rw [← hM] at g1 g2 e1
  unfold Instr.fill
  simp only [show (#[(0, cs.length), (cs.length, ds.length)] : Array (Nat × Nat))[0]? = some (0, cs.length) from rfl]
  rw [if_neg (by simp [Value.cells]; omega)]
  rw [show (Value.agg cs.toArray).cells = cs.toArray from rfl, e0]
  unfold Instr.fill
  simp only [show (#[(0, cs.length), (cs.length, ds.length)] : Array (Nat × Nat))[1]? = some (cs.length, ds.length) from rfl]
  rw [if_neg (by simp [Value.cells]; omega)]
  rw [show (Value.agg ds.toArray).cells = ds.toArray from rfl, e1]
  unfold Instr.fill
  congr 1
  apply Array.ext_getElem?
  intro k
  have e9 : (cs ++ ds).toArray[k]? = if k < cs.length then cs[k]? else ds[k - cs.length]? := by rw [List.getElem?_toArray, List.getElem?_append]
  rw [g2 k, e9]
  by_cases h1 : k < cs.length
  · rw [if_neg (by omega), f2 k, if_pos (by omega), if_pos h1]
    rfl
  · rw [if_neg h1]
    by_cases h2 : k < cs.length + ds.length
    · rw [if_pos (by omega)]
      rfl
    · rw [if_neg (by omega), f2 k, if_neg (by omega), Array.getElem?_eq_none (by omega), List.getElem?_eq_none (by omega)]
theorem Try.rowFields : ∃ fs, Try.prog.underlying 43 = some (.struct fs) ∧ ∀ w : World, ((fs.mapM fun (f : Field) => do pure (f.offset, ← sizeOf f.type)) : Sem (Array (Nat × Nat))).run Try.prog w = .ok #[(0, 33), (33, 3)] w := by
  exact ⟨_, Try.underlying43, fun w => by kernel_rfl⟩
theorem Try.zeroRow9 : (Try.prog.info? 43).map (fun i => (i.zero, i.size, i.bytes)) = some (some (.agg noRow.cells.toArray), 36, 80) := by kernel_rfl
theorem run_build_row {s : List UInt8} {p : Int} (hs : s.length = 32) (m : Int) (a : Option Addr) (n c : Nat) (h : Int) (xs : List PWay) (w : World) : (Instr.build 43 #[(0, .agg (refCells s p).toArray), (1, coinV m a n c h)]).run Try.prog w = .ok (.agg (PRow.cells ⟨s, p, ⟨m, a, n, c, xs⟩, h⟩).toArray) w := by
  obtain ⟨ie, h1, h2, _, _⟩ := info_parts Try.zeroRow9
  obtain ⟨fs, hu, hm⟩ := Try.rowFields
  have hf := fill_two (refCells s p) [.int .i64 m, .slice a n c, .int .i64 h] noRow.cells.toArray (by rw [refCells_len hs]; rfl)
  rw [refCells_len hs] at hf
  have hz : (zeroValue 43).run Try.prog w = .ok (.agg noRow.cells.toArray) w := by simp [zeroValue, typeInfo, h1, h2]
  unfold Instr.build
  simp only [Sem.run_bind, hz, Result.andThen_ok, run_underlying hu, hm w]
  rw [show (Value.agg noRow.cells.toArray).cells = noRow.cells.toArray from rfl]
  have hf' : Instr.fill ((#[(0, 33), (33, 3)] : Array (Nat × Nat))[·]?) noRow.cells.toArray [(0, .agg (refCells s p).toArray), (1, coinV m a n c h)] = some (PRow.cells ⟨s, p, ⟨m, a, n, c, xs⟩, h⟩).toArray := by
    have e : PRow.cells ⟨s, p, ⟨m, a, n, c, xs⟩, h⟩ = refCells s p ++ [.int .i64 m, .slice a n c, .int .i64 h] := by simp [PRow.cells, refCells, POut.cells]
    rw [e]
    exact hf
  simp only [hf']
  rfl
def Try.rowAt9 : SortAt Try.prog rowK 25 43 := ⟨80, by omega, by show 36 ≤ 100000; omega, .agg noRow.cells.toArray, Try.underlying25, Try.zeroRow9, by kernel_rfl⟩
/-- What a row says, without where it lies. -/
def PRow.strip (r : PRow) : PRow := ⟨r.tx, r.place, ⟨r.out.m, none, 0, 0, r.out.ws.map PWay.strip⟩, r.height⟩
/-- A row that lies typed. -/
def TypedRow (w : World) (r : PRow) : Prop := RowIn w r ∧ TypedW w r.out.a r.out.n r.out.ws
theorem TypedRow.below {w w' : World} {r : PRow} (h : TypedRow w r) (hb : Below w.heap.size w w') : TypedRow w' r := ⟨h.1.below hb, h.2.below hb⟩
theorem TypedRow.but {w w' : World} {r : PRow} {p : Nat} (h : TypedRow w r) (hb : But w.heap.size p w w') (hp : NoWays w p) : TypedRow w' r := by
  obtain ⟨h1, h2⟩ := ways_typed h.1.out.ws h.2 hb hp
  exact ⟨⟨h.1.tx, h.1.place, ⟨h.1.out.m, h1⟩, h.1.height⟩, h2⟩
theorem TypedRow.grown {w w' : World} {r : PRow} {B : Nat} {v : Value} {rs : List PRow} (h : TypedRow w r) (ho : OwnOf rowK 43 w B v rs) (hg : w.grownBy w' v.ownBlock) : TypedRow w' r := by
  rcases ho.step hg with hb | ⟨g, cs, _, _, hh, hb⟩
  · exact h.below hb
  · exact h.but hb (noWays_cells hh (by decide) (by decide))
/-- The places of a view's rows, in order. -/
theorem places_rows {w : World} {rows : List PRow} {F : List UInt8 → Int → Option Value} {ss : List RefD} (hF : CoinsOf w rows F) (hr : Rising rows) (hok : ∀ r ∈ rows, RowOk r) (hs : SortedKeys F ss) : ss.length = rows.length ∧ ∀ j (h1 : j < ss.length) (h2 : j < rows.length), ss[j].tx = rows[j].tx ∧ ss[j].place = rows[j].place := by
  have e : ss.map (fun x : RefD => (⟨x.tx, x.place, noOut, 0⟩ : PRow)) = rows.map (fun r => (⟨r.tx, r.place, noOut, 0⟩ : PRow)) := by
    refine rising_one ⟨List.pairwise_map.2 (hs.1.imp (fun h => h)), fun x hx => ?_⟩ ⟨List.pairwise_map.2 (hr.1.imp (fun h => h)), fun x hx => ?_⟩ (fun x => ⟨fun hx => ?_, fun hx => ?_⟩)
    · obtain ⟨y, _, rfl⟩ := List.mem_map.1 hx
      exact y.hs
    · obtain ⟨y, hy, rfl⟩ := List.mem_map.1 hx
      exact hr.2 y hy
    · obtain ⟨y, hy, rfl⟩ := List.mem_map.1 hx
      have h1 := (hs.2 y).1 hy
      apply Classical.byContradiction
      intro hc
      refine h1 (hF.1 y.tx y.place (fun r hr9 e => hc (List.mem_map.2 ⟨r, hr9, ?_⟩)))
      rw [e.1, e.2]
    · obtain ⟨r, hr9, rfl⟩ := List.mem_map.1 hx
      obtain ⟨v, h1, _⟩ := hF.2 r hr9
      have h2 : (⟨r.tx, r.place, (hok r hr9).tx, (hok r hr9).place⟩ : RefD) ∈ ss := (hs.2 ⟨r.tx, r.place, (hok r hr9).tx, (hok r hr9).place⟩).2 (by rw [h1]; simp)
      exact List.mem_map.2 ⟨_, h2, rfl⟩
  have hl : ss.length = rows.length := by
    have h1 := congrArg List.length e
    simpa using h1
  refine ⟨hl, fun j h1 h2 => ?_⟩
  have h3 : (ss.map (fun x : RefD => (⟨x.tx, x.place, noOut, 0⟩ : PRow)))[j]? = (rows.map (fun r => (⟨r.tx, r.place, noOut, 0⟩ : PRow)))[j]? := by rw [e]
  simp [h1, h2] at h3
  exact h3
end Go.Proofs.Ytdeilkpcmgcbaaa
