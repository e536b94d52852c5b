/- Structs built, out of the table of their fields. No function, type or variable of the program is named. -/
import Derived.Test.YtlnenkmcegadmaaDoorSteps
namespace Go.Proofs.YtlnenkmcegadmaaDoor
open Go.RowKit

/-! ### Builds -/
theorem foldl_spl (off : Nat) : ∀ (vs : List Value) (s : Nat) (Z : List Value), (vs.zipIdx s).foldl (fun cs (x : Value × Nat) => cs.setIfInBounds (off + x.2) x.1) Z.toArray = (spl Z (off + s) vs).toArray
  | [], _, _ => rfl
  | v :: vs, s, Z => by
    have ih := foldl_spl off vs (s + 1) (Z.set (off + s) v)
    rw [List.zipIdx_cons, List.foldl_cons]
    show List.foldl _ (Z.toArray.setIfInBounds (off + s) v) _ = _
    rw [List.setIfInBounds_toArray, ih]
    rfl
theorem fill_step {place : Nat → Option (Nat × Nat)} {i off n : Nat} {v : Value} {rest : List (Nat × Value)} {Z vs : List Value} (hp : place i = some (off, n)) (hc : v.cells = vs.toArray) (hv : vs.length = n) (hZ : off + n ≤ Z.length) :
    Instr.fill place Z.toArray ((i, v) :: rest) = Instr.fill place (spl Z off vs).toArray rest := by
  have e := foldl_spl off vs 0 Z
  rw [Nat.add_zero] at e
  have e2 : v.cells.zipIdx.foldl (fun cs (x : Value × Nat) => cs.setIfInBounds (off + x.2) x.1) Z.toArray = (spl Z off vs).toArray := by
    rw [hc, ← Array.foldl_toList, Array.toList_zipIdx]
    exact e
  conv => lhs; unfold Instr.fill
  simp only [hp]
  rw [if_neg (by rw [hc]; simp; omega)]
  exact congrArg (fun z => Instr.fill place z rest) e2
/-- A struct's build, out of the table of its fields. -/
theorem run_build_of {P : Program} {t : TypeId} {fs : Array Field} {pl : Array (Nat × Nat)} {Z : List Value} {sz by' : Nat} {parts : Array (Nat × Value)} {cs : List Value} (hu : P.underlying t = some (.struct fs)) (hm : ∀ w : World, ((fs.mapM fun (f : Field) => do pure (f.offset, ← sizeOf f.type)) : Sem (Array (Nat × Nat))).run P w = .ok pl w)
    (hi : (P.info? t).map (fun i => (i.zero, i.size, i.bytes)) = some (some (.agg Z.toArray), sz, by')) (hf : Instr.fill (pl[·]?) Z.toArray parts.toList = some cs.toArray) (w : World) : (Instr.build t parts).run P w = .ok (.agg cs.toArray) w := by
  obtain ⟨ie, h1, h2, _, _⟩ := info_parts hi
  have hz : (zeroValue t).run P w = .ok (.agg Z.toArray) w := by simp [zeroValue, typeInfo, h1, h2]
  unfold Instr.build
  simp only [Sem.run_bind, hz, Result.andThen_ok, run_underlying hu, hm w]
  rw [show (Value.agg Z.toArray).cells = Z.toArray from rfl]
  simp only [hf]
  rfl
theorem spl_head {us bs cs : List Value} (h : us.length = bs.length) : spl (us ++ cs) 0 bs = bs ++ cs := by
  have h9 := spl_mid bs us [] cs h
  simpa using h9
theorem spl_at {k : Nat} {cs us bs es : List Value} (hk : k = cs.length) (h : us.length = bs.length) : spl (cs ++ (us ++ es)) k bs = cs ++ (bs ++ es) := by
  subst hk
  exact spl_mid bs us cs es h
end Go.Proofs.YtlnenkmcegadmaaDoor
