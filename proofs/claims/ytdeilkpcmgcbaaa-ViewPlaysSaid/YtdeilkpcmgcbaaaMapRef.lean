/- A map by places (api.Ref), of elements of any type: which place has what, and how many there are; reading, writing, striking. No function of the program is named. -/
import Derived.Test.YtdeilkpcmgcbaaaRefKey
import Derived.Maps.Own
import Derived.Maps.OwnOps
import Derived.Maps.OwnSet
import Derived.Maps.Views
namespace Go.Proofs.Ytdeilkpcmgcbaaa
open Go.RowKit Go.Maps

/-- An element reads as itself. -/
def heldR : Value → Option (DataW Value × List MemPlace) := fun v => some (.held v, [])
/-- Block b is a map of n entries (never more than N); F: what each place has. -/
def MapRef (w : World) (b N n : Nat) (F : List UInt8 → Int → Option Value) : Prop :=
  ∃ D : DataW Value, w.ownsMap Try.prog 32 heldR b N D ∧ Maps.size D = n ∧ ∀ s p l, s.length = 32 → Fits p → keyOf Try.prog 32 (.agg (refCells s p).toArray) = some l → ∀ z, D.atKey l z = (match F s p with | some v => .held v | none => z)
theorem MapRef.made (w : World) : MapRef (w.alloc (.map #[] 0)) w.heap.size 0 0 (fun _ _ => none) :=
  ⟨.map [], World.ownsMap_made _ _ _ _, rfl, fun _ _ _ _ _ _ _ => rfl⟩
theorem MapRef.lt {w : World} {b N n : Nat} {F : List UInt8 → Int → Option Value} (h : MapRef w b N n F) : b < w.heap.size := by
  obtain ⟨D, h1, _⟩ := h
  exact h1.lt
theorem MapRef.few {w : World} {b N n : Nat} {F : List UInt8 → Int → Option Value} (h : MapRef w b N n F) : n ≤ N := by
  obtain ⟨D, h1, h2, _⟩ := h
  rw [← h2]
  exact h1.size_le
theorem MapRef.kept {w w' : World} {b N n : Nat} {F : List UInt8 → Int → Option Value} {row : Option Nat} (h : MapRef w b N n F) (hg : w.grownBy w' row) (hne : some b ≠ row) : MapRef w' b N n F := by
  obtain ⟨D, h1, h2, h3⟩ := h
  exact ⟨D, h1.kept hg hne, h2, h3⟩
theorem MapRef.below {w w' : World} {b N n : Nat} {F : List UInt8 → Int → Option Value} (h : MapRef w b N n F) (hb : Below w.heap.size w w') : MapRef w' b N n F :=
  h.kept (row := none) ⟨hb.os, hb.tape, hb.output, hb.size, fun k hk _ => hb.block k hk⟩ (by simp)
section
variable {w : World} {b N n : Nat} {F : List UInt8 → Int → Option Value} {t e : TypeId} {s : List UInt8} {p : Int}
/-- 'v, ok := m[k]', where there is one. -/
theorem MapRef.look (h : MapRef w b N n F) (ht : Try.prog.underlying t = some (.map 32 e)) {z : Value} (hz : (zeroValue e).run Try.prog w = .ok z w) (hs : s.length = 32) (hp : Fits p) {v : Value} (hv : F s p = some v) :
    (Instr.lookup t (.map (some b)) (.agg (refCells s p).toArray) true).run Try.prog w = .ok (.tuple #[v, .bool true]) w := by
  obtain ⟨D, h1, _, h3⟩ := h
  obtain ⟨l, hl⟩ := key_ref hs hp
  have h4 : ∀ y, D.atKey l y = .held v := fun y => by rw [h3 s p l hs hp hl y, hv]
  obtain ⟨v', ps, hrun, hr⟩ := h1.look_ok Try.keyRef ht hz (zd := .held z) (zp := []) rfl hl
  rw [has_true_of_atKey h4] at hrun
  rw [h4] at hr
  obtain rfl : v' = v := by simpa [heldR] using (Prod.mk.inj (Option.some.inj hr)).1
  exact hrun
/-- .. where there is none. -/
theorem MapRef.look_no (h : MapRef w b N n F) (ht : Try.prog.underlying t = some (.map 32 e)) {z : Value} (hz : (zeroValue e).run Try.prog w = .ok z w) (hs : s.length = 32) (hp : Fits p) (hv : F s p = none) :
    (Instr.lookup t (.map (some b)) (.agg (refCells s p).toArray) true).run Try.prog w = .ok (.tuple #[z, .bool false]) w := by
  obtain ⟨D, h1, _, h3⟩ := h
  obtain ⟨l, hl⟩ := key_ref hs hp
  have h4 : ∀ y, D.atKey l y = y := fun y => by rw [h3 s p l hs hp hl y, hv]
  obtain ⟨v', ps, hrun, hr⟩ := h1.look_ok Try.keyRef ht hz (zd := .held z) (zp := []) rfl hl
  rw [has_false_of_atKey h4] at hrun
  rw [h4] at hr
  obtain rfl : v' = z := by simpa [heldR] using (Prod.mk.inj (Option.some.inj hr)).1
  exact hrun
/-- 'm[k]'. -/
theorem MapRef.get (h : MapRef w b N n F) (ht : Try.prog.underlying t = some (.map 32 e)) {z : Value} (hz : (zeroValue e).run Try.prog w = .ok z w) (hs : s.length = 32) (hp : Fits p) :
    (Instr.lookup t (.map (some b)) (.agg (refCells s p).toArray) false).run Try.prog w = .ok ((F s p).getD z) w := by
  obtain ⟨D, h1, _, h3⟩ := h
  obtain ⟨l, hl⟩ := key_ref hs hp
  obtain ⟨v', ps, hrun, hr⟩ := h1.lookup Try.keyRef ht hz (zd := .held z) (zp := []) rfl hl
  rw [h3 s p l hs hp hl] at hr
  have h5 : v' = (F s p).getD z := by
    cases hf : F s p with
    | none =>
      rw [hf] at hr
      simpa [heldR] using (Prod.mk.inj (Option.some.inj hr)).1
    | some v =>
      rw [hf] at hr
      simpa [heldR] using (Prod.mk.inj (Option.some.inj hr)).1
  rw [← h5]
  exact hrun
theorem MapRef.len (h : MapRef w b N n F) (ht : Try.prog.underlying t = some (.map 32 e)) (ty : TypeId) : (Builtin.len_ #[t] ty #[.map (some b)]).run Try.prog w = .ok (.int .i64 n) w := by
  obtain ⟨D, h1, h2, _⟩ := h
  rw [h1.len ht ty, h2]
theorem cellsOf_same : ∀ {s r : List UInt8}, cellsOf s = cellsOf r → s = r
  | [], [], _ => rfl
  | [], y :: r, h => by simp [cellsOf] at h
  | x :: s, [], h => by simp [cellsOf] at h
  | x :: s, y :: r, h => by
    simp only [cellsOf, List.map_cons, List.cons.injEq] at h
    have h1 : x = y := by
      have h9 := h.1
      simp at h9
      exact UInt8.toNat_inj.1 (by omega)
    rw [h1, cellsOf_same h.2]
theorem keys_apart {q : Int} {r : List UInt8} {l k : Lit} (h1 : keyOf Try.prog 32 (.agg (refCells s p).toArray) = some l) (h2 : keyOf Try.prog 32 (.agg (refCells r q).toArray) = some k) (hs : s.length = 32) (hr : r.length = 32) (hne : ¬ (r = s ∧ q = p)) : k ≠ l := fun e => by
  subst e
  have h9 := key_ref_inj h1 h2
  unfold refCells at h9
  have h8 := List.append_inj h9 (by rw [cellsOf_len, cellsOf_len, hs, hr])
  have h7 : q = p := by simpa using h8.2.symm
  refine hne ⟨?_, h7⟩
  exact (cellsOf_same h8.1).symm
/-- 'm[k] = v', where there is none yet. -/
theorem MapRef.put (h : MapRef w b N n F) (ht : Try.prog.underlying t = some (.map 32 e)) (hN : N ≤ 1000000) (hs : s.length = 32) (hp : Fits p) (hno : F s p = none) (v : Value) :
    ∃ w', (Instr.mapUpdate t (.map (some b)) (.agg (refCells s p).toArray) v).run Try.prog w = .ok () w' ∧ MapRef w' b (N + 1) (n + 1) (fun r q => if r = s ∧ q = p then some v else F r q) ∧ w.grownBy w' (some b) := by
  obtain ⟨D, h1, h2, h3⟩ := h
  obtain ⟨l, hl⟩ := key_ref hs hp
  obtain ⟨w', hrun, hown, hg⟩ := h1.update Try.keyRef ht (by unfold maxLen; omega) hl (d := .held v) (ps := []) rfl
  refine ⟨w', hrun, ⟨_, hown, ?_, fun r q k hr hq hk z => ?_⟩, hg⟩
  · rw [size_put (h1.tidy Try.keyRef), has_false_of_atKey (fun y => by rw [h3 s p l hs hp hl y, hno]), if_neg (by simp), h2]
  · by_cases e : r = s ∧ q = p
    · obtain ⟨rfl, rfl⟩ := e
      obtain rfl : k = l := Option.some.inj (hk.symm.trans hl)
      rw [atKey_put_same h1.isMap (Try.keyRef.key hl)]
      simp
    · rw [atKey_put_other (keys_apart hl hk hs hr e), h3 r q k hr hq hk z]
      simp only [if_neg e]
/-- 'delete(m, k)', where there is one. -/
theorem MapRef.drop (h : MapRef w b N n F) (ht : Try.prog.underlying t = some (.map 32 e)) (hs : s.length = 32) (hp : Fits p) {v : Value} (hv : F s p = some v) (ty : TypeId) :
    ∃ w', (Builtin.delete_ #[t, 32] ty #[.map (some b), .agg (refCells s p).toArray]).run Try.prog w = .ok (.tuple #[]) w' ∧ MapRef w' b N (n - 1) (fun r q => if r = s ∧ q = p then none else F r q) ∧ w.grownBy w' (some b) := by
  obtain ⟨D, h1, h2, h3⟩ := h
  obtain ⟨l, hl⟩ := key_ref hs hp
  obtain ⟨w', hrun, hown, hg⟩ := h1.drop Try.keyRef ht hl ty
  refine ⟨w', hrun, ⟨_, hown, ?_, fun r q k hr hq hk z => ?_⟩, hg.grown⟩
  · have h4 := size_del (k := l) (h1.tidy Try.keyRef)
    rw [has_true_of_atKey (y := .held v) (fun y => by rw [h3 s p l hs hp hl y, hv]), if_pos rfl, h2] at h4
    omega
  · by_cases e : r = s ∧ q = p
    · obtain ⟨rfl, rfl⟩ := e
      obtain rfl : k = l := Option.some.inj (hk.symm.trans hl)
      rw [atKey_del_same]
      simp
    · rw [atKey_del_other (keys_apart hl hk hs hr e), h3 r q k hr hq hk z]
      simp only [if_neg e]
end
end Go.Proofs.Ytdeilkpcmgcbaaa
