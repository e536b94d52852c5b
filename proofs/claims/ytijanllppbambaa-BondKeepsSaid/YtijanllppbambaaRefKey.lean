/- A place (api.Ref) as a map's key: that it is one, and that unlike places are unlike keys. No function of the program is named. -/
import Derived.Test.YtijanllppbambaaRefs
import Derived.Test.YtijanllppbambaaNumbers
import Derived.Maps.Keyed
import Derived.DeepKeys5
namespace Go.Proofs.Ytijanllppbambaa
open Go.RowKit Go.Maps

theorem Try.laid9 : laidOutB Try.prog = true := by kernel_rfl
theorem Try.wideRef : (match Try.prog.underlying 33 with | some (.array _ _) | some (.struct _) => true | _ => false) = true := by kernel_rfl
theorem Try.few9 : Nat.ble (Try.prog.types.size + 2) 10000 = true := by kernel_rfl
theorem Try.rowRef9 : Nat.blt 33 Try.prog.types.size = true := by kernel_rfl
theorem Try.keyTypeRef : Try.prog.keyType 33 = true := by kernel_rfl
set_option maxRecDepth 100000 in
theorem Try.lawRef : WideMaps.KeyLaw Try.prog 33 := deep_law_gate Try.laid9 (Nat.le_of_ble_eq_true Try.few9) (Nat.le_of_ble_eq_true Try.rowRef9) Try.keyTypeRef Try.wideRef
theorem Try.keyRef : Keyed Try.prog 33 := Keyed.of_law Try.lawRef
theorem mapM_all {α β : Type} {f : α → Option β} {g : α → β} : ∀ {l : List α}, (∀ x ∈ l, f x = some (g x)) → l.mapM f = some (l.map g)
  | [], _ => rfl
  | x :: l, h => by
    have ih := mapM_all (f := f) (g := g) (l := l) (fun y hy => h y (by simp [hy]))
    rw [List.mapM_cons, h x (by simp), ih]
    rfl
theorem u8_wf (b : UInt8) : (Lit.int .u8 ((b.toNat : Nat) : Int)).wf = true := by
  have h := b.toNat_lt
  have h1 : IntKind.u8.min = 0 := by decide
  have h2 : IntKind.u8.max = 255 := by decide
  simp [Lit.wf, h1, h2]
  omega
theorem i64_wf {z : Int} (h : Fits z) : (Lit.int .i64 z).wf = true := by
  have h1 : IntKind.i64.min = -9223372036854775808 := by decide
  have h2 : IntKind.i64.max = 9223372036854775807 := by decide
  have h3 := h.1
  have h4 := h.2
  simp [Lit.wf, h1, h2]
  omega
theorem key_byte (d : Nat) (b : UInt8) : Try.prog.keyLits (d + 1) 5 [.int .u8 ((b.toNat : Nat) : Int)] = some [.int .u8 ((b.toNat : Nat) : Int)] := by
  unfold Program.keyLits
  simp only [Try.underlying5]
  simp [u8_wf b]
theorem key_int (d : Nat) {z : Int} (h : Fits z) : Try.prog.keyLits (d + 1) 3 [.int .i64 z] = some [.int .i64 z] := by
  unfold Program.keyLits
  simp only [Try.underlying3]
  simp [i64_wf h]
theorem key_sum (d : Nat) {s : List UInt8} (hs : s.length = 32) : ∃ L, Try.prog.keyLits (d + 2) 31 (cellsOf s) = some L := by
  have hc : Try.prog.cellsOf 31 = 32 := by kernel_rfl
  have hc1 : Try.prog.cellsOf 5 = 1 := by kernel_rfl
  unfold Program.keyLits
  simp only [Try.underlying31]
  simp only [hc, hc1, cellsOf_len, hs, if_true]
  rw [mapM_all (g := fun i => [Lit.int .u8 (((s.getD i 0).toNat : Nat) : Int)]) (fun i hi => ?_)]
  · exact ⟨_, rfl⟩
  · have hi' : i < s.length := by rw [hs]; exact List.mem_range.1 hi
    have e : ((cellsOf s).drop (i * 1)).take 1 = [.int .u8 (((s.getD i 0).toNat : Nat) : Int)] := by
      have h1 := cellsOf_get hi'
      have h2 : i < (cellsOf s).length := by rw [cellsOf_len]; exact hi'
      rw [List.getElem?_eq_getElem h2] at h1
      rw [Nat.mul_one, List.drop_eq_getElem_cons h2, Option.some.inj h1]
      rfl
    rw [e]
    exact key_byte d _
theorem key_ref {s : List UInt8} {p : Int} (hs : s.length = 32) (hp : Fits p) : ∃ l, keyOf Try.prog 33 (.agg (refCells s p).toArray) = some l := by
  have hc : Try.prog.cellsOf 33 = 33 := by kernel_rfl
  have hcs : Try.prog.cellsOf 31 = 32 := by kernel_rfl
  have hci : Try.prog.cellsOf 3 = 1 := by kernel_rfl
  obtain ⟨d, hd⟩ : ∃ d, Try.prog.types.size + 1 = d + 3 := ⟨Try.prog.types.size + 1 - 3, by have h : 2 ≤ Try.prog.types.size := Nat.le_of_ble_eq_true (by kernel_rfl); omega⟩
  obtain ⟨L, hL⟩ := key_sum d hs
  have hk : Try.prog.keyType 33 = true := by kernel_rfl
  have hf : (Value.agg (refCells s p).toArray).formed Try.prog 33 = true := by
    simp [Value.formed, Try.underlying33, hc, refCells_len hs]
  have hlits : ∃ ls, Try.prog.keyLits (d + 3) 33 (refCells s p) = some ls := by
    unfold Program.keyLits
    simp only [Try.underlying33]
    have e1 : (refCells s p).take 32 = cellsOf s := by
      unfold refCells
      rw [List.take_append_of_le_length (by rw [cellsOf_len, hs]; exact Nat.le_refl _), List.take_of_length_le (by rw [cellsOf_len, hs]; exact Nat.le_refl _)]
    have e2 : ((refCells s p).drop 32).take 1 = [.int .i64 p] := by
      unfold refCells
      rw [List.drop_append_of_le_length (by rw [cellsOf_len, hs]; exact Nat.le_refl _), List.drop_of_length_le (by rw [cellsOf_len, hs]; exact Nat.le_refl _)]
      rfl
    simp only [hc, refCells_len hs]
    simp [hcs, hci, e1, e2, hL, key_int, hp]
  obtain ⟨ls, hls⟩ := hlits
  refine ⟨.string (keyBytes ls), ?_⟩
  unfold keyOf
  simp only [Try.underlying33, hk, hf, Bool.and_self, if_true, hd]
  show Option.map _ (Try.prog.keyLits (d + 3) 33 (refCells s p)) = _
  rw [hls]
  rfl
/-- Unlike places are unlike keys. -/
theorem key_ref_inj {s t : List UInt8} {p q : Int} {l : Lit} (h1 : keyOf Try.prog 33 (.agg (refCells s p).toArray) = some l) (h2 : keyOf Try.prog 33 (.agg (refCells t q).toArray) = some l) : refCells s p = refCells t q := by
  have h := Try.keyRef.inj h1 h2
  simpa using h
end Go.Proofs.Ytijanllppbambaa
