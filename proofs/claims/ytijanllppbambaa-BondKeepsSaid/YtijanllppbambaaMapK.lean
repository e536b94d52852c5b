/- Maps by keys of any kind, of elements of any type: which key has what, and how many there are; reading, writing, striking. Keys that are a number, or two. No function of the program is named. -/
import Derived.Test.YtijanllppbambaaRefKey
import Derived.Maps.Own
import Derived.Maps.OwnOps
import Derived.Maps.OwnSet
import Derived.Maps.Views
namespace Go.Proofs.Ytijanllppbambaa
open Go.RowKit Go.Maps

/-- A kind of key: its type, its values; unlike keys are unlike values; each value that is a key is one of these. -/
structure KeyKind (α : Type) where
  type : TypeId
  val : α → Value
  keyed : Keyed Try.prog type
  has : ∀ x, ∃ l, keyOf Try.prog type (val x) = some l
  back : ∀ v l, keyOf Try.prog type v = some l → ∃ x, v = val x
  inj : ∀ x y, val x = val y → x = y
variable {α : Type} {K : KeyKind α}
theorem KeyKind.apart {x y : α} {l k : Lit} (h1 : keyOf Try.prog K.type (K.val x) = some l) (h2 : keyOf Try.prog K.type (K.val y) = some k) (hne : y ≠ x) : k ≠ l := fun e => by
  subst e
  exact hne (K.inj _ _ (K.keyed.inj h2 h1))
/-- An element reads as itself. -/
def heldR : Value → Option (DataW Value × List MemPlace) := fun v => some (.held v, [])
/-- Block b is a map of n entries (never more than N); F: what each key has. -/
def MapK (K : KeyKind α) (w : World) (b N n : Nat) (F : α → Option Value) : Prop :=
  ∃ D : DataW Value, w.ownsMap Try.prog K.type heldR b N D ∧ Maps.size D = n ∧ ∀ x l, keyOf Try.prog K.type (K.val x) = some l → ∀ z, D.atKey l z = (match F x with | some v => .held v | none => z)
theorem MapK.made (K : KeyKind α) (w : World) : MapK K (w.alloc (.map #[] 0)) w.heap.size 0 0 (fun _ => none) :=
  ⟨.map [], World.ownsMap_made _ _ _ _, rfl, fun _ _ _ _ => rfl⟩
theorem MapK.lt {w : World} {b N n : Nat} {F : α → Option Value} (h : MapK K w b N n F) : b < w.heap.size := by
  obtain ⟨D, h1, _⟩ := h
  exact h1.lt
theorem MapK.few {w : World} {b N n : Nat} {F : α → Option Value} (h : MapK K w b N n F) : n ≤ N := by
  obtain ⟨D, h1, h2, _⟩ := h
  rw [← h2]
  exact h1.size_le
theorem MapK.isMap {w : World} {b N n : Nat} {F : α → Option Value} (h : MapK K w b N n F) : ∃ es cl, w.heap[b]? = some (.map es cl) := by
  obtain ⟨D, ⟨es, cl, hb, _⟩, _⟩ := h
  exact ⟨es, cl, hb⟩
theorem MapK.kept {w w' : World} {b N n : Nat} {F : α → Option Value} {row : Option Nat} (h : MapK K w b N n F) (hg : w.grownBy w' row) (hne : some b ≠ row) : MapK K w' b N n F := by
  obtain ⟨D, h1, h2, h3⟩ := h
  exact ⟨D, h1.kept hg hne, h2, h3⟩
theorem MapK.below {w w' : World} {b N n : Nat} {F : α → Option Value} (h : MapK K w b N n F) (hb : Below w.heap.size w w') : MapK K w' b N n F :=
  h.kept (row := none) ⟨hb.os, hb.tape, hb.output, hb.size, fun k hk _ => hb.block k hk⟩ (by simp)
theorem MapK.but {w w' : World} {b N n p : Nat} {F : α → Option Value} (h : MapK K w b N n F) (hb : But w.heap.size p w w') (hp : b ≠ p) : MapK K w' b N n F :=
  h.kept (row := some p) ⟨hb.os, hb.tape, hb.output, hb.size, fun k hk hn => hb.block k hk (fun e => hn (by rw [e]))⟩ (fun e => hp (Option.some.inj e))
theorem MapK.congr {w : World} {b N n : Nat} {F G : α → Option Value} (h : MapK K w b N n F) (hg : ∀ x, F x = G x) : MapK K w b N n G := by
  obtain rfl : F = G := funext hg
  exact h
section
variable {w : World} {b N n : Nat} {F : α → Option Value} {t e : TypeId} {x : α}
/-- 'v, ok := m[k]', where there is one. -/
theorem MapK.look (h : MapK K w b N n F) (ht : Try.prog.underlying t = some (.map K.type e)) {z : Value} (hz : (zeroValue e).run Try.prog w = .ok z w) {v : Value} (hv : F x = some v) :
    (Instr.lookup t (.map (some b)) (K.val x) true).run Try.prog w = .ok (.tuple #[v, .bool true]) w := by
  obtain ⟨D, h1, _, h3⟩ := h
  obtain ⟨l, hl⟩ := K.has x
  have h4 : ∀ y, D.atKey l y = .held v := fun y => by rw [h3 x l hl y, hv]
  obtain ⟨v', ps, hrun, hr⟩ := h1.look_ok K.keyed ht hz (zd := .held z) (zp := []) rfl hl
  rw [has_true_of_atKey h4] at hrun
  rw [h4] at hr
  obtain rfl : v' = v := by simpa [heldR] using (Prod.mk.inj (Option.some.inj hr)).1
  exact hrun
/-- .. where there is none. -/
theorem MapK.look_no (h : MapK K w b N n F) (ht : Try.prog.underlying t = some (.map K.type e)) {z : Value} (hz : (zeroValue e).run Try.prog w = .ok z w) (hv : F x = none) :
    (Instr.lookup t (.map (some b)) (K.val x) true).run Try.prog w = .ok (.tuple #[z, .bool false]) w := by
  obtain ⟨D, h1, _, h3⟩ := h
  obtain ⟨l, hl⟩ := K.has x
  have h4 : ∀ y, D.atKey l y = y := fun y => by rw [h3 x l hl y, hv]
  obtain ⟨v', ps, hrun, hr⟩ := h1.look_ok K.keyed ht hz (zd := .held z) (zp := []) rfl hl
  rw [has_false_of_atKey h4] at hrun
  rw [h4] at hr
  obtain rfl : v' = z := by simpa [heldR] using (Prod.mk.inj (Option.some.inj hr)).1
  exact hrun
/-- 'm[k]'. -/
theorem MapK.get (h : MapK K w b N n F) (ht : Try.prog.underlying t = some (.map K.type e)) {z : Value} (hz : (zeroValue e).run Try.prog w = .ok z w) :
    (Instr.lookup t (.map (some b)) (K.val x) false).run Try.prog w = .ok ((F x).getD z) w := by
  obtain ⟨D, h1, _, h3⟩ := h
  obtain ⟨l, hl⟩ := K.has x
  obtain ⟨v', ps, hrun, hr⟩ := h1.lookup K.keyed ht hz (zd := .held z) (zp := []) rfl hl
  rw [h3 x l hl] at hr
  have h5 : v' = (F x).getD z := by
    cases hf : F x with
    | none =>
      rw [hf] at hr
      simpa [heldR] using (Prod.mk.inj (Option.some.inj hr)).1
    | some v =>
      rw [hf] at hr
      simpa [heldR] using (Prod.mk.inj (Option.some.inj hr)).1
  rw [← h5]
  exact hrun
/-- 'm[k] = v', where there is none yet. -/
theorem MapK.put [DecidableEq α] (h : MapK K w b N n F) (ht : Try.prog.underlying t = some (.map K.type e)) (hN : N ≤ 1000000) (x : α) (hno : F x = none) (v : Value) :
    ∃ w', (Instr.mapUpdate t (.map (some b)) (K.val x) v).run Try.prog w = .ok () w' ∧ MapK K w' b (N + 1) (n + 1) (fun y => if y = x then some v else F y) ∧ w.grownBy w' (some b) := by
  obtain ⟨D, h1, h2, h3⟩ := h
  obtain ⟨l, hl⟩ := K.has x
  obtain ⟨w', hrun, hown, hg⟩ := h1.update K.keyed ht (by unfold maxLen; omega) hl (d := .held v) (ps := []) rfl
  refine ⟨w', hrun, ⟨_, hown, ?_, fun y k hk z => ?_⟩, hg⟩
  · rw [size_put (h1.tidy K.keyed), has_false_of_atKey (fun y => by rw [h3 x l hl y, hno]), if_neg (by simp), h2]
  · by_cases e : y = x
    · subst e
      obtain rfl : k = l := Option.some.inj (hk.symm.trans hl)
      rw [atKey_put_same h1.isMap (K.keyed.key hl)]
      simp
    · rw [atKey_put_other (KeyKind.apart hl hk e), h3 y k hk z]
      simp only [if_neg e]
/-- 'm[k] = v', where there is one. -/
theorem MapK.set [DecidableEq α] (h : MapK K w b N n F) (ht : Try.prog.underlying t = some (.map K.type e)) (hN : N ≤ 1000000) (x : α) (hsome : F x ≠ none) (v : Value) :
    ∃ w', (Instr.mapUpdate t (.map (some b)) (K.val x) v).run Try.prog w = .ok () w' ∧ MapK K w' b (N + 1) n (fun y => if y = x then some v else F y) ∧ w.grownBy w' (some b) := by
  obtain ⟨D, h1, h2, h3⟩ := h
  obtain ⟨l, hl⟩ := K.has x
  obtain ⟨u, hu⟩ : ∃ u, F x = some u := Option.ne_none_iff_exists'.1 hsome
  obtain ⟨w', hrun, hown, hg⟩ := h1.update K.keyed ht (by unfold maxLen; omega) hl (d := .held v) (ps := []) rfl
  refine ⟨w', hrun, ⟨_, hown, ?_, fun y k hk z => ?_⟩, hg⟩
  · rw [size_put (h1.tidy K.keyed), has_true_of_atKey (y := .held u) (fun y => by rw [h3 x l hl y, hu]), if_pos rfl, h2]
  · by_cases e : y = x
    · subst e
      obtain rfl : k = l := Option.some.inj (hk.symm.trans hl)
      rw [atKey_put_same h1.isMap (K.keyed.key hl)]
      simp
    · rw [atKey_put_other (KeyKind.apart hl hk e), h3 y k hk z]
      simp only [if_neg e]
/-- 'delete(m, k)', where there is one. -/
theorem MapK.drop [DecidableEq α] (h : MapK K w b N n F) (ht : Try.prog.underlying t = some (.map K.type e)) (x : α) (hsome : F x ≠ none) (ty : TypeId) :
    ∃ w', (Builtin.delete_ #[t, K.type] ty #[.map (some b), K.val x]).run Try.prog w = .ok (.tuple #[]) w' ∧ MapK K w' b N (n - 1) (fun y => if y = x then none else F y) ∧ w.grownBy w' (some b) := by
  obtain ⟨D, h1, h2, h3⟩ := h
  obtain ⟨l, hl⟩ := K.has x
  obtain ⟨u, hu⟩ : ∃ u, F x = some u := Option.ne_none_iff_exists'.1 hsome
  obtain ⟨w', hrun, hown, hg⟩ := h1.drop K.keyed ht hl ty
  refine ⟨w', hrun, ⟨_, hown, ?_, fun y k hk z => ?_⟩, hg.grown⟩
  · have h4 := size_del (k := l) (h1.tidy K.keyed)
    rw [has_true_of_atKey (y := .held u) (fun y => by rw [h3 x l hl y, hu]), if_pos rfl, h2] at h4
    omega
  · by_cases e : y = x
    · subst e
      obtain rfl : k = l := Option.some.inj (hk.symm.trans hl)
      rw [atKey_del_same]
      simp
    · rw [atKey_del_other (KeyKind.apart hl hk e), h3 y k hk z]
      simp only [if_neg e]
end
theorem MapK.look_nil {w : World} {t e : TypeId} (x : α) (ht : Try.prog.underlying t = some (.map K.type e)) {z : Value} (hz : (zeroValue e).run Try.prog w = .ok z w) :
    (Instr.lookup t (.map none) (K.val x) true).run Try.prog w = .ok (.tuple #[z, .bool false]) w := by
  obtain ⟨l, hl⟩ := K.has x
  exact Maps.look_nil (w := w) true K.keyed ht hz hl

/-! ### What has come of a range -/
def ComeK (K : KeyKind α) (D : DataW Value) (left : Lit → Bool) (ss : List α) : Prop :=
  ss.Nodup ∧ ∀ (x : α) (l : Lit), keyOf Try.prog K.type (K.val x) = some l → (x ∈ ss ↔ Maps.has D l = true ∧ left l = false)
theorem ComeK.start (K : KeyKind α) (D : DataW Value) : ComeK K D (Maps.has D) [] := ⟨List.nodup_nil, fun x l _ => by cases Maps.has D l <;> simp⟩
theorem ComeK.step {D : DataW Value} {left : Lit → Bool} {ss : List α} {x : α} {l : Lit} (h : ComeK K D left ss) (hk : keyOf Try.prog K.type (K.val x) = some l) (hl : left l = true) (hd : Maps.has D l = true) : ComeK K D (fun z => left z && !z.sameKey l) (ss ++ [x]) := by
  have hx : x ∉ ss := fun e => by
    have h9 := ((h.2 x l hk).1 e).2
    rw [hl] at h9
    cases h9
  refine ⟨List.nodup_append.2 ⟨h.1, by simp, fun a ha b hb e => by
    simp at hb
    subst hb
    subst e
    exact hx ha⟩, fun y k hy => ?_⟩
  by_cases e : y = x
  · subst e
    obtain rfl : k = l := Option.some.inj (hy.symm.trans hk)
    have h9 : k.sameKey k = true := WideAt.sameKey_self (K.keyed.key hk)
    simp [hd, h9]
  · have hne : k ≠ l := fun e2 => by
      subst e2
      exact e (K.inj _ _ (K.keyed.inj hy hk))
    have h9 : k.sameKey l = false := Maps.sameKey_ne hne
    simp only [List.mem_append, List.mem_singleton, e, or_false, h9, Bool.not_false, Bool.and_true]
    exact h.2 y k hy
theorem ComeK.done {D : DataW Value} {left : Lit → Bool} {ss : List α} (h : ComeK K D left ss) (hl : ∀ k, left k = false) (x : α) {l : Lit} (hk : keyOf Try.prog K.type (K.val x) = some l) : x ∈ ss ↔ Maps.has D l = true := by
  rw [h.2 x l hk, hl]
  simp
/-- At the end: all keys, none twice. -/
theorem ComeK.all {D : DataW Value} {F : α → Option Value} {left : Lit → Bool} {ss : List α} (h : ComeK K D left ss) (hl : ∀ k, left k = false) (hF : ∀ x l, keyOf Try.prog K.type (K.val x) = some l → ∀ z, D.atKey l z = (match F x with | some v => .held v | none => z)) : ss.Nodup ∧ ∀ x, x ∈ ss ↔ F x ≠ none :=
  ⟨h.1, fun x => by
    obtain ⟨k, hk⟩ := K.has x
    rw [h.done hl x hk]
    have hv := hF x k hk
    cases hfx : F x with
    | none =>
      rw [hfx] at hv
      rw [has_false_of_atKey hv]
      simp
    | some v =>
      rw [hfx] at hv
      rw [has_true_of_atKey hv]
      simp⟩
/-- What comes is what the map has. -/
theorem atKey_F {D : DataW Value} {F : α → Option Value} (hF : ∀ x l, keyOf Try.prog K.type (K.val x) = some l → ∀ z, D.atKey l z = (match F x with | some v => .held v | none => z)) {x : α} {l : Lit} (hk : keyOf Try.prog K.type (K.val x) = some l) {c : Value} (hat : ∀ z, D.atKey l z = .held c) : F x = some c := by
  have h9 := hF x l hk
  cases hf : F x with
  | none =>
    rw [hf] at h9
    have h8 := (hat (.map [])).symm.trans (h9 (.map []))
    cases h8
  | some v =>
    rw [hf] at h9
    have h8 := (hat (.map [])).symm.trans (h9 (.map []))
    cases h8
    rfl

/-! ### A number as a key; two numbers -/
structure NumD where
  z : Int
  hz : Fits z
instance : DecidableEq NumD := fun x y => if h : x.z = y.z then .isTrue (by cases x; cases y; cases h; rfl) else .isFalse (fun e => h (by rw [e]))
theorem Try.keyNum : Keyed Try.prog 3 := int_keyed Try.underlying3
def numK : KeyKind NumD where
  type := 3
  val x := .int .i64 x.z
  keyed := Try.keyNum
  has x := ⟨.int .i64 x.z, by simp [keyOf, Try.underlying3, mapKey, i64_wf x.hz]⟩
  back v l h := by
    cases v <;> simp [keyOf, Try.underlying3, mapKey] at h
    rename_i q a
    obtain ⟨⟨rfl, hw⟩, rfl⟩ := h
    have h1 : IntKind.i64.min = -9223372036854775808 := by decide
    have h2 : IntKind.i64.max = 9223372036854775807 := by decide
    simp [Lit.wf, h1, h2] at hw
    exact ⟨⟨a, hw.1, hw.2⟩, rfl⟩
  inj x y h := by
    cases x
    cases y
    simp at h
    subst h
    rfl
structure TwoD where
  y : Int
  z : Int
  hy : Fits y
  hz : Fits z
instance : DecidableEq TwoD := fun a b => if h : a.y = b.y ∧ a.z = b.z then .isTrue (by cases a; cases b; obtain ⟨h1, h2⟩ := h; cases h1; cases h2; rfl) else .isFalse (fun e => h (by rw [e]; exact ⟨rfl, rfl⟩))
theorem Try.wideTwo : (match Try.prog.underlying 76 with | some (.array _ _) | some (.struct _) => true | _ => false) = true := by kernel_rfl
theorem Try.rowTwo : Nat.blt 76 Try.prog.types.size = true := by kernel_rfl
theorem Try.keyTypeTwo : Try.prog.keyType 76 = true := by kernel_rfl
set_option maxRecDepth 100000 in
theorem Try.lawTwo : WideMaps.KeyLaw Try.prog 76 := deep_law_gate Try.laid9 (Nat.le_of_ble_eq_true Try.few9) (Nat.le_of_ble_eq_true Try.rowTwo) Try.keyTypeTwo Try.wideTwo
theorem Try.keyTwo : Keyed Try.prog 76 := Keyed.of_law Try.lawTwo
theorem key_two {y z : Int} (hy : Fits y) (hz : Fits z) : ∃ l, keyOf Try.prog 76 (.agg #[.int .i64 y, .int .i64 z]) = some l := by
  have hc : Try.prog.cellsOf 76 = 2 := by kernel_rfl
  have hci : Try.prog.cellsOf 3 = 1 := by kernel_rfl
  obtain ⟨d, hd⟩ : ∃ d, Try.prog.types.size + 1 = d + 3 := ⟨Try.prog.types.size + 1 - 3, by have h : 2 ≤ Try.prog.types.size := Nat.le_of_ble_eq_true (by kernel_rfl); omega⟩
  have hf : (Value.agg #[.int .i64 y, .int .i64 z]).formed Try.prog 76 = true := by
    simp [Value.formed, Try.underlying76, hc]
  have hlits : ∃ ls, Try.prog.keyLits (d + 3) 76 [.int .i64 y, .int .i64 z] = some ls := by
    unfold Program.keyLits
    simp only [Try.underlying76]
    refine ⟨[.int .i64 y, .int .i64 z], ?_⟩
    have e2 : List.range 2 = [0, 1] := rfl
    simp [hc, hci, e2, key_int, hy, hz]
  obtain ⟨ls, hls⟩ := hlits
  refine ⟨.string (keyBytes ls), ?_⟩
  unfold keyOf
  simp only [Try.underlying76, Try.keyTypeTwo, hf, Bool.and_self, if_true, hd]
  show Option.map _ (Try.prog.keyLits (d + 3) 76 [.int .i64 y, .int .i64 z]) = _
  rw [hls]
  rfl
theorem mapM_get {α β : Type} {f : α → Option β} : ∀ {l : List α} {r : List β}, l.mapM f = some r → ∀ x ∈ l, ∃ y, f x = some y
  | [], _, _, _, hx => by cases hx
  | a :: l, r, h, x, hx => by
    rw [List.mapM_cons] at h
    cases h1 : f a with
    | none => rw [h1] at h; cases h
    | some y =>
      rw [h1] at h
      cases h2 : l.mapM f with
      | none => rw [h2] at h; cases h
      | some r' =>
        rcases List.mem_cons.1 hx with rfl | hx
        · exact ⟨y, h1⟩
        · exact mapM_get h2 x hx
theorem int_back {d : Nat} {v : Value} {r : List Lit} (h : Try.prog.keyLits d 3 [v] = some r) : ∃ z : Int, v = .int .i64 z ∧ Fits z := by
  cases d with
  | zero => cases h
  | succ d =>
    unfold Program.keyLits at h
    simp only [Try.underlying3] at h
    cases v with
    | int q x =>
      simp only at h
      split at h
      · rename_i hq
        obtain ⟨rfl, hw⟩ := hq
        have h1 : IntKind.i64.min = -9223372036854775808 := by decide
        have h2 : IntKind.i64.max = 9223372036854775807 := by decide
        simp [Lit.wf, h1, h2] at hw
        exact ⟨x, rfl, hw.1, hw.2⟩
      · cases h
    | _ => cases h
set_option maxRecDepth 100000 in
theorem key_two_back {v : Value} {l : Lit} (h : keyOf Try.prog 76 v = some l) : ∃ x : TwoD, v = .agg #[.int .i64 x.y, .int .i64 x.z] := by
  have hc : Try.prog.cellsOf 76 = 2 := by kernel_rfl
  have hci : Try.prog.cellsOf 3 = 1 := by kernel_rfl
  unfold keyOf at h
  simp only [Try.underlying76] at h
  split at h
  · rename_i hk
    have hf : v.formed Try.prog 76 = true := by
      cases hh : v.formed Try.prog 76 with
      | true => rfl
      | false => rw [hh] at hk; simp at hk
    cases hl : Try.prog.keyLits (Try.prog.types.size + 1) 76 v.cells.toList with
    | none => rw [hl] at h; cases h
    | some ls =>
      cases v with
      | agg cs =>
        have hcl : cs.size = 2 := by
          simpa [Value.formed, Try.underlying76, hc] using hf
        obtain ⟨c0, c1, rfl⟩ : ∃ a b, cs = #[a, b] := by
          obtain ⟨l⟩ := cs
          match l, hcl with
          | [a, b], _ => exact ⟨a, b, rfl⟩
        have e0 : (Value.agg #[c0, c1]).cells.toList = [c0, c1] := rfl
        rw [e0] at hl
        unfold Program.keyLits at hl
        simp only [Try.underlying76] at hl
        split at hl
        · cases hm : (List.range 2).mapM (fun i => Try.prog.keyLits Try.prog.types.size 3 (([c0, c1].drop (i * Try.prog.cellsOf 3)).take (Try.prog.cellsOf 3))) with
          | none => rw [hm] at hl; cases hl
          | some rr =>
            obtain ⟨y0, h0⟩ := mapM_get hm 0 (by simp)
            obtain ⟨y1, h1⟩ := mapM_get hm 1 (by simp)
            rw [hci] at h0 h1
            obtain ⟨z0, rfl, f0⟩ := int_back (d := Try.prog.types.size) (v := c0) (r := y0) h0
            obtain ⟨z1, rfl, f1⟩ := int_back (d := Try.prog.types.size) (v := c1) (r := y1) h1
            exact ⟨⟨z0, z1, f0, f1⟩, rfl⟩
        · cases hl
      | _ => simp [Value.formed, Try.underlying76] at hf
  · cases h
def twoK : KeyKind TwoD where
  type := 76
  val x := .agg #[.int .i64 x.y, .int .i64 x.z]
  keyed := Try.keyTwo
  has x := key_two x.hy x.hz
  back v l h := key_two_back h
  inj x y h := by
    cases x
    cases y
    simp at h
    obtain ⟨h1, h2⟩ := h
    subst h1 h2
    rfl
end Go.Proofs.Ytijanllppbambaa
