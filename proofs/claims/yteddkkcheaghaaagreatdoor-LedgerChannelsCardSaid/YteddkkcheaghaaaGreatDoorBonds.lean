/- Towers, channels and holds in memory; those of the law with their numbers; the law's calls. No function of the program is named. The document's board as plain lists: what each call answers and leaves, and what stays so. No function of the program is named. The laws of Steps, at a seat with slices of structs. No function, type or variable of the program is named. Towers, holds and channels built; two alike compared. No function of the program is named. How a board stands: its two maps hold the towers and the holds of plain lists; boards that New did not give. bond.New, given. bond.Clone: a board of its own that is alike. bond.Get, bond.Holds: what a tower, a hold is. bond.Held, bond.Total, bond.Free: sums over maps, in whatever order they come. -/
import Derived.Test.YteddkkcheaghaaaGreatDoorSliceOf
import Derived.Test.YteddkkcheaghaaaGreatDoorTx
import Derived.Test.YteddkkcheaghaaaGreatDoorChanm
import Derived.Test.YteddkkcheaghaaaGreatDoorSteps
import Derived.Test.YteddkkcheaghaaaGreatDoorBuilds
import Derived.Test.YteddkkcheaghaaaGreatDoorMaps
import Derived.Shelf.SlMaps.Clone
import Derived.Test.YteddkkcheaghaaaGreatDoorShelf
import Derived.Maps.RangeWalk
namespace Go.Proofs.YteddkkcheaghaaaGreatDoor
open Go.RowKit

structure PTow where
  root : List UInt8
  locked : Int
  asked : Int
  at9 : Int
def PTow.cells (x : PTow) : List Value := cellsOf x.root ++ [.int .i64 x.locked, .int .i64 x.asked, .int .i64 x.at9]
def noTow : PTow := ⟨zero32, 0, 0, 0⟩
structure TowIn (x : PTow) : Prop where
  root : x.root.length = 32
  locked : Fits x.locked
  asked : Fits x.asked
  at9 : Fits x.at9
theorem PTow.len {x : PTow} (h : x.root.length = 32) : x.cells.length = 35 := by simp [PTow.cells, cellsOf_len, h]
theorem PTow.one (x : PTow) : ∀ v ∈ x.cells, v.oneCell' = true := by
  intro v hv
  simp only [PTow.cells, List.mem_cons, List.mem_append, List.not_mem_nil, or_false] at hv
  rcases hv with hv | rfl | rfl | rfl
  · exact cellsOf_one _ v hv
  all_goals rfl
structure TowAt (w : World) (b o : Nat) (x : PTow) : Prop where
  root : w.rangeAt b o (cellsOf x.root)
  locked : w.cell? ⟨b, o + 32, none⟩ = some (.int .i64 x.locked)
  asked : w.cell? ⟨b, o + 33, none⟩ = some (.int .i64 x.asked)
  at9 : w.cell? ⟨b, o + 34, none⟩ = some (.int .i64 x.at9)
theorem tow_at {w : World} {b o : Nat} {x : PTow} (hr : x.root.length = 32) (h : w.rangeAt b o x.cells) : TowAt w b o x := by
  obtain ⟨h1, h2⟩ := range_append h
  rw [cellsOf_len, hr] at h2
  obtain ⟨h3, h4⟩ := range_cons h2
  obtain ⟨h5, h6⟩ := range_cons h4
  exact ⟨h1, h3, h5, (range_cons h6).1⟩

/-! ### A channel -/
structure PHold where
  ch : PChan
  amount : Int
  proved : Bool
  at9 : Int
  commit : List UInt8
def PHold.cells (x : PHold) : List Value := x.ch.cells ++ (.int .i64 x.amount :: .bool x.proved :: .int .i64 x.at9 :: cellsOf x.commit)
structure HoldIn (x : PHold) : Prop where
  ch : ChanIn x.ch
  amount : Fits x.amount
  at9 : Fits x.at9
  commit : x.commit.length = 32
structure HoldAt (w : World) (b o : Nat) (x : PHold) : Prop where
  ch : w.rangeAt b o x.ch.cells
  id : w.cell? ⟨b, o, none⟩ = some (.int .i64 x.ch.id)
  cap : w.cell? ⟨b, o + 36, none⟩ = some (.int .i64 x.ch.cap)
  amount : w.cell? ⟨b, o + 39, none⟩ = some (.int .i64 x.amount)
  proved : w.cell? ⟨b, o + 40, none⟩ = some (.bool x.proved)
  at9 : w.cell? ⟨b, o + 41, none⟩ = some (.int .i64 x.at9)
  commit : w.rangeAt b (o + 42) (cellsOf x.commit)
/-! ### The law's own: with their numbers -/
structure PTE where
  n : Int
  t : PTow
def PTE.cells (x : PTE) : List Value := .int .i64 x.n :: x.t.cells
structure TEIn (x : PTE) : Prop where
  n : Fits x.n
  t : TowIn x.t
structure PHE where
  n : Int
  h : PHold
def PHE.cells (x : PHE) : List Value := .int .i64 x.n :: x.h.cells
structure HEIn (x : PHE) : Prop where
  n : Fits x.n
  h : HoldIn x.h
/-- A call. -/
structure PCall where
  kind : Int
  tower : Int
  n : Int
  root : List UInt8
  ch : PChan
  height : Int
def PCall.cells (x : PCall) : List Value := .int .i64 x.kind :: .int .i64 x.tower :: .int .i64 x.n :: (cellsOf x.root ++ (x.ch.cells ++ [.int .i64 x.height]))
structure CallIn (x : PCall) : Prop where
  kind : Fits x.kind
  tower : Fits x.tower
  n : Fits x.n
  root : x.root.length = 32
  ch : ChanIn x.ch
  height : Fits x.height
structure CallAt (w : World) (b o : Nat) (x : PCall) : Prop where
  kind : w.cell? ⟨b, o, none⟩ = some (.int .i64 x.kind)
  tower : w.cell? ⟨b, o + 1, none⟩ = some (.int .i64 x.tower)
  n : w.cell? ⟨b, o + 2, none⟩ = some (.int .i64 x.n)
  root : w.rangeAt b (o + 3) (cellsOf x.root)
  ch : w.rangeAt b (o + 35) x.ch.cells
  id : w.cell? ⟨b, o + 35, none⟩ = some (.int .i64 x.ch.id)
  cap : w.cell? ⟨b, o + 71, none⟩ = some (.int .i64 x.ch.cap)
  height : w.cell? ⟨b, o + 74, none⟩ = some (.int .i64 x.height)
/-! ### What the program says of them -/
theorem Tryz.zeroTow : (Tryz.prog.info? 63).map (fun i => (i.zero, i.size, i.bytes)) = some (some (.agg noTow.cells.toArray), 35, 56) := by kernel_rfl
end Go.Proofs.YteddkkcheaghaaaGreatDoor
namespace Go.Proofs.YteddkkcheaghaaaGreatDoor

/-! ### Lists by keys -/
section
variable {β κ : Type} [DecidableEq κ] (key : β → κ)
def lookK (k : κ) : List β → Option β
  | [] => none
  | x :: xs => if key x = k then some x else lookK k xs
def setK (k : κ) (y : β) (xs : List β) : List β := xs.map (fun x => if key x = k then y else x)
variable {key} {k : κ} {xs : List β}
theorem lookK_mem : ∀ {xs : List β} {x : β}, lookK key k xs = some x → x ∈ xs ∧ key x = k
  | [], _, h => by cases h
  | y :: xs, x, h => by
    unfold lookK at h
    split at h
    · rename_i e
      cases h
      exact ⟨by simp, e⟩
    · obtain ⟨h1, h2⟩ := lookK_mem h
      exact ⟨by simp [h1], h2⟩
theorem lookK_none : ∀ {xs : List β}, lookK key k xs = none ↔ ∀ x ∈ xs, key x ≠ k
  | [] => by simp [lookK]
  | y :: xs => by
    unfold lookK
    by_cases e : key y = k
    · rw [if_pos e]
      simp [e]
    · rw [if_neg e, lookK_none]
      simp [e]
theorem lookK_of_mem : ∀ {xs : List β} {x : β}, (xs.map key).Nodup → x ∈ xs → lookK key (key x) xs = some x
  | [], _, _, h => by cases h
  | y :: xs, x, hn, h => by
    rw [List.map_cons, List.nodup_cons] at hn
    unfold lookK
    rcases List.mem_cons.1 h with rfl | h
    · rw [if_pos rfl]
    · rw [if_neg (fun e => hn.1 (by rw [e]; exact List.mem_map.2 ⟨x, h, rfl⟩)), lookK_of_mem hn.2 h]
theorem lookK_end (y : β) : ∀ (xs : List β), lookK key k (xs ++ [y]) = (match lookK key k xs with | some x => some x | none => if key y = k then some y else none)
  | [] => by simp [lookK]
  | x :: xs => by
    have ih := lookK_end y xs
    rw [List.cons_append]
    unfold lookK
    by_cases e : key x = k
    · simp [e]
    · simp [e, ih]
theorem setK_keys {y : β} (hy : key y = k) : (setK key k y xs).map key = xs.map key := by
  unfold setK
  rw [List.map_map]
  apply List.map_congr_left
  intro x _
  show key (if key x = k then y else x) = key x
  split
  · rename_i h
    rw [hy, h]
  · rfl
theorem setK_look {y : β} (hy : key y = k) (hs : lookK key k xs ≠ none) {a : κ} : lookK key a (setK key k y xs) = if a = k then some y else lookK key a xs := by
  have h : ∀ (xs : List β) (a : κ), a ≠ k → lookK key a (setK key k y xs) = lookK key a xs := by
    intro xs a ha
    induction xs with
    | nil => rfl
    | cons x xs ih =>
      unfold setK at ih ⊢
      rw [List.map_cons, lookK, lookK, ih]
      by_cases e : key x = k
      · rw [if_pos e, if_neg (by rw [hy]; exact fun e2 => ha e2.symm), if_neg (by rw [e]; exact fun e2 => ha e2.symm)]
      · rw [if_neg e]
  by_cases e : a = k
  · subst e
    rw [if_pos rfl]
    induction xs with
    | nil => exact absurd rfl hs
    | cons x xs ih =>
      unfold setK at ih ⊢
      rw [List.map_cons, lookK]
      by_cases e : key x = a
      · rw [if_pos e, if_pos hy]
      · rw [if_neg e, if_neg e]
        exact ih (by rw [lookK, if_neg e] at hs; exact hs)
  · rw [if_neg e]
    exact h xs a e
theorem setK_mem {y x : β} (h : x ∈ setK key k y xs) : x = y ∨ (x ∈ xs ∧ key x ≠ k) := by
  unfold setK at h
  obtain ⟨z, hz, rfl⟩ := List.mem_map.1 h
  split
  · exact .inl rfl
  · exact .inr ⟨hz, by assumption⟩
end

/-! ### The board -/
def hkey (x : PHE) : Int × Int := (x.n, x.h.ch.id)
def lookT (n : Int) (ts : List PTE) : Option PTE := lookK PTE.n n ts
def lookH (n id : Int) (hs : List PHE) : Option PHE := lookK hkey (n, id) hs
def putT (n : Int) (t : PTow) (ts : List PTE) : List PTE := if lookT n ts = none then ts ++ [⟨n, t⟩] else setK PTE.n n ⟨n, t⟩ ts
def heldH (n : Int) : List PHE → Int
  | [] => 0
  | x :: xs => (if x.n = n then x.h.amount else 0) + heldH n xs
def totT : List PTE → Int
  | [] => 0
  | x :: xs => x.t.locked + totT xs
theorem lookT_put {n m : Int} {t : PTow} {ts : List PTE} : lookT m (putT n t ts) = if m = n then some ⟨n, t⟩ else lookT m ts := by
  unfold putT lookT
  by_cases h : lookK PTE.n n ts = none
  · rw [if_pos h, lookK_end]
    by_cases e : m = n
    · subst e
      rw [h]
    · have e' : ¬ n = m := fun e9 => e e9.symm
      rw [if_neg e]
      cases h9 : lookK PTE.n m ts with
      | none => simp [e']
      | some x => rfl
  · rw [if_neg h, setK_look (k := n) (y := ⟨n, t⟩) rfl h]
theorem putT_nodup {n : Int} {t : PTow} {ts : List PTE} (h : (ts.map PTE.n).Nodup) : ((putT n t ts).map PTE.n).Nodup := by
  unfold putT
  split
  · rename_i h9
    rw [List.map_append, List.nodup_append]
    refine ⟨h, by simp, fun a ha b hb e => ?_⟩
    simp at hb
    subst hb
    subst e
    obtain ⟨x, hx, e⟩ := List.mem_map.1 ha
    exact lookK_none.1 h9 x hx e
  · rw [setK_keys (k := n) (y := (⟨n, t⟩ : PTE)) rfl]
    exact h
theorem putT_mem {n : Int} {t : PTow} {ts : List PTE} {x : PTE} (h : x ∈ putT n t ts) : x = ⟨n, t⟩ ∨ (x ∈ ts ∧ x.n ≠ n) := by
  unfold putT at h
  split at h
  · rename_i h9
    rcases List.mem_append.1 h with h | h
    · exact .inr ⟨h, lookK_none.1 h9 x h⟩
    · simp at h
      exact .inl h
  · exact setK_mem h
theorem heldH_nonneg (n : Int) : ∀ (xs : List PHE), (∀ x ∈ xs, 1 ≤ x.h.amount) → 0 ≤ heldH n xs
  | [], _ => Int.le_refl _
  | x :: xs, h => by
    have h1 := heldH_nonneg n xs (fun y hy => h y (by simp [hy]))
    have h2 := h x (by simp)
    unfold heldH
    split <;> omega
/-! ### What stays so -/
structure Inv (ts : List PTE) (hs : List PHE) : Prop where
  tk : (ts.map PTE.n).Nodup
  hk : (hs.map hkey).Nodup
  tn : ∀ x ∈ ts, 0 ≤ x.n ∧ x.n ≤ 15
  tr : ∀ x ∈ ts, x.t.root.length = 32
  ta : ∀ x ∈ ts, 0 ≤ x.t.asked ∧ -1099511627776 ≤ x.t.at9 ∧ x.t.at9 ≤ 1099511627776
  tl : ∀ x ∈ ts, x.t.asked + heldH x.n hs ≤ x.t.locked
  hin : ∀ x ∈ hs, HEIn x
  ha : ∀ x ∈ hs, 1 ≤ x.h.amount ∧ -1099511627776 ≤ x.h.at9 ∧ x.h.at9 ≤ 1099511627776
  ht : ∀ x ∈ hs, lookT x.n ts ≠ none
  tot : totT ts ≤ 1125899906842624
theorem Inv.nil : Inv [] [] := ⟨List.nodup_nil, List.nodup_nil, (fun _ h => by cases h), (fun _ h => by cases h), (fun _ h => by cases h), (fun _ h => by cases h), (fun _ h => by cases h), (fun _ h => by cases h), (fun _ h => by cases h), by simp [totT]⟩
section
variable {ts : List PTE} {hs : List PHE}
theorem Inv.held0 (h : Inv ts hs) (n : Int) : 0 ≤ heldH n hs := heldH_nonneg n hs (fun x hx => (h.ha x hx).1)
theorem Inv.locked0 (h : Inv ts hs) {x : PTE} (hx : x ∈ ts) : 0 ≤ x.t.locked := by
  have h1 := h.held0 x.n
  have h2 := h.tl x hx
  have h3 := h.ta x hx
  omega
theorem totT_nonneg : ∀ {xs : List PTE}, (∀ x ∈ xs, 0 ≤ x.t.locked) → 0 ≤ totT xs
  | [], _ => Int.le_refl _
  | x :: xs, h => by
    have h1 := totT_nonneg (xs := xs) (fun y hy => h y (by simp [hy]))
    have h2 := h x (by simp)
    unfold totT
    omega
theorem totT_le : ∀ {xs : List PTE}, (∀ x ∈ xs, 0 ≤ x.t.locked) → ∀ x ∈ xs, x.t.locked ≤ totT xs
  | [], _, _, hx => by cases hx
  | y :: xs, h, x, hx => by
    have h1 := totT_nonneg (xs := xs) (fun z hz => h z (by simp [hz]))
    have h2 := h y (by simp)
    unfold totT
    rcases List.mem_cons.1 hx with rfl | hx
    · omega
    · have h3 := totT_le (xs := xs) (fun z hz => h z (by simp [hz])) x hx
      omega
theorem Inv.lockedMax (h : Inv ts hs) {x : PTE} (hx : x ∈ ts) : x.t.locked ≤ 1125899906842624 := Int.le_trans (totT_le (fun _ hy => h.locked0 hy) x hx) h.tot
theorem Inv.towIn (h : Inv ts hs) {x : PTE} (hx : x ∈ ts) : TowIn x.t := by
  have h0 := h.locked0 hx
  have h1 := h.lockedMax hx
  have h2 := h.ta x hx
  have h3 := h.tl x hx
  have h4 := h.held0 x.n
  exact ⟨h.tr x hx, by constructor <;> omega, by constructor <;> omega, by constructor <;> omega⟩
theorem Inv.teIn (h : Inv ts hs) {x : PTE} (hx : x ∈ ts) : TEIn x := by
  have h1 := h.tn x hx
  exact ⟨by constructor <;> omega, h.towIn hx⟩
/-- A tower that is put in. -/
theorem Inv.put (h : Inv ts hs) {n : Int} {t : PTow} (h0 : 0 ≤ n) (h1 : n ≤ 15) (hr : t.root.length = 32) (ha : 0 ≤ t.asked) (ht0 : -1099511627776 ≤ t.at9) (ht1 : t.at9 ≤ 1099511627776) (hl : t.asked + heldH n hs ≤ t.locked) (htot : totT (putT n t ts) ≤ 1125899906842624) : Inv (putT n t ts) hs where
  tk := putT_nodup h.tk
  hk := h.hk
  tn x hx := by
    rcases putT_mem hx with rfl | ⟨hx, _⟩
    · exact ⟨h0, h1⟩
    · exact h.tn x hx
  tr x hx := by
    rcases putT_mem hx with rfl | ⟨hx, _⟩
    · exact hr
    · exact h.tr x hx
  ta x hx := by
    rcases putT_mem hx with rfl | ⟨hx, _⟩
    · exact ⟨ha, ht0, ht1⟩
    · exact h.ta x hx
  tl x hx := by
    rcases putT_mem hx with rfl | ⟨hx, _⟩
    · exact hl
    · exact h.tl x hx
  hin := h.hin
  ha := h.ha
  ht x hx := by
    rw [lookT_put]
    split
    · simp
    · exact h.ht x hx
  tot := htot
end
end Go.Proofs.YteddkkcheaghaaaGreatDoor
namespace Go.Proofs.YteddkkcheaghaaaGreatDoor
end Go.Proofs.YteddkkcheaghaaaGreatDoor
namespace Go.Proofs.YteddkkcheaghaaaGreatDoor
open Go.RowKit

theorem build_board (a b : Option Nat) (w : World) : (Instr.build 143 #[(0, .map a), (1, .map b)]).run Tryz.prog w = .ok (.agg #[.map a, .map b]) w := run_build w _ _ _ (by kernel_rfl)

/-! ### Alike -/
theorem eqFields_same {P : Program} (d : Nat) (xs : Array Value) (W : World) : ∀ fs : List Field, (∀ f ∈ fs, ∃ v, (part f.type xs f.offset).run P W = .ok v W ∧ (Op.equalIn d f.type v v).run P W = .ok true W) → (Op.eqFields d xs xs fs).run P W = .ok true W
  | [], _ => by simp [Op.eqFields, Sem.run_pure]
  | f :: fs, h => by
    have ih := eqFields_same d xs W fs (fun g hg => h g (by simp [hg]))
    obtain ⟨v, h1, h2⟩ := h f (by simp)
    rw [Op.eqFields]
    split
    · simp only [Sem.run_bind, h1, Result.andThen_ok, h2, Bool.not_true, Bool.false_eq_true, if_false, ih]
    · exact ih
theorem part_cell {P : Program} {t : TypeId} {xs : Array Value} {off : Nat} {v : Value} (hag : ∀ w : World, (isAgg t).run P w = .ok false w) (hx : xs[off]? = some v) (W : World) : (part t xs off).run P W = .ok v W := by
  simp [part, Sem.run_bind, hag, Result.andThen_ok, Sem.run_pure, hx]
theorem part_row {P : Program} {t : TypeId} {n off : Nat} {cs ds es : List Value} (hag : ∀ w : World, (isAgg t).run P w = .ok true w) (hsz : ∀ w : World, (sizeOf t).run P w = .ok n w) (ho : off = cs.length) (hn : ds.length = n) (W : World) : (part t (cs ++ (ds ++ es)).toArray off).run P W = .ok (.agg ds.toArray) W := by
  have e : (cs ++ (ds ++ es)).toArray.extract off (off + n) = ds.toArray := by
    apply Array.toList_inj.1
    subst ho hn
    simp
  simp only [part, Sem.run_bind, hag, hsz, Result.andThen_ok, if_true, Sem.run_pure, e]
theorem fields_named {fs : List Field} {l : List (TypeId × Nat)} (h : fs.map (fun f => (f.type, f.offset)) = l) {f : Field} (hf : f ∈ fs) : (f.type, f.offset) ∈ l := by
  rw [← h]
  exact List.mem_map.2 ⟨f, hf, rfl⟩
theorem Tryz.aggSum : ∀ w : World, (isAgg 28).run Tryz.prog w = .ok true w := fun w => by kernel_rfl
theorem Tryz.szSum : ∀ w : World, (sizeOf 28).run Tryz.prog w = .ok 32 w := fun w => by kernel_rfl
theorem Tryz.aggRef : ∀ w : World, (isAgg 71).run Tryz.prog w = .ok true w := fun w => by kernel_rfl
theorem Tryz.szRef : ∀ w : World, (sizeOf 71).run Tryz.prog w = .ok 33 w := fun w => by kernel_rfl
theorem eq_int_same (d : Nat) (z : Int) (W : World) : (Op.equalIn (d + 1) 3 (.int .i64 z) (.int .i64 z)).run Tryz.prog W = .ok true W := by
  rw [run_equalIn_int (P := Tryz.prog) W d 3 .i64 .i64 z z Tryz.underlying3]
  simp
theorem eq_int64_same (d : Nat) (z : Int) (W : World) : (Op.equalIn (d + 1) 2 (.int .i64 z) (.int .i64 z)).run Tryz.prog W = .ok true W := by
  rw [run_equalIn_int (P := Tryz.prog) W d 2 .i64 .i64 z z Tryz.underlying2]
  simp
theorem eq_sum_same (d : Nat) {s : List UInt8} (hs : s.length = 32) (W : World) : (Op.equalIn (d + 2) 28 (.agg (cellsOf s).toArray) (.agg (cellsOf s).toArray)).run Tryz.prog W = .ok true W := by
  rw [run_eqSumsAt d s s hs hs W]
  simp
set_option maxRecDepth 100000 in
theorem eq_ref_same (d : Nat) {s : List UInt8} (z : Int) (hs : s.length = 32) (W : World) : (Op.equalIn (d + 3) 71 (.agg (refCells s z).toArray) (.agg (refCells s z).toArray)).run Tryz.prog W = .ok true W := by
  rw [run_equalIn_struct W (d + 2) 71 _ _ (by kernel_rfl) (by kernel_rfl)]
  refine eqFields_same _ _ _ _ (fun f hf => ?_)
  have h9 := fields_named (fs := (Tryz.prog.fieldsOf 71).toList) (l := [(28, 0), (3, 32)]) (by kernel_rfl) hf
  simp only [List.mem_cons, Prod.mk.injEq, List.not_mem_nil, or_false] at h9
  rcases h9 with ⟨h1, h2⟩ | ⟨h1, h2⟩ <;> rw [h1, h2]
  · exact ⟨_, part_row (cs := []) (ds := cellsOf s) (es := [.int .i64 z]) Tryz.aggSum Tryz.szSum rfl (by rw [cellsOf_len, hs]) W, eq_sum_same d hs W⟩
  · exact ⟨.int .i64 z, part_cell Tryz.isAgg3 (by simp only [List.getElem?_toArray, refCells]; rw [List.getElem?_append_right (by rw [cellsOf_len, hs]; omega), cellsOf_len, hs]; rfl) W, eq_int_same (d + 1) z W⟩
theorem get_append {cs ds : List Value} {k : Nat} (h : cs.length ≤ k) : (cs ++ ds)[k]? = ds[k - cs.length]? := List.getElem?_append_right h
set_option maxRecDepth 100000 in
theorem eq_chan_same (d : Nat) {x : PChan} (hx : x.ftx.length = 32) (W : World) : (Op.equalIn (d + 4) 73 (.agg x.cells.toArray) (.agg x.cells.toArray)).run Tryz.prog W = .ok true W := by
  rw [run_equalIn_struct W (d + 3) 73 _ _ (by kernel_rfl) (by kernel_rfl)]
  refine eqFields_same _ _ _ _ (fun f hf => ?_)
  have h9 := fields_named (fs := (Tryz.prog.fieldsOf 73).toList) (l := [(3, 0), (3, 1), (3, 2), (71, 3), (2, 36), (3, 37), (3, 38)]) (by kernel_rfl) hf
  have e : x.cells = [.int .i64 x.id, .int .i64 x.client, .int .i64 x.peer] ++ (refCells x.ftx x.fat ++ [.int .i64 x.cap, .int .i64 x.wait, .int .i64 x.window]) := rfl
  have e2 : x.cells = ([.int .i64 x.id, .int .i64 x.client, .int .i64 x.peer] ++ refCells x.ftx x.fat) ++ [.int .i64 x.cap, .int .i64 x.wait, .int .i64 x.window] := by rw [e]; simp
  have hl : (([.int .i64 x.id, .int .i64 x.client, .int .i64 x.peer] : List Value) ++ refCells x.ftx x.fat).length = 36 := by simp [refCells_len hx]
  simp only [List.mem_cons, Prod.mk.injEq, List.not_mem_nil, or_false] at h9
  rcases h9 with ⟨h1, h2⟩ | ⟨h1, h2⟩ | ⟨h1, h2⟩ | ⟨h1, h2⟩ | ⟨h1, h2⟩ | ⟨h1, h2⟩ | ⟨h1, h2⟩ <;> rw [h1, h2]
  · exact ⟨.int .i64 x.id, part_cell Tryz.isAgg3 rfl W, eq_int_same (d + 2) _ W⟩
  · exact ⟨.int .i64 x.client, part_cell Tryz.isAgg3 rfl W, eq_int_same (d + 2) _ W⟩
  · exact ⟨.int .i64 x.peer, part_cell Tryz.isAgg3 rfl W, eq_int_same (d + 2) _ W⟩
  · rw [e]
    exact ⟨_, part_row Tryz.aggRef Tryz.szRef rfl (refCells_len hx) W, eq_ref_same d _ hx W⟩
  · exact ⟨.int .i64 x.cap, part_cell Tryz.isAgg2 (by rw [e2, List.getElem?_toArray, get_append (by rw [hl]; omega), hl]; rfl) W, eq_int64_same (d + 2) _ W⟩
  · exact ⟨.int .i64 x.wait, part_cell Tryz.isAgg3 (by rw [e2, List.getElem?_toArray, get_append (by rw [hl]; omega), hl]; rfl) W, eq_int_same (d + 2) _ W⟩
  · exact ⟨.int .i64 x.window, part_cell Tryz.isAgg3 (by rw [e2, List.getElem?_toArray, get_append (by rw [hl]; omega), hl]; rfl) W, eq_int_same (d + 2) _ W⟩
end Go.Proofs.YteddkkcheaghaaaGreatDoor
namespace Go.Proofs.YteddkkcheaghaaaGreatDoor
open Go.RowKit Go.Maps

def towF (ts : List PTE) : NumD → Option Value := fun x => (lookT x.z ts).map (fun e => .agg e.t.cells.toArray)
def holF (hs : List PHE) : TwoD → Option Value := fun x => (lookH x.y x.z hs).map (fun e => .agg e.h.cells.toArray)
/-- How a board stands: its maps lie at tb and hb, not below B; it was stored into no more than N times. -/
structure BoardAt (B : Nat) (w : World) (pv : Value) (tb hb N : Nat) (ts : List PTE) (hs : List PHE) : Prop where
  has : ∃ vb, pv = .pointer (some ⟨vb, 0, none⟩) ∧ w.heap[vb]? = some (.cells #[.map (some tb), .map (some hb)] 143 (0, 0))
  tB : B ≤ tb
  hB : B ≤ hb
  ne : tb ≠ hb
  few : N ≤ 100
  mt : ∃ n, n ≤ N ∧ MapK numK w tb n ts.length (towF ts)
  mh : ∃ n, n ≤ N ∧ MapK twoK w hb n hs.length (holF hs)
  inv : Inv ts hs
/-- A board that New did not give. -/
def BoardNone (w : World) (pv : Value) : Prop := pv = .pointer none ∨ ∃ vb, pv = .pointer (some ⟨vb, 0, none⟩) ∧ w.heap[vb]? = some (.cells #[.map none, .map none] 143 (0, 0))
theorem BoardNone.below {w w' : World} {pv : Value} (h : BoardNone w pv) (hb : Below w.heap.size w w') : BoardNone w' pv := by
  rcases h with h | ⟨vb, h1, h2⟩
  · exact .inl h
  · exact .inr ⟨vb, h1, keep hb h2⟩
section
variable {B : Nat} {w w' : World} {pv : Value} {tb hb N : Nat} {ts : List PTE} {hs : List PHE}
theorem BoardAt.below (h : BoardAt B w pv tb hb N ts hs) (k : Below w.heap.size w w') : BoardAt B w' pv tb hb N ts hs := by
  obtain ⟨vb, h1, h2⟩ := h.has
  obtain ⟨n, h3, h4⟩ := h.mt
  obtain ⟨m, h5, h6⟩ := h.mh
  exact ⟨⟨vb, h1, keep k h2⟩, h.tB, h.hB, h.ne, h.few, ⟨n, h3, h4.below k⟩, ⟨m, h5, h6.below k⟩, h.inv⟩
theorem BoardAt.lower {B' : Nat} (h : BoardAt B w pv tb hb N ts hs) (hB : B' ≤ B) : BoardAt B' w pv tb hb N ts hs := ⟨h.has, Nat.le_trans hB h.tB, Nat.le_trans hB h.hB, h.ne, h.few, h.mt, h.mh, h.inv⟩
theorem BoardAt.tMap (h : BoardAt B w pv tb hb N ts hs) : ∃ es cl, w.heap[tb]? = some (.map es cl) := by
  obtain ⟨n, _, h4⟩ := h.mt
  exact h4.isMap
theorem BoardAt.hMap (h : BoardAt B w pv tb hb N ts hs) : ∃ es cl, w.heap[hb]? = some (.map es cl) := by
  obtain ⟨n, _, h4⟩ := h.mh
  exact h4.isMap
end
theorem run_neq_map_nil10 {P : Program} {t k e : TypeId} (w : World) (p : Option Nat) (h : P.underlying t = some (.map k e)) : (binOp .neq t (.map p) (.map none)).run P w = .ok (.bool (!p.isNone)) w := by
  simp only [binOp]
  simp [show Op.equal t (.map p) (.map none) = Op.equalIn (9999 + 1) t (.map p) (.map none) from rfl, run_equalIn_map_nil_sl w 9999 t k e p h]
/-- given tells r, in all later worlds. -/
def GivenIs (w : World) (pv : Value) (r : Bool) : Prop := ∀ W : World, Below w.heap.size w W → Calls Tryz.prog 65 #[pv] W fun e w' => e = .returned (.bool r) ∧ W = w'
theorem GivenIs.below {w w' : World} {pv : Value} {r : Bool} (h : GivenIs w pv r) (hb : Below w.heap.size w w') : GivenIs w' pv r := fun W hW => h W (bthen hb hW)
set_option linter.unusedSimpArgs false in
set_option maxRecDepth 100000 in
set_option maxHeartbeats 12800000 in
theorem given_yes {w : World} {vb tb hb : Nat} (h : w.heap[vb]? = some (.cells #[.map (some tb), .map (some hb)] 143 (0, 0))) : GivenIs w (.pointer (some ⟨vb, 0, none⟩)) true := fun W hW => by
  have h2 := keep hW h
  have c0 := cell_of_row W vb 0 _ _ _ h2
  have hq := run_neq_map_nil10 W (some tb) Tryz.underlying140
  clear h2 h
  go_enter Tryz.func65, Tryz.ntmps65
  go_wp2
  go_ret
  exact ⟨rfl, rfl⟩
theorem BoardAt.given {B : Nat} {w : World} {pv : Value} {tb hb N : Nat} {ts : List PTE} {hs : List PHE} (h : BoardAt B w pv tb hb N ts hs) : GivenIs w pv true := by
  obtain ⟨vb, rfl, h2⟩ := h.has
  exact given_yes h2
set_option linter.unusedSimpArgs false in
set_option maxRecDepth 100000 in
set_option maxHeartbeats 12800000 in
theorem boardNew_any (w : World) : Calls Tryz.prog 40 #[] w fun e w' => ∃ (vb tb hb : Nat), e = .returned (.pointer (some ⟨vb, 0, none⟩)) ∧ BoardAt w.heap.size w' (.pointer (some ⟨vb, 0, none⟩)) tb hb 0 [] [] ∧ Below w.heap.size w w' := by
  have hmm := @run_makeMap Tryz.prog
  have h0 : MapK numK (w.alloc (.map #[] 0)) w.heap.size 0 0 (fun _ => none) := MapK.made _ _
  have h1 : MapK twoK ((w.alloc (.map #[] 0)).alloc (.map #[] 0)) (w.heap.size + 1) 0 0 (fun _ => none) := by
    have h9 := MapK.made twoK (w.alloc (.map #[] 0))
    simpa using h9
  have b1 : Below w.heap.size w (w.alloc (.map #[] 0)) := (Below.refl _ _).alloc (Nat.le_refl _) _
  have b2 : Below (w.alloc (.map #[] 0)).heap.size (w.alloc (.map #[] 0)) ((w.alloc (.map #[] 0)).alloc (.map #[] 0)) := (Below.refl _ _).alloc (Nat.le_refl _) _
  have HF : Hid (∀ (g : Nat) (W : World), W.heap[g]? = some (.cells #[.map (some w.heap.size), .map (some (w.heap.size + 1))] 143 (0, 0)) → Below ((w.alloc (.map #[] 0)).alloc (.map #[] 0)).heap.size ((w.alloc (.map #[] 0)).alloc (.map #[] 0)) W → BoardAt w.heap.size W (.pointer (some ⟨g, 0, none⟩)) w.heap.size (w.heap.size + 1) 0 [] [] ∧ Below w.heap.size w W) := Lib.hid (fun g W k1 k2 =>
    ⟨⟨⟨g, rfl, k1⟩, Nat.le_refl _, Nat.le_succ _, by omega, by omega, ⟨0, Nat.le_refl _, (h0.below b2).below k2⟩, ⟨0, Nat.le_refl _, h1.below k2⟩, Inv.nil⟩, bthen (bthen b1 b2) k2⟩)
  clear h0 h1 b1 b2
  go_enter Tryz.func40, Tryz.ntmps40
  go_wp2_with (first
    | (refine wpList_build10 rfl rfl (vs := [(0, .map (some w.heap.size)), (1, .map (some (w.heap.size + 1)))]) (by rfl) (build_board _ _) ?_; go_frame)
    | (refine wpList_box10 rfl 143 _ rfl #[.map (some w.heap.size), .map (some (w.heap.size + 1))] rfl ?_; intro g w9 _ h9 k9; have HG := Lib.hid (HF.out g w9 h9 k9); clear h9 k9; go_frame)
    | fail)
  go_ret
  exact ⟨g, _, _, rfl, HG.out.1, HG.out.2⟩
end Go.Proofs.YteddkkcheaghaaaGreatDoor
namespace Go.Proofs.YteddkkcheaghaaaGreatDoor
open Go.RowKit Go.Maps

theorem cloneT_any {w : World} {b N n : Nat} {F : NumD → Option Value} (h : MapK numK w b N n F) :
    Calls Tryz.prog 103 #[.map (some b)] w fun e w' => e = .returned (.map (some w.heap.size)) ∧ MapK numK w' w.heap.size N n F ∧ Below w.heap.size w w' := by
  obtain ⟨D, h1, h2, h3⟩ := h
  have h9 := AnyW.maps_Clone_owns Tryz.laysTowers 3 heldK b N D w h1
  refine Calls.mono (R := fun e w' => e = .returned (.map (some w.heap.size)) ∧ w'.ownsMap Tryz.prog 3 heldK w.heap.size N D ∧ w'.ownsMap Tryz.prog 3 heldK b N D ∧ Below w.heap.size w w') h9 ?_
  rintro e w' ⟨rfl, k1, _, k3⟩
  exact ⟨rfl, ⟨D, k1, h2, h3⟩, k3⟩
theorem cloneH_any {w : World} {b N n : Nat} {F : TwoD → Option Value} (h : MapK twoK w b N n F) :
    Calls Tryz.prog 104 #[.map (some b)] w fun e w' => e = .returned (.map (some w.heap.size)) ∧ MapK twoK w' w.heap.size N n F ∧ Below w.heap.size w w' := by
  obtain ⟨D, h1, h2, h3⟩ := h
  have h9 := AnyW.maps_Clone_owns Tryz.laysHolds 144 heldK b N D w h1
  refine Calls.mono (R := fun e w' => e = .returned (.map (some w.heap.size)) ∧ w'.ownsMap Tryz.prog 144 heldK w.heap.size N D ∧ w'.ownsMap Tryz.prog 144 heldK b N D ∧ Below w.heap.size w w') h9 ?_
  rintro e w' ⟨rfl, k1, _, k3⟩
  exact ⟨rfl, ⟨D, k1, h2, h3⟩, k3⟩
set_option linter.unusedSimpArgs false in
set_option maxRecDepth 100000 in
set_option maxHeartbeats 12800000 in
theorem boardClone_any {B : Nat} {w : World} {pv : Value} {tb hb N : Nat} {ts : List PTE} {hs : List PHE} (h : BoardAt B w pv tb hb N ts hs) :
    Calls Tryz.prog 51 #[pv] w fun e w' => ∃ (vb' tb' hb' : Nat), e = .returned (.pointer (some ⟨vb', 0, none⟩)) ∧ BoardAt w.heap.size w' (.pointer (some ⟨vb', 0, none⟩)) tb' hb' N ts hs ∧ Below w.heap.size w w' := by
  have HG := Lib.hid h.given
  have HA := Lib.hid h
  obtain ⟨vb, rfl, h2⟩ := h.has
  obtain ⟨k, hk, hm⟩ := h.mt
  obtain ⟨m, hm9, hn⟩ := h.mh
  have HK := Lib.hid (And.intro hk hm9)
  have HT := Lib.hid hm
  have HC1 : Hid (∀ W : World, Below w.heap.size w W → Calls Tryz.prog 103 #[.map (some tb)] W fun e w' => e = .returned (.map (some W.heap.size)) ∧ MapK numK w' W.heap.size k ts.length (towF ts) ∧ Below W.heap.size W w') := Lib.hid (fun W hW => cloneT_any (hm.below hW))
  have HC2 : Hid (∀ W : World, Below w.heap.size w W → Calls Tryz.prog 104 #[.map (some hb)] W fun e w' => e = .returned (.map (some W.heap.size)) ∧ MapK twoK w' W.heap.size m hs.length (holF hs) ∧ Below W.heap.size W w') := Lib.hid (fun W hW => cloneH_any (hn.below hW))
  have C0 : Hid (∀ W : World, Below w.heap.size w W → W.cell? ⟨vb, 0, none⟩ = some (.map (some tb))) := Lib.hid (fun W hW => cell_of_row W vb 0 _ _ _ (keep hW h2))
  have C1 : Hid (∀ W : World, Below w.heap.size w W → W.cell? ⟨vb, 1, none⟩ = some (.map (some hb))) := Lib.hid (fun W hW => cell_of_row W vb 1 _ _ _ (keep hW h2))
  clear h h2 hm hn hk hm9
  go_enter Tryz.func51, Tryz.ntmps51
  go_upto_region 3 with (first | (go_at_call 65; refine (HG.out _ (Below.refl _ _)).mono ?_; rintro e w5 ⟨rfl, rfl⟩) | fail)
  refine wp_region_held_drew (S := fun w' => Below w.heap.size w w') (by kernel_rfl) (below_drew (Below.refl _ _)) (fun hHeld => ?_)
  refine tkP 0 rfl rfl ?_
  refine tkP 1 rfl rfl ?_
  refine tkP 2 rfl rfl ?_
  refine tkA 3 rfl rfl (yields_cell (b := vb) (o := 0) (by rfl) rfl rfl (fun w0 hSw => C0.out w0 hSw) (fun w0 => Tryz.isAgg140 w0)) ?_
  refine tkP 5 rfl rfl ?_
  refine tkP 6 rfl rfl ?_
  refine tkP 7 rfl rfl ?_
  refine tkA 8 rfl rfl (yields_cell (b := vb) (o := 1) (by rfl) rfl rfl (fun w0 hSw => C1.out w0 hSw) (fun w0 => Tryz.isAgg141 w0)) ?_
  refine tkR 4 rfl (fun K hK => ?_)
  go_simp
  refine (HC1.out _ hHeld).mono ?_
  rintro e w6 ⟨rfl, hm6, hb6⟩
  dsimp only
  have HM6 := Lib.hid hm6
  have HB6 := Lib.hid (bthen hHeld hb6)
  have HBB := Lib.hid hb6
  clear hm6 hb6
  refine hK.out _ _ (by (try dsimp only); exact HB6.out) (fun hHeld => ?_)
  clear hK K
  refine tkR 9 rfl (fun K hK => ?_)
  go_simp
  refine (HC2.out _ hHeld).mono ?_
  rintro e w7 ⟨rfl, hm7, hb7⟩
  dsimp only
  have HM7 := Lib.hid hm7
  have HB7 := Lib.hid (bthen hHeld hb7)
  have HM67 := Lib.hid (HM6.out.below hb7)
  clear hm7 hb7
  refine hK.out _ _ (by (try dsimp only); exact HB7.out) (fun hHeld => ?_)
  clear hK K
  refine tkA 10 rfl rfl (yields_build10 (by rfl) rfl (vs := [(0, .map (some w.heap.size)), (1, .map (some w6.heap.size))]) (by rfl) (build_board _ _)) ?_
  refine tkR 11 rfl (fun K hK => ?_)
  refine step_box10 rfl (by rfl) 143 _ rfl #[.map (some w.heap.size), .map (some w6.heap.size)] (by rfl) ?_
  intro g8 w8 n8 h8 k8
  have H8 := Lib.hid h8
  have K8 := Lib.hid k8
  clear h8 k8 n8
  refine hK.out _ _ (by (try dsimp only); exact bthen HB7.out K8.out) (fun hHeld => ?_)
  clear hK K
  refine tkP 12 rfl rfl ?_
  refine wpAnyH_done (by kernel_rfl) ?_ _
  go_wp2_with fail
  go_ret
  refine ⟨g8, w.heap.size, w6.heap.size, rfl, ⟨⟨g8, rfl, H8.out⟩, Nat.le_refl _, HB6.out.size, ?_, HA.out.few, ⟨k, HK.out.1, HM67.out.below K8.out⟩, ⟨m, HK.out.2, HM7.out.below K8.out⟩, HA.out.inv⟩, bthen HB7.out K8.out⟩
  have h9 : w.heap.size < w6.heap.size := HM6.out.lt
  omega
end Go.Proofs.YteddkkcheaghaaaGreatDoor
namespace Go.Proofs.YteddkkcheaghaaaGreatDoor
open Go.RowKit Go.Maps

/-- What Get tells, in all later worlds. -/
def GetIs (w : World) (pv : Value) (n : Int) (v : PTow) (ok : Bool) : Prop := ∀ W : World, Below w.heap.size w W → Calls Tryz.prog 21 #[pv, .int .i64 n] W fun e w' => e = .returned (.tuple #[.agg v.cells.toArray, .bool ok]) ∧ Below W.heap.size W w'
def HoldsIs (w : World) (pv : Value) (n id : Int) (v : PHold) (ok : Bool) : Prop := ∀ W : World, Below w.heap.size w W → Calls Tryz.prog 22 #[pv, .int .i64 n, .int .i64 id] W fun e w' => e = .returned (.tuple #[.agg v.cells.toArray, .bool ok]) ∧ Below W.heap.size W w'
theorem GetIs.below {w w' : World} {pv : Value} {n : Int} {v : PTow} {ok : Bool} (h : GetIs w pv n v ok) (hb : Below w.heap.size w w') : GetIs w' pv n v ok := fun W hW => h W (bthen hb hW)
theorem HoldsIs.below {w w' : World} {pv : Value} {n id : Int} {v : PHold} {ok : Bool} (h : HoldsIs w pv n id v ok) (hb : Below w.heap.size w w') : HoldsIs w' pv n id v ok := fun W hW => h W (bthen hb hW)
section
variable {B : Nat} {w : World} {pv : Value} {tb hb N : Nat} {ts : List PTE} {hs : List PHE}
end
end Go.Proofs.YteddkkcheaghaaaGreatDoor
namespace Go.Proofs.YteddkkcheaghaaaGreatDoor
open Go.RowKit Go.Maps

theorem sum_perm {l m : List Int} (h : l.Perm m) : l.sum = m.sum := by
  induction h with
  | nil => rfl
  | cons x _ ih => simp [ih]
  | swap x y l => simp; omega
  | trans _ _ h1 h2 => exact h1.trans h2
def lockF (ts : List PTE) (x : NumD) : Int := match lookT x.z ts with | some e => e.t.locked | none => 0
theorem lock_all {ts : List PTE} {hs : List PHE} (hi : Inv ts hs) {ss : List NumD} (h1 : ss.Nodup) (h2 : ∀ x, x ∈ ss ↔ towF ts x ≠ none) : (ss.map (lockF ts)).sum = totT ts := by
  have hp : (ss.map fun x : NumD => x.z).Perm (ts.map PTE.n) := by
    refine (List.perm_ext_iff_of_nodup ?_ hi.tk).2 (fun k => ?_)
    · refine List.pairwise_map.2 (h1.imp ?_)
      intro a b hne e
      apply hne
      cases a
      cases b
      simp at e
      subst e
      rfl
    · rw [List.mem_map, List.mem_map]
      constructor
      · rintro ⟨x, hx, rfl⟩
        have h3 := (h2 x).1 hx
        unfold towF at h3
        cases h4 : lookT x.z ts with
        | none => rw [h4] at h3; exact absurd rfl h3
        | some e => exact ⟨e, (lookK_mem h4).1, (lookK_mem h4).2⟩
      · rintro ⟨e, he, rfl⟩
        have h3 := hi.teIn he
        refine ⟨⟨e.n, h3.n⟩, (h2 _).2 ?_, rfl⟩
        have h4 : lookT e.n ts = some e := lookK_of_mem (key := PTE.n) hi.tk he
        unfold towF
        rw [h4]
        simp
  have h5 := sum_perm (hp.map (fun z => match lookT z ts with | some e => e.t.locked | none => 0))
  have h6 : ∀ xs : List PTE, (∀ x ∈ xs, lookT x.n ts = some x) → ((xs.map PTE.n).map (fun z => match lookT z ts with | some e => e.t.locked | none => 0)).sum = totT xs := by
    intro xs
    induction xs with
    | nil => intro _; rfl
    | cons x xs ih =>
      intro hx
      have h1 := ih (fun y hy => hx y (by simp [hy]))
      have h2 := hx x (by simp)
      rw [List.map_cons, List.map_cons, List.sum_cons, h1, totT, h2]
  rw [h6 ts (fun x hx => lookK_of_mem (key := PTE.n) hi.tk hx), List.map_map] at h5
  exact h5
theorem lockF_some {ts : List PTE} {x : NumD} {c : Value} (h : towF ts x = some c) : ∃ e, e ∈ ts ∧ c = .agg e.t.cells.toArray ∧ lockF ts x = e.t.locked := by
  unfold towF at h
  cases h4 : lookT x.z ts with
  | none => rw [h4] at h; cases h
  | some e =>
    rw [h4] at h
    refine ⟨e, (lookK_mem h4).1, by simpa using h.symm, ?_⟩
    unfold lockF
    simp only [h4]
theorem sum_end {α : Type} (f : α → Int) (ss : List α) (x : α) : ((ss ++ [x]).map f).sum = (ss.map f).sum + f x := by
  rw [List.map_append, List.sum_append]
  simp
theorem grown_none {w w' : World} (h : Below w.heap.size w w') : w.grownBy w' none := ⟨h.os, h.tape, h.output, h.size, fun k hk _ => h.block k hk⟩
set_option linter.unusedSimpArgs false in
set_option maxRecDepth 100000 in
set_option maxHeartbeats 12800000 in
theorem total_any {B : Nat} {w : World} {pv : Value} {tb hb N : Nat} {ts : List PTE} {hs : List PHE} (h : BoardAt B w pv tb hb N ts hs) : Calls Tryz.prog 23 #[pv] w fun e w' => e = .returned (.int .i64 (totT ts)) ∧ Below w.heap.size w w' := by
  have HG := Lib.hid h.given
  obtain ⟨vb, rfl, h2⟩ := h.has
  obtain ⟨k, hk, hm⟩ := h.mt
  have hfew := h.few
  have HI := Lib.hid h.inv
  obtain ⟨R, hR⟩ : ∃ R, R = (totT ts) := ⟨_, rfl⟩
  have HAL : Hid (∀ ss : List NumD, ss.Nodup → (∀ x, x ∈ ss ↔ (towF ts) x ≠ none) → (ss.map (lockF ts)).sum = R) := Lib.hid (fun ss k1 k2 => by rw [hR]; exact lock_all h.inv k1 k2)
  rw [← hR]
  have c0 := cell_of_row w vb 0 _ _ _ h2
  have hfw := hm.few
  obtain ⟨D, hD, hsz, hFD⟩ := hm
  have HFD := Lib.hid hFD
  have HSZ : Hid (Maps.size D ≤ 100) := Lib.hid (by omega)
  have hD' : w.ownsMap Tryz.prog 3 heldK tb k D := hD
  clear h h2 hR hFD hsz hk hfew hfw hD
  go_enter Tryz.func23, Tryz.ntmps23
  go_wp2_with (first | (go_at_call 65; refine (HG.out _ (Below.refl _ _)).mono ?_; rintro e w5 ⟨rfl, rfl⟩) | (at_range; refine wpList_range_own _ rfl _ 140 rfl 3 63 Tryz.keyNum Tryz.underlying140 _ tb k _ rfl hD' ?_; intro w0 hrg0 hg0 hs0) | fail)
  go_frame
  go_loopw [3] (fun v wr => ∃ (left : Lit → Bool) (cnt : Nat) (ss : List NumD) (S : Int), wr.ranges Tryz.prog 3 heldK tb w.heap.size k D left cnt ∧ ss.length + cnt ≤ Maps.size D ∧ ComeK numK D left ss ∧ v = .int .i64 S ∧ S = (ss.map (lockF ts)).sum ∧ 0 ≤ S ∧ S ≤ (ss.length : Int) * 1125899906842624 ∧ Below w.heap.size w wr)
    (fun _ wr => wr.rangeLeft tb w.heap.size)
  case atStart => exact ⟨_, _, [], 0, hrg0, by simp, ComeK.start _ D, rfl, rfl, by omega, by simp, ⟨hg0.os, hg0.tape, hg0.output, hg0.size, fun k hk => hg0.block k hk (by simp)⟩⟩
  case round =>
    obtain ⟨left, cnt, ss, S, hrg, hcs, hC, rfl, hS, hS0, hS1, hB⟩ := hrel
    have HC := Lib.hid hC
    have HS := Lib.hid hS
    have HB := Lib.hid hB
    have HSL := Lib.hid hS1
    clear hC hS hB hS1
    go_wp2_with (first
      | (at_next; refine wpList_next_ranges _ rfl _ rfl 3 Tryz.keyNum heldK (fun x : NumD => Value.int .i64 x.z) id (fun key kl hk => numK.back key kl hk) (fun v _ _ => ⟨v, rfl⟩) tb w.heap.size k _ _ _ rfl hrg ?_ ?_)
      | fail)
    · intro hc0 hl0
      have hK := HC.out.all hl0 HFD.out
      have hRS : S = R := by rw [HS.out]; exact HAL.out ss hK.1 hK.2
      clear hK hl0 hrg hcs
      subst hRS
      go_wp2_with fail
      go_ret
      exact ⟨rfl, HB.out⟩
    · intro x c kl y y9 w2 cnt2 hkey hlk hv hat hrg2 hlt hg2 hs2 hen
      obtain ⟨rfl, rfl⟩ : y = DataW.held c ∧ y9 = [] := ⟨(congrArg Prod.fst (Option.some.inj hv)).symm, (congrArg Prod.snd (Option.some.inj hv)).symm⟩
      have hFx := atKey_F (K := numK) HFD.out hkey hat
      obtain ⟨u, hu, rfl, hadd⟩ := lockF_some hFx
      have hin := HI.out.towIn hu
      have hal := HI.out.locked0 hu
      have hmx := HI.out.lockedMax hu
      have HADD := Lib.hid hadd
      have HC2 := Lib.hid (HC.out.step hkey hlk (has_true_of_atKey hat))
      have hB2 : Below w.heap.size w w2 := HB.out.trans ⟨hg2.os, hg2.tape, hg2.output, hg2.size, fun k hk => hg2.block k (Nat.lt_of_lt_of_le hk HB.out.size) (fun e => by cases e; omega)⟩
      have HB2 := Lib.hid hB2
      have HRG2 := Lib.hid hrg2
      have HRG := Lib.hid hrg
      have HIN := Lib.hid hin
      have hS9 : S ≤ 100 * 1125899906842624 := by have h1 := HSZ.out; have h2 := HSL.out; omega
      have HCS : Hid ((ss ++ [x]).length + cnt2 ≤ Maps.size D) := Lib.hid (by rw [List.length_append]; simp; omega)
      have HLT : Hid (cnt2 < cnt) := Lib.hid hlt
      have HSM : Hid (((ss ++ [x]).map (lockF ts)).sum = S + (lockF ts) x) := Lib.hid (by rw [sum_end, ← HS.out])
      obtain ⟨m, hm9⟩ : ∃ m, m = u.t.locked := ⟨_, rfl⟩
      have hm0 : 0 ≤ m := by rw [hm9]; exact hal
      have hm1 : m ≤ 1125899906842624 := by rw [hm9]; exact hmx
      have HM9 := Lib.hid hm9
      have iw : IntKind.i64.wrap (S + m) = S + m := IntWalk.i64_in _ (by omega)
      have HF : Hid (S + m = ((ss ++ [x]).map (lockF ts)).sum ∧ 0 ≤ S + m ∧ S + m ≤ (((ss ++ [x]).length : Nat) : Int) * 1125899906842624) := Lib.hid (by
        have h1 := HSM.out
        rw [HADD.out, ← HM9.out] at h1
        have h3 := HSL.out
        refine ⟨h1.symm, by omega, ?_⟩
        rw [List.length_append, List.length_singleton]
        omega)
      clear hin hal hmx hadd hB2 hrg2 hrg hv hat hFx hkey hlk hg2 hs2 hcs hlt HC hm9
      go_upto_region 7 with (first | (refine wpList_var rfl rfl 63 rfl _ _ rfl noTow.cells.toArray Tryz.zeroTow rfl u.t.cells (fun _ => rfl) (fun _ => rfl) (PTow.len HIN.out.root) u.t.one ?_; intro g7 w9 n7 h7 k7; have H9 := Lib.hid h7; have K9 := Lib.hid k7; clear h7 k7 n7; go_frame) | fail)
      have hc9 := tow_at HIN.out.root (range_of H9.out)
      have c39 := hc9.locked
      rw [Nat.zero_add, ← HM9.out] at c39
      have HRG6 := Lib.hid (HRG2.out.kept (grown_none K9.out) (by simp) (by simp))
      have HB6 := Lib.hid (bthen HB2.out K9.out)
      clear hc9 HRG2 HB2 HB K9 H9
      go_wp2_with fail
      go_roundw
      case rel => exact ⟨_, cnt2, ss ++ [x], S + m, HRG6.out, HCS.out, HC2.out, rfl, HF.out.1, HF.out.2.1, HF.out.2.2, HB6.out⟩
      case measure => rw [HRG6.out.left_eq, HRG.out.left_eq]; exact HLT.out
end Go.Proofs.YteddkkcheaghaaaGreatDoor
