/- What holds of all blocks that a transaction lies in, its signs too. What tx.Signed calls comes to, where no key signs. New blocks, and draws, and no more. No function of the program is named. slices.SortStableFunc at no more than twenty signs: the row holds signs again, and nothing else is written. What tx.Signed comes to, of any transaction of no more than twenty signs, by no key: it says the same, but for the signs' order; all of it is new. -/
import Derived.Test.YtlnenkmcegadmaaDoorTxSigned
import Derived.Test.YtlnenkmcegadmaaDoorLockAmong
import Derived.Test.YtlnenkmcegadmaaDoorMemory
import Derived.Sort.Grow
import Derived.Deep.Draws
import Derived.Shelf.SlSortCmp.InsertionK
namespace Go.Proofs.YtlnenkmcegadmaaDoor
open Go.RowKit

/-- What holds of all blocks that a transaction lies in. -/
def AllT (P : Nat → Prop) (y : PTx) : Prop := AllTx P y ∧ AllO P y.sn y.sa
theorem AllT.mono {P Q : Nat → Prop} {y : PTx} (h : AllT P y) (k : ∀ b, P b → Q b) : AllT Q y := ⟨h.1.mono k, h.2.mono k⟩
theorem AllT.and {P Q : Nat → Prop} {y : PTx} (h : AllT P y) (k : AllT Q y) : AllT (fun b => P b ∧ Q b) y := ⟨h.1.and k.1, fun h0 x e => ⟨h.2 h0 x e, k.2 h0 x e⟩⟩
theorem TxIn.ltT {w : World} {y : PTx} (h : TxIn w y) : AllT (· < w.heap.size) y := ⟨h.lt, h.signs.block⟩
/-- A block is written that none of it lies in. -/
theorem TxIn.butT {w w' : World} {y : PTx} {p : Nat} (h : TxIn w y) (hA : AllT (· ≠ p) y) (hb : But w.heap.size p w w') : TxIn w' y := by
  have ha := hA.1
  refine ⟨h.ins.moved (B := w.heap.size) (p := p) (fun h0 x e => ⟨h.ins.block h0 x e, ha.ia h0 x e⟩) (fun x hx => ?_) hb, h.outs.moved (B := w.heap.size) (p := p) (fun h0 x e => ⟨h.outs.block h0 x e, ha.oa h0 x e⟩) (fun z hz => ?_) hb,
    ⟨h.op.kind, h.op.tower, h.op.channel, h.op.amount, h.op.root, h.op.data.but hb (fun h0 b off e => ha.data h0 _ e)⟩, ?_⟩
  · have hx1 : InIn w x := h.ins.2.2.2.2.1 x hx
    exact ⟨hx1.tx, hx1.place, hx1.way, hx1.pre.but hb (fun h0 b off e => ha.pre x hx h0 _ e)⟩
  · have hz1 : OutIn w z := h.outs.2.2.2.2.1 z hz
    refine ⟨hz1.m, SliceOf.moved (K := wayK9) (B := w.heap.size) (p := p) hz1.ws (fun h0 x e => ⟨SliceOf.block (K := wayK9) hz1.ws h0 x e, ha.ws z hz h0 x e⟩) (fun u hu => ?_) hb⟩
    have hu1 : WayIn w u := hz1.ws.2.2.2.2.1 u hu
    exact ⟨hu1.keys.butO (B := w.heap.size) (pb := p) (fun h0 x e => ⟨h.lt.ks z hz u hu h0 x e, ha.ks z hz u hu h0 x e⟩) hb, hu1.sum, hu1.after, hu1.wait⟩
  · exact h.signs.moved (B := w.heap.size) (p := p) (fun h0 x e => ⟨h.signs.block h0 x e, hA.2 h0 x e⟩) (fun s hs => (show SignIn s from h.signs.2.2.2.2.1 s hs)) hb
end Go.Proofs.YtlnenkmcegadmaaDoor
namespace Go.Proofs.YtlnenkmcegadmaaDoor
open Go.RowKit

/-- How all stands while one is signed. -/
structure SgS (w0 : World) (g4 p5 p6 Bc : Nat) (y : PTx) (S : List UInt8) (w : World) : Prop where
  res : VarC w g4 50 noTx.cells
  sum : VarC w p5 23 (cellsOf S)
  var : VarC w p6 50 y.cells
  tx : TxIn w y
  lt : AllT (· < Bc) y
  apart : AllT (fun k => k ≠ p6 ∧ k ≠ g4) y
  l4 : g4 < Bc
  l5 : p5 < Bc
  l6 : p6 < Bc
  size : Bc ≤ w.heap.size
  but : Below w0.heap.size w0 w
  nw : AllT (w0.heap.size ≤ ·) y
theorem SgS.below {w0 w w' : World} {g4 p5 p6 Bc : Nat} {y : PTx} {S : List UInt8} (h : SgS w0 g4 p5 p6 Bc y S w) (hb : Below w.heap.size w w') : SgS w0 g4 p5 p6 Bc y S w' :=
  ⟨h.res.below hb, h.sum.below hb, h.var.below hb, h.tx.below hb, h.lt, h.apart, h.l4, h.l5, h.l6, Nat.le_trans h.size hb.size, h.but.trans (hb.mono h.but.size), h.nw⟩
set_option linter.unusedSimpArgs false in
set_option maxRecDepth 100000 in
set_option maxHeartbeats 3200000 in
theorem compact_nil (w : World) : Calls Tryd.prog 50 #[.slice none 0 0] w fun e w' => e = .returned (.slice none 0 0) ∧ w = w' := by
  go_enter Tryd.func50, Tryd.ntmps50
  go_wp2
  go_ret
  exact ⟨rfl, rfl⟩
set_option linter.unusedSimpArgs false in
set_option maxRecDepth 100000 in
set_option maxHeartbeats 3200000 in
/-- No key is among none. -/
theorem signed1_none {w : World} {y : PSign} {p : Nat} (hp : w.cell? ⟨p, 0, none⟩ = some (.slice none 0 0)) :
    Calls Tryd.prog 52 #[.agg y.cells.toArray, .pointer (some ⟨p, 0, none⟩)] w fun e w' => e = .returned (.bool false) ∧ Below w.heap.size w w' := by
  have b2 : Below w.heap.size w (w.alloc (.cells y.cells.toArray 86)) := (Below.refl _ _).alloc (Nat.le_refl _) _
  have h2 := heap_alloc_new w (.cells y.cells.toArray 86)
  have c0 := (b2.cell (p := ⟨p, 0, none⟩) (World.block_lt_of_cell? w _ hp)).trans hp
  have HS := Lib.hid (fun (W : World) => search_any y.key (Numbers.nil W) List.Pairwise.nil (by omega))
  have HB2 := Lib.hid b2
  go_enter Tryd.func52, Tryd.ntmps52
  go_upto_region 1 with (fail)
  revert h2 c0 HB2
  generalize (w.alloc (.cells y.cells.toArray 86)) = w2
  obtain ⟨g, hg⟩ : ∃ g, g = w.heap.size := ⟨_, rfl⟩
  rw [← hg]
  intro h2 c0 HB2
  rw [hg] at HB2
  have ck : w2.cell? ⟨g, 0, none⟩ = some (.int .i64 y.key) := by rw [cell_of_row _ _ _ _ _ _ h2]; rfl
  clear h2 hg b2
  go_wp2_with (first | (go_at_call 53; (with_reducible refine (HS.out _).mono ?_); rintro e w7 ⟨z, rfl, hb7⟩; have HB7 := Lib.hid hb7; clear hb7) | fail)
  go_ret
  exact ⟨rfl, HB2.out.trans (HB7.out.mono HB2.out.size)⟩
set_option linter.unusedSimpArgs false in
set_option maxRecDepth 100000 in
set_option maxHeartbeats 6400000 in
theorem indexSigns_none {w : World} {a : Option Addr} {n c p : Nat} {xs : List PSign} (h : SliceOf signK w a n c xs) (hp : w.cell? ⟨p, 0, none⟩ = some (.slice none 0 0)) :
    Calls Tryd.prog 64 #[.slice a n c, .func (.func 52) #[] #[.pointer (some ⟨p, 0, none⟩)]] w fun e w' => e = .returned (.int .i64 (-1)) ∧ Below w.heap.size w w' := by
  have hn63 := h.len63
  have H := Lib.hid h
  have HP := Lib.hid hp
  have HPL := Lib.hid (World.block_lt_of_cell? w _ hp)
  clear h hp
  go_enter Tryd.func64, Tryd.ntmps64
  go_upto_region 2 with (fail)
  go_loopw [8] (fun i wr => ∃ j : Nat, j ≤ n ∧ i = .int .i64 j ∧ Below w.heap.size w wr) (fun i _ => n - (intOf i).toNat)
  case atStart => exact ⟨0, Nat.zero_le _, rfl, Below.refl _ _⟩
  case round =>
    obtain ⟨j, hj, rfl, hb⟩ := hrel
    have HB := Lib.hid hb
    clear hb
    by_cases hjn : j < n
    · have f1 : (j : Int) < (n : Int) := by omega
      have f0 : (0 : Int) ≤ (j : Int) := by omega
      have ft : ((j : Int)).toNat = j := by omega
      obtain ⟨b1, o1, e1, hlt1, hc1⟩ := (H.out.below HB.out).2.2.2.2.2 (by omega)
      have hx := (H.out.below HB.out).get hjn
      have hrx := hc1 j hjn
      replace hx : signK.ok wr (xs.getD j noSign) := hx
      replace hrx : wr.rangeAt b1 (o1 + j * 33) (signK.cells (xs.getD j noSign)) := hrx
      revert hx hrx
      generalize xs.getD j noSign = y
      intro hx hrx
      subst e1
      have RX : Hid (wr.rangeAt b1 (o1 + j * 33) y.cells) := Lib.hid hrx
      have SX := Lib.hid (sign_size (SignIn.sum hx))
      have HC := Lib.hid (signed1_none (y := y) ((HB.out.cell (p := ⟨p, 0, none⟩) HPL.out).trans HP.out))
      clear hc1 hrx hx
      go_wp2_with (first | (refine wpList_load_mid rfl 86 _ rfl b1 (o1 + j * 33) rfl y.cells _ RX.out Tryd.underlying86 rfl SX.out ?_) | (go_at_call 52; (with_reducible refine HC.out.mono ?_); rintro e w7 ⟨rfl, hb7⟩; have HB7 := Lib.hid hb7; clear hb7) | fail)
      go_roundw
      case rel => exact ⟨j + 1, by omega, by go_num, HB.out.trans (HB7.out.mono HB.out.size)⟩
      case measure => simp [intOf]; omega
    · have f1 : ¬ ((j : Int) < (n : Int)) := by omega
      clear H
      go_wp2
      go_ret
      exact ⟨rfl, HB.out⟩
set_option linter.unusedSimpArgs false in
set_option maxRecDepth 100000 in
set_option maxHeartbeats 6400000 in
theorem deleteSigns_none {w : World} {a : Option Addr} {n c p : Nat} {xs : List PSign} (h : SliceOf signK w a n c xs) (hp : w.cell? ⟨p, 0, none⟩ = some (.slice none 0 0)) :
    Calls Tryd.prog 51 #[.slice a n c, .func (.func 52) #[] #[.pointer (some ⟨p, 0, none⟩)]] w fun e w' => e = .returned (.slice a n c) ∧ Below w.heap.size w w' := by
  have HC := Lib.hid (indexSigns_none h hp)
  clear h hp
  go_enter Tryd.func51, Tryd.ntmps51
  go_wp2_with (first | (go_at_call 64; (with_reducible refine HC.out.mono ?_); rintro e w7 ⟨rfl, hb7⟩; have HB7 := Lib.hid hb7; clear hb7) | fail)
  go_ret
  exact ⟨rfl, HB7.out⟩
set_option linter.unusedSimpArgs false in
set_option maxRecDepth 100000 in
set_option maxHeartbeats 6400000 in
theorem sortSigns_nil (a : Option Addr) (c : Nat) (f : Value) (w : World) : Calls Tryd.prog 54 #[.slice a 0 c, f] w fun e w' => e = .returned (.tuple #[]) ∧ w = w' := by
  have hi : ∀ W : World, Calls Tryd.prog 81 #[.slice a 0 c, .int .i64 0, .int .i64 0, f] W fun e w' => e = .returned (.tuple #[]) ∧ W = w' := fun W => by
    go_enter Tryd.func81, Tryd.ntmps81
    go_upto_region 1 with (fail)
    go_loop [8] (fun x => x = .int .i64 1) (fun _ => 0)
    case atStart => rfl
    case round =>
      subst hrel
      go_wp2
      go_end0
      exact ⟨rfl, rfl⟩
  have hs : ∀ W : World, Calls Tryd.prog 67 #[.slice a 0 c, .int .i64 0, f] W fun e w' => e = .returned (.tuple #[]) ∧ W = w' := fun W => by
    have HI := Lib.hid hi
    clear hi
    go_enter Tryd.func67, Tryd.ntmps67
    go_upto_region 2 with (fail)
    go_loop [7, 8] (fun x y => x = .int .i64 0 ∧ y = .int .i64 20) (fun _ _ => 0)
    case atStart => exact ⟨rfl, rfl⟩
    case round =>
      obtain ⟨rfl, rfl⟩ := hrel
      go_wp2_with (first | (go_at_call 81; (with_reducible refine (HI.out _).mono ?_); rintro e w9 ⟨rfl, rfl⟩) | fail)
      go_loop [6] (fun x => x = .int .i64 20) (fun _ => 0)
      case atStart => rfl
      case round =>
        subst hrel
        go_wp2
        go_end0
        exact ⟨rfl, rfl⟩
  have HS := Lib.hid hs
  clear hs hi
  go_enter Tryd.func54, Tryd.ntmps54
  go_wp2_with (first | (go_at_call 67; (with_reducible refine (HS.out _).mono ?_); rintro e w9 ⟨rfl, rfl⟩) | fail)
  go_end0
  exact ⟨rfl, rfl⟩
end Go.Proofs.YtlnenkmcegadmaaDoor
namespace Go.Proofs.YtlnenkmcegadmaaDoor
open Go.RowKit Go.Sort

/-- New blocks, and draws, and no more. -/
def Grew (w w' : World) : Prop := ∃ q os, w' = grow (w.drewN q) os
theorem Grew.refl (w : World) : Grew w w := ⟨0, #[], by simp [World.drewN]⟩
theorem Grew.drew {w w' : World} (h : Grew w w') : Grew w w'.drew := by
  obtain ⟨q, os, rfl⟩ := h
  exact ⟨q + 1, os, by simp [grow, World.drewN, World.drew, Nat.add_assoc]⟩
theorem Grew.alloc {w w' : World} (h : Grew w w') (o : Obj) : Grew w (w'.alloc o) := by
  obtain ⟨q, os, rfl⟩ := h
  exact ⟨q, os ++ #[o], by rw [alloc_eq_grow, grow_grow]⟩
theorem Grew.below {w w' : World} (h : Grew w w') : Below w.heap.size w w' := by
  obtain ⟨q, os, rfl⟩ := h
  refine ⟨rfl, rfl, rfl, by simp [grow, World.drewN], fun k hk => ?_⟩
  show (w.heap ++ os)[k]? = w.heap[k]?
  exact Array.getElem?_append_left hk
end Go.Proofs.YtlnenkmcegadmaaDoor
namespace Go.Proofs.YtlnenkmcegadmaaDoor
open Go.RowKit Go.Sort

theorem insInner_size19 {α : Type} [Inhabited α] (lt : α → α → Bool) (a : Nat) : ∀ (j : Nat) (d : Array α), (insInner lt a j d).size = d.size
  | 0, d => rfl
  | j + 1, d => by
    unfold insInner
    split
    · rw [insInner_size19 lt a j]
      simp [swp]
    · rfl
theorem insOuter_size19 {α : Type} [Inhabited α] (lt : α → α → Bool) (a b : Nat) : ∀ (k i : Nat) (d : Array α), b - i = k → (insOuter lt a b i d).size = d.size
  | 0, i, d, h => by
    rw [insOuter, if_neg (by omega)]
  | k + 1, i, d, h => by
    rw [insOuter, if_pos (by omega), insOuter_size19 lt a b k (i + 1) _ (by omega), insInner_size19]
theorem insertion_size19 {α : Type} [Inhabited α] (lt : α → α → Bool) (d : Array α) (a b : Nat) : (insertionSort lt d a b).size = d.size := insOuter_size19 lt a b _ _ d rfl

/-- A sign, with what is asked of it. -/
structure SignD where
  key : Int
  sum : List UInt8
  hk : Fits key
  hs : sum.length = 32
def SignD.cells (x : SignD) : List Value := PSign.cells ⟨x.key, x.sum⟩
theorem SignD.len (x : SignD) : x.cells.length = 33 := PSign.len (x := ⟨x.key, x.sum⟩) x.hs
theorem SignD.one (x : SignD) : ∀ v ∈ x.cells, v.oneCell' = true := PSign.one _
instance : Inhabited SignD := ⟨⟨0, zero32, by constructor <;> decide, rfl⟩⟩
def signCmp (x y : SignD) : Int := Lib.compareInt x.key y.key
set_option linter.unusedSimpArgs false in
set_option maxRecDepth 100000 in
set_option maxHeartbeats 6400000 in
theorem signCmp_any (x y : SignD) (w : World) : Calls Tryd.prog 55 #[.agg x.cells.toArray, .agg y.cells.toArray] w fun e w' => e = .returned (.int .i64 (signCmp x y)) ∧ Grew w w' := by
  obtain ⟨R, hR⟩ : ∃ R, signCmp x y = R := ⟨_, rfl⟩
  rw [hR]
  have hc : ∀ W : World, Calls Tryd.prog 56 #[.int .i64 x.key, .int .i64 y.key] W fun e w' => e = .returned (.int .i64 R) ∧ w' = W := fun W => by rw [← hR]; exact Tryd.cmp_Compare_int x.key y.key W
  have b0 : Grew w ((w.alloc (.cells x.cells.toArray 86)).alloc (.cells y.cells.toArray 86)) := ((Grew.refl w).alloc _).alloc _
  have h1 : ((w.alloc (.cells x.cells.toArray 86)).alloc (.cells y.cells.toArray 86)).heap[w.heap.size]? = some (.cells x.cells.toArray 86 (0, 0)) := by
    rw [heap_alloc_old _ _ (by simp), heap_alloc_new]
  have h2 : ((w.alloc (.cells x.cells.toArray 86)).alloc (.cells y.cells.toArray 86)).heap[w.heap.size + 1]? = some (.cells y.cells.toArray 86 (0, 0)) := heap_alloc_at _ _ _ (by simp)
  have c1 : ((w.alloc (.cells x.cells.toArray 86)).alloc (.cells y.cells.toArray 86)).cell? ⟨w.heap.size, 0, none⟩ = some (.int .i64 x.key) := by rw [cell_of_row _ _ _ _ _ _ h1]; rfl
  have c2 : ((w.alloc (.cells x.cells.toArray 86)).alloc (.cells y.cells.toArray 86)).cell? ⟨w.heap.size + 1, 0, none⟩ = some (.int .i64 y.key) := by rw [cell_of_row _ _ _ _ _ _ h2]; rfl
  have HC := Lib.hid hc
  clear hc h1 h2 hR
  go_enter Tryd.func55, Tryd.ntmps55
  go_upto_region 1 with (fail)
  revert b0 c1 c2
  generalize ((w.alloc (.cells x.cells.toArray 86)).alloc (.cells y.cells.toArray 86)) = w2
  obtain ⟨g1, hg1⟩ : ∃ g, g = w.heap.size := ⟨_, rfl⟩
  obtain ⟨g2, hg2⟩ : ∃ g, g = w.heap.size + 1 := ⟨_, rfl⟩
  rw [← hg2, ← hg1]
  intro b0 c1 c2
  have HB := Lib.hid b0
  clear b0 hg1 hg2
  go_wp2_with (first | (go_at_call 56; (with_reducible refine (HC.out _).mono ?_); rintro e w3 ⟨rfl, rfl⟩) | fail)
  go_ret
  exact ⟨rfl, HB.out⟩

/-! ### In memory -/
theorem but_sorted19 {w : World} {g off n : Nat} {os : Array Obj} (F : Array Value) : But w.heap.size g w (grow (putRow id (Sort.ahead w n) g off F) os) := by
  refine ⟨rfl, rfl, rfl, by simp, fun k hk hne => ?_⟩
  rw [heap_grow_old _ _ (by simpa using hk)]
  simp [putRow, mapBlock, Sort.ahead, Array.getElem?_modify, Ne.symm hne]
/-- How a row of signs stands while it is sorted. -/
structure SortSt (w0 : World) (g n : Nat) (w : World) : Prop where
  row : ∃ d : Array SignD, d.size = n ∧ HoldsK SignD.cells 33 w g 0 d
  lt : g < w.heap.size
  but : But w0.heap.size g w0 w
theorem signs_holds19 {w : World} {g n c : Nat} {cur : Array Value} {xs : List PSign} (h : SliceOf signK w (some ⟨g, 0, none⟩) n c xs) (hg : w.heap[g]? = some (.cells cur 86 (0, 0))) : ∃ d : Array SignD, d.size = n ∧ HoldsK SignD.cells 33 w g 0 d := by
  have hin : ∀ x ∈ xs, SignIn x := fun x hx => h.2.2.2.2.1 x hx
  refine ⟨(xs.attach.map fun x => ⟨x.1.key, x.1.sum, (hin x.1 x.2).key, (hin x.1 x.2).sum⟩).toArray, by simp [h.1], fun t ht => ?_⟩
  have hsz : (xs.attach.map fun x => (⟨x.1.key, x.1.sum, (hin x.1 x.2).key, (hin x.1 x.2).sum⟩ : SignD)).toArray.size = n := by simp [h.1]
  rw [size_flatK, hsz] at ht
  refine ⟨?_, by simp [World.frozen?, hg]⟩
  have h1 : t / 33 < n := Nat.div_lt_of_lt_mul (by omega)
  have h2 : t % 33 < 33 := Nat.mod_lt _ (by omega)
  obtain ⟨b, off, e, _, hc⟩ := h.2.2.2.2.2 (by omega)
  cases e
  have hx : t / 33 < xs.length := by rw [h.1]; exact h1
  have e1 : xs.getD (t / 33) noSign = xs[t / 33] := by simp [List.getD, hx]
  have hl : (PSign.cells xs[t / 33]).length = 33 := PSign.len (hin _ (List.getElem_mem hx)).sum
  have h3 := hc (t / 33) h1 (t % 33) ((PSign.cells xs[t / 33])[t % 33]'(by omega)) (by
    show (PSign.cells (xs.getD (t / 33) noSign))[t % 33]? = _
    rw [e1, List.getElem?_eq_getElem (by omega)])
  replace h3 : w.cell? ⟨g, 0 + t / 33 * 33 + t % 33, none⟩ = some ((PSign.cells xs[t / 33])[t % 33]'(by omega)) := h3
  rw [show 0 + t / 33 * 33 + t % 33 = 0 + t by have := Nat.div_add_mod' t 33; omega] at h3
  rw [h3, get_flatK _ _ _ _ (by rw [hsz]; exact ht)]
  rw [getElem!_pos (c := (xs.attach.map fun x => (⟨x.1.key, x.1.sum, (hin x.1 x.2).key, (hin x.1 x.2).sum⟩ : SignD)).toArray) (i := t / 33) (by rw [hsz]; exact h1)]
  rw [getElem!_pos (c := SignD.cells _) (i := t % 33) (by rw [SignD.len]; exact h2)]
  simp [SignD.cells]
theorem holds_signs19 {w : World} {g n c : Nat} {d : Array SignD} (hs : d.size = n) (h : HoldsK SignD.cells 33 w g 0 d) (hl : g < w.heap.size) (hnc : n ≤ c) (hc : c ≤ maxLen) : SliceOf signK w (some ⟨g, 0, none⟩) n c (d.toList.map fun x => ⟨x.key, x.sum⟩) := by
  refine ⟨by simp [hs], hnc, hc, (fun e => by cases e), fun x hx => ?_, fun h0 => ⟨g, 0, rfl, hl, fun j hj i v hv => ?_⟩⟩
  · obtain ⟨y, _, rfl⟩ := List.mem_map.1 hx
    exact ⟨y.hk, y.hs⟩
  · have hjs : j < d.size := by omega
    have e1 : (d.toList.map fun x => (⟨x.key, x.sum⟩ : PSign)).getD j noSign = ⟨d[j].key, d[j].sum⟩ := by simp [List.getD, hjs]
    replace hv : (PSign.cells ((d.toList.map fun x => (⟨x.key, x.sum⟩ : PSign)).getD j noSign))[i]? = some v := hv
    rw [e1] at hv
    replace hv : d[j].cells[i]? = some v := hv
    have hi : i < 33 := by have := (List.getElem?_eq_some_iff.1 hv).1; rw [SignD.len] at this; exact this
    have ht : j * 33 + i < (flatK SignD.cells 33 d).size := by
      rw [size_flatK]
      have := Nat.mul_le_mul_right 33 (show j + 1 ≤ d.size by omega)
      omega
    have h3 := (h (j * 33 + i) ht).1
    rw [get_flatK _ _ _ _ (by rw [size_flatK] at ht; exact ht), show (j * 33 + i) / 33 = j by omega, show (j * 33 + i) % 33 = i by omega] at h3
    rw [getElem!_pos (c := d) (i := j) hjs, getElem!_pos (c := d[j].cells) (i := i) (by rw [SignD.len]; exact hi)] at h3
    replace h3 : w.cell? ⟨g, 0 + (j * 33 + i), none⟩ = some (d[j].cells[i]'(by rw [SignD.len]; exact hi)) := h3
    rw [List.getElem?_eq_getElem (by rw [SignD.len]; exact hi)] at hv
    show w.cell? ⟨g, 0 + j * 33 + i, none⟩ = some v
    rw [show 0 + j * 33 + i = 0 + (j * 33 + i) by omega, h3]
    exact hv
theorem insert19 {w0 w : World} {g n c : Nat} (a b : Nat) (h : SortSt w0 g n w) (hab : a ≤ b) (hb : b ≤ n) (hn : n ≤ 1000) :
    Calls Tryd.prog 81 #[.slice (some ⟨g, 0, none⟩) n c, .int .i64 (a : Int), .int .i64 (b : Int), .func (.func 55) #[] #[]] w fun e w' => e = .returned (.tuple #[]) ∧ SortSt w0 g n w' := by
  obtain ⟨⟨d, hs, hH⟩, hl, hbt⟩ := h
  subst hs
  have eg : ∀ args w, (callFunc 55 args).run Tryd.prog w = .ok (.enter 55 args) w := enters_of Tryd.func55 (by kernel_rfl) rfl
  refine (AnyQ.insertionSortCmpFunc Tryd.laysSignSort 33 Tryd.isAgg86 (by intro w; kernel_rfl) SignD.cells SignD.len SignD.one signCmp 55 #[] g 0 c a b d w eg (fun m os dk _ x y => signCmp_any x y _) hH hl hab hb (by omega)).mono ?_
  rintro e w' ⟨rfl, n, os, rfl⟩
  have hz := insertion_size19 (ltOf signCmp) d a b
  have hbs : But w.heap.size g w (sortWorldK SignD.cells 33 w g 0 n (insertionSort (ltOf signCmp) d a b) os) := but_sorted19 _
  refine ⟨rfl, ⟨_, hz, holdsK_sortWorldK_c _ _ _ _ _ d _ _ _ hH hl hz⟩, Nat.lt_of_lt_of_le hl hbs.size, hbt.trans (hbs.mono hbt.size)⟩
set_option linter.unusedSimpArgs false in
set_option maxRecDepth 100000 in
set_option maxHeartbeats 6400000 in
theorem sortSigns19 {w : World} {g n c : Nat} {cur : Array Value} {xs : List PSign} (h : SliceOf signK w (some ⟨g, 0, none⟩) n c xs) (hg : w.heap[g]? = some (.cells cur 86 (0, 0))) (hn : n ≤ 20) :
    Calls Tryd.prog 54 #[.slice (some ⟨g, 0, none⟩) n c, .func (.func 55) #[] #[]] w fun e w' => e = .returned (.tuple #[]) ∧ ∃ ys, SliceOf signK w' (some ⟨g, 0, none⟩) n c ys ∧ But w.heap.size g w w' := by
  have hnc := h.2.1
  have hcm := h.2.2.1
  have hst : ∀ W : World, SortSt w g n W → Calls Tryd.prog 67 #[.slice (some ⟨g, 0, none⟩) n c, .int .i64 n, .func (.func 55) #[] #[]] W fun e w' => e = .returned (.tuple #[]) ∧ SortSt w g n w' := fun W hW => by
    have HI := Lib.hid (fun (W : World) (a b : Nat) (hW : SortSt w g n W) (hab : a ≤ b) (hb : b ≤ n) => insert19 (c := c) a b hW hab hb (by omega))
    have HW := Lib.hid hW
    clear hW h hg
    go_enter Tryd.func67, Tryd.ntmps67
    go_upto_region 2 with (fail)
    go_loopw [7, 8] (fun x y wr => ∃ a : Nat, x = .int .i64 (a : Int) ∧ y = .int .i64 ((a : Int) + 20) ∧ a ≤ n ∧ (a = 0 ∨ a = 20) ∧ SortSt w g n wr) (fun x _ _ => 21 - (intOf x).toNat)
    case atStart => exact ⟨0, rfl, rfl, Nat.zero_le _, .inl rfl, HW.out⟩
    case round =>
      obtain ⟨a, rfl, rfl, hna, ha, hr⟩ := hrel
      have HW := Lib.hid hr
      clear hr
      by_cases h20 : a + 20 ≤ n
      · obtain rfl : a = 0 := by omega
        have f1 : (20 : Int) ≤ (n : Int) := by omega
        have HN20 : Hid (20 ≤ n) := Lib.hid (by omega)
        have HI0 : Hid (Calls Tryd.prog 81 #[.slice (some ⟨g, 0, none⟩) n c, .int .i64 0, .int .i64 20, .func (.func 55) #[] #[]] wr fun e w' => e = .returned (.tuple #[]) ∧ SortSt w g n w') := Lib.hid (HI.out _ 0 20 HW.out (by omega) (by omega))
        clear h20
        go_wp2_with (first | (go_at_call 81; (with_reducible refine HI0.out.mono ?_); rintro e w9 ⟨rfl, hr⟩; have HW := Lib.hid hr; clear hr) | fail)
        go_roundw
        case rel => exact ⟨20, by go_num, by go_num, HN20.out, .inr rfl, HW.out⟩
        case measure => simp [intOf]
      · have f1 : ¬ ((a : Int) + 20 ≤ (n : Int)) := by omega
        have f2 : ¬ ((20 : Int) < (n : Int)) := by omega
        have e20 := IntWalk.i64_in (n := (a : Int) + 20) (by omega)
        go_wp2_with (first | (go_at_call 81; (with_reducible refine (HI.out _ a n HW.out hna (Nat.le_refl _)).mono ?_); rintro e w9 ⟨rfl, hr⟩; have HW := Lib.hid hr; clear hr) | fail)
        go_loopw [6] (fun x wr => x = .int .i64 20 ∧ SortSt w g n wr) (fun _ _ => 0)
        case atStart => exact ⟨rfl, HW.out⟩
        case round =>
          obtain ⟨rfl, hr⟩ := hrel
          have HW := Lib.hid hr
          clear hr
          go_wp2
          go_end0
          exact ⟨rfl, HW.out⟩
  have h0 : SortSt w g n w := ⟨signs_holds19 h hg, lt_of_block hg, But.refl _ _ _⟩
  have HS := Lib.hid (fun (W : World) (hW : SortSt w g n W) => hst W hW)
  have HZ := Lib.hid h0
  clear hst h0 h hg
  go_enter Tryd.func54, Tryd.ntmps54
  go_wp2_with (first | (go_at_call 67; (with_reducible refine (HS.out _ HZ.out).mono ?_); rintro e w9 ⟨rfl, hr⟩) | fail)
  go_end0
  obtain ⟨⟨d, hd, hH⟩, hl, hb⟩ := hr
  exact ⟨rfl, _, holds_signs19 hd hH hl hnc hcm, hb⟩
end Go.Proofs.YtlnenkmcegadmaaDoor
namespace Go.Proofs.YtlnenkmcegadmaaDoor
open Go.RowKit

/-- Two transactions say the same, but for their signs. -/
structure SameTx (y t : PTx) : Prop where
  ins : y.ins.map PIn.strip = t.ins.map PIn.strip
  outs : y.outs.map POut.strip = t.outs.map POut.strip
  op : y.op.strip = t.op.strip
theorem sameTx_of {y t : PTx} (h : y.strip = t.strip) : SameTx y t := ⟨congrArg PTx.ins h, congrArg PTx.outs h, congrArg PTx.op h⟩
def PTx.signed19 (y : PTx) (ss : List PSign) : PTx := ⟨y.ia, y.inn, y.ic, y.ins, y.oa, y.on, y.oc, y.outs, y.op, y.sa, y.sn, y.sc, ss⟩
theorem sameTx_signed19 {y t : PTx} (h : y.strip = t.strip) (ss : List PSign) : SameTx (y.signed19 ss) t := ⟨congrArg PTx.ins h, congrArg PTx.outs h, congrArg PTx.op h⟩
theorem AllTx.signed19 {P : Nat → Prop} {y : PTx} (h : AllTx P y) (ss : List PSign) : AllTx P (y.signed19 ss) := ⟨h.ia, h.oa, h.pre, h.ws, h.ks, h.data⟩
/-- No row of a transaction lies where its signs lie. -/
def FarS (y : PTx) : Prop := ∀ gs, 0 < y.sn → y.sa = some ⟨gs, 0, none⟩ → AllTx (· ≠ gs) y
theorem RowAt15.but {w w' : World} {T : TypeId} {n p : Nat} {a : Option Addr} (h : RowAt15 w T n a) (hn : AllO (· ≠ p) n a) (hb : But w.heap.size p w w') : RowAt15 w' T n a := fun h0 => by
  obtain ⟨g, cur, e, hh⟩ := h h0
  have hne : g ≠ p := hn h0 _ e
  exact ⟨g, cur, e, (hb.block g (lt_of_block hh) hne).trans hh⟩
theorem varC_sign19 {w w' : World} {g p : Nat} {t : TypeId} {cs : List Value} {cur : Array Value} (h : VarC w g t cs) (hb : But w.heap.size p w w') (hp : w.heap[p]? = some (.cells cur 86 (0, 0))) (hne : 86 ≠ t) : VarC w' g t cs := varC_other h hb hp hne
/-- The signs are sorted: all else is as it was. -/
theorem sortSt19 {w0 w : World} {g4 p5 p6 Bc : Nat} {y : PTx} {S : List UInt8} (h : SgS w0 g4 p5 p6 Bc y S w) (hr : RowAt15 w 86 y.sn y.sa) (hf : FarS y) (hn : y.sn ≤ 20) :
    Calls Tryd.prog 54 #[.slice y.sa y.sn y.sc, .func (.func 55) #[] #[]] w fun e w' => e = .returned (.tuple #[]) ∧ ∃ ss, SgS w0 g4 p5 p6 Bc (y.signed19 ss) S w' := by
  rcases Nat.lt_or_ge 0 y.sn with h0 | h0
  · obtain ⟨gs, cur, e, hh⟩ := hr h0
    have hs := h.tx.signs
    rw [e] at hs ⊢
    refine (sortSigns19 hs hh hn).mono ?_
    rintro e9 w' ⟨rfl, ss, hss, hb⟩
    have hall := hf gs h0 e
    have hlow : w0.heap.size ≤ gs := h.nw.2 h0 _ e
    have htx : TxIn w' (y.signed19 ss) := by
      have hx : TxIn w (⟨y.ia, y.inn, y.ic, y.ins, y.oa, y.on, y.oc, y.outs, y.op, none, 0, 0, []⟩ : PTx) := ⟨h.tx.ins, h.tx.outs, h.tx.op, SliceOf.nil _ _⟩
      have h9 := hx.butT (p := gs) ⟨⟨hall.ia, hall.oa, hall.pre, hall.ws, hall.ks, hall.data⟩, fun h8 => absurd h8 (by show ¬ 0 < 0; omega)⟩ hb
      refine ⟨h9.ins, h9.outs, h9.op, ?_⟩
      show SliceOf signK w' y.sa y.sn y.sc ss
      rw [e]
      exact hss
    exact ⟨rfl, ss, ⟨varC_sign19 h.res hb hh (by decide), varC_sign19 h.sum hb hh (by decide), varC_sign19 h.var hb hh (by decide), htx, ⟨h.lt.1.signed19 ss, h.lt.2⟩, ⟨h.apart.1.signed19 ss, h.apart.2⟩, h.l4, h.l5, h.l6, Nat.le_trans h.size hb.size, h.but.trans ((hb.mono h.but.size).below hlow), ⟨h.nw.1.signed19 ss, h.nw.2⟩⟩⟩
  · have hz : y.sn = 0 := by omega
    rw [hz]
    refine (sortSigns_nil y.sa y.sc _ w).mono ?_
    rintro e9 w' ⟨rfl, rfl⟩
    exact ⟨rfl, y.signs, h⟩
set_option linter.unusedSimpArgs false in
set_option maxRecDepth 100000 in
set_option maxHeartbeats 6400000 in
/-- Signed by nobody: it is copied, its signs are sorted. -/
theorem txSelfG_any {w : World} {t : PTx} (ht : TxIn w t) (hf : FewTxG t) (hff : FrontFew false t) (hk : KsAt w) (h1 : t.sn ≤ 20) :
    Calls Tryd.prog 36 #[.agg t.cells.toArray, .slice none 0 0] w fun e w' => ∃ y : PTx, e = .returned (.agg y.cells.toArray) ∧ TxIn w' y ∧ SameTx y t ∧ NewTx w.heap.size y ∧ Below w.heap.size w w' := by
  obtain ⟨S, hS, hSl⟩ : ∃ S, txSum t = S ∧ S.length = 32 := ⟨_, rfl, txSum_len _⟩
  have hsum : ∀ W : World, Below w.heap.size w W → Calls Tryd.prog 17 #[.agg t.cells.toArray] W fun e w' => e = .returned (.agg (cellsOf S).toArray) ∧ Below W.heap.size W w' := fun W hW => by rw [← hS]; exact txSum_any (ht.below hW) (hk.below hW) hff
  have hcp := fun (W : World) (hW : Below w.heap.size w W) => txCopiedG_any (ht.below hW) hf
  have SS := Lib.hid (size_of hSl)
  have SZ : Hid ((cellsOf zero32).toArray.size = (cellsOf S).toArray.size) := Lib.hid (by rw [List.size_toArray, List.size_toArray, cellsOf_len, cellsOf_len, hSl]; exact zero32_len)
  have SXT := Lib.hid (tx_size (x := t) ht.op.root)
  have AXY : Hid (∀ y : PTx, y.op.root.length = 32 → (Tryd.prog.info? 50).map (·.size) = some y.cells.toArray.size) := Lib.hid (fun y h => tx_sizeA h)
  have H1 := Lib.hid h1
  clear hS hff hk hf ht hSl h1
  go_enter Tryd.func36, Tryd.ntmps36
  go_upto_region 1 with (first | (refine wpList_new rfl 50 rfl noTx.cells.toArray noTx15 ?_; intro r w2 hr hh hb; go_frame) | fail)
  have b0 : Below w.heap.size w (w.alloc (.cells t.cells.toArray 50)) := (Below.refl _ _).alloc (Nat.le_refl _) _
  have h1 := keep hb (heap_alloc_new w (.cells t.cells.toArray 50))
  have b2 := bthen b0 hb
  obtain ⟨g, hg⟩ : ∃ g, g = w.heap.size := ⟨_, rfl⟩
  rw [← hg] at h1 ⊢
  have RES : Hid (VarC w2 r 50 noTx.cells) := Lib.hid hh
  have HG1L := Lib.hid (lt_of_block hh)
  have HR0 : Hid (w.heap.size ≤ r) := Lib.hid (Nat.le_trans b0.size hr)
  have HB2 := Lib.hid b2
  have V2 := Lib.hid h1
  have HSUM := Lib.hid (fun (W : World) (hW : Below w2.heap.size w2 W) => hsum W (bthen b2 hW))
  have HCP := Lib.hid (fun (W : World) (hW : Below w2.heap.size w2 W) => hcp W (bthen b2 hW))
  clear b0 h1 b2 hr hh hb hsum hcp hg
  go_cut [5, 6] from 11 to 14 (fun u v w' => ∃ (p5 p6 : Nat) (y : PTx), u = .pointer (some ⟨p5, 0, none⟩) ∧ v = .pointer (some ⟨p6, 0, none⟩) ∧ SgS w r p5 p6 w'.heap.size y S w' ∧ y.strip = t.strip ∧ w.heap.size ≤ p6 ∧ r ≠ p6 ∧ y.sn = t.sn ∧ y.signs = t.signs ∧ RowAt15 w' 86 y.sn y.sa ∧ FarS y)
  case first =>
    try simp only [Act.put]
    refine wp_region_held_drew (S := fun w' => Below w2.heap.size w2 w') (by kernel_rfl) (below_drew (Below.refl _ _)) (fun hHeld => ?_)
    refine tkA 0 rfl rfl (yieldsIf_load_mid (by rfl) _ _ rfl g 0 rfl t.cells _ (fun w0 hSw => range_of (keep hSw V2.out)) Tryd.underlying50 rfl SXT.out) ?_
    refine tkA 2 rfl rfl (yieldsIf_load_mid (by rfl) _ _ rfl g 0 rfl t.cells _ (fun w0 hSw => range_of (keep hSw V2.out)) Tryd.underlying50 rfl SXT.out) ?_
    refine wpAnyH_ready (rs := [1, 4, 5]) (by kernel_rfl) (by simp) (AllReadyH.cons rfl (fun K hK => ?_) (AllReadyH.cons rfl (fun K hK => ?_) (AllReadyH.cons rfl (fun K hK => ?_) AllReadyH.nil)))
    all_goals (first | (refine step_alloc_of (d := 5) rfl (by rfl) 23 rfl (cellsOf zero32).toArray Tryd.zeroSum32 ?_; intro p5 y1 hp hh hb; (try (have HA5 : Hid (AllT (· ≠ p5) y) := Lib.hid (HTY.out.ltT.mono fun b hb2 => by omega))); (try (have V5 := Lib.hid (V5.out.below hb))); (try (have V6 := Lib.hid (V6.out.below hb))); (try (have HTY := Lib.hid (HTY.out.below hb))); (try (have HRT := Lib.hid (HRT.out.more hb))); have V5 : Hid (VarC y1 p5 23 (cellsOf zero32)) := Lib.hid hh; have P5 : Hid (w2.heap.size ≤ p5) := Lib.hid (Nat.le_trans (Below.size hHeld) hp); have HX := Lib.hid (bthen hHeld hb); clear hb hh hp; refine hK.out _ _ (by (try dsimp only); exact HX.out) (fun hHeld => ?_); clear hK K) | (refine step_alloc_of (d := 6) rfl (by rfl) 50 rfl noTx.cells.toArray Tryd.zeroTx160 ?_; intro p6 y1 hp hh hb; (try (have HA6 : Hid (AllT (· ≠ p6) y) := Lib.hid (HTY.out.ltT.mono fun b hb2 => by omega))); (try (have V5 := Lib.hid (V5.out.below hb))); (try (have V6 := Lib.hid (V6.out.below hb))); (try (have HTY := Lib.hid (HTY.out.below hb))); (try (have HRT := Lib.hid (HRT.out.more hb))); have V6 : Hid (VarC y1 p6 50 (noTx.cells)) := Lib.hid hh; have P6 : Hid (w2.heap.size ≤ p6) := Lib.hid (Nat.le_trans (Below.size hHeld) hp); have HX := Lib.hid (bthen hHeld hb); clear hb hh hp; refine hK.out _ _ (by (try dsimp only); exact HX.out) (fun hHeld => ?_); clear hK K) | (have HCx := Lib.hid (HSUM.out _ hHeld); go_simp; go_wp2_with ((go_at_call 17; (with_reducible refine (HCx.out).mono ?_); rintro e y1 ⟨rfl, hb⟩; (try (have V5 := Lib.hid (V5.out.below hb))); (try (have V6 := Lib.hid (V6.out.below hb))); (try (have HTY := Lib.hid (HTY.out.below hb))); (try (have HRT := Lib.hid (HRT.out.more hb))); have HX := Lib.hid (bthen hHeld hb); clear hb HCx)); refine hK.out _ _ (by (try dsimp only); exact HX.out) (fun hHeld => ?_); clear hK K))
    all_goals (first | (refine wpAnyH_ready (rs := [3, 4, 5]) (by decide +kernel) (by simp) (AllReadyH.cons rfl (fun K hK => ?_) (AllReadyH.cons rfl (fun K hK => ?_) (AllReadyH.cons rfl (fun K hK => ?_) AllReadyH.nil)))) | (refine wpAnyH_ready (rs := [1, 4]) (by decide +kernel) (by simp) (AllReadyH.cons rfl (fun K hK => ?_) (AllReadyH.cons rfl (fun K hK => ?_) AllReadyH.nil))) | (refine wpAnyH_ready (rs := [1, 5]) (by decide +kernel) (by simp) (AllReadyH.cons rfl (fun K hK => ?_) (AllReadyH.cons rfl (fun K hK => ?_) AllReadyH.nil))))
    all_goals (first | (refine step_alloc_of (d := 5) rfl (by rfl) 23 rfl (cellsOf zero32).toArray Tryd.zeroSum32 ?_; intro p5 y1 hp hh hb; (try (have HA5 : Hid (AllT (· ≠ p5) y) := Lib.hid (HTY.out.ltT.mono fun b hb2 => by omega))); (try (have V5 := Lib.hid (V5.out.below hb))); (try (have V6 := Lib.hid (V6.out.below hb))); (try (have HTY := Lib.hid (HTY.out.below hb))); (try (have HRT := Lib.hid (HRT.out.more hb))); have V5 : Hid (VarC y1 p5 23 (cellsOf zero32)) := Lib.hid hh; have P5 : Hid (w2.heap.size ≤ p5) := Lib.hid (Nat.le_trans (Below.size hHeld) hp); have HX := Lib.hid (bthen hHeld hb); clear hb hh hp; refine hK.out _ _ (by (try dsimp only); exact HX.out) (fun hHeld => ?_); clear hK K) | (refine step_alloc_of (d := 6) rfl (by rfl) 50 rfl noTx.cells.toArray Tryd.zeroTx160 ?_; intro p6 y1 hp hh hb; (try (have HA6 : Hid (AllT (· ≠ p6) y) := Lib.hid (HTY.out.ltT.mono fun b hb2 => by omega))); (try (have V5 := Lib.hid (V5.out.below hb))); (try (have V6 := Lib.hid (V6.out.below hb))); (try (have HTY := Lib.hid (HTY.out.below hb))); (try (have HRT := Lib.hid (HRT.out.more hb))); have V6 : Hid (VarC y1 p6 50 (noTx.cells)) := Lib.hid hh; have P6 : Hid (w2.heap.size ≤ p6) := Lib.hid (Nat.le_trans (Below.size hHeld) hp); have HX := Lib.hid (bthen hHeld hb); clear hb hh hp; refine hK.out _ _ (by (try dsimp only); exact HX.out) (fun hHeld => ?_); clear hK K) | (have HCx := Lib.hid (HSUM.out _ hHeld); go_simp; go_wp2_with ((go_at_call 17; (with_reducible refine (HCx.out).mono ?_); rintro e y1 ⟨rfl, hb⟩; (try (have V5 := Lib.hid (V5.out.below hb))); (try (have V6 := Lib.hid (V6.out.below hb))); (try (have HTY := Lib.hid (HTY.out.below hb))); (try (have HRT := Lib.hid (HRT.out.more hb))); have HX := Lib.hid (bthen hHeld hb); clear hb HCx)); refine hK.out _ _ (by (try dsimp only); exact HX.out) (fun hHeld => ?_); clear hK K) | (have HCx := Lib.hid (HCP.out _ hHeld); go_simp; go_wp2_with ((go_at_call 47; (with_reducible refine (HCx.out).mono ?_); rintro e y1 ⟨y, rfl, hty, hsy, hny1, hny2, hsn, hss, hs0, hrw, hb⟩; have hny := And.intro hny1 hny2; have HNW : Hid (AllT (w.heap.size ≤ ·) y) := Lib.hid (AllT.mono hny fun b hb2 => by have h9 := HB2.out.size; have h8 := Below.size hHeld; omega); have HAG : Hid (AllT (· ≠ r) y) := Lib.hid (AllT.mono hny fun b hb2 => by have h9 := HG1L.out; have h8 := Below.size hHeld; omega); (try (have HA5 : Hid (AllT (· ≠ p5) y) := Lib.hid (AllT.mono hny fun b hb2 => by have h9 := V5.out.lt; omega))); (try (have HA6 : Hid (AllT (· ≠ p6) y) := Lib.hid (AllT.mono hny fun b hb2 => by have h9 := V6.out.lt; omega))); (try (have V5 := Lib.hid (V5.out.below hb))); (try (have V6 := Lib.hid (V6.out.below hb))); (try (have HTY := Lib.hid (HTY.out.below hb))); (try (have HRT := Lib.hid (HRT.out.more hb))); have HTY := Lib.hid hty; have HSY := Lib.hid hsy; have HSN := Lib.hid (And.intro hsn hss); have HFAR : Hid (FarS y) := Lib.hid (fun gs h0 e9 => by rw [hsn] at h0; obtain ⟨g9, _, e8, _, h9⟩ := hrw h0; rw [e9] at e8; cases e8; exact h9); have HRT : Hid (RowAt15 y1 86 y.sn y.sa) := Lib.hid (fun h0 => by rw [hsn] at h0; obtain ⟨g9, c9, e8, h8, _⟩ := hrw h0; exact ⟨g9, c9, e8, h8⟩); have HS0 := Lib.hid hs0; have HX := Lib.hid (bthen hHeld hb); clear hty hsy hny hny1 hny2 hsn hss hs0 hrw hb HCx)); refine hK.out _ _ (by (try dsimp only); exact HX.out) (fun hHeld => ?_); clear hK K))
    all_goals (first | (refine wpAnyH_ready (rs := [3, 4]) (by decide +kernel) (by simp) (AllReadyH.cons rfl (fun K hK => ?_) (AllReadyH.cons rfl (fun K hK => ?_) AllReadyH.nil))) | (refine wpAnyH_ready (rs := [3, 5]) (by decide +kernel) (by simp) (AllReadyH.cons rfl (fun K hK => ?_) (AllReadyH.cons rfl (fun K hK => ?_) AllReadyH.nil))) | (refine wpAnyH_ready (rs := [4, 5]) (by decide +kernel) (by simp) (AllReadyH.cons rfl (fun K hK => ?_) (AllReadyH.cons rfl (fun K hK => ?_) AllReadyH.nil))) | (refine wpAnyH_ready (rs := [1]) (by decide +kernel) (by simp) (AllReadyH.cons rfl (fun K hK => ?_) AllReadyH.nil)))
    all_goals (first | (refine step_alloc_of (d := 5) rfl (by rfl) 23 rfl (cellsOf zero32).toArray Tryd.zeroSum32 ?_; intro p5 y1 hp hh hb; (try (have HA5 : Hid (AllT (· ≠ p5) y) := Lib.hid (HTY.out.ltT.mono fun b hb2 => by omega))); (try (have V5 := Lib.hid (V5.out.below hb))); (try (have V6 := Lib.hid (V6.out.below hb))); (try (have HTY := Lib.hid (HTY.out.below hb))); (try (have HRT := Lib.hid (HRT.out.more hb))); have V5 : Hid (VarC y1 p5 23 (cellsOf zero32)) := Lib.hid hh; have P5 : Hid (w2.heap.size ≤ p5) := Lib.hid (Nat.le_trans (Below.size hHeld) hp); have HX := Lib.hid (bthen hHeld hb); clear hb hh hp; refine hK.out _ _ (by (try dsimp only); exact HX.out) (fun hHeld => ?_); clear hK K) | (refine step_alloc_of (d := 6) rfl (by rfl) 50 rfl noTx.cells.toArray Tryd.zeroTx160 ?_; intro p6 y1 hp hh hb; (try (have HA6 : Hid (AllT (· ≠ p6) y) := Lib.hid (HTY.out.ltT.mono fun b hb2 => by omega))); (try (have V5 := Lib.hid (V5.out.below hb))); (try (have V6 := Lib.hid (V6.out.below hb))); (try (have HTY := Lib.hid (HTY.out.below hb))); (try (have HRT := Lib.hid (HRT.out.more hb))); have V6 : Hid (VarC y1 p6 50 (noTx.cells)) := Lib.hid hh; have P6 : Hid (w2.heap.size ≤ p6) := Lib.hid (Nat.le_trans (Below.size hHeld) hp); have HX := Lib.hid (bthen hHeld hb); clear hb hh hp; refine hK.out _ _ (by (try dsimp only); exact HX.out) (fun hHeld => ?_); clear hK K) | (have HCx := Lib.hid (HSUM.out _ hHeld); go_simp; go_wp2_with ((go_at_call 17; (with_reducible refine (HCx.out).mono ?_); rintro e y1 ⟨rfl, hb⟩; (try (have V5 := Lib.hid (V5.out.below hb))); (try (have V6 := Lib.hid (V6.out.below hb))); (try (have HTY := Lib.hid (HTY.out.below hb))); (try (have HRT := Lib.hid (HRT.out.more hb))); have HX := Lib.hid (bthen hHeld hb); clear hb HCx)); refine hK.out _ _ (by (try dsimp only); exact HX.out) (fun hHeld => ?_); clear hK K) | (have HCx := Lib.hid (HCP.out _ hHeld); go_simp; go_wp2_with ((go_at_call 47; (with_reducible refine (HCx.out).mono ?_); rintro e y1 ⟨y, rfl, hty, hsy, hny1, hny2, hsn, hss, hs0, hrw, hb⟩; have hny := And.intro hny1 hny2; have HNW : Hid (AllT (w.heap.size ≤ ·) y) := Lib.hid (AllT.mono hny fun b hb2 => by have h9 := HB2.out.size; have h8 := Below.size hHeld; omega); have HAG : Hid (AllT (· ≠ r) y) := Lib.hid (AllT.mono hny fun b hb2 => by have h9 := HG1L.out; have h8 := Below.size hHeld; omega); (try (have HA5 : Hid (AllT (· ≠ p5) y) := Lib.hid (AllT.mono hny fun b hb2 => by have h9 := V5.out.lt; omega))); (try (have HA6 : Hid (AllT (· ≠ p6) y) := Lib.hid (AllT.mono hny fun b hb2 => by have h9 := V6.out.lt; omega))); (try (have V5 := Lib.hid (V5.out.below hb))); (try (have V6 := Lib.hid (V6.out.below hb))); (try (have HTY := Lib.hid (HTY.out.below hb))); (try (have HRT := Lib.hid (HRT.out.more hb))); have HTY := Lib.hid hty; have HSY := Lib.hid hsy; have HSN := Lib.hid (And.intro hsn hss); have HFAR : Hid (FarS y) := Lib.hid (fun gs h0 e9 => by rw [hsn] at h0; obtain ⟨g9, _, e8, _, h9⟩ := hrw h0; rw [e9] at e8; cases e8; exact h9); have HRT : Hid (RowAt15 y1 86 y.sn y.sa) := Lib.hid (fun h0 => by rw [hsn] at h0; obtain ⟨g9, c9, e8, h8, _⟩ := hrw h0; exact ⟨g9, c9, e8, h8⟩); have HS0 := Lib.hid hs0; have HX := Lib.hid (bthen hHeld hb); clear hty hsy hny hny1 hny2 hsn hss hs0 hrw hb HCx)); refine hK.out _ _ (by (try dsimp only); exact HX.out) (fun hHeld => ?_); clear hK K))
    all_goals (first | (refine wpAnyH_ready (rs := [3]) (by decide +kernel) (by simp) (AllReadyH.cons rfl (fun K hK => ?_) AllReadyH.nil)) | (refine wpAnyH_ready (rs := [4]) (by decide +kernel) (by simp) (AllReadyH.cons rfl (fun K hK => ?_) AllReadyH.nil)) | (refine wpAnyH_ready (rs := [5]) (by decide +kernel) (by simp) (AllReadyH.cons rfl (fun K hK => ?_) AllReadyH.nil)))
    all_goals (first | (refine step_alloc_of (d := 5) rfl (by rfl) 23 rfl (cellsOf zero32).toArray Tryd.zeroSum32 ?_; intro p5 y1 hp hh hb; (try (have HA5 : Hid (AllT (· ≠ p5) y) := Lib.hid (HTY.out.ltT.mono fun b hb2 => by omega))); (try (have V5 := Lib.hid (V5.out.below hb))); (try (have V6 := Lib.hid (V6.out.below hb))); (try (have HTY := Lib.hid (HTY.out.below hb))); (try (have HRT := Lib.hid (HRT.out.more hb))); have V5 : Hid (VarC y1 p5 23 (cellsOf zero32)) := Lib.hid hh; have P5 : Hid (w2.heap.size ≤ p5) := Lib.hid (Nat.le_trans (Below.size hHeld) hp); have HX := Lib.hid (bthen hHeld hb); clear hb hh hp; refine hK.out _ _ (by (try dsimp only); exact HX.out) (fun hHeld => ?_); clear hK K) | (refine step_alloc_of (d := 6) rfl (by rfl) 50 rfl noTx.cells.toArray Tryd.zeroTx160 ?_; intro p6 y1 hp hh hb; (try (have HA6 : Hid (AllT (· ≠ p6) y) := Lib.hid (HTY.out.ltT.mono fun b hb2 => by omega))); (try (have V5 := Lib.hid (V5.out.below hb))); (try (have V6 := Lib.hid (V6.out.below hb))); (try (have HTY := Lib.hid (HTY.out.below hb))); (try (have HRT := Lib.hid (HRT.out.more hb))); have V6 : Hid (VarC y1 p6 50 (noTx.cells)) := Lib.hid hh; have P6 : Hid (w2.heap.size ≤ p6) := Lib.hid (Nat.le_trans (Below.size hHeld) hp); have HX := Lib.hid (bthen hHeld hb); clear hb hh hp; refine hK.out _ _ (by (try dsimp only); exact HX.out) (fun hHeld => ?_); clear hK K) | (have HCx := Lib.hid (HCP.out _ hHeld); go_simp; go_wp2_with ((go_at_call 47; (with_reducible refine (HCx.out).mono ?_); rintro e y1 ⟨y, rfl, hty, hsy, hny1, hny2, hsn, hss, hs0, hrw, hb⟩; have hny := And.intro hny1 hny2; have HNW : Hid (AllT (w.heap.size ≤ ·) y) := Lib.hid (AllT.mono hny fun b hb2 => by have h9 := HB2.out.size; have h8 := Below.size hHeld; omega); have HAG : Hid (AllT (· ≠ r) y) := Lib.hid (AllT.mono hny fun b hb2 => by have h9 := HG1L.out; have h8 := Below.size hHeld; omega); (try (have HA5 : Hid (AllT (· ≠ p5) y) := Lib.hid (AllT.mono hny fun b hb2 => by have h9 := V5.out.lt; omega))); (try (have HA6 : Hid (AllT (· ≠ p6) y) := Lib.hid (AllT.mono hny fun b hb2 => by have h9 := V6.out.lt; omega))); (try (have V5 := Lib.hid (V5.out.below hb))); (try (have V6 := Lib.hid (V6.out.below hb))); (try (have HTY := Lib.hid (HTY.out.below hb))); (try (have HRT := Lib.hid (HRT.out.more hb))); have HTY := Lib.hid hty; have HSY := Lib.hid hsy; have HSN := Lib.hid (And.intro hsn hss); have HFAR : Hid (FarS y) := Lib.hid (fun gs h0 e9 => by rw [hsn] at h0; obtain ⟨g9, _, e8, _, h9⟩ := hrw h0; rw [e9] at e8; cases e8; exact h9); have HRT : Hid (RowAt15 y1 86 y.sn y.sa) := Lib.hid (fun h0 => by rw [hsn] at h0; obtain ⟨g9, c9, e8, h8, _⟩ := hrw h0; exact ⟨g9, c9, e8, h8⟩); have HS0 := Lib.hid hs0; have HX := Lib.hid (bthen hHeld hb); clear hty hsy hny hny1 hny2 hsn hss hs0 hrw hb HCx)); refine hK.out _ _ (by (try dsimp only); exact HX.out) (fun hHeld => ?_); clear hK K))
    all_goals (refine tkR 6 rfl (fun K hK => ?_))
    all_goals (refine step_store_row (by rfl) 23 _ _ rfl p5 (cellsOf S).toArray (by rfl) (by rfl) 23 (cellsOf zero32).toArray V5.out SS.out SZ.out (all_oneCell_toArray (cellsOf_one S)) ?_; have hs := but_setRow y1 p5 (cellsOf S).toArray; have V5b := Lib.hid (show VarC (y1.setRow p5 (cellsOf S).toArray) p5 23 (cellsOf S) from setRow_heap y1 p5 _ _ 23 _ V5.out); have V6b := Lib.hid (varC_other V6.out hs V5.out (by decide)); have HTYb := Lib.hid (HTY.out.butT HA5.out hs); have HRTb := Lib.hid (HRT.out.but HA5.out.2 hs); have HSS := Lib.hid ((hs.mono (Below.size hHeld)).below P5.out); clear hs; revert V5b V6b HTYb HRTb HSS; generalize World.setRow y1 _ _ = z6; intro V5b V6b HTYb HRTb HSS; refine hK.out _ _ (by (try dsimp only); exact Below.trans hHeld HSS.out) (fun hHeld => ?_); clear hK K)
    all_goals (refine tkR 7 rfl (fun K hK => ?_))
    all_goals (refine step_store_row (by rfl) 50 _ _ rfl p6 y.cells.toArray (by rfl) (by rfl) 50 noTx.cells.toArray V6b.out (AXY.out y HTYb.out.op.root) (by have h9 := PTx.len HTYb.out.op.root; rw [List.size_toArray, List.size_toArray, h9]; rfl) (all_oneCell_toArray y.one) ?_; have hs := but_setRow z6 p6 y.cells.toArray; have V6c := Lib.hid (show VarC (z6.setRow p6 y.cells.toArray) p6 50 y.cells from setRow_heap z6 p6 _ _ 50 _ V6b.out); have V5c := Lib.hid (varC_other V5b.out hs V6b.out (by decide)); have HTYc := Lib.hid (HTYb.out.butT HA6.out hs); have HRTc := Lib.hid (HRTb.out.but HA6.out.2 hs); have HST := Lib.hid ((hs.mono (Below.size hHeld)).below P6.out); clear hs; revert V6c V5c HTYc HRTc HST; generalize World.setRow z6 _ _ = z7; intro V6c V5c HTYc HRTc HST; refine hK.out _ _ (by (try dsimp only); exact Below.trans hHeld HST.out) (fun hHeld => ?_); clear hK K)
    all_goals (refine wpAnyH_done (by kernel_rfl) ?_ _)
    all_goals (have HFB := Lib.hid (show Below w2.heap.size w2 z7 from hHeld); clear hHeld; have SGT : Hid (SgS w r p5 p6 z7.heap.size y S z7) := Lib.hid ⟨VarC.below RES.out HFB.out, V5c.out, V6c.out, HTYc.out, HTYc.out.ltT, HA6.out.and HAG.out, Nat.lt_of_lt_of_le HG1L.out HFB.out.size, V5c.out.lt, V6c.out.lt, Nat.le_refl _, bthen HB2.out HFB.out, HNW.out⟩; go_wp2_with fail; go_meet; exact ⟨p5, p6, y, rfl, rfl, SGT.out, HSY.out, Nat.le_trans HB2.out.size P6.out, (by have h9 := P6.out; have h8 := HG1L.out; omega), HSN.out.1, HSN.out.2, HRTc.out, HFAR.out⟩)
  case rest =>
    obtain ⟨p5, p6, y, rfl, rfl, hsg, hsy, hp6, hng, hsn, _, hrt, hfar⟩ := hcut
    have SG := Lib.hid hsg
    have HRT := Lib.hid hrt
    have HFAR := Lib.hid hfar
    have SG := Lib.hid hsg
    have HROOT := Lib.hid hsg.tx.op.root
    have HP6B := Lib.hid hp6
    have HNG := Lib.hid hng
    have HSY := Lib.hid hsy
    have HN1 : Hid (y.sn ≤ 20) := Lib.hid (by have h9 := H1.out; omega)
    clear hsg hp6 hng hsy hsn hrt hfar HSUM HCP V2 SXT SS SZ RES AXY H1
    have HCL := Lib.hid (Tryd.slices_Clone_int_nil 0 0 wc)
    go_wp2_with fail
    refine HCL.out.mono ?_
    rintro e w3 ⟨rfl, rfl⟩
    clear HCL
    go_upto_region 3 with (fail)
    have b4 : Below w3.heap.size w3 (w3.alloc (.cells #[.slice none 0 0] 80)) := (Below.refl _ _).alloc (Nat.le_refl _) _
    have h7 : VarC (w3.alloc (.cells #[.slice none 0 0] 80)) w3.heap.size 80 [.slice none 0 0] := heap_alloc_new _ _
    revert b4 h7
    generalize (w3.alloc (.cells #[.slice none 0 0] 80)) = w4
    obtain ⟨p7, hp7⟩ : ∃ p, p = w3.heap.size := ⟨_, rfl⟩
    rw [← hp7]
    intro b4 h7
    rw [hp7] at b4
    have SG := Lib.hid (SG.out.below b4)
    have HRT := Lib.hid (HRT.out.more b4)
    have V7 := Lib.hid h7
    have HSO := Lib.hid (sort_any (OwnZ.nil w4 3 w4.heap.size) (Nat.le_refl _) (by simp))
    have c7 : w4.cell? ⟨p7, 0, none⟩ = some (.slice none 0 0) := (V7.out.cell 0).trans rfl
    clear h7 b4 hp7
    go_wp2_with fail
    refine HSO.out.mono ?_
    rintro e w5 ⟨rfl, _, _, hb5⟩
    have SG := Lib.hid (SG.out.below hb5)
    have HRT := Lib.hid (HRT.out.more hb5)
    have V7 := Lib.hid (V7.out.below hb5)
    have c7' : w5.cell? ⟨p7, 0, none⟩ = some (.slice none 0 0) := (V7.out.cell 0).trans rfl
    have f7 := V7.out.free 0
    clear c7 hb5 HSO
    go_upto_region 5 with (first | (go_at_call 50; (with_reducible refine (compact_nil _).mono ?_); rintro e w9 ⟨rfl, rfl⟩) | fail)
    have hb6 := store_same (i := 0) (v := .slice none 0 0) V7.out rfl
    have SG6 := Lib.hid (SG.out.below hb6)
    have HR6 := Lib.hid (HRT.out.more hb6)
    have V76 := Lib.hid (V7.out.below hb6)
    clear c7' f7 hb6 SG V7 HRT
    revert SG6 V76 HR6
    generalize World.setCell w5 _ _ = w6
    intro SG6 HR6 V76
    have c39 : w6.cell? ⟨p6, 39, none⟩ = some (.slice y.sa y.sn y.sc) := (SG6.out.var.cell 39).trans (sign_cell15 HROOT.out)
    have HDL := Lib.hid (deleteSigns_none SG6.out.tx.signs ((V76.out.cell 0).trans rfl))
    have hmf : ∀ (fn : Fn) (first cap : Array Value) (w : World), (Instr.makeFunc fn first cap).run Tryd.prog w = .ok (.func fn first cap) w := fun _ _ _ _ => rfl
    go_upto_region 7 with (first | (go_at_call 51; (with_reducible refine HDL.out.mono ?_); rintro e w8 ⟨rfl, hb8⟩; have c8 : w8.cell? ⟨p7, 0, none⟩ = some (.slice none 0 0) := ((V76.out.below hb8).cell 0).trans rfl; have HB8 := Lib.hid hb8; clear hb8) | fail)
    have SG := Lib.hid (SG6.out.below HB8.out)
    have HRT := Lib.hid (HR6.out.more HB8.out)
    clear HR6 c39 c8 HDL SG6 V76 HB8
    go_loopw [8, 27] (fun l i wr => l = .slice y.sa y.sn y.sc ∧ i = .int .i64 0 ∧ SgS w r p5 p6 w3.heap.size y S wr ∧ RowAt15 wr 86 y.sn y.sa) (fun _ _ _ => 0)
    case atStart => exact ⟨rfl, rfl, SG.out, HRT.out⟩
    case round =>
      obtain ⟨rfl, rfl, hs8, hr8⟩ := hrel
      have SG := Lib.hid hs8
      have HSR := Lib.hid (sortSt19 hs8 hr8 HFAR.out HN1.out)
      clear hs8 hr8 HRT
      go_upto_region 12 with (first | (go_at_call 54; (with_reducible refine (HSR.out).mono ?_); rintro e w9 ⟨rfl, ss, hs9⟩; have SG := Lib.hid hs9; clear hs9) | fail)
      obtain ⟨y2, hy2⟩ : ∃ z, z = y.signed19 ss := ⟨_, rfl⟩
      have hyc : y.cells = y2.cells := by rw [hy2]; rfl
      have hya : y.sa = y2.sa ∧ y.sn = y2.sn ∧ y.sc = y2.sc := by rw [hy2]; exact ⟨rfl, rfl, rfl⟩
      have HSM : Hid (SameTx y2 t) := Lib.hid (by rw [hy2]; exact sameTx_signed19 HSY.out ss)
      have HROOT : Hid (y2.op.root.length = 32) := Lib.hid (by rw [hy2]; exact HROOT.out)
      rw [← hy2] at SG
      rw [hya.1, hya.2.1, hya.2.2]
      clear hyc hya hy2 HSY HN1 HFAR HSR
      have c39 : w9.cell? ⟨p6, 39, none⟩ = some (.slice y2.sa y2.sn y2.sc) := (SG.out.var.cell 39).trans (sign_cell15 HROOT.out)
      have f39 := SG.out.var.free 39
      go_upto_region 13 with (fail)
      have hb9 := store_same (i := 39) (v := .slice y2.sa y2.sn y2.sc) SG.out.var (by rw [List.getElem?_toArray]; exact sign_cell15 HROOT.out)
      have SG := Lib.hid (SG.out.below hb9)
      clear c39 f39 hb9
      revert SG
      generalize World.setCell w9 _ _ = wz
      intro SG
      have RX := Lib.hid SG.out.var.range
      have SX := Lib.hid (tx_size (x := y2) HROOT.out)
      have AX := Lib.hid (tx_sizeA (x := y2) HROOT.out)
      have RF := Lib.hid SG.out.res
      go_wp2_with (first | (refine wpList_load_mid rfl 50 _ rfl p6 0 rfl y2.cells _ RX.out Tryd.underlying50 rfl SX.out ?_) | (refine wpList_store_row rfl 50 _ _ rfl r y2.cells.toArray rfl rfl 50 noTx.cells.toArray RF.out AX.out (by rw [List.size_toArray, List.size_toArray, PTx.len (x := y2) HROOT.out]; rfl) (all_oneCell_toArray (PTx.one _)) ?_) | fail)
      refine bodyPost_ret (results_cell_row rfl _ _ r 50 y2.cells.toArray (0, 0) _ rfl (setRow_heap wz r _ _ 50 _ RF.out) Tryd.underlying50 rfl AX.out) rfl ?_
      have hfb := but_setRow wz r y2.cells.toArray
      have hfx := SG.out.tx.butT (SG.out.apart.mono fun b hb => hb.2) hfb
      exact ⟨y2, rfl, hfx, HSM.out, ⟨SG.out.nw.1, SG.out.nw.2⟩, SG.out.but.trans ((hfb.mono SG.out.but.size).below HR0.out)⟩
end Go.Proofs.YtlnenkmcegadmaaDoor
