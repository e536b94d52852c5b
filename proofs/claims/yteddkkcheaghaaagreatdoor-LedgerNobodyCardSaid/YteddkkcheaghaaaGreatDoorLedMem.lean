/- A ledger in memory: what its structs are built of; how it stands. -/
import Derived.Test.YteddkkcheaghaaaGreatDoorMaps
import Derived.Test.YteddkkcheaghaaaGreatDoorViews
import Derived.Test.YteddkkcheaghaaaGreatDoorBonds
import Derived.Test.YteddkkcheaghaaaGreatDoorTxc
import Derived.Test.YteddkkcheaghaaaGreatDoorAllT
namespace Go.Proofs.YteddkkcheaghaaaGreatDoor
open Go.RowKit Go.Maps

theorem Tryz.refFields18 : ∃ fs, Tryz.prog.underlying 71 = some (.struct fs) ∧ ∀ w : World, ((fs.mapM fun (f : Field) => do pure (f.offset, ← sizeOf f.type)) : Sem (Array (Nat × Nat))).run Tryz.prog w = .ok #[(0, 32), (32, 1)] w := ⟨_, Tryz.underlying71, fun w => by kernel_rfl⟩
theorem Tryz.zeroRef18 : (Tryz.prog.info? 71).map (fun i => (i.zero, i.size, i.bytes)) = some (some (.agg (refCells zero32 0).toArray), 33, 40) := by kernel_rfl
theorem build_ref18 {s : List UInt8} (z : Int) (hl : s.length = 32) (w : World) : (Instr.build 71 ([(0, (.agg (cellsOf s).toArray : Value)), (1, .int .i64 z)] : List (Nat × Value)).toArray).run Tryz.prog w = .ok (.agg (refCells s z).toArray) w := by
  obtain ⟨fs, hu, hm⟩ := Tryz.refFields18
  refine run_build_of hu hm Tryz.zeroRef18 ?_ w
  rw [show ([(0, (.agg (cellsOf s).toArray : Value)), (1, .int .i64 z)] : List (Nat × Value)).toArray.toList = [(0, .agg (cellsOf s).toArray), (1, .int .i64 z)] from rfl, show refCells zero32 0 = cellsOf zero32 ++ ([.int .i64 0] : List Value) from rfl]
  rw [fill_step (off := 0) (n := 32) rfl (vs := cellsOf s) rfl (by rw [cellsOf_len, hl]) (by simp [cellsOf_len, zero32_len]), spl_head (by rw [cellsOf_len, cellsOf_len, hl, zero32_len])]
  rw [fill_step (off := 32) (n := 1) rfl (vs := [.int .i64 z]) rfl rfl (by simp [cellsOf_len, hl])]
  rw [show cellsOf s ++ ([.int .i64 0] : List Value) = cellsOf s ++ (([.int .i64 0] : List Value) ++ []) by simp, spl_at (by rw [cellsOf_len, hl]) (by rfl)]
  unfold Instr.fill
  simp [refCells]
theorem build_ref1_18 {s : List UInt8} (hl : s.length = 32) (w : World) : (Instr.build 71 ([(0, (.agg (cellsOf s).toArray : Value))] : List (Nat × Value)).toArray).run Tryz.prog w = .ok (.agg (refCells s 0).toArray) w := by
  obtain ⟨fs, hu, hm⟩ := Tryz.refFields18
  refine run_build_of hu hm Tryz.zeroRef18 ?_ w
  rw [show ([(0, (.agg (cellsOf s).toArray : Value))] : List (Nat × Value)).toArray.toList = [(0, .agg (cellsOf s).toArray)] from rfl, show refCells zero32 0 = cellsOf zero32 ++ ([.int .i64 0] : List Value) from rfl]
  rw [fill_step (off := 0) (n := 32) rfl (vs := cellsOf s) rfl (by rw [cellsOf_len, hl]) (by simp [cellsOf_len, zero32_len]), spl_head (by rw [cellsOf_len, cellsOf_len, hl, zero32_len])]
  unfold Instr.fill
  simp [refCells]
theorem build_outs18 (oa : Option Addr) (on oc : Nat) (outs : List POut) (w : World) : (Instr.build 50 ([(1, (.slice oa on oc : Value))] : List (Nat × Value)).toArray).run Tryz.prog w = .ok (.agg (PTx.cells ⟨none, 0, 0, [], oa, on, oc, outs, noOp, none, 0, 0, []⟩).toArray) w := by kernel_rfl
theorem build_led18 (vb bb db sb : Nat) (w : World) : (Instr.build 68 ([(0, (.pointer (some ⟨vb, 0, none⟩) : Value)), (1, .pointer (some ⟨bb, 0, none⟩)), (2, .map (some db)), (3, .map (some sb))] : List (Nat × Value)).toArray).run Tryz.prog w = .ok (.agg #[.pointer (some ⟨vb, 0, none⟩), .pointer (some ⟨bb, 0, none⟩), .map (some db), .map (some sb), .slice none 0 0, .int .i64 0]) w := by kernel_rfl
/-- What came, and when. -/
def doneCells (x : PTx) (h : Int) : List Value := x.cells ++ [.int .i64 h]
theorem Tryz.doneFields18 : ∃ fs, Tryz.prog.underlying 95 = some (.struct fs) ∧ ∀ w : World, ((fs.mapM fun (f : Field) => do pure (f.offset, ← sizeOf f.type)) : Sem (Array (Nat × Nat))).run Tryz.prog w = .ok #[(0, 40), (40, 1)] w := ⟨_, Tryz.underlying95, fun w => by kernel_rfl⟩
theorem Tryz.zeroDone18 : (Tryz.prog.info? 95).map (fun i => (i.zero, i.size, i.bytes)) = some (some (.agg (doneCells noTx 0).toArray), 41, 168) := by kernel_rfl
theorem build_done18 {x : PTx} (hl : x.op.root.length = 32) (z : Int) (w : World) : (Instr.build 95 ([(0, (.agg x.cells.toArray : Value)), (1, .int .i64 z)] : List (Nat × Value)).toArray).run Tryz.prog w = .ok (.agg (doneCells x z).toArray) w := by
  obtain ⟨fs, hu, hm⟩ := Tryz.doneFields18
  refine run_build_of hu hm Tryz.zeroDone18 ?_ w
  have h1 := PTx.len hl
  have h0 : noTx.cells.length = 40 := PTx.len rfl
  rw [show ([(0, (.agg x.cells.toArray : Value)), (1, .int .i64 z)] : List (Nat × Value)).toArray.toList = [(0, .agg x.cells.toArray), (1, .int .i64 z)] from rfl, show doneCells noTx 0 = noTx.cells ++ ([.int .i64 0] : List Value) from rfl]
  rw [fill_step (off := 0) (n := 40) rfl (vs := x.cells) rfl h1 (by rw [List.length_append, h0]; omega), spl_head (by rw [h0, h1])]
  rw [fill_step (off := 40) (n := 1) rfl (vs := [.int .i64 z]) rfl rfl (by rw [List.length_append, h1]; simp)]
  rw [show x.cells ++ ([.int .i64 0] : List Value) = x.cells ++ (([.int .i64 0] : List Value) ++ []) by simp, spl_at h1.symm (by rfl)]
  unfold Instr.fill
  simp [doneCells]
def spendCells (s : List UInt8) (y h : Int) : List Value := cellsOf s ++ [.int .i64 y, .int .i64 h]
theorem Tryz.spendFields18 : ∃ fs, Tryz.prog.underlying 99 = some (.struct fs) ∧ ∀ w : World, ((fs.mapM fun (f : Field) => do pure (f.offset, ← sizeOf f.type)) : Sem (Array (Nat × Nat))).run Tryz.prog w = .ok #[(0, 32), (32, 1), (33, 1)] w := ⟨_, Tryz.underlying99, fun w => by kernel_rfl⟩
theorem Tryz.zeroSpend18 : (Tryz.prog.info? 99).map (fun i => (i.zero, i.size, i.bytes)) = some (some (.agg (spendCells zero32 0 0).toArray), 34, 48) := by kernel_rfl
theorem build_spend18 {s : List UInt8} (hl : s.length = 32) (y z : Int) (w : World) : (Instr.build 99 ([(0, (.agg (cellsOf s).toArray : Value)), (1, .int .i64 y), (2, .int .i64 z)] : List (Nat × Value)).toArray).run Tryz.prog w = .ok (.agg (spendCells s y z).toArray) w := by
  obtain ⟨fs, hu, hm⟩ := Tryz.spendFields18
  refine run_build_of hu hm Tryz.zeroSpend18 ?_ w
  rw [show ([(0, (.agg (cellsOf s).toArray : Value)), (1, .int .i64 y), (2, .int .i64 z)] : List (Nat × Value)).toArray.toList = [(0, .agg (cellsOf s).toArray), (1, .int .i64 y), (2, .int .i64 z)] from rfl, show spendCells zero32 0 0 = cellsOf zero32 ++ ([.int .i64 0, .int .i64 0] : List Value) from rfl]
  rw [fill_step (off := 0) (n := 32) rfl (vs := cellsOf s) rfl (by rw [cellsOf_len, hl]) (by simp [cellsOf_len, zero32_len]), spl_head (by rw [cellsOf_len, cellsOf_len, hl, zero32_len])]
  rw [fill_step (off := 32) (n := 1) rfl (vs := [.int .i64 y]) rfl rfl (by simp [cellsOf_len, hl])]
  rw [show cellsOf s ++ ([.int .i64 0, .int .i64 0] : List Value) = cellsOf s ++ (([.int .i64 0] : List Value) ++ [.int .i64 0]) by simp, spl_at (by rw [cellsOf_len, hl]) (by rfl)]
  rw [fill_step (off := 33) (n := 1) rfl (vs := [.int .i64 z]) rfl rfl (by simp [cellsOf_len, hl])]
  rw [show cellsOf s ++ (([.int .i64 y] : List Value) ++ [.int .i64 0]) = (cellsOf s ++ ([.int .i64 y] : List Value)) ++ (([.int .i64 0] : List Value) ++ []) by simp, spl_at (by simp [cellsOf_len, hl]) (by rfl)]
  unfold Instr.fill
  simp [spendCells]
/-- Sums in a slice. -/
def sumSK : Sort8 (List UInt8) := ⟨32, cellsOf, fun _ s => s.length = 32, zero32, by omega, fun _ _ h => by rw [cellsOf_len]; exact h, fun s => cellsOf_one s, fun h _ => h⟩
def Tryz.sumAt18 : SortAt Tryz.prog sumSK 36 28 := ⟨32, by omega, by show 32 ≤ 100000; omega, .agg (cellsOf zero32).toArray, Tryz.underlying36, Tryz.zeroSum32, rfl⟩
/-- A ledger's parts. -/
def ledCells (vb bb db sb : Nat) (oa : Option Addr) (on oc : Nat) (fees : Int) : List Value := [.pointer (some ⟨vb, 0, none⟩), .pointer (some ⟨bb, 0, none⟩), .map (some db), .map (some sb), .slice oa on oc, .int .i64 fees]
/-- How a ledger stands: no more than K entries were made in any of its maps. -/
structure LedAt (w : World) (B K pl vb bb vm tb hb db sb : Nat) (rows : List PRow) (F : SumD → Option Value) (G : List UInt8 → Int → Option Value) (oa : Option Addr) (oc : Nat) (ids : List (List UInt8)) (fees : Int) : Prop where
  box : w.heap[pl]? = some (.cells (ledCells vb bb db sb oa ids.length oc fees).toArray 68 (0, 0))
  view : ∃ N, N ≤ K ∧ ViewAt w (.pointer (some ⟨vb, 0, none⟩)) vm N rows
  board : BoardAt B w (.pointer (some ⟨bb, 0, none⟩)) tb hb 0 [] []
  done : ∃ N n, N ≤ K ∧ MapK sumK w db N n F
  spent : ∃ N n, N ≤ K ∧ MapRef w sb N n G
  order : OwnOf sumSK 28 w B (.slice oa ids.length oc) ids
  few : ids.length ≤ K
  apart : [vm, tb, hb, db, sb].Nodup
  low : B ≤ pl ∧ B ≤ vm ∧ B ≤ db ∧ B ≤ sb
section
variable {w w' : World} {B K pl vb bb vm tb hb db sb oc : Nat} {rows : List PRow} {F : SumD → Option Value} {G : List UInt8 → Int → Option Value} {oa : Option Addr} {ids : List (List UInt8)} {fees : Int}
/-- All that is written of a ledger lies below hi. -/
def LedUnder (hi pl vm db sb : Nat) (v : Value) : Prop := pl < hi ∧ vm < hi ∧ db < hi ∧ sb < hi ∧ ∀ k, v.ownBlock = some k → k < hi
/-- Only blocks from lo to hi are written. -/
def Mid (lo hi : Nat) (w w' : World) : Prop := Bar (fun i _ => lo ≤ i ∧ i < hi) w w'
theorem Mid.keep {lo hi g : Nat} {w w' : World} {o : Obj} (h : Mid lo hi w w') (hg : w.heap[g]? = some o) (hn : g < lo ∨ hi ≤ g) : w'.heap[g]? = some o := Bar.keep h hg (by omega)
theorem Mid.of {lo hi : Nat} {w w' : World} (h : Below w.heap.size w w') : Mid lo hi w w' := Bar.of h
theorem Mid.but {lo hi p : Nat} {w w' : World} (h : But w.heap.size p w w') (h1 : lo ≤ p) (h2 : p < hi) : Mid lo hi w w' := Bar.but h (fun _ => ⟨h1, h2⟩)
theorem Mid.trans {lo hi : Nat} {a b c : World} (h : Mid lo hi a b) (k : Mid lo hi b c) : Mid lo hi a c := Bar.trans h k
theorem Mid.size {lo hi : Nat} {w w' : World} (h : Mid lo hi w w') : w.heap.size ≤ w'.heap.size := Bar.size h
theorem Mid.same {lo hi k : Nat} {w w' : World} (h : Mid lo hi w w') (hk : k < w.heap.size) (hn : k < lo ∨ hi ≤ k) : w'.heap[k]? = w.heap[k]? := Bar.block h k hk (by omega)
theorem Mid.below {lo hi : Nat} {w w' : World} (h : Mid lo hi w w') (hl : lo ≤ w.heap.size) : Below lo w w' := ⟨h.os, h.tape, h.output, h.size, fun k hk => h.same (by omega) (.inl hk)⟩
theorem Mid.grown {lo hi : Nat} {w w' : World} {r : Option Nat} (h : w.grownBy w' r) (hr : ∀ k, r = some k → lo ≤ k ∧ k < hi) : Mid lo hi w w' := Bar.grown h hr
theorem rangeAt_same {w w' : World} {b o : Nat} {cs : List Value} (h : w.rangeAt b o cs) (e : w'.heap[b]? = w.heap[b]?) : w'.rangeAt b o cs := fun j v hv => by
  rw [World.cell?_of_block (a := ⟨b, o + j, none⟩) e]
  exact h j v hv
theorem Row.same {w w' : World} {a : Option Addr} {n c : Nat} {l : List UInt8} (h : Row w a n c l) (hs : w.heap.size ≤ w'.heap.size) (e : AllO (fun b => w'.heap[b]? = w.heap[b]?) n a) : Row w' a n c l := by
  obtain ⟨h1, h2, h3, h4, h5⟩ := h
  refine ⟨h1, h2, h3, h4, fun h0 => ?_⟩
  obtain ⟨b, off, rfl, hlt, hc⟩ := h5 h0
  refine ⟨b, off, rfl, Nat.lt_of_lt_of_le hlt hs, fun j hj => ?_⟩
  rw [World.cell?_of_block (a := ⟨b, off + j, none⟩) (e h0 ⟨b, off, none⟩ rfl)]
  exact hc j hj
theorem Numbers.same {w w' : World} {a : Option Addr} {n c : Nat} {l : List Int} (h : Numbers w a n c l) (hs : w.heap.size ≤ w'.heap.size) (e : AllO (fun b => w'.heap[b]? = w.heap[b]?) n a) : Numbers w' a n c l := by
  obtain ⟨h1, h2, h3, h4, h6, h5⟩ := h
  refine ⟨h1, h2, h3, h4, h6, fun h0 => ?_⟩
  obtain ⟨b, off, rfl, hlt, hc⟩ := h5 h0
  refine ⟨b, off, rfl, Nat.lt_of_lt_of_le hlt hs, fun j hj => ?_⟩
  rw [World.cell?_of_block (a := ⟨b, off + j, none⟩) (e h0 ⟨b, off, none⟩ rfl)]
  exact hc j hj
theorem SliceOf.same {α : Type} {K : Sort8 α} {w w' : World} {a : Option Addr} {n c : Nat} {xs : List α} (h : SliceOf K w a n c xs) (hs : w.heap.size ≤ w'.heap.size) (e : AllO (fun b => w'.heap[b]? = w.heap[b]?) n a) (hx : ∀ x ∈ xs, K.ok w' x) : SliceOf K w' a n c xs := by
  obtain ⟨h1, h2, h3, h4, _, h5⟩ := h
  refine ⟨h1, h2, h3, h4, hx, fun h0 => ?_⟩
  obtain ⟨b, off, rfl, hlt, hc⟩ := h5 h0
  exact ⟨b, off, rfl, Nat.lt_of_lt_of_le hlt hs, fun j hj => rangeAt_same (hc j hj) (e h0 _ rfl)⟩
theorem TxIn.same {w w' : World} {y : PTx} (h : TxIn w y) (hs : w.heap.size ≤ w'.heap.size) (e : AllT (fun b => w'.heap[b]? = w.heap[b]?) y) : TxIn w' y := by
  refine ⟨h.ins.same hs e.1.ia (fun x hx => ?_), h.outs.same hs e.1.oa (fun z hz => ?_), ⟨h.op.kind, h.op.tower, h.op.channel, h.op.amount, h.op.root, h.op.data.same hs e.1.data⟩, h.signs.same hs e.2 (fun s hs => (show SignIn s from h.signs.2.2.2.2.1 s hs))⟩
  · have hx1 : InIn w x := h.ins.2.2.2.2.1 x hx
    exact ⟨hx1.tx, hx1.place, hx1.way, hx1.pre.same hs (e.1.pre x hx)⟩
  · have hz1 : OutIn w z := h.outs.2.2.2.2.1 z hz
    refine ⟨hz1.m, SliceOf.same (K := wayK9) hz1.ws hs (e.1.ws z hz) (fun u hu => ?_)⟩
    have hu1 : WayIn w u := hz1.ws.2.2.2.2.1 u hu
    exact ⟨hu1.keys.same hs (e.1.ks z hz u hu), hu1.sum, hu1.after, hu1.wait⟩
theorem TxIn.mid {lo hi : Nat} {w w' : World} {y : PTx} (h : TxIn w y) (hm : Mid lo hi w w') (hy : AllT (hi ≤ ·) y) : TxIn w' y :=
  h.same hm.size (AllT.mono (AllT.and h.ltT hy) fun _ hb => hm.same hb.1 (.inr hb.2))
theorem LedAt.under (h : LedAt w B K pl vb bb vm tb hb db sb rows F G oa oc ids fees) : LedUnder w.heap.size pl vm db sb (.slice oa ids.length oc) := by
  obtain ⟨N, _, h1⟩ := h.view
  obtain ⟨M, m, _, h2⟩ := h.done
  obtain ⟨L, l, _, h3⟩ := h.spent
  obtain ⟨es, cl, h4⟩ := h1.isMap
  exact ⟨lt_of_block h.box, lt_of_block h4, h2.lt, h3.lt, fun k e => (h.order.lt k e).2⟩
theorem LedAt.more (h : LedAt w B K pl vb bb vm tb hb db sb rows F G oa oc ids fees) {K' : Nat} (hK : K ≤ K') : LedAt w B K' pl vb bb vm tb hb db sb rows F G oa oc ids fees := by
  obtain ⟨N, n1, h1⟩ := h.view
  obtain ⟨M, m, n2, h2⟩ := h.done
  obtain ⟨L, l, n3, h3⟩ := h.spent
  exact ⟨h.box, ⟨N, by omega, h1⟩, h.board, ⟨M, m, by omega, h2⟩, ⟨L, l, by omega, h3⟩, h.order, Nat.le_trans h.few hK, h.apart, h.low⟩
theorem LedAt.below (h : LedAt w B K pl vb bb vm tb hb db sb rows F G oa oc ids fees) (hb' : Below w.heap.size w w') : LedAt w' B K pl vb bb vm tb hb db sb rows F G oa oc ids fees := by
  obtain ⟨N, n1, h1⟩ := h.view
  obtain ⟨M, m, n2, h2⟩ := h.done
  obtain ⟨L, l, n3, h3⟩ := h.spent
  exact ⟨keep hb' h.box, ⟨N, n1, h1.below hb'⟩, h.board.below hb', ⟨M, m, n2, h2.below hb'⟩, ⟨L, l, n3, h3.below hb'⟩, h.order.below hb', h.few, h.apart, h.low⟩
theorem boardBut {B : Nat} {w w' : World} {pv : Value} {tb hb N p : Nat} {ts : List PTE} {hs : List PHE} (h : BoardAt B w pv tb hb N ts hs) (k : But w.heap.size p w w') (h1 : p ≠ tb) (h2 : p ≠ hb) (h3 : ∀ cs fr, w.heap[p]? ≠ some (.cells cs 143 fr)) : BoardAt B w' pv tb hb N ts hs := by
  obtain ⟨vb, e, hh⟩ := h.has
  obtain ⟨n, n1, m1⟩ := h.mt
  obtain ⟨m, n2, m2⟩ := h.mh
  exact ⟨⟨vb, e, (k.block vb (lt_of_block hh) (fun e => h3 _ _ (e ▸ hh))).trans hh⟩, h.tB, h.hB, h.ne, h.few, ⟨n, n1, m1.but k (fun e => h1 e.symm)⟩, ⟨m, n2, m2.but k (fun e => h2 e.symm)⟩, h.inv⟩
theorem refBut {w w' : World} {b N n p : Nat} {F : List UInt8 → Int → Option Value} (h : MapRef w b N n F) (k : But w.heap.size p w w') (hp : b ≠ p) : MapRef w' b N n F :=
  h.kept (row := some p) ⟨k.os, k.tape, k.output, k.size, fun i hi hne => k.block i hi (fun e => hne (by rw [e]))⟩ (fun e => hp (Option.some.inj e))
/-- One of the maps is written: what is elsewhere stays. -/
theorem LedAt.onMap (h : LedAt w B K pl vb bb vm tb hb db sb rows F G oa oc ids fees) {p : Nat} {es : Array MapEntry} {cl : Nat} (hp : w.heap[p]? = some (.map es cl)) (k : But w.heap.size p w w') :
    w'.heap[pl]? = some (.cells (ledCells vb bb db sb oa ids.length oc fees).toArray 68 (0, 0)) ∧ (p ≠ vm → ∃ N, N ≤ K ∧ ViewAt w' (.pointer (some ⟨vb, 0, none⟩)) vm N rows) ∧ (p ≠ tb → p ≠ hb → BoardAt B w' (.pointer (some ⟨bb, 0, none⟩)) tb hb 0 [] []) ∧
    (p ≠ db → ∃ N n, N ≤ K ∧ MapK sumK w' db N n F) ∧ (p ≠ sb → ∃ N n, N ≤ K ∧ MapRef w' sb N n G) ∧ OwnOf sumSK 28 w' B (.slice oa ids.length oc) ids := by
  have hno : ∀ t cs fr, w.heap[p]? ≠ some (.cells cs t fr) := fun t cs fr e => by rw [hp] at e; cases e
  obtain ⟨N, n1, h1⟩ := h.view
  obtain ⟨M, m, n2, h2⟩ := h.done
  obtain ⟨L, l, n3, h3⟩ := h.spent
  exact ⟨(k.block pl (lt_of_block h.box) (fun e => hno _ _ _ (e ▸ h.box))).trans h.box, fun e => ⟨N, n1, h1.but k (noWays_map hp) (fun cs fr => hno _ cs fr) (fun e2 => e e2.symm)⟩, fun e1 e2 => boardBut h.board k e1 e2 (fun cs fr => hno _ cs fr),
    fun e => ⟨M, m, n2, h2.but k (fun e2 => e e2.symm)⟩, fun e => ⟨L, l, n3, refBut h3 k (fun e2 => e e2.symm)⟩, h.order.but k (fun cs fr => hno _ cs fr)⟩
theorem LedAt.ne_maps (h : LedAt w B K pl vb bb vm tb hb db sb rows F G oa oc ids fees) : vm ≠ tb ∧ vm ≠ hb ∧ vm ≠ db ∧ vm ≠ sb ∧ db ≠ tb ∧ db ≠ hb ∧ db ≠ sb ∧ sb ≠ tb ∧ sb ≠ hb := by
  have h9 := h.apart
  simp only [List.nodup_cons, List.mem_cons, List.not_mem_nil, or_false, not_or, List.nodup_nil, and_true] at h9
  obtain ⟨⟨a, b, c, d⟩, ⟨e, f, g⟩, ⟨i, j⟩, l, _⟩ := h9
  exact ⟨a, b, c, d, fun x => f x.symm, fun x => i x.symm, l, fun x => g x.symm, fun x => j x.symm⟩
/-- The view is another one. -/
theorem LedAt.viewed (h : LedAt w B K pl vb bb vm tb hb db sb rows F G oa oc ids fees) {N : Nat} {rows' : List PRow} (hv : ViewAt w' (.pointer (some ⟨vb, 0, none⟩)) vm N rows') (hN : N ≤ K + 1) (k : But w.heap.size vm w w') : LedAt w' B (K + 1) pl vb bb vm tb hb db sb rows' F G oa oc ids fees := by
  obtain ⟨N0, _, h1⟩ := h.view
  obtain ⟨es, cl, hp⟩ := h1.isMap
  obtain ⟨r1, _, r3, r4, r5, r6⟩ := h.onMap hp k
  obtain ⟨a, b, c, d, _⟩ := h.ne_maps
  obtain ⟨M, m, n2, h2⟩ := r4 c
  obtain ⟨L, l, n3, h3⟩ := r5 d
  exact ⟨r1, ⟨N, hN, hv⟩, r3 a b, ⟨M, m, by omega, h2⟩, ⟨L, l, by omega, h3⟩, r6, Nat.le_succ_of_le h.few, h.apart, h.low⟩
/-- A coin was spent. -/
theorem LedAt.spentOne (h : LedAt w B K pl vb bb vm tb hb db sb rows F G oa oc ids fees) {N n : Nat} {G' : List UInt8 → Int → Option Value} (hm : MapRef w' sb N n G') (hN : N ≤ K + 1) (k : But w.heap.size sb w w') : LedAt w' B (K + 1) pl vb bb vm tb hb db sb rows F G' oa oc ids fees := by
  obtain ⟨N0, n0, _, h1⟩ := h.spent
  obtain ⟨es, cl, hp⟩ := h1.isMap
  obtain ⟨r1, r2, r3, r4, _, r6⟩ := h.onMap hp k
  obtain ⟨_, _, _, d, _, _, g, i, j⟩ := h.ne_maps
  obtain ⟨M, m, n2, h2⟩ := r4 (fun e => g e.symm)
  obtain ⟨L, n3, h3⟩ := r2 (fun e => d e.symm)
  exact ⟨r1, ⟨L, by omega, h3⟩, r3 i j, ⟨M, m, by omega, h2⟩, ⟨N, n, hN, hm⟩, r6, Nat.le_succ_of_le h.few, h.apart, h.low⟩
/-- A transaction came. -/
theorem LedAt.cameOne (h : LedAt w B K pl vb bb vm tb hb db sb rows F G oa oc ids fees) {N n : Nat} {F' : SumD → Option Value} (hm : MapK sumK w' db N n F') (hN : N ≤ K + 1) (k : But w.heap.size db w w') : LedAt w' B (K + 1) pl vb bb vm tb hb db sb rows F' G oa oc ids fees := by
  obtain ⟨N0, n0, _, h1⟩ := h.done
  obtain ⟨es, cl, hp⟩ := h1.isMap
  obtain ⟨r1, r2, r3, _, r5, r6⟩ := h.onMap hp k
  obtain ⟨_, _, c, _, e, f, g, _⟩ := h.ne_maps
  obtain ⟨M, m, n2, h2⟩ := r5 g
  obtain ⟨L, n3, h3⟩ := r2 (fun e => c e.symm)
  exact ⟨r1, ⟨L, by omega, h3⟩, r3 e f, ⟨N, n, hN, hm⟩, ⟨M, m, by omega, h2⟩, r6, Nat.le_succ_of_le h.few, h.apart, h.low⟩
/-- The order's row grew, and the box was written: its slice; or its fees. -/
theorem LedAt.boxed (h : LedAt w B K pl vb bb vm tb hb db sb rows F G oa oc ids fees) {fees' : Int} (k : But w.heap.size pl w w') (hx : w'.heap[pl]? = some (.cells (ledCells vb bb db sb oa ids.length oc fees').toArray 68 (0, 0))) : LedAt w' B K pl vb bb vm tb hb db sb rows F G oa oc ids fees' := by
  have hno : ∀ t cs fr, t ≠ 68 → w.heap[pl]? ≠ some (.cells cs t fr) := fun t cs fr hn e => by rw [h.box] at e; simp at e; exact hn e.2.1.symm
  have hnm : ∀ b, (∃ es cl, w.heap[b]? = some (.map es cl)) → b ≠ pl := fun b hb e => by
    obtain ⟨es, cl, hb⟩ := hb
    rw [e, h.box] at hb
    cases hb
  obtain ⟨N, n1, h1⟩ := h.view
  obtain ⟨M, m, n2, h2⟩ := h.done
  obtain ⟨L, l, n3, h3⟩ := h.spent
  exact ⟨hx, ⟨N, n1, h1.but k (noWays_cells h.box (by decide) (by decide)) (fun cs fr => hno _ cs fr (by decide)) (hnm _ h1.isMap)⟩, boardBut h.board k (fun e => hnm _ h.board.tMap e.symm) (fun e => hnm _ h.board.hMap e.symm) (fun cs fr => hno _ cs fr (by decide)),
    ⟨M, m, n2, h2.but k (hnm _ h2.isMap)⟩, ⟨L, l, n3, refBut h3 k (hnm _ h3.isMap)⟩, h.order.but k (fun cs fr => hno _ cs fr (by decide)), h.few, h.apart, h.low⟩
/-- The order's row grows by one. -/
theorem LedAt.ordered (h : LedAt w B K pl vb bb vm tb hb db sb rows F G oa oc ids fees) {w2 : World} {s : List UInt8} {oa' : Option Addr} {oc' : Nat} (ho : OwnOf sumSK 28 w2 B (.slice oa' (ids.length + 1) oc') (ids ++ [s])) (hg : w.grownBy w2 (Value.slice oa ids.length oc).ownBlock) (k : But w2.heap.size pl w2 w')
    (hx : w'.heap[pl]? = some (.cells (ledCells vb bb db sb oa' (ids.length + 1) oc' fees).toArray 68 (0, 0))) : LedAt w' B (K + 1) pl vb bb vm tb hb db sb rows F G oa' oc' (ids ++ [s]) fees := by
  have hlen : (ids ++ [s]).length = ids.length + 1 := by simp
  have h9 : w2.heap[pl]? = some (.cells (ledCells vb bb db sb oa ids.length oc fees).toArray 68 (0, 0)) ∧ (∃ N, N ≤ K ∧ ViewAt w2 (.pointer (some ⟨vb, 0, none⟩)) vm N rows) ∧ BoardAt B w2 (.pointer (some ⟨bb, 0, none⟩)) tb hb 0 [] [] ∧ (∃ N n, N ≤ K ∧ MapK sumK w2 db N n F) ∧ (∃ N n, N ≤ K ∧ MapRef w2 sb N n G) := by
    rcases h.order.step hg with hb | ⟨g, cs, _, _, hh, hb⟩
    · have h8 := h.below hb
      exact ⟨h8.box, h8.view, h8.board, h8.done, h8.spent⟩
    · have hno : ∀ t cs fr, t ≠ 28 → w.heap[g]? ≠ some (.cells cs t fr) := fun t cs fr hn e => by rw [hh] at e; simp at e; exact hn e.2.1.symm
      have hnm : ∀ b, (∃ es cl, w.heap[b]? = some (.map es cl)) → b ≠ g := fun b hb e => by
        obtain ⟨es, cl, hb⟩ := hb
        rw [e, hh] at hb
        cases hb
      obtain ⟨N, n1, h1⟩ := h.view
      obtain ⟨M, m, n2, h2⟩ := h.done
      obtain ⟨L, l, n3, h3⟩ := h.spent
      exact ⟨(hb.block pl (lt_of_block h.box) (fun e => hno _ _ _ (by decide) (e ▸ h.box))).trans h.box, ⟨N, n1, h1.but hb (noWays_cells hh (by decide) (by decide)) (fun cs fr => hno _ cs fr (by decide)) (hnm _ h1.isMap)⟩, boardBut h.board hb (fun e => hnm _ h.board.tMap e.symm) (fun e => hnm _ h.board.hMap e.symm) (fun cs fr => hno _ cs fr (by decide)),
        ⟨M, m, n2, h2.but hb (hnm _ h2.isMap)⟩, ⟨L, l, n3, refBut h3 hb (hnm _ h3.isMap)⟩⟩
  obtain ⟨b9, ⟨N, n1, h1⟩, hbd, ⟨M, m, n2, h2⟩, ⟨L, l, n3, h3⟩⟩ := h9
  have hno : ∀ t cs fr, t ≠ 68 → w2.heap[pl]? ≠ some (.cells cs t fr) := fun t cs fr hn e => by rw [b9] at e; simp at e; exact hn e.2.1.symm
  have hnm : ∀ b, (∃ es cl, w2.heap[b]? = some (.map es cl)) → b ≠ pl := fun b hb e => by
    obtain ⟨es, cl, hb⟩ := hb
    rw [e, b9] at hb
    cases hb
  refine ⟨by rw [hlen]; exact hx, ⟨N, by omega, h1.but k (noWays_cells b9 (by decide) (by decide)) (fun cs fr => hno _ cs fr (by decide)) (hnm _ h1.isMap)⟩, boardBut hbd k (fun e => hnm _ hbd.tMap e.symm) (fun e => hnm _ hbd.hMap e.symm) (fun cs fr => hno _ cs fr (by decide)),
    ⟨M, m, by omega, h2.but k (hnm _ h2.isMap)⟩, ⟨L, l, by omega, refBut h3 k (hnm _ h3.isMap)⟩, ?_, by rw [hlen]; have := h.few; omega, h.apart, h.low⟩
  rw [hlen]
  exact ho.but k (fun cs fr => hno _ cs fr (by decide))
end
end Go.Proofs.YteddkkcheaghaaaGreatDoor
