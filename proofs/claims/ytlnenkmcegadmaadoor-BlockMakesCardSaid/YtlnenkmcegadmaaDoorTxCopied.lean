/- What tx.copied comes to, of any transaction: one that says the same, its rows new. -/
import Derived.Test.YtlnenkmcegadmaaDoorCopyTx
import Derived.Test.YtlnenkmcegadmaaDoorClones15
import Derived.Test.YtlnenkmcegadmaaDoorCloneB
import Derived.Test.YtlnenkmcegadmaaDoorSteps
import Derived.Test.YtlnenkmcegadmaaDoorMemory
import Derived.Deep.CutRange
import Derived.Lib.BufferMore
namespace Go.Proofs.YtlnenkmcegadmaaDoor
open Go.RowKit

/-- No more than some. -/
structure FewTxS (t : PTx) : Prop where
  inn : t.inn ≤ 1000
  on : t.on ≤ 1000
  ia : t.ia = none ∨ 1 ≤ t.inn
  oa : t.oa = none ∨ 1 ≤ t.on
  pre : ∀ y ∈ t.ins, y.n ≤ 100000
  ws : ∀ z ∈ t.outs, (z.a = none ∨ 1 ≤ z.n) ∧ z.n ≤ 1000
  ks : ∀ z ∈ t.outs, ∀ u ∈ z.ws, u.ks.length ≤ 100000
  data : t.op.n ≤ 100000
  sn : t.sn ≤ 1000
  sa : t.sa = none ∨ 1 ≤ t.sn
/-- .. of any slices: those of nothing may lie anywhere. -/
structure FewTxG (t : PTx) : Prop where
  inn : t.inn ≤ 1000
  on : t.on ≤ 1000
  pre : ∀ y ∈ t.ins, y.n ≤ 100000
  ws : ∀ z ∈ t.outs, z.n ≤ 1000
  ks : ∀ z ∈ t.outs, ∀ u ∈ z.ws, u.ks.length ≤ 100000
  data : t.op.n ≤ 100000
  sn : t.sn ≤ 1000
theorem FewTxS.few {t : PTx} (h : FewTxS t) : FewTxG t := ⟨h.inn, h.on, h.pre, fun z hz => (h.ws z hz).2, h.ks, h.data, h.sn⟩
/-- .. and no signs. -/
structure FewTx (t : PTx) : Prop where
  inn : t.inn ≤ 1000
  on : t.on ≤ 1000
  ia : t.ia = none ∨ 1 ≤ t.inn
  oa : t.oa = none ∨ 1 ≤ t.on
  pre : ∀ y ∈ t.ins, y.n ≤ 100000
  ws : ∀ z ∈ t.outs, (z.a = none ∨ 1 ≤ z.n) ∧ z.n ≤ 1000
  ks : ∀ z ∈ t.outs, ∀ u ∈ z.ws, u.ks.length ≤ 100000
  data : t.op.n ≤ 100000
  sa : t.sa = none
  sn : t.sn = 0
  sc : t.sc = 0
  signs : t.signs = []
/-- What holds of all blocks that a transaction without signs lies in. -/
structure AllTx (P : Nat → Prop) (y : PTx) : Prop where
  ia : AllO P y.inn y.ia
  oa : AllO P y.on y.oa
  pre : ∀ x ∈ y.ins, AllO P x.n x.a
  ws : ∀ z ∈ y.outs, AllO P z.n z.a
  ks : ∀ z ∈ y.outs, ∀ u ∈ z.ws, AllO P u.n u.a
  data : AllO P y.op.n y.op.a
theorem AllTx.mono {P Q : Nat → Prop} {y : PTx} (h : AllTx P y) (k : ∀ b, P b → Q b) : AllTx Q y :=
  ⟨h.ia.mono k, h.oa.mono k, fun x hx => (h.pre x hx).mono k, fun z hz => (h.ws z hz).mono k, fun z hz u hu => (h.ks z hz u hu).mono k, h.data.mono k⟩
theorem box_cell {w0 w : World} {g r B1 : Nat} {t : PTx} {sg : Option Addr} {cg : Nat} {X : List Value} {ai : Option Addr} {ci : Nat} {ao : Option Addr} {co : Nat} {ys : List PIn} {zs : List POut} (h : CpSt w0 g r B1 t sg cg X ai ci ao co ys zs w) {k : Nat} {v : Value} (hx : X[k]? = some v) : w.cell? ⟨g, k, none⟩ = some v := by
  rw [cell_of_row _ _ _ _ _ _ h.box, List.getElem?_toArray]
  exact hx
/-- A new row: where it lies. -/
def NewAt (B : Nat) (w : World) (T : TypeId) (n : Nat) (a : Option Addr) : Prop := 0 < n → ∃ g cur, a = some ⟨g, 0, none⟩ ∧ B ≤ g ∧ w.heap[g]? = some (.cells cur T (0, 0))
theorem NewAt.more {B : Nat} {w w' : World} {T : TypeId} {n : Nat} {a : Option Addr} (h : NewAt B w T n a) (hb : Below w.heap.size w w') : NewAt B w' T n a := fun h0 => by
  obtain ⟨g, cur, e, l, hh⟩ := h h0
  exact ⟨g, cur, e, l, (hb.block _ (lt_of_block hh)).trans hh⟩
theorem NewAt.set {B : Nat} {w : World} {T : TypeId} {n : Nat} {a : Option Addr} (h : NewAt B w T n a) (k o : Nat) (v : Value) : NewAt B (w.setCell ⟨k, o, none⟩ v) T n a := fun h0 => by
  obtain ⟨g, cur, e, l, hh⟩ := h h0
  obtain ⟨cur', h9⟩ := row_stays ⟨cur, hh⟩ k o v
  exact ⟨g, cur', e, l, h9⟩
theorem NewAt.all {B : Nat} {w : World} {T : TypeId} {n : Nat} {a : Option Addr} (h : NewAt B w T n a) : AllO (B ≤ ·) n a := fun h0 x e => by
  obtain ⟨g, cur, e2, l, _⟩ := h h0
  rw [e] at e2
  cases e2
  exact l
theorem new_row15 {w w' : World} {T : TypeId} {n : Nat} {a : Option Addr} (h : 1 ≤ n → ∃ g cur, a = some ⟨g, 0, none⟩ ∧ w.heap.size ≤ g ∧ w'.heap[g]? = some (.cells cur T (0, 0))) : NewAt w.heap.size w' T n a := fun h0 => h (by omega)
theorem two_rows15 {B : Nat} {w : World} {T T' : TypeId} {n m : Nat} {a b : Option Addr} {w' : World} (h : NewAt B w T n a) (k : NewAt w.heap.size w' T' m b) : ∀ gi go, 0 < n → 0 < m → a = some ⟨gi, 0, none⟩ → b = some ⟨go, 0, none⟩ → gi ≠ go := fun gi go h0 h1 e1 e2 => by
  obtain ⟨g, _, e3, _, hh⟩ := h h0
  obtain ⟨g', _, e4, l, _⟩ := k h1
  rw [e1] at e3
  rw [e2] at e4
  cases e3
  cases e4
  have := lt_of_block hh
  omega
theorem begun15 {w0 w : World} {g r Bi Bo : Nat} {t : PTx} {sg : Option Addr} {cg : Nat} {X : List Value} {ai : Option Addr} {ci : Nat} {ao : Option Addr} {co : Nat} (hv : w.heap[g]? = some (.cells X.toArray 50 (0, 0))) (hr : w.heap[r]? = some (.cells noTx.cells.toArray 50 (0, 0)))
    (hi : SliceOf inK w ai t.inn ci t.ins) (ho : SliceOf outK w ao t.on co t.outs) (hsg : SliceOf signK w sg t.sn cg t.signs) (hsn : AllO (fun b => b ≠ r ∧ w0.heap.size ≤ b) t.sn sg) {Bs : Nat} (hrs : NewAt Bs w 86 t.sn sg) (ht : TxIn w0 t) (ni : NewAt Bi w 76 t.inn ai) (no : NewAt Bo w 79 t.on ao) (li : r < Bi) (lo : r < Bo)
    (two : ∀ gi go, 0 < t.inn → 0 < t.on → ai = some ⟨gi, 0, none⟩ → ao = some ⟨go, 0, none⟩ → gi ≠ go) (hg : w0.heap.size ≤ g) (hgr : g < r) (hb : Below w0.heap.size w0 w) : CpSt w0 g r w.heap.size t sg cg X ai ci ao co t.ins t.outs w := by
  have hrl := lt_of_block hr
  have hrow : ∀ {n c : Nat} {a : Option Addr} {l : List UInt8}, Row w0 a n c l → AllO (· ≠ r) n a := fun h h0 x e => by
    obtain ⟨b, off, e2, hlt, _⟩ := h.2.2.2.2 h0
    rw [e] at e2
    cases e2
    show b ≠ r
    omega
  have hnum : ∀ {n c : Nat} {a : Option Addr} {l : List Int}, Numbers w0 a n c l → AllO (· ≠ r) n a := fun h h0 x e => by
    obtain ⟨b, off, e2, hlt, _⟩ := h.2.2.2.2.2 h0
    rw [e] at e2
    cases e2
    show b ≠ r
    omega
  refine ⟨hv, hi, ho, ht.op.below hb, hsg, (fun h0 x e => ⟨(hsn h0 x e).1, (hsn h0 x e).2, hsg.block h0 x e⟩), rfl, rfl, hr, fun h0 => ?_, fun h0 => ?_, two, fun gi h0 e => ?_, fun go h0 e => ?_, (fun h0 => (hrs h0).elim fun g h9 => h9.elim fun cur h8 => ⟨g, cur, h8.1, h8.2.2⟩), fun z hz h0 x e => ?_, fun y hy => ?_, fun z hz u hu => ?_, hrow ht.op.data, hg, hgr, hrl, Nat.le_refl _, hb⟩
  · obtain ⟨gi, cur, e, l, hh⟩ := ni h0
    exact ⟨gi, e, by omega, lt_of_block hh⟩
  · obtain ⟨go, cur, e, l, hh⟩ := no h0
    exact ⟨go, e, by omega, lt_of_block hh⟩
  · obtain ⟨g2, cur, e2, _, hh⟩ := ni h0
    rw [e] at e2
    cases e2
    exact ⟨cur, hh⟩
  · obtain ⟨g2, cur, e2, _, hh⟩ := no h0
    rw [e] at e2
    cases e2
    exact ⟨cur, hh⟩
  · exact .inl (SliceOf.block (K := wayK9) (show OutIn w0 z from ht.outs.2.2.2.2.1 z hz).ws h0 x e)
  · exact hrow (show InIn w0 y from ht.ins.2.2.2.2.1 y hy).pre
  · exact hnum (show WayIn w0 u from (show OutIn w0 z from ht.outs.2.2.2.2.1 z hz).ws.2.2.2.2.1 u hu).keys
theorem zeroWay15 : (Tryd.prog.info? 82).map (fun i => (i.zero, i.size, i.bytes)) = some (some (.agg noWay.cells.toArray), 35, 72) := by kernel_rfl
theorem noTx15 : (Tryd.prog.info? 50).map (fun i => (i.zero, i.size, i.bytes)) = some (some (.agg noTx.cells.toArray), 40, 160) := by kernel_rfl
theorem tx_cells15 (t : PTx) (hl : t.op.root.length = 32) (a b c : Value) : ((t.cells.set 0 a).set 1 b).set 39 c = a :: b :: (t.op.cells ++ [c]) := by
  have h9 := POp.len hl
  show a :: b :: ((t.op.cells ++ [Value.slice t.sa t.sn t.sc]).set 37 c) = _
  rw [List.set_append_right _ _ (by omega), h9]
  rfl
theorem op_slot15 (x : POp) (hl : x.root.length = 32) (a : Option Addr) (n c : Nat) : x.cells.set 36 (.slice a n c) = POp.cells ⟨x.kind, x.tower, x.channel, x.amount, x.root, a, n, c, x.data⟩ := by
  simp [POp.cells, cellsOf_len, hl]
/-- The ways of an out while they are copied. -/
theorem way_at15 {w0 w : World} {g r B1 : Nat} {t : PTx} {sg : Option Addr} {cg : Nat} {X : List Value} {ai : Option Addr} {ci : Nat} {ao : Option Addr} {co : Nat} {ys : List PIn} {zs : List POut} {y : POut} {gw wc i j : Nat} {us : List PWay} (h : CpSt w0 g r B1 t sg cg X ai ci ao co ys (zs.set j (y.at15 (some ⟨gw, 0, none⟩) y.n wc us)) w) (hj : j < t.on) (hz : j < zs.length) (hi : i < y.n) :
    WayIn w (us.getD i noWay) ∧ w.rangeAt gw (i * 35) (us.getD i noWay).cells := by
  have h1 : OutIn w ((zs.set j (y.at15 (some ⟨gw, 0, none⟩) y.n wc us)).getD j noOut) := h.outs.get hj
  rw [getD_set_self hz] at h1
  have hw : Ways w (some ⟨gw, 0, none⟩) y.n wc us := h1.ws
  obtain ⟨b, off, e, _, hc⟩ := hw.2.2.2.2.2 (by omega)
  cases e
  have h9 := hc i hi
  rw [Nat.zero_add] at h9
  exact ⟨hw.way hi, h9⟩
theorem way_cap15 {w0 w : World} {g r B1 : Nat} {t : PTx} {sg : Option Addr} {cg : Nat} {X : List Value} {ai : Option Addr} {ci : Nat} {ao : Option Addr} {co : Nat} {ys : List PIn} {zs : List POut} {y : POut} {wa : Option Addr} {wc j : Nat} {us : List PWay} (h : CpSt w0 g r B1 t sg cg X ai ci ao co ys (zs.set j (y.at15 wa y.n wc us)) w) (hj : j < t.on) (hz : j < zs.length) : y.n ≤ wc ∧ wc ≤ maxLen := by
  have h1 : OutIn w ((zs.set j (y.at15 wa y.n wc us)).getD j noOut) := h.outs.get hj
  rw [getD_set_self hz] at h1
  have hw : Ways w wa y.n wc us := h1.ws
  exact ⟨hw.2.1, hw.2.2.1⟩
theorem way_len15 {w0 w : World} {g r B1 : Nat} {t : PTx} {sg : Option Addr} {cg : Nat} {X : List Value} {ai : Option Addr} {ci : Nat} {ao : Option Addr} {co : Nat} {ys : List PIn} {zs : List POut} {y : POut} {wa : Option Addr} {wc j : Nat} {us : List PWay} (h : CpSt w0 g r B1 t sg cg X ai ci ao co ys (zs.set j (y.at15 wa y.n wc us)) w) (hj : j < t.on) (hz : j < zs.length) : us.length = y.n := by
  have h1 : OutIn w ((zs.set j (y.at15 wa y.n wc us)).getD j noOut) := h.outs.get hj
  rw [getD_set_self hz] at h1
  exact h1.ws.1
theorem way_slot15 {w0 w : World} {g r B1 : Nat} {t : PTx} {sg : Option Addr} {cg : Nat} {X : List Value} {ai : Option Addr} {ci : Nat} {ao : Option Addr} {co : Nat} {ys : List PIn} {zs : List POut} {y : POut} {gw wc i j : Nat} {us : List PWay} (h : CpSt w0 g r B1 t sg cg X ai ci ao co ys (zs.set j (y.at15 (some ⟨gw, 0, none⟩) y.n wc us)) w) (hj : j < t.on) (hz : j < zs.length) (hi : i < y.n) :
    w.cell? ⟨gw, i * 35, none⟩ = some (.slice (us.getD i noWay).a (us.getD i noWay).n (us.getD i noWay).c) := way_keys (way_at15 h hj hz hi).2
theorem put_key15 {w0 w : World} {g r B1 : Nat} {t : PTx} {sg : Option Addr} {cg : Nat} {X : List Value} {ai : Option Addr} {ci : Nat} {ao : Option Addr} {co : Nat} {ys : List PIn} {zs : List POut} {y : POut} {gw wc i j : Nat} {us : List PWay} (h : CpSt w0 g r B1 t sg cg X ai ci ao co ys (zs.set j (y.at15 (some ⟨gw, 0, none⟩) y.n wc us)) w) (hj : j < t.on) (hz : j < zs.length) (hi : i < y.n) (hB : B1 ≤ gw)
    (hd : ∀ k, k < t.on → k ≠ j → AllO (· ≠ gw) (zs.getD k noOut).n (zs.getD k noOut).a) {a' : Option Addr} {n' c' : Nat} (hr : Numbers w a' n' c' (us.getD i noWay).ks) (hn : AllO (· ≠ r) n' a') :
    CpSt w0 g r B1 t sg cg X ai ci ao co ys (zs.set j (y.at15 (some ⟨gw, 0, none⟩) y.n wc (us.set i ((us.getD i noWay).at9 a' n' c')))) (w.setCell ⟨gw, i * 35, none⟩ (.slice a' n' c')) := by
  have e : (zs.set j (y.at15 (some ⟨gw, 0, none⟩) y.n wc us)).getD j noOut = y.at15 (some ⟨gw, 0, none⟩) y.n wc us := getD_set_self hz
  have h9 := h.putKey (gw := gw) (j := j) (i := i) (a' := a') (n' := n') (c' := c') hj (by rw [e]; rfl) (by rw [e]; exact hi) hB (fun k hk hkj => by rw [getD_set_ne hkj]; exact hd k hk hkj) (by rw [e]; exact hr) hn
  rw [e, List.set_set] at h9
  exact h9
set_option linter.unusedSimpArgs false in
set_option maxRecDepth 100000 in
set_option maxHeartbeats 6400000 in
theorem txCopiedG_any {w : World} {t : PTx} (ht : TxIn w t) (hf : FewTxG t) :
    Calls Tryd.prog 47 #[.agg t.cells.toArray] w fun e w' => ∃ y : PTx, e = .returned (.agg y.cells.toArray) ∧ TxIn w' y ∧ y.strip = t.strip ∧ AllTx (w.heap.size ≤ ·) y ∧ AllO (w.heap.size ≤ ·) y.sn y.sa ∧ y.sn = t.sn ∧ y.signs = t.signs ∧ (1 ≤ t.sn ∨ t.sa ≠ none ∨ (y.sa = none ∧ y.sc = 0)) ∧ (0 < t.sn → ∃ gs cur, y.sa = some ⟨gs, 0, none⟩ ∧ w'.heap[gs]? = some (.cells cur 86 (0, 0)) ∧ AllTx (· ≠ gs) y) ∧ Below w.heap.size w w' := by
  have hx0 : t.cells[0]? = some (.slice t.ia t.inn t.ic) := rfl
  have hx1 : t.cells[1]? = some (.slice t.oa t.on t.oc) := rfl
  have hx39 : t.cells[39]? = some (.slice t.sa t.sn t.sc) := by
    have h9 := POp.len ht.op.root
    show (t.op.cells ++ [Value.slice t.sa t.sn t.sc])[37]? = _
    rw [List.getElem?_append_right (by omega), h9]
    rfl
  have hxl : t.cells.length = 40 := PTx.len ht.op.root
  have hzz := tx_cells15 t ht.op.root
  obtain ⟨X, hX⟩ : ∃ X, t.cells = X := ⟨_, rfl⟩
  rw [hX] at hx0 hx1 hx39 hxl hzz ⊢
  have HX0 := Lib.hid hx0
  have HX1 := Lib.hid hx1
  have HX39 := Lib.hid hx39
  have HXL := Lib.hid hxl
  have HZZ := Lib.hid hzz
  have HT := Lib.hid ht
  have HF := Lib.hid hf
  have hi63 := ht.ins.len63
  have ho63 := ht.outs.len63
  clear hX hx0 hx1 hx39 hxl hzz ht hf
  go_enter Tryd.func47, Tryd.ntmps47
  go_upto_region 1 with (first | (refine wpList_new rfl 50 rfl noTx.cells.toArray noTx15 ?_; intro r w1 hr hh hb; go_frame) | fail)
  have b0 : Below w.heap.size w (w.alloc (.cells X.toArray 50)) := (Below.refl _ _).alloc (Nat.le_refl _) _
  have h1 := keep hb (heap_alloc_new w (.cells X.toArray 50))
  have b1 := bthen b0 hb
  have hr2 : w.heap.size < r := by
    have h9 : (w.alloc (.cells X.toArray 50)).heap.size = w.heap.size + 1 := by simp
    omega
  obtain ⟨g, hg⟩ : ∃ g, g = w.heap.size := ⟨_, rfl⟩
  rw [← hg] at h1 ⊢
  have HV : Hid (w1.drew.heap[g]? = some (.cells X.toArray 50 (0, 0))) := Lib.hid h1
  have HR : Hid (w1.drew.heap[r]? = some (.cells noTx.cells.toArray 50 (0, 0))) := Lib.hid hh
  have HBW : Hid (Below w.heap.size w w1.drew) := Lib.hid (below_drew b1)
  have HLO : Hid (w.heap.size ≤ g) := Lib.hid (by omega)
  have HGR : Hid (g < r) := Lib.hid (by omega)
  clear b0 h1 b1 hr hh hb hr2 hg
  go_cut [3] from 7 to 18 (fun u w' => u = undef ∧ ∃ ai ci ao co sg cg B1, (1 ≤ t.sn ∨ t.sa ≠ none ∨ (sg = none ∧ cg = 0)) ∧ CpSt w g r B1 t sg cg (((X.set 0 (.slice ai t.inn ci)).set 1 (.slice ao t.on co)).set 39 (.slice sg t.sn cg)) ai ci ao co t.ins t.outs w')
  case first =>
    refine wp_region_held_drew (S := fun _ => True) (by kernel_rfl) trivial (fun hHeld => ?_)
    refine tkP 0 rfl rfl ?_
    refine tkP 3 rfl rfl ?_
    refine tkP 6 rfl rfl ?_
    refine wpAnyH_ready (rs := [1, 4, 7]) (by kernel_rfl) (by simp) (AllReadyH.cons rfl (fun K hK => ?_) (AllReadyH.cons rfl (fun K hK => ?_) (AllReadyH.cons rfl (fun K hK => ?_) AllReadyH.nil)))
    all_goals (first | (refine step_cell (d := 8) rfl (by rfl) 43 _ rfl g 0 rfl (.slice t.ia t.inn t.ic) (by rw [cell_of_row _ _ _ _ _ _ HV.out, List.getElem?_toArray]; exact HX0.out) (Tryd.isAgg43 _) ?_; refine hK.out _ _ (by (try dsimp only); all_goals trivial) (fun hHeld => ?_); clear hK K) | (refine step_cell (d := 11) rfl (by rfl) 44 _ rfl g 1 rfl (.slice t.oa t.on t.oc) (by rw [cell_of_row _ _ _ _ _ _ HV.out, List.getElem?_toArray]; exact HX1.out) (Tryd.isAgg44 _) ?_; refine hK.out _ _ (by (try dsimp only); all_goals trivial) (fun hHeld => ?_); clear hK K) | (refine step_cell (d := 14) rfl (by rfl) 48 _ rfl g 39 rfl (.slice t.sa t.sn t.sc) (by rw [cell_of_row _ _ _ _ _ _ HV.out, List.getElem?_toArray]; exact HX39.out) (Tryd.isAgg48 _) ?_; refine hK.out _ _ (by (try dsimp only); all_goals trivial) (fun hHeld => ?_); clear hK K))
    all_goals (first | (refine wpAnyH_ready (rs := [2, 4, 7]) (by decide +kernel) (by simp) (AllReadyH.cons rfl (fun K hK => ?_) (AllReadyH.cons rfl (fun K hK => ?_) (AllReadyH.cons rfl (fun K hK => ?_) AllReadyH.nil)))) | (refine wpAnyH_ready (rs := [1, 4]) (by decide +kernel) (by simp) (AllReadyH.cons rfl (fun K hK => ?_) (AllReadyH.cons rfl (fun K hK => ?_) AllReadyH.nil))) | (refine wpAnyH_ready (rs := [1, 7]) (by decide +kernel) (by simp) (AllReadyH.cons rfl (fun K hK => ?_) (AllReadyH.cons rfl (fun K hK => ?_) AllReadyH.nil))))
    all_goals (first | (refine step_cell (d := 8) rfl (by rfl) 43 _ rfl g 0 rfl (.slice t.ia t.inn t.ic) (by rw [cell_of_row _ _ _ _ _ _ HV.out, List.getElem?_toArray]; exact HX0.out) (Tryd.isAgg43 _) ?_; refine hK.out _ _ (by (try dsimp only); all_goals trivial) (fun hHeld => ?_); clear hK K) | (refine step_cell (d := 11) rfl (by rfl) 44 _ rfl g 1 rfl (.slice t.oa t.on t.oc) (by rw [cell_of_row _ _ _ _ _ _ HV.out, List.getElem?_toArray]; exact HX1.out) (Tryd.isAgg44 _) ?_; refine hK.out _ _ (by (try dsimp only); all_goals trivial) (fun hHeld => ?_); clear hK K) | (refine step_cell (d := 14) rfl (by rfl) 48 _ rfl g 39 rfl (.slice t.sa t.sn t.sc) (by rw [cell_of_row _ _ _ _ _ _ HV.out, List.getElem?_toArray]; exact HX39.out) (Tryd.isAgg48 _) ?_; refine hK.out _ _ (by (try dsimp only); all_goals trivial) (fun hHeld => ?_); clear hK K) | (have HCx := Lib.hid (cloneIns_any (HT.out.ins.below HBW.out) HF.out.inn); have HRI := Lib.hid (lt_of_block HR.out); go_simp; go_wp2_with ((go_at_call 58; (with_reducible refine (HCx.out).mono ?_); rintro e y1 ⟨ai, ci, rfl, hi, _, hgi, hb⟩; have HV := Lib.hid (keep hb HV.out); have HR := Lib.hid (keep hb HR.out); have HBW := Lib.hid (bthen HBW.out hb); (try (have HI := Lib.hid (HI.out.below hb))); (try (have HO := Lib.hid (HO.out.below hb))); (try (have HSG := Lib.hid (HSG.out.below hb))); (try (have HGI := Lib.hid (HGI.out.more hb))); (try (have HGO := Lib.hid (HGO.out.more hb))); (try (have HGS := Lib.hid (HGS.out.more hb))); have HI := Lib.hid hi; have HGI := Lib.hid (new_row15 hgi); clear hi hgi hb HCx)); refine hK.out _ _ (by (try dsimp only); all_goals trivial) (fun hHeld => ?_); clear hK K))
    all_goals (first | (refine wpAnyH_ready (rs := [2, 4]) (by decide +kernel) (by simp) (AllReadyH.cons rfl (fun K hK => ?_) (AllReadyH.cons rfl (fun K hK => ?_) AllReadyH.nil))) | (refine wpAnyH_ready (rs := [2, 7]) (by decide +kernel) (by simp) (AllReadyH.cons rfl (fun K hK => ?_) (AllReadyH.cons rfl (fun K hK => ?_) AllReadyH.nil))) | (refine wpAnyH_ready (rs := [4, 7]) (by decide +kernel) (by simp) (AllReadyH.cons rfl (fun K hK => ?_) (AllReadyH.cons rfl (fun K hK => ?_) AllReadyH.nil))) | (refine wpAnyH_ready (rs := [1]) (by decide +kernel) (by simp) (AllReadyH.cons rfl (fun K hK => ?_) AllReadyH.nil)))
    all_goals (first | (refine step_cell (d := 8) rfl (by rfl) 43 _ rfl g 0 rfl (.slice t.ia t.inn t.ic) (by rw [cell_of_row _ _ _ _ _ _ HV.out, List.getElem?_toArray]; exact HX0.out) (Tryd.isAgg43 _) ?_; refine hK.out _ _ (by (try dsimp only); all_goals trivial) (fun hHeld => ?_); clear hK K) | (refine step_cell (d := 11) rfl (by rfl) 44 _ rfl g 1 rfl (.slice t.oa t.on t.oc) (by rw [cell_of_row _ _ _ _ _ _ HV.out, List.getElem?_toArray]; exact HX1.out) (Tryd.isAgg44 _) ?_; refine hK.out _ _ (by (try dsimp only); all_goals trivial) (fun hHeld => ?_); clear hK K) | (refine step_cell (d := 14) rfl (by rfl) 48 _ rfl g 39 rfl (.slice t.sa t.sn t.sc) (by rw [cell_of_row _ _ _ _ _ _ HV.out, List.getElem?_toArray]; exact HX39.out) (Tryd.isAgg48 _) ?_; refine hK.out _ _ (by (try dsimp only); all_goals trivial) (fun hHeld => ?_); clear hK K) | (have HCx := Lib.hid (cloneIns_any (HT.out.ins.below HBW.out) HF.out.inn); have HRI := Lib.hid (lt_of_block HR.out); go_simp; go_wp2_with ((go_at_call 58; (with_reducible refine (HCx.out).mono ?_); rintro e y1 ⟨ai, ci, rfl, hi, _, hgi, hb⟩; have HV := Lib.hid (keep hb HV.out); have HR := Lib.hid (keep hb HR.out); have HBW := Lib.hid (bthen HBW.out hb); (try (have HI := Lib.hid (HI.out.below hb))); (try (have HO := Lib.hid (HO.out.below hb))); (try (have HSG := Lib.hid (HSG.out.below hb))); (try (have HGI := Lib.hid (HGI.out.more hb))); (try (have HGO := Lib.hid (HGO.out.more hb))); (try (have HGS := Lib.hid (HGS.out.more hb))); have HI := Lib.hid hi; have HGI := Lib.hid (new_row15 hgi); clear hi hgi hb HCx)); refine hK.out _ _ (by (try dsimp only); all_goals trivial) (fun hHeld => ?_); clear hK K))
    all_goals (first | (refine wpAnyH_ready (rs := [5, 7]) (by decide +kernel) (by simp) (AllReadyH.cons rfl (fun K hK => ?_) (AllReadyH.cons rfl (fun K hK => ?_) AllReadyH.nil))) | (refine wpAnyH_ready (rs := [2]) (by decide +kernel) (by simp) (AllReadyH.cons rfl (fun K hK => ?_) AllReadyH.nil)) | (refine wpAnyH_ready (rs := [4]) (by decide +kernel) (by simp) (AllReadyH.cons rfl (fun K hK => ?_) AllReadyH.nil)))
    all_goals (first | (refine step_cell (d := 11) rfl (by rfl) 44 _ rfl g 1 rfl (.slice t.oa t.on t.oc) (by rw [cell_of_row _ _ _ _ _ _ HV.out, List.getElem?_toArray]; exact HX1.out) (Tryd.isAgg44 _) ?_; refine hK.out _ _ (by (try dsimp only); all_goals trivial) (fun hHeld => ?_); clear hK K) | (refine step_cell (d := 14) rfl (by rfl) 48 _ rfl g 39 rfl (.slice t.sa t.sn t.sc) (by rw [cell_of_row _ _ _ _ _ _ HV.out, List.getElem?_toArray]; exact HX39.out) (Tryd.isAgg48 _) ?_; refine hK.out _ _ (by (try dsimp only); all_goals trivial) (fun hHeld => ?_); clear hK K) | (have HCx := Lib.hid (cloneIns_any (HT.out.ins.below HBW.out) HF.out.inn); have HRI := Lib.hid (lt_of_block HR.out); go_simp; go_wp2_with ((go_at_call 58; (with_reducible refine (HCx.out).mono ?_); rintro e y1 ⟨ai, ci, rfl, hi, _, hgi, hb⟩; have HV := Lib.hid (keep hb HV.out); have HR := Lib.hid (keep hb HR.out); have HBW := Lib.hid (bthen HBW.out hb); (try (have HI := Lib.hid (HI.out.below hb))); (try (have HO := Lib.hid (HO.out.below hb))); (try (have HSG := Lib.hid (HSG.out.below hb))); (try (have HGI := Lib.hid (HGI.out.more hb))); (try (have HGO := Lib.hid (HGO.out.more hb))); (try (have HGS := Lib.hid (HGS.out.more hb))); have HI := Lib.hid hi; have HGI := Lib.hid (new_row15 hgi); clear hi hgi hb HCx)); refine hK.out _ _ (by (try dsimp only); all_goals trivial) (fun hHeld => ?_); clear hK K) | (have HCx := Lib.hid (cloneOuts_any (HT.out.outs.below HBW.out) HF.out.on); have HRO := Lib.hid (lt_of_block HR.out); go_simp; go_wp2_with ((go_at_call 59; (with_reducible refine (HCx.out).mono ?_); rintro e y1 ⟨ao, co, rfl, ho, _, hgo, hb⟩; have HTWO := Lib.hid (two_rows15 HGI.out (new_row15 hgo)); have HV := Lib.hid (keep hb HV.out); have HR := Lib.hid (keep hb HR.out); have HBW := Lib.hid (bthen HBW.out hb); (try (have HI := Lib.hid (HI.out.below hb))); (try (have HO := Lib.hid (HO.out.below hb))); (try (have HSG := Lib.hid (HSG.out.below hb))); (try (have HGI := Lib.hid (HGI.out.more hb))); (try (have HGO := Lib.hid (HGO.out.more hb))); (try (have HGS := Lib.hid (HGS.out.more hb))); have HO := Lib.hid ho; have HGO := Lib.hid (new_row15 hgo); clear ho hgo hb HCx)); refine hK.out _ _ (by (try dsimp only); all_goals trivial) (fun hHeld => ?_); clear hK K))
    all_goals (try (refine tkP (hr := by decide +kernel) 9 rfl rfl ?_))
    all_goals (first | (refine wpAnyH_ready (rs := [5]) (by decide +kernel) (by simp) (AllReadyH.cons rfl (fun K hK => ?_) AllReadyH.nil)) | (refine wpAnyH_ready (rs := [7]) (by decide +kernel) (by simp) (AllReadyH.cons rfl (fun K hK => ?_) AllReadyH.nil)))
    all_goals (first | (refine step_cell (d := 14) rfl (by rfl) 48 _ rfl g 39 rfl (.slice t.sa t.sn t.sc) (by rw [cell_of_row _ _ _ _ _ _ HV.out, List.getElem?_toArray]; exact HX39.out) (Tryd.isAgg48 _) ?_; refine hK.out _ _ (by (try dsimp only); all_goals trivial) (fun hHeld => ?_); clear hK K) | (have HCx := Lib.hid (cloneOuts_any (HT.out.outs.below HBW.out) HF.out.on); have HRO := Lib.hid (lt_of_block HR.out); go_simp; go_wp2_with ((go_at_call 59; (with_reducible refine (HCx.out).mono ?_); rintro e y1 ⟨ao, co, rfl, ho, _, hgo, hb⟩; have HTWO := Lib.hid (two_rows15 HGI.out (new_row15 hgo)); have HV := Lib.hid (keep hb HV.out); have HR := Lib.hid (keep hb HR.out); have HBW := Lib.hid (bthen HBW.out hb); (try (have HI := Lib.hid (HI.out.below hb))); (try (have HO := Lib.hid (HO.out.below hb))); (try (have HSG := Lib.hid (HSG.out.below hb))); (try (have HGI := Lib.hid (HGI.out.more hb))); (try (have HGO := Lib.hid (HGO.out.more hb))); (try (have HGS := Lib.hid (HGS.out.more hb))); have HO := Lib.hid ho; have HGO := Lib.hid (new_row15 hgo); clear ho hgo hb HCx)); refine hK.out _ _ (by (try dsimp only); all_goals trivial) (fun hHeld => ?_); clear hK K))
    all_goals (try (refine tkP (hr := by decide +kernel) 9 rfl rfl ?_))
    all_goals (refine tkR 8 rfl (fun K hK => ?_))
    all_goals (have HCx := Lib.hid (cloneSigns_any (HT.out.signs.below HBW.out) HF.out.sn); have HRS := Lib.hid (lt_of_block HR.out); go_simp; go_wp2_with ((go_at_call 37; (with_reducible refine (HCx.out).mono ?_); rintro e y1 ⟨sg, cg, rfl, hs, hs0, hgs, hb⟩; have HS0 := Lib.hid hs0; have HNS : Hid (AllO (fun b => b ≠ r ∧ w.heap.size ≤ b) t.sn sg) := Lib.hid ((new_row15 hgs).all.mono fun b hb2 => ⟨by have h9 := HRS.out; omega, by have h9 := HBW.out.size; omega⟩); have HV := Lib.hid (keep hb HV.out); have HR := Lib.hid (keep hb HR.out); have HBW := Lib.hid (bthen HBW.out hb); (try (have HI := Lib.hid (HI.out.below hb))); (try (have HO := Lib.hid (HO.out.below hb))); (try (have HSG := Lib.hid (HSG.out.below hb))); (try (have HGI := Lib.hid (HGI.out.more hb))); (try (have HGO := Lib.hid (HGO.out.more hb))); (try (have HGS := Lib.hid (HGS.out.more hb))); have HSG := Lib.hid hs; have HGS := Lib.hid (new_row15 hgs); clear hs hs0 hgs hb HCx)); refine hK.out _ _ (by (try dsimp only); all_goals trivial) (fun hHeld => ?_); clear hK K)
    all_goals (refine tkR 10 rfl (fun K hK => ?_))
    all_goals (have HC := Lib.hid (begun15 HV.out HR.out HI.out HO.out HSG.out HNS.out HGS.out HT.out HGI.out HGO.out HRI.out HRO.out HTWO.out HLO.out HGR.out HBW.out); have hc := box_cell HC.out (k := 0) (v := .slice t.ia t.inn t.ic) HX0.out; refine step_store_cell (by rfl) 43 _ _ rfl g 0 (by rfl) (.slice ai t.inn ci) (by rfl) (.slice t.ia t.inn t.ic) hc (frozen_row HC.out.box 0) (by kernel_rfl) rfl ?_; have HC := Lib.hid (HC.out.putBox (o := 0) ⟨_, _, _, hc⟩ (.slice ai t.inn ci)); clear hc; revert HC; generalize World.setCell _ _ _ = y1; intro HC; refine hK.out _ _ (by (try dsimp only); all_goals trivial) (fun hHeld => ?_); clear hK K)
    all_goals (refine tkP 11 rfl rfl ?_)
    all_goals (refine tkR 12 rfl (fun K hK => ?_))
    all_goals (have hc := box_cell HC.out (k := 1) (v := .slice t.oa t.on t.oc) (by rw [List.getElem?_set_ne (by decide)]; exact HX1.out); refine step_store_cell (by rfl) 44 _ _ rfl g 1 (by rfl) (.slice ao t.on co) (by rfl) (.slice t.oa t.on t.oc) hc (frozen_row HC.out.box 1) (by kernel_rfl) rfl ?_; have HC := Lib.hid (HC.out.putBox (o := 1) ⟨_, _, _, hc⟩ (.slice ao t.on co)); clear hc; revert HC; generalize World.setCell _ _ _ = y1; intro HC; refine hK.out _ _ (by (try dsimp only); all_goals trivial) (fun hHeld => ?_); clear hK K)
    all_goals (refine tkP 13 rfl rfl ?_)
    all_goals (refine tkR 14 rfl (fun K hK => ?_))
    all_goals (have hc := box_cell HC.out (k := 39) (v := .slice t.sa t.sn t.sc) (by rw [List.getElem?_set_ne (by decide), List.getElem?_set_ne (by decide)]; exact HX39.out); refine step_store_cell (by rfl) 48 _ _ rfl g 39 (by rfl) (.slice sg t.sn cg) (by rfl) (.slice t.sa t.sn t.sc) hc (frozen_row HC.out.box 39) (by kernel_rfl) rfl ?_; have HC := Lib.hid (HC.out.putBox (o := 39) ⟨_, _, _, hc⟩ (.slice sg t.sn cg)); clear hc; revert HC; generalize World.setCell _ _ _ = y1; intro HC; refine hK.out _ _ (by (try dsimp only); all_goals trivial) (fun hHeld => ?_); clear hK K)
    all_goals (refine wpAnyH_done (by kernel_rfl) ?_ _)
    all_goals (clear hHeld; go_wp2_with fail; go_meet; exact ⟨rfl, _, _, _, _, _, _, _, HS0.out, HC.out⟩)
  case rest =>
    obtain ⟨rfl, ai, ci, ao, co, sg, cg, B1, hs0, hc⟩ := hcut
    have HS0 := Lib.hid hs0
    clear hs0
    obtain ⟨Z, hZ⟩ : ∃ Z, (((X.set 0 (.slice ai t.inn ci)).set 1 (.slice ao t.on co)).set 39 (.slice sg t.sn cg)) = Z := ⟨_, rfl⟩
    rw [hZ] at hc
    rw [HZZ.out] at hZ
    have HC := Lib.hid hc
    have HZE := Lib.hid hZ.symm
    have HZ0 : Hid (Z[0]? = some (Value.slice ai t.inn ci)) := Lib.hid (by rw [← hZ]; rfl)
    have HZ1 : Hid (Z[1]? = some (Value.slice ao t.on co)) := Lib.hid (by rw [← hZ]; rfl)
    have HZ38 : Hid (Z[38]? = some (Value.slice t.op.a t.op.n t.op.c)) := Lib.hid (by
      rw [← hZ]
      show (t.op.cells ++ [Value.slice sg t.sn cg])[36]? = _
      rw [List.getElem?_append_left (by rw [POp.len HT.out.op.root]; decide)]
      simp [POp.cells, cellsOf_len, HT.out.op.root])
    clear hc hZ
    have hb0 := box_cell HC.out HZ0.out
    go_upto_region 3 with (fail)
    clear hb0
    go_loopw [22] (fun x wr => ∃ (j : Nat) (ys : List PIn), j ≤ t.inn ∧ x = .int .i64 j ∧ CpSt w g r B1 t sg cg Z ai ci ao co ys t.outs wr ∧ (∀ k, j ≤ k → k < t.inn → ys.getD k noIn = t.ins.getD k noIn) ∧ ∀ k, k < j → AllO (B1 ≤ ·) (ys.getD k noIn).n (ys.getD k noIn).a) (fun x _ => t.inn - (intOf x).toNat)
    case atStart => exact ⟨0, t.ins, Nat.zero_le _, rfl, HC.out, (fun _ _ _ => rfl), fun k hk => absurd hk (by omega)⟩
    case round =>
      obtain ⟨j, ys, hj, rfl, hcp, hsame, hni⟩ := hrel
      have HC := Lib.hid hcp
      have HSAME := Lib.hid hsame
      have HNEWI := Lib.hid hni
      clear hcp hsame hni
      by_cases hjn : j < t.inn
      · have f1 : (j : Int) < (t.inn : Int) := by omega
        have f0 : (0 : Int) ≤ (j : Int) := by omega
        have ft : ((j : Int)).toNat = j := by omega
        obtain ⟨gi, rfl, l1, l2⟩ := HC.out.newI (by omega)
        clear l1 l2
        have HJ := Lib.hid hjn
        have HYL : Hid (j < ys.length) := Lib.hid (by rw [HC.out.ins.1]; exact hjn)
        have hnc : (t.inn : Int) ≤ (ci : Int) := by have h9 := HC.out.ins.2.1; omega
        have hc63 : (ci : Int) ≤ 9223372036854775807 := by have h2 := HC.out.ins.2.2.1; unfold maxLen at h2; omega
        obtain ⟨y, hy⟩ : ∃ y, y = ys.getD j noIn := ⟨_, rfl⟩
        have HY := Lib.hid hy
        have hyt : y = t.ins.getD j noIn := hy.trans (HSAME.out j (Nat.le_refl _) hjn)
        have HYI : Hid (InIn wr.drew y) := Lib.hid (by rw [hy]; exact (HC.out.more (below_drew (Below.refl wr.heap.size wr))).ins.get hjn)
        have HYN := Lib.hid (HF.out.pre y (by rw [hyt]; exact HT.out.ins.mem hjn))
        clear hy hyt
        go_upto_region 5 with (fail)
        have HC := Lib.hid (HC.out.more (below_drew (Below.refl wr.heap.size wr)))
        refine wp_region_held_drew (S := fun w' => w'.cell? ⟨g, 0, none⟩ = some (Value.slice (some ⟨gi, 0, none⟩) t.inn ci)) (by kernel_rfl) (box_cell HC.out HZ0.out) (fun hHeld => ?_)
        refine tkP 0 rfl rfl ?_
        refine tkA 1 rfl rfl (yields_cell (b := g) (o := 0) (by rfl) rfl rfl (fun w0 hSw => hSw) (fun w0 => Tryd.isAgg43 w0)) ?_
        refine tkP 2 rfl rfl ?_
        refine tkP 3 rfl rfl ?_
        refine tkA 4 rfl rfl (yields_cell (b := g) (o := 0) (by rfl) rfl rfl (fun w0 hSw => hSw) (fun w0 => Tryd.isAgg43 w0)) ?_
        refine tkP 5 rfl rfl ?_
        refine tkP 6 rfl rfl ?_
        refine tkP 7 rfl rfl ?_
        refine tkR 8 rfl (fun K hK => ?_)
        refine step_cell (d := 33) rfl (by rfl) 45 _ rfl gi (j * 35 + 34) rfl (.slice y.a y.n y.c) (by have h9 := HC.out.inCell rfl HJ.out; rw [← HY.out] at h9; exact h9) (Tryd.isAgg45 _) ?_
        refine hK.out _ _ (by (try dsimp only); exact hHeld) (fun hHeld => ?_)
        clear hK K
        refine tkR 9 rfl (fun K hK => ?_)
        have HCx := Lib.hid (cloneB_any (HYI.out.pre) HYN.out)
        have HRS := Lib.hid (lt_of_block HC.out.res)
        go_simp
        go_wp2_with ((go_at_call 60; (with_reducible refine (HCx.out).mono ?_); rintro e y2 ⟨pa, pc, rfl, hr, hnew, hb⟩; have HP := Lib.hid hr; have HPN : Hid (AllO (· ≠ r) y.n pa) := Lib.hid (fun _ x e => by have h8 := hnew x e; have h7 := HRS.out; show x.block ≠ r; omega); have HPW : Hid (AllO (B1 ≤ ·) y.n pa) := Lib.hid (fun _ x e => by have h8 := hnew x e; have h7 := HC.out.size; show B1 ≤ x.block; omega); have HC := Lib.hid (HC.out.more hb); clear hr hnew hb HCx))
        refine hK.out _ _ (by (try dsimp only); exact box_cell HC.out HZ0.out) (fun hHeld => ?_)
        clear hK K
        refine tkP 10 rfl rfl ?_
        refine tkP 11 rfl rfl ?_
        refine tkR 12 rfl (fun K hK => ?_)
        have hc := HC.out.inCell rfl HJ.out
        rw [← HY.out] at hc
        obtain ⟨cur, hcur⟩ := HC.out.rowI gi (by have := HJ.out; omega) rfl
        refine step_store_cell (by rfl) 45 _ _ rfl gi (j * 35 + 34) (by rfl) (.slice pa y.n pc) (by rfl) (.slice y.a y.n y.c) hc (frozen_row hcur _) (by kernel_rfl) rfl ?_
        have HC := Lib.hid (HC.out.putPre (a' := pa) (n' := y.n) (c' := pc) rfl HJ.out (by rw [← HY.out]; exact HP.out) HPN.out)
        clear hc hcur cur
        revert HC
        generalize World.setCell _ _ _ = y3
        intro HC
        refine hK.out _ _ (by (try dsimp only); exact box_cell HC.out HZ0.out) (fun hHeld => ?_)
        clear hK K
        refine wpAnyH_done (by kernel_rfl) ?_ _
        clear hHeld
        go_wp2_with fail
        go_roundw
        case rel =>
          refine ⟨j + 1, _, by omega, by go_num, HC.out, (fun k h1 h2 => (getD_set_ne (show k ≠ j by omega)).trans (HSAME.out k (by omega) h2)), fun k hk => ?_⟩
          by_cases hkj : k = j
          · subst hkj
            rw [getD_set_self HYL.out]
            exact HPW.out
          · rw [getD_set_ne hkj]
            exact HNEWI.out k (by omega)
        case measure => simp [intOf]; omega
      · have f1 : ¬ (j : Int) < (t.inn : Int) := by omega
        have hb1 := box_cell HC.out HZ1.out
        go_upto_region 8 with (fail)
        have HNI : Hid (∀ k, k < t.inn → AllO (B1 ≤ ·) (ys.getD k noIn).n (ys.getD k noIn).a) := Lib.hid (fun k hk => HNEWI.out k (by omega))
        clear hb1 hjn HSAME HNEWI
        go_loopw [41] (fun x wr => ∃ (j : Nat) (zs : List POut), j ≤ t.on ∧ x = .int .i64 j ∧ CpSt w g r B1 t sg cg Z ai ci ao co ys zs wr ∧ (∀ k, j ≤ k → k < t.on → zs.getD k noOut = t.outs.getD k noOut) ∧ (∀ k, k < j → AllO (B1 ≤ ·) (zs.getD k noOut).n (zs.getD k noOut).a) ∧ ∀ k, k < j → ∀ u ∈ (zs.getD k noOut).ws, AllO (B1 ≤ ·) u.n u.a) (fun x _ => t.on - (intOf x).toNat)
        case atStart => exact ⟨0, t.outs, Nat.zero_le _, rfl, HC.out, (fun _ _ _ => rfl), (fun k hk => absurd hk (by omega)), fun k hk => absurd hk (by omega)⟩
        case round =>
          obtain ⟨j, zs, hj, rfl, hcp, hsame, hnw, hnk⟩ := hrel
          obtain ⟨wq, rfl⟩ : ∃ q, q = wr := ⟨_, rfl⟩
          have HC := Lib.hid hcp
          have HSAME := Lib.hid hsame
          have HNEW := Lib.hid hnw
          have HNK := Lib.hid hnk
          clear hcp hsame hnw hnk
          by_cases hjn : j < t.on
          · have f1 : (j : Int) < (t.on : Int) := by omega
            have f0 : (0 : Int) ≤ (j : Int) := by omega
            have ft : ((j : Int)).toNat = j := by omega
            obtain ⟨go, rfl, l1, l2⟩ := HC.out.newO (by omega)
            clear l1 l2
            have HJ := Lib.hid hjn
            have HZLEN := Lib.hid HC.out.outs.1
            have hnc : (t.on : Int) ≤ (co : Int) := by have h9 := HC.out.outs.2.1; omega
            have hc63 : (co : Int) ≤ 9223372036854775807 := by have h2 := HC.out.outs.2.2.1; unfold maxLen at h2; omega
            obtain ⟨y, hy⟩ : ∃ y, y = zs.getD j noOut := ⟨_, rfl⟩
            have HY := Lib.hid hy
            have hyt : y = t.outs.getD j noOut := hy.trans (HSAME.out j (Nat.le_refl _) hjn)
            have hmem : y ∈ t.outs := by rw [hyt]; exact HT.out.outs.mem hjn
            have HYI : Hid (OutIn wq.drew y) := Lib.hid (by rw [hy]; exact (HC.out.more (below_drew (Below.refl wq.heap.size wq))).outs.get hjn)
            have HYN := Lib.hid (HF.out.ws y hmem)
            have HYK := Lib.hid (HF.out.ks y hmem)
            have HQS := Lib.hid HC.out.size
            clear hy hyt hmem
            go_upto_region 10 with (fail)
            have HC := Lib.hid (HC.out.more (below_drew (Below.refl wq.heap.size wq)))
            refine wp_region_held_drew (S := fun w' => w'.cell? ⟨g, 1, none⟩ = some (Value.slice (some ⟨go, 0, none⟩) t.on co)) (by kernel_rfl) (box_cell HC.out HZ1.out) (fun hHeld => ?_)
            refine tkP 0 rfl rfl ?_
            refine tkA 1 rfl rfl (yields_cell (b := g) (o := 1) (by rfl) rfl rfl (fun w0 hSw => hSw) (fun w0 => Tryd.isAgg44 w0)) ?_
            refine tkP 2 rfl rfl ?_
            refine tkP 3 rfl rfl ?_
            refine tkA 4 rfl rfl (yields_cell (b := g) (o := 1) (by rfl) rfl rfl (fun w0 hSw => hSw) (fun w0 => Tryd.isAgg44 w0)) ?_
            refine tkP 5 rfl rfl ?_
            refine tkP 6 rfl rfl ?_
            refine tkP 7 rfl rfl ?_
            refine tkR 8 rfl (fun K hK => ?_)
            refine step_cell (d := 52) rfl (by rfl) 77 _ rfl go (j * 2 + 1) rfl (.slice y.a y.n y.c) (by have h9 := HC.out.outCell rfl HJ.out; rw [← HY.out] at h9; exact h9) (Tryd.isAgg77 _) ?_
            refine hK.out _ _ (by (try dsimp only); exact hHeld) (fun hHeld => ?_)
            clear hK K
            refine tkR 9 rfl (fun K hK => ?_)
            have HCx := Lib.hid (cloneWaysG_any HYI.out.ws HYN.out)
            have HSZ := Lib.hid HC.out.size
            have HOLD := Lib.hid (fun (k : Nat) (hk : k < t.on) => SliceOf.block (K := wayK9) (show OutIn wq.drew (zs.getD k noOut) from HC.out.outs.get hk).ws)
            go_simp
            go_wp2_with ((go_at_call 61; (with_reducible refine (HCx.out).mono ?_); rintro e y2 ⟨wa, wc, rfl, hr, _, hgw, hb⟩; have HP := Lib.hid hr; have HGW := Lib.hid (new_row15 hgw); have HC := Lib.hid (HC.out.more hb); clear hr hgw hb HCx))
            refine hK.out _ _ (by (try dsimp only); exact box_cell HC.out HZ1.out) (fun hHeld => ?_)
            clear hK K
            refine tkP 10 rfl rfl ?_
            refine tkP 11 rfl rfl ?_
            refine tkR 12 rfl (fun K hK => ?_)
            have hc := HC.out.outCell rfl HJ.out
            rw [← HY.out] at hc
            obtain ⟨cur, hcur⟩ := HC.out.rowO go (by have := HJ.out; omega) rfl
            refine step_store_cell (by rfl) 77 _ _ rfl go (j * 2 + 1) (by rfl) (.slice wa y.n wc) (by rfl) (.slice y.a y.n y.c) hc (frozen_row hcur _) (by kernel_rfl) rfl ?_
            have HGW := Lib.hid (HGW.out.set go (j * 2 + 1) (.slice wa y.n wc))
            have HC := Lib.hid (HC.out.putWays (a' := wa) (n' := y.n) (c' := wc) rfl HJ.out (by rw [← HY.out]; exact HP.out) (HGW.out.all.mono fun b hb => Nat.le_trans HSZ.out hb))
            rw [← HY.out] at HC
            clear hc hcur cur
            revert HGW HC
            generalize World.setCell _ _ _ = y3
            intro HGW HC
            refine hK.out _ _ (by (try dsimp only); exact box_cell HC.out HZ1.out) (fun hHeld => ?_)
            clear hK K
            refine wpAnyH_done (by kernel_rfl) ?_ _
            clear hHeld
            have HZL : Hid (j < zs.length) := Lib.hid (by rw [HZLEN.out]; exact HJ.out)
            have hb1 := box_cell HC.out HZ1.out
            have hb2 := HC.out.outCell rfl HJ.out
            rw [getD_set_self HZL.out] at hb2
            replace hb2 : _ = some (Value.slice wa y.n wc) := hb2
            go_upto_region 12 with (fail)
            clear hb1 hb2
            have hwn := HYI.out.ws.1
            have hw63 : (y.n : Int) ≤ 9223372036854775807 := SliceOf.len63 (K := wayK9) HYI.out.ws
            go_loopw [63] (fun x wr => ∃ (i : Nat) (us : List PWay), i ≤ y.n ∧ x = .int .i64 i ∧ CpSt w g r B1 t sg cg Z ai ci (some ⟨go, 0, none⟩) co ys (zs.set j (y.at15 wa y.n wc us)) wr ∧ NewAt wq.heap.size wr 82 y.n wa ∧ (∀ k, i ≤ k → k < y.n → us.getD k noWay = y.ws.getD k noWay) ∧ ∀ k, k < i → AllO (B1 ≤ ·) (us.getD k noWay).n (us.getD k noWay).a) (fun x _ => y.n - (intOf x).toNat)
            case atStart => exact ⟨0, y.ws, Nat.zero_le _, rfl, HC.out, HGW.out, (fun _ _ _ => rfl), fun k hk => absurd hk (by omega)⟩
            case round =>
              obtain ⟨i, us, hi, rfl, hcp, hgw, hsu, hnu⟩ := hrel
              have HUW := Lib.hid (way_len15 hcp HJ.out HZL.out)
              have HC := Lib.hid hcp
              have HGW := Lib.hid hgw
              have HSU := Lib.hid hsu
              have HNU := Lib.hid hnu
              clear hcp hgw hsu hnu
              by_cases hin : i < y.n
              · have f1 : (i : Int) < (y.n : Int) := by omega
                have f0 : (0 : Int) ≤ (i : Int) := by omega
                have ft : ((i : Int)).toNat = i := by omega
                obtain ⟨gw, cur, rfl, hgl, hcur⟩ := HGW.out (by omega)
                have HI1 := Lib.hid hin
                have HUL : Hid (i < us.length) := Lib.hid (by rw [HUW.out]; exact hin)
                have HB1 : Hid (B1 ≤ gw) := Lib.hid (Nat.le_trans HSZ.out hgl)
                have HFARK : Hid (∀ k, k < t.on → k ≠ j → AllO (· ≠ gw) (zs.getD k noOut).n (zs.getD k noOut).a) := Lib.hid (fun k hk hkj h0 x e => by have h9 := HOLD.out k hk h0 x e; have h8 : wq.drew.heap.size = wq.heap.size := rfl; show x.block ≠ gw; omega)
                have hwi := way_at15 HC.out HJ.out HZL.out hin
                obtain ⟨u, hu⟩ : ∃ u, u = us.getD i noWay := ⟨_, rfl⟩
                rw [← hu] at hwi
                have HU := Lib.hid hu
                have HUI := Lib.hid hwi.1
                have RU := Lib.hid hwi.2
                have HUN : Hid (u.n ≤ 100000) := Lib.hid (by have h9 := HYK.out _ (mem_getD15 (d := noWay) (by rw [hwn]; exact hin)); rw [← HSU.out i (Nat.le_refl _) hin, ← hu] at h9; rw [← hwi.1.keys.1]; exact h9)
                have SU := Lib.hid (way_size hwi.1.sum)
                have hwc : (y.n : Int) ≤ (wc : Int) := by have h9 := way_cap15 HC.out HJ.out HZL.out; omega
                have hwc63 : (wc : Int) ≤ 9223372036854775807 := by have h9 := way_cap15 HC.out HJ.out HZL.out; unfold maxLen at h9; omega
                have HWR := Lib.hid (lt_of_block hcur)
                clear hwi hu hgl hcur cur
                go_upto_region 14 with (first | (refine wpList_load_mid rfl 82 _ rfl gw (i * 35) rfl u.cells _ RU.out Tryd.underlying82 rfl SU.out ?_) | (refine wpList_new rfl 82 rfl noWay.cells.toArray zeroWay15 ?_; intro p6 w5 hp5 hh5 hb5; go_frame) | (refine wpList_row10 rfl 82 _ _ rfl p6 u.cells rfl rfl 82 noWay.cells hh5 SU.out (by rw [PWay.cells_len HUI.out.sum]; rfl) u.cells_one ?_; intro w6 hh6 hb6) | fail)
                have hbr := But.in hb5 hb6 hp5
                have HC := Lib.hid (HC.out.more hbr)
                have HGW := Lib.hid (HGW.out.more hbr)
                have H6 := Lib.hid hh6
                have HUI := Lib.hid (HUI.out.below hbr)
                have HNE6 : Hid (p6 ≠ gw) := Lib.hid (by have h9 := HWR.out; omega)
                clear hbr hp5 hh5 hb5 hh6 hb6 RU
                have HC := Lib.hid (HC.out.more (below_drew (Below.refl w6.heap.size w6)))
                have HGW := Lib.hid (HGW.out.more (below_drew (Below.refl w6.heap.size w6)))
                have H6 := Lib.hid (keep (below_drew (Below.refl w6.heap.size w6)) H6.out)
                have HUI := Lib.hid (HUI.out.below (below_drew (Below.refl w6.heap.size w6)))
                try simp only [Act.put]
                refine wp_region_held_drew (S := fun w' => w'.cell? ⟨g, 1, none⟩ = some (Value.slice (some ⟨go, 0, none⟩) t.on co) ∧ w'.cell? ⟨go, j * 2 + 1, none⟩ = some (Value.slice (some ⟨gw, 0, none⟩) y.n wc) ∧ w'.cell? ⟨p6, 0, none⟩ = some (Value.slice u.a u.n u.c)) (by kernel_rfl) (⟨box_cell HC.out HZ1.out, (by have h9 := HC.out.outCell rfl HJ.out; rw [getD_set_self HZL.out] at h9; exact h9), (by rw [cell_of_row _ _ _ _ _ _ H6.out, List.getElem?_toArray]; rfl)⟩) (fun hHeld => ?_)
                refine tkP 0 rfl rfl ?_
                refine tkA 1 rfl rfl (yields_cell (b := g) (o := 1) (by rfl) rfl rfl (fun w0 hSw => hSw.1) (fun w0 => Tryd.isAgg44 w0)) ?_
                refine tkP 2 rfl rfl ?_
                refine tkP 3 rfl rfl ?_
                refine tkP 4 rfl rfl ?_
                refine tkA 5 rfl rfl (yields_cell (b := go) (o := (j * 2 + 1)) (by rfl) rfl rfl (fun w0 hSw => hSw.2.1) (fun w0 => Tryd.isAgg77 w0)) ?_
                refine tkP 6 rfl rfl ?_
                refine tkP 7 rfl rfl ?_
                refine tkA 8 rfl rfl (yields_cell (b := p6) (o := 0) (by rfl) rfl rfl (fun w0 hSw => hSw.2.2) (fun w0 => Tryd.isAgg80 w0)) ?_
                refine tkR 9 rfl (fun K hK => ?_)
                have HCx := Lib.hid (cloneZ_new HUI.out.keys HUN.out)
                have HRS := Lib.hid (lt_of_block HC.out.res)
                go_simp
                go_wp2_with ((go_at_call 48; (with_reducible refine (HCx.out).mono ?_); rintro e y1 ⟨ka, kc, rfl, hr, hnew, hb⟩; have HP := Lib.hid hr; have HPN : Hid (AllO (· ≠ r) u.n ka) := Lib.hid (fun _ x e => by have h8 := hnew x e; have h7 := HRS.out; show x.block ≠ r; omega); have HPW : Hid (AllO (B1 ≤ ·) u.n ka) := Lib.hid (fun _ x e => by have h8 := hnew x e; have h7 := HC.out.size; show B1 ≤ x.block; omega); have HC := Lib.hid (HC.out.more hb); have HGW := Lib.hid (HGW.out.more hb); have H6 := Lib.hid (keep hb H6.out); have HUI := Lib.hid (HUI.out.below hb); clear hr hnew hb HCx))
                refine hK.out _ _ (by (try dsimp only); exact ⟨box_cell HC.out HZ1.out, (by have h9 := HC.out.outCell rfl HJ.out; rw [getD_set_self HZL.out] at h9; exact h9), (by rw [cell_of_row _ _ _ _ _ _ H6.out, List.getElem?_toArray]; rfl)⟩) (fun hHeld => ?_)
                clear hK K
                refine tkP 10 rfl rfl ?_
                refine tkP 11 rfl rfl ?_
                refine tkR 12 rfl (fun K hK => ?_)
                obtain ⟨gw2, cur, e2, hgl, hcur⟩ := HGW.out (by have := HI1.out; omega)
                cases e2
                have hc := way_slot15 HC.out HJ.out HZL.out HI1.out
                rw [← HU.out] at hc
                refine step_store_cell (by rfl) 80 _ _ rfl gw (i * 35) (by rfl) (.slice ka u.n kc) (by rfl) (.slice u.a u.n u.c) hc (frozen_row hcur _) (by kernel_rfl) rfl ?_
                have HGW := Lib.hid (HGW.out.set gw (i * 35) (.slice ka u.n kc))
                have HC := Lib.hid (put_key15 HC.out HJ.out HZL.out HI1.out HB1.out HFARK.out (by rw [← HU.out]; exact HP.out) HPN.out)
                rw [← HU.out] at HC
                have hne6 : p6 ≠ gw := HNE6.out
                have H6 := Lib.hid ((heap_setCell_ne (o := i * 35) hne6 (.slice ka u.n kc)).trans H6.out)
                clear hc hcur cur hgl
                revert HGW HC H6
                generalize World.setCell _ _ _ = y2
                intro HGW HC H6
                refine hK.out _ _ (by (try dsimp only); exact ⟨box_cell HC.out HZ1.out, (by have h9 := HC.out.outCell rfl HJ.out; rw [getD_set_self HZL.out] at h9; exact h9), (by rw [cell_of_row _ _ _ _ _ _ H6.out, List.getElem?_toArray]; rfl)⟩) (fun hHeld => ?_)
                clear hK K
                refine wpAnyH_done (by kernel_rfl) ?_ _
                clear hHeld
                go_wp2_with fail
                go_roundw
                case rel =>
                  refine ⟨i + 1, _, by omega, by go_num, HC.out, HGW.out, (fun k h1 h2 => (getD_set_ne (show k ≠ i by omega)).trans (HSU.out k (by omega) h2)), fun k hk => ?_⟩
                  by_cases hki : k = i
                  · subst hki
                    rw [getD_set_self HUL.out]
                    exact HPW.out
                  · rw [getD_set_ne hki]
                    exact HNU.out k (by omega)
                case measure => simp [intOf]; omega
              · have f1 : ¬ (i : Int) < (y.n : Int) := by omega
                go_wp2_with fail
                go_roundw
                case rel =>
                  refine ⟨j + 1, _, by omega, by go_num, HC.out, (fun k h1 h2 => (getD_set_ne (show k ≠ j by omega)).trans (HSAME.out k (by omega) h2)), (fun k hk => ?_), fun k hk => ?_⟩
                  · by_cases hkj : k = j
                    · subst hkj
                      rw [getD_set_self HZL.out]
                      exact HGW.out.all.mono fun b hb => Nat.le_trans HQS.out hb
                    · rw [getD_set_ne hkj]
                      exact HNEW.out k (by omega)
                  · by_cases hkj : k = j
                    · subst hkj
                      rw [getD_set_self HZL.out]
                      intro u hu
                      obtain ⟨m, hm, rfl⟩ := List.getElem_of_mem (show u ∈ us from hu)
                      have h9 := HNU.out m (by have := HUW.out; omega)
                      rw [List.getD_eq_getElem?_getD, List.getElem?_eq_getElem hm] at h9
                      exact h9
                    · rw [getD_set_ne hkj]
                      exact HNK.out k (by omega)
                case measure => simp [intOf]; omega
          · have f1 : ¬ (j : Int) < (t.on : Int) := by omega
            have HCB := Lib.hid (cloneB_any HC.out.op.data HF.out.data)
            have c38 := box_cell HC.out HZ38.out
            have HRS := Lib.hid (lt_of_block HC.out.res)
            go_upto_region 18 with (first | (go_at_call 60; (with_reducible refine (HCB.out).mono ?_); rintro e w8 ⟨da, dc, rfl, hr, hnew, hb⟩; have HP := Lib.hid hr; have HDW : Hid (AllO (B1 ≤ ·) t.op.n da) := Lib.hid (fun _ x e => by have h8 := hnew x e; have h7 := HC.out.size; show B1 ≤ x.block; omega); have HDN : Hid (AllO (· ≠ r) t.op.n da) := Lib.hid (fun _ x e => by have h8 := hnew x e; have h7 := HRS.out; show x.block ≠ r; omega); have HC := Lib.hid (HC.out.more hb); have c38 := box_cell HC.out HZ38.out; have f38 := frozen_row HC.out.box 38; clear hr hnew hb) | fail)
            have HP := Lib.hid (row_setCell HP.out ⟨_, _, _, c38⟩ (.slice da t.op.n dc))
            have HC := Lib.hid (HC.out.putBox (o := 38) ⟨_, _, _, c38⟩ (.slice da t.op.n dc))
            clear c38 f38
            revert HP HC
            generalize World.setCell w8 _ _ = w9
            intro HP HC
            obtain ⟨y, hy⟩ : ∃ y, y = (⟨ai, t.inn, ci, ys, ao, t.on, co, zs, ⟨t.op.kind, t.op.tower, t.op.channel, t.op.amount, t.op.root, da, t.op.n, dc, t.op.data⟩, sg, t.sn, cg, t.signs⟩ : PTx) := ⟨_, rfl⟩
            have hyc : Z.set 38 (.slice da t.op.n dc) = y.cells := by
              rw [hy, HZE.out]
              show Value.slice ai t.inn ci :: Value.slice ao t.on co :: ((t.op.cells ++ [Value.slice sg t.sn cg]).set 36 (.slice da t.op.n dc)) = _
              rw [List.set_append_left _ _ (by rw [POp.len HC.out.op.root]; decide), op_slot15 _ HC.out.op.root]
              rfl
            rw [hyc] at HC
            have HY := Lib.hid hy
            have SY : Hid ((Tryd.prog.info? 50).map (·.size) = some y.cells.length) := Lib.hid (by rw [hy]; exact tx_size HC.out.op.root)
            clear hy hyc
            go_wp2_with (first | (refine wpList_load_row rfl 50 _ rfl g rfl 50 y.cells.toArray (0, 0) _ HC.out.box Tryd.underlying50 rfl (by rw [List.size_toArray]; exact SY.out) ?_) | (refine wpList_row10 rfl 50 _ _ rfl r y.cells rfl rfl 50 noTx.cells HC.out.res SY.out (by have h9 := SY.out; have h8 := PTx.len (x := y) (by rw [HY.out]; exact HC.out.op.root); rw [h8]; rfl) y.one ?_; intro w10 hh10 hb10) | fail)
            refine bodyPost_ret (results_cell_row rfl _ _ r 50 y.cells.toArray (0, 0) _ rfl hh10 Tryd.underlying50 rfl (by rw [List.size_toArray]; exact SY.out)) rfl ?_
            have hcl := HC.out.last hb10
            have hlo := HC.out.lo
            have hgr := HC.out.gr
            have hhi := HC.out.hi
            have HALL : Hid (AllTx (fun b => w.heap.size ≤ b ∧ ∀ gs cur, sg = some ⟨gs, 0, none⟩ → 0 < t.sn → w9.heap[gs]? = some (.cells cur 86 (0, 0)) → b ≠ gs) y) := Lib.hid ?hall
            case hall =>
              rw [HY.out]
              refine ⟨fun h0 x e => ?_, fun h0 x e => ?_, fun x hx => ?_, fun z hz => ?_, fun z hz => ?_, HDW.out.mono fun b hb => ?_⟩
              · obtain ⟨gi, e2, l1, _⟩ := HC.out.newI h0
                obtain ⟨ci9, hci9⟩ := HC.out.rowI gi h0 e2
                rw [show ai = _ from e2] at e
                cases e
                refine ⟨by show w.heap.size ≤ gi; omega, fun gs cur eg h1 hg => ?_⟩
                intro e5
                replace e5 : gi = gs := e5
                rw [← e5, hci9] at hg
                simp at hg
              · obtain ⟨go, e2, l1, _⟩ := HC.out.newO h0
                obtain ⟨ci9, hci9⟩ := HC.out.rowO go h0 e2
                rw [show ao = _ from e2] at e
                cases e
                refine ⟨by show w.heap.size ≤ go; omega, fun gs cur eg h1 hg => ?_⟩
                intro e5
                replace e5 : go = gs := e5
                rw [← e5, hci9] at hg
                simp at hg
              · obtain ⟨k, hk, rfl⟩ := List.getElem_of_mem (show x ∈ ys from hx)
                have h9 := HNI.out k (by have := HC.out.ins.1; omega)
                rw [List.getD_eq_getElem?_getD, List.getElem?_eq_getElem hk] at h9
                exact h9.mono fun b hb => ⟨by omega, fun gs cur eg h1 hg => by have hgs : gs < B1 := (HC.out.newS h1 _ eg).2.2; omega⟩
              · obtain ⟨k, hk, rfl⟩ := List.getElem_of_mem (show z ∈ zs from hz)
                have h9 := HNEW.out k (by have := HC.out.outs.1; omega)
                rw [List.getD_eq_getElem?_getD, List.getElem?_eq_getElem hk] at h9
                exact h9.mono fun b hb => ⟨by omega, fun gs cur eg h1 hg => by have hgs : gs < B1 := (HC.out.newS h1 _ eg).2.2; omega⟩
              · obtain ⟨k, hk, rfl⟩ := List.getElem_of_mem (show z ∈ zs from hz)
                have h9 := HNK.out k (by have := HC.out.outs.1; omega)
                rw [List.getD_eq_getElem?_getD, List.getElem?_eq_getElem hk] at h9
                exact fun u hu => (h9 u hu).mono fun b hb => ⟨by omega, fun gs cur eg h1 hg => by have hgs : gs < B1 := (HC.out.newS h1 _ eg).2.2; omega⟩
              · exact ⟨by omega, fun gs cur eg h1 hg => by have hgs : gs < B1 := (HC.out.newS h1 _ eg).2.2; omega⟩
            refine ⟨y, rfl, ?_, ?_, HALL.out.mono fun b hb => hb.1, ?_, by rw [HY.out], by rw [HY.out], by rw [HY.out]; exact HS0.out, fun h0 => ?_, But.in HC.out.below hb10 (by omega)⟩
            · rw [HY.out]
              exact ⟨hcl.1, hcl.2.1, ⟨HC.out.op.kind, HC.out.op.tower, HC.out.op.channel, HC.out.op.amount, HC.out.op.root, HP.out.but hb10 (fun h0 b off e => HDN.out h0 _ e)⟩, hcl.2.2⟩
            · rw [HY.out]
              have e1 := HC.out.sIns
              have e2 := HC.out.sOuts
              have e3 : ys.length = t.ins.length := by have h9 := congrArg List.length e1; simpa using h9
              have e4 : zs.length = t.outs.length := by have h9 := congrArg List.length e2; simpa using h9
              show PTx.mk none ys.length 0 (ys.map PIn.strip) none zs.length 0 (zs.map POut.strip) t.op.strip none t.signs.length 0 t.signs = PTx.mk none t.ins.length 0 (t.ins.map PIn.strip) none t.outs.length 0 (t.outs.map POut.strip) t.op.strip none t.signs.length 0 t.signs
              rw [e1, e2, e3, e4]
            · rw [HY.out]
              exact HC.out.newS.mono fun b hb2 => hb2.2.1
            · obtain ⟨gs, cur, e1, e2⟩ := HC.out.rowS h0
              have hns := HC.out.newS h0 _ e1
              have hns1 : gs ≠ r := hns.1
              refine ⟨gs, cur, by rw [HY.out]; exact e1, (hb10.block gs (lt_of_block e2) hns1).trans e2, ?_⟩
              exact HALL.out.mono fun b hb => hb.2 gs cur e1 h0 e2
theorem txCopiedS_any {w : World} {t : PTx} (ht : TxIn w t) (hf : FewTxS t) :
    Calls Tryd.prog 47 #[.agg t.cells.toArray] w fun e w' => ∃ y : PTx, e = .returned (.agg y.cells.toArray) ∧ TxIn w' y ∧ y.strip = t.strip ∧ AllTx (w.heap.size ≤ ·) y ∧ AllO (w.heap.size ≤ ·) y.sn y.sa ∧ y.sn = t.sn ∧ y.signs = t.signs ∧ (1 ≤ t.sn ∨ (y.sa = none ∧ y.sc = 0)) ∧ Below w.heap.size w w' := by
  refine (txCopiedG_any ht hf.few).mono ?_
  rintro e w' ⟨y, h1, h2, h3, h4, h5, h6, h7, h8, _, h9⟩
  refine ⟨y, h1, h2, h3, h4, h5, h6, h7, ?_, h9⟩
  rcases h8 with h8 | h8 | h8
  · exact .inl h8
  · exact .inl (hf.sa.resolve_left h8)
  · exact .inr h8
/-- .. of one without signs. -/
theorem txCopied_any {w : World} {t : PTx} (ht : TxIn w t) (hf : FewTx t) :
    Calls Tryd.prog 47 #[.agg t.cells.toArray] w fun e w' => ∃ y : PTx, e = .returned (.agg y.cells.toArray) ∧ TxIn w' y ∧ y.strip = t.strip ∧ AllTx (w.heap.size ≤ ·) y ∧ y.sa = none ∧ y.sn = 0 ∧ y.sc = 0 ∧ y.signs = [] ∧ Below w.heap.size w w' := by
  refine (txCopiedS_any ht ⟨hf.inn, hf.on, hf.ia, hf.oa, hf.pre, hf.ws, hf.ks, hf.data, by rw [hf.sn]; omega, .inl hf.sa⟩).mono ?_
  rintro e w' ⟨y, rfl, h1, h2, h3, _, h5, h6, h7, h8⟩
  have h9 := h7.resolve_left (by rw [hf.sn]; omega)
  exact ⟨y, rfl, h1, h2, h3, h9.1, h5.trans hf.sn, h9.2, h6.trans hf.signs, h8⟩
end Go.Proofs.YtlnenkmcegadmaaDoor
