/- What tx.Signed comes to, of any transaction without signs, by one key. -/
import Derived.Test.YtlnenkmcegadmaaDoorTxCopied
import Derived.Test.YtlnenkmcegadmaaDoorSignKit
import Derived.Test.YtlnenkmcegadmaaDoorTx
namespace Go.Proofs.YtlnenkmcegadmaaDoor
open Go.RowKit

theorem AllTx.and {P Q : Nat → Prop} {y : PTx} (h : AllTx P y) (k : AllTx Q y) : AllTx (fun b => P b ∧ Q b) y :=
  ⟨fun a x e => ⟨h.ia a x e, k.ia a x e⟩, fun a x e => ⟨h.oa a x e, k.oa a x e⟩, fun i hi a x e => ⟨h.pre i hi a x e, k.pre i hi a x e⟩, fun z hz a x e => ⟨h.ws z hz a x e, k.ws z hz a x e⟩, fun z hz u hu a x e => ⟨h.ks z hz u hu a x e, k.ks z hz u hu a x e⟩, fun a x e => ⟨h.data a x e, k.data a x e⟩⟩
/-- All of it lies below the heap's end. -/
theorem TxIn.lt {w : World} {y : PTx} (h : TxIn w y) : AllTx (· < w.heap.size) y := by
  have hr : ∀ {n c : Nat} {a : Option Addr} {l : List UInt8}, Row w a n c l → AllO (· < w.heap.size) n a := fun h h0 x e => by
    obtain ⟨b, off, e2, hlt, _⟩ := h.2.2.2.2 h0
    rw [e] at e2
    cases e2
    exact hlt
  refine ⟨h.ins.block, h.outs.block, fun x hx => hr (show InIn w x from h.ins.2.2.2.2.1 x hx).pre, fun z hz => SliceOf.block (K := wayK9) (show OutIn w z from h.outs.2.2.2.2.1 z hz).ws, fun z hz u hu h0 x e => ?_, hr h.op.data⟩
  obtain ⟨b, off, e2, hlt, _⟩ := (show WayIn w u from (show OutIn w z from h.outs.2.2.2.2.1 z hz).ws.2.2.2.2.1 u hu).keys.2.2.2.2.2 h0
  rw [e] at e2
  cases e2
  exact hlt
/-- A block is written that none of it lies in. -/
theorem TxIn.butAll {w w' : World} {y : PTx} {p : Nat} (h : TxIn w y) (ha : AllTx (· ≠ p) y) (hn : y.sn = 0) (hb : But w.heap.size p w w') : TxIn w' y := by
  refine ⟨h.ins.moved (B := w.heap.size) (p := p) (fun h0 x e => ⟨h.ins.block h0 x e, ha.ia h0 x e⟩) (fun x hx => ?_) hb, h.outs.moved (B := w.heap.size) (p := p) (fun h0 x e => ⟨h.outs.block h0 x e, ha.oa h0 x e⟩) (fun z hz => ?_) hb,
    ⟨h.op.kind, h.op.tower, h.op.channel, h.op.amount, h.op.root, h.op.data.but hb (fun h0 b off e => ha.data h0 _ e)⟩, ?_⟩
  · have hx1 : InIn w x := h.ins.2.2.2.2.1 x hx
    exact ⟨hx1.tx, hx1.place, hx1.way, hx1.pre.but hb (fun h0 b off e => ha.pre x hx h0 _ e)⟩
  · have hz1 : OutIn w z := h.outs.2.2.2.2.1 z hz
    refine ⟨hz1.m, SliceOf.moved (K := wayK9) (B := w.heap.size) (p := p) hz1.ws (fun h0 x e => ⟨SliceOf.block (K := wayK9) hz1.ws h0 x e, ha.ws z hz h0 x e⟩) (fun u hu => ?_) hb⟩
    have hu1 : WayIn w u := hz1.ws.2.2.2.2.1 u hu
    exact ⟨hu1.keys.butO (B := w.heap.size) (pb := p) (fun h0 x e => ⟨h.lt.ks z hz u hu h0 x e, ha.ks z hz u hu h0 x e⟩) hb, hu1.sum, hu1.after, hu1.wait⟩
  · have h9 := h.signs
    rw [hn] at h9 ⊢
    exact ⟨h9.1, h9.2.1, h9.2.2.1, h9.2.2.2.1, fun s hs => (show SignIn s from h9.2.2.2.2.1 s hs), fun h0 => absurd h0 (by omega)⟩
/-- All of it is new. -/
structure NewTx (B : Nat) (y : PTx) : Prop where
  all : AllTx (B ≤ ·) y
  signs : AllO (B ≤ ·) y.sn y.sa
/-- An older block is written: it stays. -/
theorem TxIn.older {w w' : World} {y : PTx} {B p : Nat} (h : TxIn w y) (hn : NewTx B y) (hp : p < B) (hb : But w.heap.size p w w') : TxIn w' y := by
  have ha : AllTx (· ≠ p) y := hn.all.mono fun b hb => by omega
  refine ⟨h.ins.moved (B := w.heap.size) (p := p) (fun h0 x e => ⟨h.ins.block h0 x e, ha.ia h0 x e⟩) (fun x hx => ?_) hb, h.outs.moved (B := w.heap.size) (p := p) (fun h0 x e => ⟨h.outs.block h0 x e, ha.oa h0 x e⟩) (fun z hz => ?_) hb,
    ⟨h.op.kind, h.op.tower, h.op.channel, h.op.amount, h.op.root, h.op.data.but hb (fun h0 b off e => ha.data h0 _ e)⟩, ?_⟩
  · have hx1 : InIn w x := h.ins.2.2.2.2.1 x hx
    exact ⟨hx1.tx, hx1.place, hx1.way, hx1.pre.but hb (fun h0 b off e => ha.pre x hx h0 _ e)⟩
  · have hz1 : OutIn w z := h.outs.2.2.2.2.1 z hz
    refine ⟨hz1.m, SliceOf.moved (K := wayK9) (B := w.heap.size) (p := p) hz1.ws (fun h0 x e => ⟨SliceOf.block (K := wayK9) hz1.ws h0 x e, ha.ws z hz h0 x e⟩) (fun u hu => ?_) hb⟩
    have hu1 : WayIn w u := hz1.ws.2.2.2.2.1 u hu
    exact ⟨hu1.keys.butO (B := w.heap.size) (pb := p) (fun h0 x e => ⟨h.lt.ks z hz u hu h0 x e, ha.ks z hz u hu h0 x e⟩) hb, hu1.sum, hu1.after, hu1.wait⟩
  · exact h.signs.moved (B := w.heap.size) (p := p) (fun h0 x e => ⟨h.signs.block h0 x e, by have h9 := hn.signs h0 x e; omega⟩) (fun s hs => (show SignIn s from h.signs.2.2.2.2.1 s hs)) hb
/-- How all stands while one is signed. -/
structure SgTx (w0 : World) (g4 p5 p6 Bc : Nat) (y : PTx) (S : List UInt8) (w : World) : Prop where
  res : VarC w g4 50 noTx.cells
  sum : VarC w p5 23 (cellsOf S)
  var : VarC w p6 50 y.cells
  tx : TxIn w y
  lt : AllTx (· < Bc) y
  apart : AllTx (fun k => k ≠ p6 ∧ k ≠ g4) y
  l4 : g4 < Bc
  l5 : p5 < Bc
  l6 : p6 < Bc
  sn : y.sn = 0
  size : Bc ≤ w.heap.size
  but : Below w0.heap.size w0 w
  nw : AllTx (w0.heap.size ≤ ·) y
section
variable {w0 w w' : World} {g4 p5 p6 Bc : Nat} {y : PTx} {S : List UInt8}
theorem SgTx.below (h : SgTx w0 g4 p5 p6 Bc y S w) (hb : Below w.heap.size w w') : SgTx w0 g4 p5 p6 Bc y S w' :=
  ⟨h.res.below hb, h.sum.below hb, h.var.below hb, h.tx.below hb, h.lt, h.apart, h.l4, h.l5, h.l6, h.sn, Nat.le_trans h.size hb.size, h.but.trans (hb.mono h.but.size), h.nw⟩
/-- A block that came later is written. -/
theorem SgTx.newer {p : Nat} (h : SgTx w0 g4 p5 p6 Bc y S w) (hb : But w.heap.size p w w') (hp : Bc ≤ p) (h0 : w0.heap.size ≤ p) : SgTx w0 g4 p5 p6 Bc y S w' := by
  have h4 := h.l4
  have h5 := h.l5
  have h6 := h.l6
  exact ⟨h.res.but hb h.res.lt (by omega), h.sum.but hb h.sum.lt (by omega), h.var.but hb h.var.lt (by omega), h.tx.butAll (h.lt.mono fun b hb => by omega) h.sn hb, h.lt, h.apart, h.l4, h.l5, h.l6, h.sn, Nat.le_trans h.size hb.size, h.but.trans ((hb.mono h.but.size).below h0), h.nw⟩
end
theorem sign_cell15 {y : PTx} (hl : y.op.root.length = 32) : y.cells[39]? = some (.slice y.sa y.sn y.sc) := by
  have h9 := POp.len hl
  show (y.op.cells ++ [Value.slice y.sa y.sn y.sc])[37]? = _
  rw [List.getElem?_append_right (by omega), h9]
  rfl
def signS15 : SortAt Tryd.prog signK 48 86 := ⟨40, by omega, by show 33 ≤ 100000; omega, .agg noSign.cells.toArray, Tryd.underlying48, Tryd.zeroSign40, rfl⟩
def signedP (t : PTx) (z : Int) (S : List UInt8) : PTx := ⟨t.ia, t.inn, t.ic, t.ins, t.oa, t.on, t.oc, t.outs, t.op, none, 1, 0, [⟨z, S⟩]⟩
set_option linter.unusedSimpArgs false in
set_option maxRecDepth 100000 in
set_option maxHeartbeats 6400000 in
theorem txSigned_any {w : World} {t : PTx} {A : Option Addr} {cq : Nat} {z : Int} (ht : TxIn w t) (hf : FewTx t) (hff : FrontFew false t) (hk : KsAt w) (hq : Numbers w A 1 cq [z]) (hz : Fits z) :
    Calls Tryd.prog 36 #[.agg t.cells.toArray, .slice A 1 cq] w fun e w' => ∃ y : PTx, e = .returned (.agg y.cells.toArray) ∧ TxIn w' y ∧ y.strip = (signedP t z (txSum t)).strip ∧ NewTx w.heap.size y ∧ Below w.heap.size w w' := by
  obtain ⟨S, hS, hSl⟩ : ∃ S, txSum t = S ∧ S.length = 32 := ⟨_, rfl, txSum_len _⟩
  have hsum : ∀ W : World, Below w.heap.size w W → Calls Tryd.prog 17 #[.agg t.cells.toArray] W fun e w' => e = .returned (.agg (cellsOf S).toArray) ∧ Below W.heap.size W w' := fun W hW => by rw [← hS]; exact txSum_any (ht.below hW) (hk.below hW) hff
  have hcp := fun (W : World) (hW : Below w.heap.size w W) => txCopied_any (ht.below hW) hf
  rw [hS]
  have SS := Lib.hid (size_of hSl)
  have SSL := Lib.hid (sumLen hSl)
  have SZ : Hid ((cellsOf zero32).toArray.size = (cellsOf S).toArray.size) := Lib.hid (by rw [List.size_toArray, List.size_toArray, cellsOf_len, cellsOf_len, hSl]; exact zero32_len)
  have SXT := Lib.hid (tx_size (x := t) ht.op.root)
  have AXY : Hid (∀ y : PTx, y.op.root.length = 32 → (Tryd.prog.info? 50).map (·.size) = some y.cells.toArray.size) := Lib.hid (fun y h => tx_sizeA h)
  have HSL := Lib.hid hSl
  have HNQ := Lib.hid hq
  have HZ := Lib.hid hz
  clear hS hff hk hq hz hf ht hSl
  go_enter Tryd.func36, Tryd.ntmps36
  go_upto_region 1 with (first | (refine wpList_new rfl 50 rfl noTx.cells.toArray noTx15 ?_; intro r w2 hr hh hb; go_frame) | fail)
  have b0 : Below w.heap.size w (w.alloc (.cells t.cells.toArray 50)) := (Below.refl _ _).alloc (Nat.le_refl _) _
  have h1 := keep hb (heap_alloc_new w (.cells t.cells.toArray 50))
  have b2 := bthen b0 hb
  obtain ⟨g, hg⟩ : ∃ g, g = w.heap.size := ⟨_, rfl⟩
  rw [← hg] at h1 ⊢
  have hr0 : w.heap.size ≤ r := Nat.le_trans b0.size hr
  have RES : Hid (VarC w2 r 50 noTx.cells) := Lib.hid hh
  have HG1L := Lib.hid (lt_of_block hh)
  have HB2 := Lib.hid b2
  have V2 := Lib.hid h1
  have HSUM := Lib.hid (fun (W : World) (hW : Below w2.heap.size w2 W) => hsum W (bthen b2 hW))
  have HCP := Lib.hid (fun (W : World) (hW : Below w2.heap.size w2 W) => hcp W (bthen b2 hW))
  clear b0 h1 b2 hr hh hb hsum hcp hg
  go_cut [5, 6] from 11 to 14 (fun u v w' => ∃ (p5 p6 : Nat) (y : PTx), u = .pointer (some ⟨p5, 0, none⟩) ∧ v = .pointer (some ⟨p6, 0, none⟩) ∧ SgTx w r p5 p6 w'.heap.size y S w' ∧ y.strip = t.strip ∧ w.heap.size ≤ p6 ∧ r ≠ p6 ∧ (y.sa = none ∧ y.sn = 0 ∧ y.sc = 0 ∧ y.signs = []))
  case first =>
    try simp only [Act.put]
    refine wp_region_held_drew (S := fun w' => Below w2.heap.size w2 w') (by kernel_rfl) (below_drew (Below.refl _ _)) (fun hHeld => ?_)
    refine take_at (i := 0) rfl rfl (by kernel_rfl) (by kernel_rfl) (by kernel_rfl) (fun _ _ _ h => h) (yieldsIf_load_mid (by rfl) _ _ rfl g 0 rfl t.cells _ (fun w0 hSw => range_of (keep hSw V2.out)) Tryd.underlying50 rfl SXT.out) (by assumption) ?_
    simp only [List.setIfInBounds_toArray, List.set_cons_zero, List.set_cons_succ]
    refine take_at (i := 2) rfl rfl (by kernel_rfl) (by kernel_rfl) (by kernel_rfl) (fun _ _ _ h => h) (yieldsIf_load_mid (by rfl) _ _ rfl g 0 rfl t.cells _ (fun w0 hSw => range_of (keep hSw V2.out)) Tryd.underlying50 rfl SXT.out) (by assumption) ?_
    simp only [List.setIfInBounds_toArray, List.set_cons_zero, List.set_cons_succ]
    refine wpAnyH_ready (rs := [1, 4, 5]) (by kernel_rfl) (by simp) ?_
    refine AllReadyH.cons rfl (fun K hK => ?_) ?_
    · have HCx := Lib.hid (HSUM.out _ hHeld)
      go_simp
      go_wp2_with ((go_at_call 17; (with_reducible refine (HCx.out).mono ?_); rintro e y1 ⟨rfl, hb⟩; have HX := Lib.hid (bthen hHeld hb); clear hb HCx))
      refine hK.out _ _ (by (try dsimp only); exact HX.out) (fun hHeld => ?_)
      clear hK K
      refine wpAnyH_ready (rs := [3, 4, 5]) (by kernel_rfl) (by simp) ?_
      refine AllReadyH.cons rfl (fun K hK => ?_) ?_
      · have HCx := Lib.hid (HCP.out _ hHeld)
        go_simp
        go_wp2_with ((go_at_call 47; (with_reducible refine (HCx.out).mono ?_); rintro e y2 ⟨y, rfl, hty, hsy, hny, hsa, hsn, hsc, hss, hb⟩; have HNW : Hid (AllTx (w.heap.size ≤ ·) y) := Lib.hid (hny.mono fun b hb2 => by have h9 := HB2.out.size; have h8 := Below.size hHeld; omega); have HAG : Hid (AllTx (· ≠ r) y) := Lib.hid (hny.mono fun b hb2 => by have h9 := HG1L.out; have h8 := Below.size hHeld; omega); have HTY := Lib.hid hty; have HNY := Lib.hid hny; have HSY := Lib.hid hsy; have HSN := Lib.hid hsn; have HSA := Lib.hid (show y.sa = none ∧ y.sn = 0 ∧ y.sc = 0 ∧ y.signs = [] from ⟨hsa, hsn, hsc, hss⟩); have HX := Lib.hid (bthen hHeld hb); clear hty hny hsy hsn hsa hsc hss hb HCx))
        refine hK.out _ _ (by (try dsimp only); exact HX.out) (fun hHeld => ?_)
        clear hK K
        refine wpAnyH_ready (rs := [4, 5]) (by kernel_rfl) (by simp) ?_
        refine AllReadyH.cons rfl (fun K hK => ?_) ?_
        · refine step_alloc_of (d := 5) rfl (by rfl) 23 rfl (cellsOf zero32).toArray Tryd.zeroSum32 ?_
          intro p5 y3 hp5 hh5 hb
          have HA5 : Hid (AllTx (· ≠ p5) y) := Lib.hid (HTY.out.lt.mono fun b hb2 => by omega)
          have HTY := Lib.hid (HTY.out.below hb)
          have V5 : Hid (VarC y3 p5 23 (cellsOf zero32)) := Lib.hid hh5
          have P5 : Hid (w2.heap.size ≤ p5) := Lib.hid (Nat.le_trans (Below.size hHeld) hp5)
          have L5 := Lib.hid (lt_of_block hh5)
          have HX := Lib.hid (bthen hHeld hb)
          clear hb hh5 hp5
          refine hK.out _ _ (by (try dsimp only); exact HX.out) (fun hHeld => ?_)
          clear hK K
          refine wpAnyH_ready (rs := [5]) (by kernel_rfl) (by simp) ?_
          refine AllReadyH.cons rfl (fun K hK => ?_) ?_
          · refine step_alloc_of (d := 6) rfl (by rfl) 50 rfl noTx.cells.toArray Tryd.zeroTx160 ?_
            intro p6 y4 hp6 hh6 hb
            have HA6 : Hid (AllTx (· ≠ p6) y) := Lib.hid (HTY.out.lt.mono fun b hb2 => by omega)
            have HTY := Lib.hid (HTY.out.below hb); have V5 := Lib.hid (V5.out.below hb)
            have V6 : Hid (VarC y4 p6 50 noTx.cells) := Lib.hid hh6
            have P6 : Hid (w2.heap.size ≤ p6) := Lib.hid (Nat.le_trans (Below.size hHeld) hp6)
            have L6 := Lib.hid (lt_of_block hh6)
            have HX := Lib.hid (bthen hHeld hb)
            clear hb hh6 hp6
            refine hK.out _ _ (by (try dsimp only); exact HX.out) (fun hHeld => ?_)
            clear hK K
            refine wpAnyH_ready (rs := [6]) (by kernel_rfl) (by simp) ?_
            refine AllReadyH.cons rfl (fun K hK => ?_) ?_
            · refine step_store_row (by rfl) 23 _ _ rfl p5 (cellsOf S).toArray (by rfl) (by rfl) 23 (cellsOf zero32).toArray V5.out SS.out SZ.out (all_oneCell_toArray (cellsOf_one S)) ?_
              have hs := but_setRow y4 p5 (cellsOf S).toArray
              have V5b := Lib.hid (show VarC (y4.setRow p5 (cellsOf S).toArray) p5 23 (cellsOf S) from setRow_heap y4 p5 _ _ 23 _ V5.out)
              have V6b := Lib.hid (varC_other V6.out hs V5.out (by decide))
              have HTYb := Lib.hid (HTY.out.butAll HA5.out HSN.out hs)
              have HSS := Lib.hid ((hs.mono (Below.size hHeld)).below P5.out)
              clear hs
              revert V5b V6b HTYb HSS
              generalize World.setRow y4 _ _ = z6
              intro V5b V6b HTYb HSS
              refine hK.out _ _ (by (try dsimp only); exact Below.trans hHeld HSS.out) (fun hHeld => ?_)
              clear hK K
              refine wpAnyH_ready (rs := [7]) (by kernel_rfl) (by simp) ?_
              refine AllReadyH.cons rfl (fun K hK => ?_) ?_
              · refine step_store_row (by rfl) 50 _ _ rfl p6 y.cells.toArray (by rfl) (by rfl) 50 noTx.cells.toArray V6b.out (AXY.out y HTYb.out.op.root) (by have h9 := PTx.len HTYb.out.op.root; rw [List.size_toArray, List.size_toArray, h9]; rfl) (all_oneCell_toArray y.one) ?_
                have hs := but_setRow z6 p6 y.cells.toArray
                have V6c := Lib.hid (show VarC (z6.setRow p6 y.cells.toArray) p6 50 y.cells from setRow_heap z6 p6 _ _ 50 _ V6b.out)
                have V5c := Lib.hid (varC_other V5b.out hs V6b.out (by decide))
                have HTYc := Lib.hid (HTYb.out.butAll HA6.out HSN.out hs)
                have HST := Lib.hid ((hs.mono (Below.size hHeld)).below P6.out)
                clear hs
                revert V6c V5c HTYc HST
                generalize World.setRow z6 _ _ = z7
                intro V6c V5c HTYc HST
                refine hK.out _ _ (by (try dsimp only); exact Below.trans hHeld HST.out) (fun hHeld => ?_)
                clear hK K
                refine wpAnyH_done (by kernel_rfl) ?_ _
                have HFB := Lib.hid (show Below w2.heap.size w2 z7 from hHeld)
                clear hHeld
                have SGT : Hid (SgTx w r p5 p6 z7.heap.size y S z7) := Lib.hid ⟨VarC.below RES.out HFB.out, V5c.out, V6c.out, HTYc.out, HTYc.out.lt, HA6.out.and HAG.out, Nat.lt_of_lt_of_le HG1L.out HFB.out.size, V5c.out.lt, V6c.out.lt, HSN.out, Nat.le_refl _, bthen HB2.out HFB.out, HNW.out⟩
                go_wp2_with fail
                go_meet
                exact ⟨p5, p6, y, rfl, rfl, SGT.out, HSY.out, Nat.le_trans HB2.out.size P6.out, (by have h9 := P6.out; have h8 := HG1L.out; omega), HSA.out⟩
              exact AllReadyH.nil
            exact AllReadyH.nil
          exact AllReadyH.nil
        refine AllReadyH.cons rfl (fun K hK => ?_) ?_
        · refine step_alloc_of (d := 6) rfl (by rfl) 50 rfl noTx.cells.toArray Tryd.zeroTx160 ?_
          intro p6 y3 hp6 hh6 hb
          have HA6 : Hid (AllTx (· ≠ p6) y) := Lib.hid (HTY.out.lt.mono fun b hb2 => by omega)
          have HTY := Lib.hid (HTY.out.below hb)
          have V6 : Hid (VarC y3 p6 50 noTx.cells) := Lib.hid hh6
          have P6 : Hid (w2.heap.size ≤ p6) := Lib.hid (Nat.le_trans (Below.size hHeld) hp6)
          have L6 := Lib.hid (lt_of_block hh6)
          have HX := Lib.hid (bthen hHeld hb)
          clear hb hh6 hp6
          refine hK.out _ _ (by (try dsimp only); exact HX.out) (fun hHeld => ?_)
          clear hK K
          refine wpAnyH_ready (rs := [4]) (by kernel_rfl) (by simp) ?_
          refine AllReadyH.cons rfl (fun K hK => ?_) ?_
          · refine step_alloc_of (d := 5) rfl (by rfl) 23 rfl (cellsOf zero32).toArray Tryd.zeroSum32 ?_
            intro p5 y4 hp5 hh5 hb
            have HA5 : Hid (AllTx (· ≠ p5) y) := Lib.hid (HTY.out.lt.mono fun b hb2 => by omega)
            have HTY := Lib.hid (HTY.out.below hb); have V6 := Lib.hid (V6.out.below hb)
            have V5 : Hid (VarC y4 p5 23 (cellsOf zero32)) := Lib.hid hh5
            have P5 : Hid (w2.heap.size ≤ p5) := Lib.hid (Nat.le_trans (Below.size hHeld) hp5)
            have L5 := Lib.hid (lt_of_block hh5)
            have HX := Lib.hid (bthen hHeld hb)
            clear hb hh5 hp5
            refine hK.out _ _ (by (try dsimp only); exact HX.out) (fun hHeld => ?_)
            clear hK K
            refine wpAnyH_ready (rs := [6]) (by kernel_rfl) (by simp) ?_
            refine AllReadyH.cons rfl (fun K hK => ?_) ?_
            · refine step_store_row (by rfl) 23 _ _ rfl p5 (cellsOf S).toArray (by rfl) (by rfl) 23 (cellsOf zero32).toArray V5.out SS.out SZ.out (all_oneCell_toArray (cellsOf_one S)) ?_
              have hs := but_setRow y4 p5 (cellsOf S).toArray
              have V5b := Lib.hid (show VarC (y4.setRow p5 (cellsOf S).toArray) p5 23 (cellsOf S) from setRow_heap y4 p5 _ _ 23 _ V5.out)
              have V6b := Lib.hid (varC_other V6.out hs V5.out (by decide))
              have HTYb := Lib.hid (HTY.out.butAll HA5.out HSN.out hs)
              have HSS := Lib.hid ((hs.mono (Below.size hHeld)).below P5.out)
              clear hs
              revert V5b V6b HTYb HSS
              generalize World.setRow y4 _ _ = z6
              intro V5b V6b HTYb HSS
              refine hK.out _ _ (by (try dsimp only); exact Below.trans hHeld HSS.out) (fun hHeld => ?_)
              clear hK K
              refine wpAnyH_ready (rs := [7]) (by kernel_rfl) (by simp) ?_
              refine AllReadyH.cons rfl (fun K hK => ?_) ?_
              · refine step_store_row (by rfl) 50 _ _ rfl p6 y.cells.toArray (by rfl) (by rfl) 50 noTx.cells.toArray V6b.out (AXY.out y HTYb.out.op.root) (by have h9 := PTx.len HTYb.out.op.root; rw [List.size_toArray, List.size_toArray, h9]; rfl) (all_oneCell_toArray y.one) ?_
                have hs := but_setRow z6 p6 y.cells.toArray
                have V6c := Lib.hid (show VarC (z6.setRow p6 y.cells.toArray) p6 50 y.cells from setRow_heap z6 p6 _ _ 50 _ V6b.out)
                have V5c := Lib.hid (varC_other V5b.out hs V6b.out (by decide))
                have HTYc := Lib.hid (HTYb.out.butAll HA6.out HSN.out hs)
                have HST := Lib.hid ((hs.mono (Below.size hHeld)).below P6.out)
                clear hs
                revert V6c V5c HTYc HST
                generalize World.setRow z6 _ _ = z7
                intro V6c V5c HTYc HST
                refine hK.out _ _ (by (try dsimp only); exact Below.trans hHeld HST.out) (fun hHeld => ?_)
                clear hK K
                refine wpAnyH_done (by kernel_rfl) ?_ _
                have HFB := Lib.hid (show Below w2.heap.size w2 z7 from hHeld)
                clear hHeld
                have SGT : Hid (SgTx w r p5 p6 z7.heap.size y S z7) := Lib.hid ⟨VarC.below RES.out HFB.out, V5c.out, V6c.out, HTYc.out, HTYc.out.lt, HA6.out.and HAG.out, Nat.lt_of_lt_of_le HG1L.out HFB.out.size, V5c.out.lt, V6c.out.lt, HSN.out, Nat.le_refl _, bthen HB2.out HFB.out, HNW.out⟩
                go_wp2_with fail
                go_meet
                exact ⟨p5, p6, y, rfl, rfl, SGT.out, HSY.out, Nat.le_trans HB2.out.size P6.out, (by have h9 := P6.out; have h8 := HG1L.out; omega), HSA.out⟩
              exact AllReadyH.nil
            exact AllReadyH.nil
          exact AllReadyH.nil
        exact AllReadyH.nil
      refine AllReadyH.cons rfl (fun K hK => ?_) ?_
      · refine step_alloc_of (d := 5) rfl (by rfl) 23 rfl (cellsOf zero32).toArray Tryd.zeroSum32 ?_
        intro p5 y2 hp5 hh5 hb
        have V5 : Hid (VarC y2 p5 23 (cellsOf zero32)) := Lib.hid hh5
        have P5 : Hid (w2.heap.size ≤ p5) := Lib.hid (Nat.le_trans (Below.size hHeld) hp5)
        have L5 := Lib.hid (lt_of_block hh5)
        have HX := Lib.hid (bthen hHeld hb)
        clear hb hh5 hp5
        refine hK.out _ _ (by (try dsimp only); exact HX.out) (fun hHeld => ?_)
        clear hK K
        refine wpAnyH_ready (rs := [3, 5]) (by kernel_rfl) (by simp) ?_
        refine AllReadyH.cons rfl (fun K hK => ?_) ?_
        · have HCx := Lib.hid (HCP.out _ hHeld)
          go_simp
          go_wp2_with ((go_at_call 47; (with_reducible refine (HCx.out).mono ?_); rintro e y3 ⟨y, rfl, hty, hsy, hny, hsa, hsn, hsc, hss, hb⟩; have LV5 := Lib.hid V5.out.lt; have HNW : Hid (AllTx (w.heap.size ≤ ·) y) := Lib.hid (hny.mono fun b hb2 => by have h9 := HB2.out.size; have h8 := Below.size hHeld; omega); have HAG : Hid (AllTx (· ≠ r) y) := Lib.hid (hny.mono fun b hb2 => by have h9 := HG1L.out; have h8 := Below.size hHeld; omega); have HA5 : Hid (AllTx (· ≠ p5) y) := Lib.hid (hny.mono fun b hb2 => by have h9 := LV5.out; omega); have HTY := Lib.hid hty; have HNY := Lib.hid hny; have HSY := Lib.hid hsy; have HSN := Lib.hid hsn; have HSA := Lib.hid (show y.sa = none ∧ y.sn = 0 ∧ y.sc = 0 ∧ y.signs = [] from ⟨hsa, hsn, hsc, hss⟩); have V5 := Lib.hid (V5.out.below hb); have HX := Lib.hid (bthen hHeld hb); clear hty hny hsy hsn hsa hsc hss hb HCx))
          refine hK.out _ _ (by (try dsimp only); exact HX.out) (fun hHeld => ?_)
          clear hK K
          refine wpAnyH_ready (rs := [5]) (by kernel_rfl) (by simp) ?_
          refine AllReadyH.cons rfl (fun K hK => ?_) ?_
          · refine step_alloc_of (d := 6) rfl (by rfl) 50 rfl noTx.cells.toArray Tryd.zeroTx160 ?_
            intro p6 y4 hp6 hh6 hb
            have HA6 : Hid (AllTx (· ≠ p6) y) := Lib.hid (HTY.out.lt.mono fun b hb2 => by omega)
            have V5 := Lib.hid (V5.out.below hb); have HTY := Lib.hid (HTY.out.below hb)
            have V6 : Hid (VarC y4 p6 50 noTx.cells) := Lib.hid hh6
            have P6 : Hid (w2.heap.size ≤ p6) := Lib.hid (Nat.le_trans (Below.size hHeld) hp6)
            have L6 := Lib.hid (lt_of_block hh6)
            have HX := Lib.hid (bthen hHeld hb)
            clear hb hh6 hp6
            refine hK.out _ _ (by (try dsimp only); exact HX.out) (fun hHeld => ?_)
            clear hK K
            refine wpAnyH_ready (rs := [6]) (by kernel_rfl) (by simp) ?_
            refine AllReadyH.cons rfl (fun K hK => ?_) ?_
            · refine step_store_row (by rfl) 23 _ _ rfl p5 (cellsOf S).toArray (by rfl) (by rfl) 23 (cellsOf zero32).toArray V5.out SS.out SZ.out (all_oneCell_toArray (cellsOf_one S)) ?_
              have hs := but_setRow y4 p5 (cellsOf S).toArray
              have V5b := Lib.hid (show VarC (y4.setRow p5 (cellsOf S).toArray) p5 23 (cellsOf S) from setRow_heap y4 p5 _ _ 23 _ V5.out)
              have V6b := Lib.hid (varC_other V6.out hs V5.out (by decide))
              have HTYb := Lib.hid (HTY.out.butAll HA5.out HSN.out hs)
              have HSS := Lib.hid ((hs.mono (Below.size hHeld)).below P5.out)
              clear hs
              revert V5b V6b HTYb HSS
              generalize World.setRow y4 _ _ = z6
              intro V5b V6b HTYb HSS
              refine hK.out _ _ (by (try dsimp only); exact Below.trans hHeld HSS.out) (fun hHeld => ?_)
              clear hK K
              refine wpAnyH_ready (rs := [7]) (by kernel_rfl) (by simp) ?_
              refine AllReadyH.cons rfl (fun K hK => ?_) ?_
              · refine step_store_row (by rfl) 50 _ _ rfl p6 y.cells.toArray (by rfl) (by rfl) 50 noTx.cells.toArray V6b.out (AXY.out y HTYb.out.op.root) (by have h9 := PTx.len HTYb.out.op.root; rw [List.size_toArray, List.size_toArray, h9]; rfl) (all_oneCell_toArray y.one) ?_
                have hs := but_setRow z6 p6 y.cells.toArray
                have V6c := Lib.hid (show VarC (z6.setRow p6 y.cells.toArray) p6 50 y.cells from setRow_heap z6 p6 _ _ 50 _ V6b.out)
                have V5c := Lib.hid (varC_other V5b.out hs V6b.out (by decide))
                have HTYc := Lib.hid (HTYb.out.butAll HA6.out HSN.out hs)
                have HST := Lib.hid ((hs.mono (Below.size hHeld)).below P6.out)
                clear hs
                revert V6c V5c HTYc HST
                generalize World.setRow z6 _ _ = z7
                intro V6c V5c HTYc HST
                refine hK.out _ _ (by (try dsimp only); exact Below.trans hHeld HST.out) (fun hHeld => ?_)
                clear hK K
                refine wpAnyH_done (by kernel_rfl) ?_ _
                have HFB := Lib.hid (show Below w2.heap.size w2 z7 from hHeld)
                clear hHeld
                have SGT : Hid (SgTx w r p5 p6 z7.heap.size y S z7) := Lib.hid ⟨VarC.below RES.out HFB.out, V5c.out, V6c.out, HTYc.out, HTYc.out.lt, HA6.out.and HAG.out, Nat.lt_of_lt_of_le HG1L.out HFB.out.size, V5c.out.lt, V6c.out.lt, HSN.out, Nat.le_refl _, bthen HB2.out HFB.out, HNW.out⟩
                go_wp2_with fail
                go_meet
                exact ⟨p5, p6, y, rfl, rfl, SGT.out, HSY.out, Nat.le_trans HB2.out.size P6.out, (by have h9 := P6.out; have h8 := HG1L.out; omega), HSA.out⟩
              exact AllReadyH.nil
            exact AllReadyH.nil
          exact AllReadyH.nil
        refine AllReadyH.cons rfl (fun K hK => ?_) ?_
        · refine step_alloc_of (d := 6) rfl (by rfl) 50 rfl noTx.cells.toArray Tryd.zeroTx160 ?_
          intro p6 y3 hp6 hh6 hb
          have V5 := Lib.hid (V5.out.below hb)
          have V6 : Hid (VarC y3 p6 50 noTx.cells) := Lib.hid hh6
          have P6 : Hid (w2.heap.size ≤ p6) := Lib.hid (Nat.le_trans (Below.size hHeld) hp6)
          have L6 := Lib.hid (lt_of_block hh6)
          have HX := Lib.hid (bthen hHeld hb)
          clear hb hh6 hp6
          refine hK.out _ _ (by (try dsimp only); exact HX.out) (fun hHeld => ?_)
          clear hK K
          refine wpAnyH_ready (rs := [3]) (by kernel_rfl) (by simp) ?_
          refine AllReadyH.cons rfl (fun K hK => ?_) ?_
          · have HCx := Lib.hid (HCP.out _ hHeld)
            go_simp
            go_wp2_with ((go_at_call 47; (with_reducible refine (HCx.out).mono ?_); rintro e y4 ⟨y, rfl, hty, hsy, hny, hsa, hsn, hsc, hss, hb⟩; have LV5 := Lib.hid V5.out.lt; have LV6 := Lib.hid V6.out.lt; have HNW : Hid (AllTx (w.heap.size ≤ ·) y) := Lib.hid (hny.mono fun b hb2 => by have h9 := HB2.out.size; have h8 := Below.size hHeld; omega); have HAG : Hid (AllTx (· ≠ r) y) := Lib.hid (hny.mono fun b hb2 => by have h9 := HG1L.out; have h8 := Below.size hHeld; omega); have HA5 : Hid (AllTx (· ≠ p5) y) := Lib.hid (hny.mono fun b hb2 => by have h9 := LV5.out; omega); have HA6 : Hid (AllTx (· ≠ p6) y) := Lib.hid (hny.mono fun b hb2 => by have h9 := LV6.out; omega); have HTY := Lib.hid hty; have HNY := Lib.hid hny; have HSY := Lib.hid hsy; have HSN := Lib.hid hsn; have HSA := Lib.hid (show y.sa = none ∧ y.sn = 0 ∧ y.sc = 0 ∧ y.signs = [] from ⟨hsa, hsn, hsc, hss⟩); have V5 := Lib.hid (V5.out.below hb); have V6 := Lib.hid (V6.out.below hb); have HX := Lib.hid (bthen hHeld hb); clear hty hny hsy hsn hsa hsc hss hb HCx))
            refine hK.out _ _ (by (try dsimp only); exact HX.out) (fun hHeld => ?_)
            clear hK K
            refine wpAnyH_ready (rs := [6]) (by kernel_rfl) (by simp) ?_
            refine AllReadyH.cons rfl (fun K hK => ?_) ?_
            · refine step_store_row (by rfl) 23 _ _ rfl p5 (cellsOf S).toArray (by rfl) (by rfl) 23 (cellsOf zero32).toArray V5.out SS.out SZ.out (all_oneCell_toArray (cellsOf_one S)) ?_
              have hs := but_setRow y4 p5 (cellsOf S).toArray
              have V5b := Lib.hid (show VarC (y4.setRow p5 (cellsOf S).toArray) p5 23 (cellsOf S) from setRow_heap y4 p5 _ _ 23 _ V5.out)
              have V6b := Lib.hid (varC_other V6.out hs V5.out (by decide))
              have HTYb := Lib.hid (HTY.out.butAll HA5.out HSN.out hs)
              have HSS := Lib.hid ((hs.mono (Below.size hHeld)).below P5.out)
              clear hs
              revert V5b V6b HTYb HSS
              generalize World.setRow y4 _ _ = z6
              intro V5b V6b HTYb HSS
              refine hK.out _ _ (by (try dsimp only); exact Below.trans hHeld HSS.out) (fun hHeld => ?_)
              clear hK K
              refine wpAnyH_ready (rs := [7]) (by kernel_rfl) (by simp) ?_
              refine AllReadyH.cons rfl (fun K hK => ?_) ?_
              · refine step_store_row (by rfl) 50 _ _ rfl p6 y.cells.toArray (by rfl) (by rfl) 50 noTx.cells.toArray V6b.out (AXY.out y HTYb.out.op.root) (by have h9 := PTx.len HTYb.out.op.root; rw [List.size_toArray, List.size_toArray, h9]; rfl) (all_oneCell_toArray y.one) ?_
                have hs := but_setRow z6 p6 y.cells.toArray
                have V6c := Lib.hid (show VarC (z6.setRow p6 y.cells.toArray) p6 50 y.cells from setRow_heap z6 p6 _ _ 50 _ V6b.out)
                have V5c := Lib.hid (varC_other V5b.out hs V6b.out (by decide))
                have HTYc := Lib.hid (HTYb.out.butAll HA6.out HSN.out hs)
                have HST := Lib.hid ((hs.mono (Below.size hHeld)).below P6.out)
                clear hs
                revert V6c V5c HTYc HST
                generalize World.setRow z6 _ _ = z7
                intro V6c V5c HTYc HST
                refine hK.out _ _ (by (try dsimp only); exact Below.trans hHeld HST.out) (fun hHeld => ?_)
                clear hK K
                refine wpAnyH_done (by kernel_rfl) ?_ _
                have HFB := Lib.hid (show Below w2.heap.size w2 z7 from hHeld)
                clear hHeld
                have SGT : Hid (SgTx w r p5 p6 z7.heap.size y S z7) := Lib.hid ⟨VarC.below RES.out HFB.out, V5c.out, V6c.out, HTYc.out, HTYc.out.lt, HA6.out.and HAG.out, Nat.lt_of_lt_of_le HG1L.out HFB.out.size, V5c.out.lt, V6c.out.lt, HSN.out, Nat.le_refl _, bthen HB2.out HFB.out, HNW.out⟩
                go_wp2_with fail
                go_meet
                exact ⟨p5, p6, y, rfl, rfl, SGT.out, HSY.out, Nat.le_trans HB2.out.size P6.out, (by have h9 := P6.out; have h8 := HG1L.out; omega), HSA.out⟩
              exact AllReadyH.nil
            exact AllReadyH.nil
          exact AllReadyH.nil
        exact AllReadyH.nil
      refine AllReadyH.cons rfl (fun K hK => ?_) ?_
      · refine step_alloc_of (d := 6) rfl (by rfl) 50 rfl noTx.cells.toArray Tryd.zeroTx160 ?_
        intro p6 y2 hp6 hh6 hb
        have V6 : Hid (VarC y2 p6 50 noTx.cells) := Lib.hid hh6
        have P6 : Hid (w2.heap.size ≤ p6) := Lib.hid (Nat.le_trans (Below.size hHeld) hp6)
        have L6 := Lib.hid (lt_of_block hh6)
        have HX := Lib.hid (bthen hHeld hb)
        clear hb hh6 hp6
        refine hK.out _ _ (by (try dsimp only); exact HX.out) (fun hHeld => ?_)
        clear hK K
        refine wpAnyH_ready (rs := [3, 4]) (by kernel_rfl) (by simp) ?_
        refine AllReadyH.cons rfl (fun K hK => ?_) ?_
        · have HCx := Lib.hid (HCP.out _ hHeld)
          go_simp
          go_wp2_with ((go_at_call 47; (with_reducible refine (HCx.out).mono ?_); rintro e y3 ⟨y, rfl, hty, hsy, hny, hsa, hsn, hsc, hss, hb⟩; have LV6 := Lib.hid V6.out.lt; have HNW : Hid (AllTx (w.heap.size ≤ ·) y) := Lib.hid (hny.mono fun b hb2 => by have h9 := HB2.out.size; have h8 := Below.size hHeld; omega); have HAG : Hid (AllTx (· ≠ r) y) := Lib.hid (hny.mono fun b hb2 => by have h9 := HG1L.out; have h8 := Below.size hHeld; omega); have HA6 : Hid (AllTx (· ≠ p6) y) := Lib.hid (hny.mono fun b hb2 => by have h9 := LV6.out; omega); have HTY := Lib.hid hty; have HNY := Lib.hid hny; have HSY := Lib.hid hsy; have HSN := Lib.hid hsn; have HSA := Lib.hid (show y.sa = none ∧ y.sn = 0 ∧ y.sc = 0 ∧ y.signs = [] from ⟨hsa, hsn, hsc, hss⟩); have V6 := Lib.hid (V6.out.below hb); have HX := Lib.hid (bthen hHeld hb); clear hty hny hsy hsn hsa hsc hss hb HCx))
          refine hK.out _ _ (by (try dsimp only); exact HX.out) (fun hHeld => ?_)
          clear hK K
          refine wpAnyH_ready (rs := [4]) (by kernel_rfl) (by simp) ?_
          refine AllReadyH.cons rfl (fun K hK => ?_) ?_
          · refine step_alloc_of (d := 5) rfl (by rfl) 23 rfl (cellsOf zero32).toArray Tryd.zeroSum32 ?_
            intro p5 y4 hp5 hh5 hb
            have HA5 : Hid (AllTx (· ≠ p5) y) := Lib.hid (HTY.out.lt.mono fun b hb2 => by omega)
            have V6 := Lib.hid (V6.out.below hb); have HTY := Lib.hid (HTY.out.below hb)
            have V5 : Hid (VarC y4 p5 23 (cellsOf zero32)) := Lib.hid hh5
            have P5 : Hid (w2.heap.size ≤ p5) := Lib.hid (Nat.le_trans (Below.size hHeld) hp5)
            have L5 := Lib.hid (lt_of_block hh5)
            have HX := Lib.hid (bthen hHeld hb)
            clear hb hh5 hp5
            refine hK.out _ _ (by (try dsimp only); exact HX.out) (fun hHeld => ?_)
            clear hK K
            refine wpAnyH_ready (rs := [6]) (by kernel_rfl) (by simp) ?_
            refine AllReadyH.cons rfl (fun K hK => ?_) ?_
            · refine step_store_row (by rfl) 23 _ _ rfl p5 (cellsOf S).toArray (by rfl) (by rfl) 23 (cellsOf zero32).toArray V5.out SS.out SZ.out (all_oneCell_toArray (cellsOf_one S)) ?_
              have hs := but_setRow y4 p5 (cellsOf S).toArray
              have V5b := Lib.hid (show VarC (y4.setRow p5 (cellsOf S).toArray) p5 23 (cellsOf S) from setRow_heap y4 p5 _ _ 23 _ V5.out)
              have V6b := Lib.hid (varC_other V6.out hs V5.out (by decide))
              have HTYb := Lib.hid (HTY.out.butAll HA5.out HSN.out hs)
              have HSS := Lib.hid ((hs.mono (Below.size hHeld)).below P5.out)
              clear hs
              revert V5b V6b HTYb HSS
              generalize World.setRow y4 _ _ = z6
              intro V5b V6b HTYb HSS
              refine hK.out _ _ (by (try dsimp only); exact Below.trans hHeld HSS.out) (fun hHeld => ?_)
              clear hK K
              refine wpAnyH_ready (rs := [7]) (by kernel_rfl) (by simp) ?_
              refine AllReadyH.cons rfl (fun K hK => ?_) ?_
              · refine step_store_row (by rfl) 50 _ _ rfl p6 y.cells.toArray (by rfl) (by rfl) 50 noTx.cells.toArray V6b.out (AXY.out y HTYb.out.op.root) (by have h9 := PTx.len HTYb.out.op.root; rw [List.size_toArray, List.size_toArray, h9]; rfl) (all_oneCell_toArray y.one) ?_
                have hs := but_setRow z6 p6 y.cells.toArray
                have V6c := Lib.hid (show VarC (z6.setRow p6 y.cells.toArray) p6 50 y.cells from setRow_heap z6 p6 _ _ 50 _ V6b.out)
                have V5c := Lib.hid (varC_other V5b.out hs V6b.out (by decide))
                have HTYc := Lib.hid (HTYb.out.butAll HA6.out HSN.out hs)
                have HST := Lib.hid ((hs.mono (Below.size hHeld)).below P6.out)
                clear hs
                revert V6c V5c HTYc HST
                generalize World.setRow z6 _ _ = z7
                intro V6c V5c HTYc HST
                refine hK.out _ _ (by (try dsimp only); exact Below.trans hHeld HST.out) (fun hHeld => ?_)
                clear hK K
                refine wpAnyH_done (by kernel_rfl) ?_ _
                have HFB := Lib.hid (show Below w2.heap.size w2 z7 from hHeld)
                clear hHeld
                have SGT : Hid (SgTx w r p5 p6 z7.heap.size y S z7) := Lib.hid ⟨VarC.below RES.out HFB.out, V5c.out, V6c.out, HTYc.out, HTYc.out.lt, HA6.out.and HAG.out, Nat.lt_of_lt_of_le HG1L.out HFB.out.size, V5c.out.lt, V6c.out.lt, HSN.out, Nat.le_refl _, bthen HB2.out HFB.out, HNW.out⟩
                go_wp2_with fail
                go_meet
                exact ⟨p5, p6, y, rfl, rfl, SGT.out, HSY.out, Nat.le_trans HB2.out.size P6.out, (by have h9 := P6.out; have h8 := HG1L.out; omega), HSA.out⟩
              exact AllReadyH.nil
            exact AllReadyH.nil
          exact AllReadyH.nil
        refine AllReadyH.cons rfl (fun K hK => ?_) ?_
        · refine step_alloc_of (d := 5) rfl (by rfl) 23 rfl (cellsOf zero32).toArray Tryd.zeroSum32 ?_
          intro p5 y3 hp5 hh5 hb
          have V6 := Lib.hid (V6.out.below hb)
          have V5 : Hid (VarC y3 p5 23 (cellsOf zero32)) := Lib.hid hh5
          have P5 : Hid (w2.heap.size ≤ p5) := Lib.hid (Nat.le_trans (Below.size hHeld) hp5)
          have L5 := Lib.hid (lt_of_block hh5)
          have HX := Lib.hid (bthen hHeld hb)
          clear hb hh5 hp5
          refine hK.out _ _ (by (try dsimp only); exact HX.out) (fun hHeld => ?_)
          clear hK K
          refine wpAnyH_ready (rs := [3]) (by kernel_rfl) (by simp) ?_
          refine AllReadyH.cons rfl (fun K hK => ?_) ?_
          · have HCx := Lib.hid (HCP.out _ hHeld)
            go_simp
            go_wp2_with ((go_at_call 47; (with_reducible refine (HCx.out).mono ?_); rintro e y4 ⟨y, rfl, hty, hsy, hny, hsa, hsn, hsc, hss, hb⟩; have LV6 := Lib.hid V6.out.lt; have LV5 := Lib.hid V5.out.lt; have HNW : Hid (AllTx (w.heap.size ≤ ·) y) := Lib.hid (hny.mono fun b hb2 => by have h9 := HB2.out.size; have h8 := Below.size hHeld; omega); have HAG : Hid (AllTx (· ≠ r) y) := Lib.hid (hny.mono fun b hb2 => by have h9 := HG1L.out; have h8 := Below.size hHeld; omega); have HA5 : Hid (AllTx (· ≠ p5) y) := Lib.hid (hny.mono fun b hb2 => by have h9 := LV5.out; omega); have HA6 : Hid (AllTx (· ≠ p6) y) := Lib.hid (hny.mono fun b hb2 => by have h9 := LV6.out; omega); have HTY := Lib.hid hty; have HNY := Lib.hid hny; have HSY := Lib.hid hsy; have HSN := Lib.hid hsn; have HSA := Lib.hid (show y.sa = none ∧ y.sn = 0 ∧ y.sc = 0 ∧ y.signs = [] from ⟨hsa, hsn, hsc, hss⟩); have V6 := Lib.hid (V6.out.below hb); have V5 := Lib.hid (V5.out.below hb); have HX := Lib.hid (bthen hHeld hb); clear hty hny hsy hsn hsa hsc hss hb HCx))
            refine hK.out _ _ (by (try dsimp only); exact HX.out) (fun hHeld => ?_)
            clear hK K
            refine wpAnyH_ready (rs := [6]) (by kernel_rfl) (by simp) ?_
            refine AllReadyH.cons rfl (fun K hK => ?_) ?_
            · refine step_store_row (by rfl) 23 _ _ rfl p5 (cellsOf S).toArray (by rfl) (by rfl) 23 (cellsOf zero32).toArray V5.out SS.out SZ.out (all_oneCell_toArray (cellsOf_one S)) ?_
              have hs := but_setRow y4 p5 (cellsOf S).toArray
              have V5b := Lib.hid (show VarC (y4.setRow p5 (cellsOf S).toArray) p5 23 (cellsOf S) from setRow_heap y4 p5 _ _ 23 _ V5.out)
              have V6b := Lib.hid (varC_other V6.out hs V5.out (by decide))
              have HTYb := Lib.hid (HTY.out.butAll HA5.out HSN.out hs)
              have HSS := Lib.hid ((hs.mono (Below.size hHeld)).below P5.out)
              clear hs
              revert V5b V6b HTYb HSS
              generalize World.setRow y4 _ _ = z6
              intro V5b V6b HTYb HSS
              refine hK.out _ _ (by (try dsimp only); exact Below.trans hHeld HSS.out) (fun hHeld => ?_)
              clear hK K
              refine wpAnyH_ready (rs := [7]) (by kernel_rfl) (by simp) ?_
              refine AllReadyH.cons rfl (fun K hK => ?_) ?_
              · refine step_store_row (by rfl) 50 _ _ rfl p6 y.cells.toArray (by rfl) (by rfl) 50 noTx.cells.toArray V6b.out (AXY.out y HTYb.out.op.root) (by have h9 := PTx.len HTYb.out.op.root; rw [List.size_toArray, List.size_toArray, h9]; rfl) (all_oneCell_toArray y.one) ?_
                have hs := but_setRow z6 p6 y.cells.toArray
                have V6c := Lib.hid (show VarC (z6.setRow p6 y.cells.toArray) p6 50 y.cells from setRow_heap z6 p6 _ _ 50 _ V6b.out)
                have V5c := Lib.hid (varC_other V5b.out hs V6b.out (by decide))
                have HTYc := Lib.hid (HTYb.out.butAll HA6.out HSN.out hs)
                have HST := Lib.hid ((hs.mono (Below.size hHeld)).below P6.out)
                clear hs
                revert V6c V5c HTYc HST
                generalize World.setRow z6 _ _ = z7
                intro V6c V5c HTYc HST
                refine hK.out _ _ (by (try dsimp only); exact Below.trans hHeld HST.out) (fun hHeld => ?_)
                clear hK K
                refine wpAnyH_done (by kernel_rfl) ?_ _
                have HFB := Lib.hid (show Below w2.heap.size w2 z7 from hHeld)
                clear hHeld
                have SGT : Hid (SgTx w r p5 p6 z7.heap.size y S z7) := Lib.hid ⟨VarC.below RES.out HFB.out, V5c.out, V6c.out, HTYc.out, HTYc.out.lt, HA6.out.and HAG.out, Nat.lt_of_lt_of_le HG1L.out HFB.out.size, V5c.out.lt, V6c.out.lt, HSN.out, Nat.le_refl _, bthen HB2.out HFB.out, HNW.out⟩
                go_wp2_with fail
                go_meet
                exact ⟨p5, p6, y, rfl, rfl, SGT.out, HSY.out, Nat.le_trans HB2.out.size P6.out, (by have h9 := P6.out; have h8 := HG1L.out; omega), HSA.out⟩
              exact AllReadyH.nil
            exact AllReadyH.nil
          exact AllReadyH.nil
        exact AllReadyH.nil
      exact AllReadyH.nil
    refine AllReadyH.cons rfl (fun K hK => ?_) ?_
    · refine step_alloc_of (d := 5) rfl (by rfl) 23 rfl (cellsOf zero32).toArray Tryd.zeroSum32 ?_
      intro p5 y1 hp5 hh5 hb
      have V5 : Hid (VarC y1 p5 23 (cellsOf zero32)) := Lib.hid hh5
      have P5 : Hid (w2.heap.size ≤ p5) := Lib.hid (Nat.le_trans (Below.size hHeld) hp5)
      have L5 := Lib.hid (lt_of_block hh5)
      have HX := Lib.hid (bthen hHeld hb)
      clear hb hh5 hp5
      refine hK.out _ _ (by (try dsimp only); exact HX.out) (fun hHeld => ?_)
      clear hK K
      refine wpAnyH_ready (rs := [1, 5]) (by kernel_rfl) (by simp) ?_
      refine AllReadyH.cons rfl (fun K hK => ?_) ?_
      · have HCx := Lib.hid (HSUM.out _ hHeld)
        go_simp
        go_wp2_with ((go_at_call 17; (with_reducible refine (HCx.out).mono ?_); rintro e y2 ⟨rfl, hb⟩; have V5 := Lib.hid (V5.out.below hb); have HX := Lib.hid (bthen hHeld hb); clear hb HCx))
        refine hK.out _ _ (by (try dsimp only); exact HX.out) (fun hHeld => ?_)
        clear hK K
        refine wpAnyH_ready (rs := [3, 5]) (by kernel_rfl) (by simp) ?_
        refine AllReadyH.cons rfl (fun K hK => ?_) ?_
        · have HCx := Lib.hid (HCP.out _ hHeld)
          go_simp
          go_wp2_with ((go_at_call 47; (with_reducible refine (HCx.out).mono ?_); rintro e y3 ⟨y, rfl, hty, hsy, hny, hsa, hsn, hsc, hss, hb⟩; have LV5 := Lib.hid V5.out.lt; have HNW : Hid (AllTx (w.heap.size ≤ ·) y) := Lib.hid (hny.mono fun b hb2 => by have h9 := HB2.out.size; have h8 := Below.size hHeld; omega); have HAG : Hid (AllTx (· ≠ r) y) := Lib.hid (hny.mono fun b hb2 => by have h9 := HG1L.out; have h8 := Below.size hHeld; omega); have HA5 : Hid (AllTx (· ≠ p5) y) := Lib.hid (hny.mono fun b hb2 => by have h9 := LV5.out; omega); have HTY := Lib.hid hty; have HNY := Lib.hid hny; have HSY := Lib.hid hsy; have HSN := Lib.hid hsn; have HSA := Lib.hid (show y.sa = none ∧ y.sn = 0 ∧ y.sc = 0 ∧ y.signs = [] from ⟨hsa, hsn, hsc, hss⟩); have V5 := Lib.hid (V5.out.below hb); have HX := Lib.hid (bthen hHeld hb); clear hty hny hsy hsn hsa hsc hss hb HCx))
          refine hK.out _ _ (by (try dsimp only); exact HX.out) (fun hHeld => ?_)
          clear hK K
          refine wpAnyH_ready (rs := [5]) (by kernel_rfl) (by simp) ?_
          refine AllReadyH.cons rfl (fun K hK => ?_) ?_
          · refine step_alloc_of (d := 6) rfl (by rfl) 50 rfl noTx.cells.toArray Tryd.zeroTx160 ?_
            intro p6 y4 hp6 hh6 hb
            have HA6 : Hid (AllTx (· ≠ p6) y) := Lib.hid (HTY.out.lt.mono fun b hb2 => by omega)
            have V5 := Lib.hid (V5.out.below hb); have HTY := Lib.hid (HTY.out.below hb)
            have V6 : Hid (VarC y4 p6 50 noTx.cells) := Lib.hid hh6
            have P6 : Hid (w2.heap.size ≤ p6) := Lib.hid (Nat.le_trans (Below.size hHeld) hp6)
            have L6 := Lib.hid (lt_of_block hh6)
            have HX := Lib.hid (bthen hHeld hb)
            clear hb hh6 hp6
            refine hK.out _ _ (by (try dsimp only); exact HX.out) (fun hHeld => ?_)
            clear hK K
            refine wpAnyH_ready (rs := [6]) (by kernel_rfl) (by simp) ?_
            refine AllReadyH.cons rfl (fun K hK => ?_) ?_
            · refine step_store_row (by rfl) 23 _ _ rfl p5 (cellsOf S).toArray (by rfl) (by rfl) 23 (cellsOf zero32).toArray V5.out SS.out SZ.out (all_oneCell_toArray (cellsOf_one S)) ?_
              have hs := but_setRow y4 p5 (cellsOf S).toArray
              have V5b := Lib.hid (show VarC (y4.setRow p5 (cellsOf S).toArray) p5 23 (cellsOf S) from setRow_heap y4 p5 _ _ 23 _ V5.out)
              have V6b := Lib.hid (varC_other V6.out hs V5.out (by decide))
              have HTYb := Lib.hid (HTY.out.butAll HA5.out HSN.out hs)
              have HSS := Lib.hid ((hs.mono (Below.size hHeld)).below P5.out)
              clear hs
              revert V5b V6b HTYb HSS
              generalize World.setRow y4 _ _ = z6
              intro V5b V6b HTYb HSS
              refine hK.out _ _ (by (try dsimp only); exact Below.trans hHeld HSS.out) (fun hHeld => ?_)
              clear hK K
              refine wpAnyH_ready (rs := [7]) (by kernel_rfl) (by simp) ?_
              refine AllReadyH.cons rfl (fun K hK => ?_) ?_
              · refine step_store_row (by rfl) 50 _ _ rfl p6 y.cells.toArray (by rfl) (by rfl) 50 noTx.cells.toArray V6b.out (AXY.out y HTYb.out.op.root) (by have h9 := PTx.len HTYb.out.op.root; rw [List.size_toArray, List.size_toArray, h9]; rfl) (all_oneCell_toArray y.one) ?_
                have hs := but_setRow z6 p6 y.cells.toArray
                have V6c := Lib.hid (show VarC (z6.setRow p6 y.cells.toArray) p6 50 y.cells from setRow_heap z6 p6 _ _ 50 _ V6b.out)
                have V5c := Lib.hid (varC_other V5b.out hs V6b.out (by decide))
                have HTYc := Lib.hid (HTYb.out.butAll HA6.out HSN.out hs)
                have HST := Lib.hid ((hs.mono (Below.size hHeld)).below P6.out)
                clear hs
                revert V6c V5c HTYc HST
                generalize World.setRow z6 _ _ = z7
                intro V6c V5c HTYc HST
                refine hK.out _ _ (by (try dsimp only); exact Below.trans hHeld HST.out) (fun hHeld => ?_)
                clear hK K
                refine wpAnyH_done (by kernel_rfl) ?_ _
                have HFB := Lib.hid (show Below w2.heap.size w2 z7 from hHeld)
                clear hHeld
                have SGT : Hid (SgTx w r p5 p6 z7.heap.size y S z7) := Lib.hid ⟨VarC.below RES.out HFB.out, V5c.out, V6c.out, HTYc.out, HTYc.out.lt, HA6.out.and HAG.out, Nat.lt_of_lt_of_le HG1L.out HFB.out.size, V5c.out.lt, V6c.out.lt, HSN.out, Nat.le_refl _, bthen HB2.out HFB.out, HNW.out⟩
                go_wp2_with fail
                go_meet
                exact ⟨p5, p6, y, rfl, rfl, SGT.out, HSY.out, Nat.le_trans HB2.out.size P6.out, (by have h9 := P6.out; have h8 := HG1L.out; omega), HSA.out⟩
              exact AllReadyH.nil
            exact AllReadyH.nil
          exact AllReadyH.nil
        refine AllReadyH.cons rfl (fun K hK => ?_) ?_
        · refine step_alloc_of (d := 6) rfl (by rfl) 50 rfl noTx.cells.toArray Tryd.zeroTx160 ?_
          intro p6 y3 hp6 hh6 hb
          have V5 := Lib.hid (V5.out.below hb)
          have V6 : Hid (VarC y3 p6 50 noTx.cells) := Lib.hid hh6
          have P6 : Hid (w2.heap.size ≤ p6) := Lib.hid (Nat.le_trans (Below.size hHeld) hp6)
          have L6 := Lib.hid (lt_of_block hh6)
          have HX := Lib.hid (bthen hHeld hb)
          clear hb hh6 hp6
          refine hK.out _ _ (by (try dsimp only); exact HX.out) (fun hHeld => ?_)
          clear hK K
          refine wpAnyH_ready (rs := [3]) (by kernel_rfl) (by simp) ?_
          refine AllReadyH.cons rfl (fun K hK => ?_) ?_
          · have HCx := Lib.hid (HCP.out _ hHeld)
            go_simp
            go_wp2_with ((go_at_call 47; (with_reducible refine (HCx.out).mono ?_); rintro e y4 ⟨y, rfl, hty, hsy, hny, hsa, hsn, hsc, hss, hb⟩; have LV5 := Lib.hid V5.out.lt; have LV6 := Lib.hid V6.out.lt; have HNW : Hid (AllTx (w.heap.size ≤ ·) y) := Lib.hid (hny.mono fun b hb2 => by have h9 := HB2.out.size; have h8 := Below.size hHeld; omega); have HAG : Hid (AllTx (· ≠ r) y) := Lib.hid (hny.mono fun b hb2 => by have h9 := HG1L.out; have h8 := Below.size hHeld; omega); have HA5 : Hid (AllTx (· ≠ p5) y) := Lib.hid (hny.mono fun b hb2 => by have h9 := LV5.out; omega); have HA6 : Hid (AllTx (· ≠ p6) y) := Lib.hid (hny.mono fun b hb2 => by have h9 := LV6.out; omega); have HTY := Lib.hid hty; have HNY := Lib.hid hny; have HSY := Lib.hid hsy; have HSN := Lib.hid hsn; have HSA := Lib.hid (show y.sa = none ∧ y.sn = 0 ∧ y.sc = 0 ∧ y.signs = [] from ⟨hsa, hsn, hsc, hss⟩); have V5 := Lib.hid (V5.out.below hb); have V6 := Lib.hid (V6.out.below hb); have HX := Lib.hid (bthen hHeld hb); clear hty hny hsy hsn hsa hsc hss hb HCx))
            refine hK.out _ _ (by (try dsimp only); exact HX.out) (fun hHeld => ?_)
            clear hK K
            refine wpAnyH_ready (rs := [6]) (by kernel_rfl) (by simp) ?_
            refine AllReadyH.cons rfl (fun K hK => ?_) ?_
            · refine step_store_row (by rfl) 23 _ _ rfl p5 (cellsOf S).toArray (by rfl) (by rfl) 23 (cellsOf zero32).toArray V5.out SS.out SZ.out (all_oneCell_toArray (cellsOf_one S)) ?_
              have hs := but_setRow y4 p5 (cellsOf S).toArray
              have V5b := Lib.hid (show VarC (y4.setRow p5 (cellsOf S).toArray) p5 23 (cellsOf S) from setRow_heap y4 p5 _ _ 23 _ V5.out)
              have V6b := Lib.hid (varC_other V6.out hs V5.out (by decide))
              have HTYb := Lib.hid (HTY.out.butAll HA5.out HSN.out hs)
              have HSS := Lib.hid ((hs.mono (Below.size hHeld)).below P5.out)
              clear hs
              revert V5b V6b HTYb HSS
              generalize World.setRow y4 _ _ = z6
              intro V5b V6b HTYb HSS
              refine hK.out _ _ (by (try dsimp only); exact Below.trans hHeld HSS.out) (fun hHeld => ?_)
              clear hK K
              refine wpAnyH_ready (rs := [7]) (by kernel_rfl) (by simp) ?_
              refine AllReadyH.cons rfl (fun K hK => ?_) ?_
              · refine step_store_row (by rfl) 50 _ _ rfl p6 y.cells.toArray (by rfl) (by rfl) 50 noTx.cells.toArray V6b.out (AXY.out y HTYb.out.op.root) (by have h9 := PTx.len HTYb.out.op.root; rw [List.size_toArray, List.size_toArray, h9]; rfl) (all_oneCell_toArray y.one) ?_
                have hs := but_setRow z6 p6 y.cells.toArray
                have V6c := Lib.hid (show VarC (z6.setRow p6 y.cells.toArray) p6 50 y.cells from setRow_heap z6 p6 _ _ 50 _ V6b.out)
                have V5c := Lib.hid (varC_other V5b.out hs V6b.out (by decide))
                have HTYc := Lib.hid (HTYb.out.butAll HA6.out HSN.out hs)
                have HST := Lib.hid ((hs.mono (Below.size hHeld)).below P6.out)
                clear hs
                revert V6c V5c HTYc HST
                generalize World.setRow z6 _ _ = z7
                intro V6c V5c HTYc HST
                refine hK.out _ _ (by (try dsimp only); exact Below.trans hHeld HST.out) (fun hHeld => ?_)
                clear hK K
                refine wpAnyH_done (by kernel_rfl) ?_ _
                have HFB := Lib.hid (show Below w2.heap.size w2 z7 from hHeld)
                clear hHeld
                have SGT : Hid (SgTx w r p5 p6 z7.heap.size y S z7) := Lib.hid ⟨VarC.below RES.out HFB.out, V5c.out, V6c.out, HTYc.out, HTYc.out.lt, HA6.out.and HAG.out, Nat.lt_of_lt_of_le HG1L.out HFB.out.size, V5c.out.lt, V6c.out.lt, HSN.out, Nat.le_refl _, bthen HB2.out HFB.out, HNW.out⟩
                go_wp2_with fail
                go_meet
                exact ⟨p5, p6, y, rfl, rfl, SGT.out, HSY.out, Nat.le_trans HB2.out.size P6.out, (by have h9 := P6.out; have h8 := HG1L.out; omega), HSA.out⟩
              exact AllReadyH.nil
            exact AllReadyH.nil
          exact AllReadyH.nil
        exact AllReadyH.nil
      refine AllReadyH.cons rfl (fun K hK => ?_) ?_
      · refine step_alloc_of (d := 6) rfl (by rfl) 50 rfl noTx.cells.toArray Tryd.zeroTx160 ?_
        intro p6 y2 hp6 hh6 hb
        have V5 := Lib.hid (V5.out.below hb)
        have V6 : Hid (VarC y2 p6 50 noTx.cells) := Lib.hid hh6
        have P6 : Hid (w2.heap.size ≤ p6) := Lib.hid (Nat.le_trans (Below.size hHeld) hp6)
        have L6 := Lib.hid (lt_of_block hh6)
        have HX := Lib.hid (bthen hHeld hb)
        clear hb hh6 hp6
        refine hK.out _ _ (by (try dsimp only); exact HX.out) (fun hHeld => ?_)
        clear hK K
        refine wpAnyH_ready (rs := [1]) (by kernel_rfl) (by simp) ?_
        refine AllReadyH.cons rfl (fun K hK => ?_) ?_
        · have HCx := Lib.hid (HSUM.out _ hHeld)
          go_simp
          go_wp2_with ((go_at_call 17; (with_reducible refine (HCx.out).mono ?_); rintro e y3 ⟨rfl, hb⟩; have V5 := Lib.hid (V5.out.below hb); have V6 := Lib.hid (V6.out.below hb); have HX := Lib.hid (bthen hHeld hb); clear hb HCx))
          refine hK.out _ _ (by (try dsimp only); exact HX.out) (fun hHeld => ?_)
          clear hK K
          refine wpAnyH_ready (rs := [3]) (by kernel_rfl) (by simp) ?_
          refine AllReadyH.cons rfl (fun K hK => ?_) ?_
          · have HCx := Lib.hid (HCP.out _ hHeld)
            go_simp
            go_wp2_with ((go_at_call 47; (with_reducible refine (HCx.out).mono ?_); rintro e y4 ⟨y, rfl, hty, hsy, hny, hsa, hsn, hsc, hss, hb⟩; have LV5 := Lib.hid V5.out.lt; have LV6 := Lib.hid V6.out.lt; have HNW : Hid (AllTx (w.heap.size ≤ ·) y) := Lib.hid (hny.mono fun b hb2 => by have h9 := HB2.out.size; have h8 := Below.size hHeld; omega); have HAG : Hid (AllTx (· ≠ r) y) := Lib.hid (hny.mono fun b hb2 => by have h9 := HG1L.out; have h8 := Below.size hHeld; omega); have HA5 : Hid (AllTx (· ≠ p5) y) := Lib.hid (hny.mono fun b hb2 => by have h9 := LV5.out; omega); have HA6 : Hid (AllTx (· ≠ p6) y) := Lib.hid (hny.mono fun b hb2 => by have h9 := LV6.out; omega); have HTY := Lib.hid hty; have HNY := Lib.hid hny; have HSY := Lib.hid hsy; have HSN := Lib.hid hsn; have HSA := Lib.hid (show y.sa = none ∧ y.sn = 0 ∧ y.sc = 0 ∧ y.signs = [] from ⟨hsa, hsn, hsc, hss⟩); have V5 := Lib.hid (V5.out.below hb); have V6 := Lib.hid (V6.out.below hb); have HX := Lib.hid (bthen hHeld hb); clear hty hny hsy hsn hsa hsc hss hb HCx))
            refine hK.out _ _ (by (try dsimp only); exact HX.out) (fun hHeld => ?_)
            clear hK K
            refine wpAnyH_ready (rs := [6]) (by kernel_rfl) (by simp) ?_
            refine AllReadyH.cons rfl (fun K hK => ?_) ?_
            · refine step_store_row (by rfl) 23 _ _ rfl p5 (cellsOf S).toArray (by rfl) (by rfl) 23 (cellsOf zero32).toArray V5.out SS.out SZ.out (all_oneCell_toArray (cellsOf_one S)) ?_
              have hs := but_setRow y4 p5 (cellsOf S).toArray
              have V5b := Lib.hid (show VarC (y4.setRow p5 (cellsOf S).toArray) p5 23 (cellsOf S) from setRow_heap y4 p5 _ _ 23 _ V5.out)
              have V6b := Lib.hid (varC_other V6.out hs V5.out (by decide))
              have HTYb := Lib.hid (HTY.out.butAll HA5.out HSN.out hs)
              have HSS := Lib.hid ((hs.mono (Below.size hHeld)).below P5.out)
              clear hs
              revert V5b V6b HTYb HSS
              generalize World.setRow y4 _ _ = z6
              intro V5b V6b HTYb HSS
              refine hK.out _ _ (by (try dsimp only); exact Below.trans hHeld HSS.out) (fun hHeld => ?_)
              clear hK K
              refine wpAnyH_ready (rs := [7]) (by kernel_rfl) (by simp) ?_
              refine AllReadyH.cons rfl (fun K hK => ?_) ?_
              · refine step_store_row (by rfl) 50 _ _ rfl p6 y.cells.toArray (by rfl) (by rfl) 50 noTx.cells.toArray V6b.out (AXY.out y HTYb.out.op.root) (by have h9 := PTx.len HTYb.out.op.root; rw [List.size_toArray, List.size_toArray, h9]; rfl) (all_oneCell_toArray y.one) ?_
                have hs := but_setRow z6 p6 y.cells.toArray
                have V6c := Lib.hid (show VarC (z6.setRow p6 y.cells.toArray) p6 50 y.cells from setRow_heap z6 p6 _ _ 50 _ V6b.out)
                have V5c := Lib.hid (varC_other V5b.out hs V6b.out (by decide))
                have HTYc := Lib.hid (HTYb.out.butAll HA6.out HSN.out hs)
                have HST := Lib.hid ((hs.mono (Below.size hHeld)).below P6.out)
                clear hs
                revert V6c V5c HTYc HST
                generalize World.setRow z6 _ _ = z7
                intro V6c V5c HTYc HST
                refine hK.out _ _ (by (try dsimp only); exact Below.trans hHeld HST.out) (fun hHeld => ?_)
                clear hK K
                refine wpAnyH_done (by kernel_rfl) ?_ _
                have HFB := Lib.hid (show Below w2.heap.size w2 z7 from hHeld)
                clear hHeld
                have SGT : Hid (SgTx w r p5 p6 z7.heap.size y S z7) := Lib.hid ⟨VarC.below RES.out HFB.out, V5c.out, V6c.out, HTYc.out, HTYc.out.lt, HA6.out.and HAG.out, Nat.lt_of_lt_of_le HG1L.out HFB.out.size, V5c.out.lt, V6c.out.lt, HSN.out, Nat.le_refl _, bthen HB2.out HFB.out, HNW.out⟩
                go_wp2_with fail
                go_meet
                exact ⟨p5, p6, y, rfl, rfl, SGT.out, HSY.out, Nat.le_trans HB2.out.size P6.out, (by have h9 := P6.out; have h8 := HG1L.out; omega), HSA.out⟩
              exact AllReadyH.nil
            exact AllReadyH.nil
          exact AllReadyH.nil
        exact AllReadyH.nil
      exact AllReadyH.nil
    refine AllReadyH.cons rfl (fun K hK => ?_) ?_
    · refine step_alloc_of (d := 6) rfl (by rfl) 50 rfl noTx.cells.toArray Tryd.zeroTx160 ?_
      intro p6 y1 hp6 hh6 hb
      have V6 : Hid (VarC y1 p6 50 noTx.cells) := Lib.hid hh6
      have P6 : Hid (w2.heap.size ≤ p6) := Lib.hid (Nat.le_trans (Below.size hHeld) hp6)
      have L6 := Lib.hid (lt_of_block hh6)
      have HX := Lib.hid (bthen hHeld hb)
      clear hb hh6 hp6
      refine hK.out _ _ (by (try dsimp only); exact HX.out) (fun hHeld => ?_)
      clear hK K
      refine wpAnyH_ready (rs := [1, 4]) (by kernel_rfl) (by simp) ?_
      refine AllReadyH.cons rfl (fun K hK => ?_) ?_
      · have HCx := Lib.hid (HSUM.out _ hHeld)
        go_simp
        go_wp2_with ((go_at_call 17; (with_reducible refine (HCx.out).mono ?_); rintro e y2 ⟨rfl, hb⟩; have V6 := Lib.hid (V6.out.below hb); have HX := Lib.hid (bthen hHeld hb); clear hb HCx))
        refine hK.out _ _ (by (try dsimp only); exact HX.out) (fun hHeld => ?_)
        clear hK K
        refine wpAnyH_ready (rs := [3, 4]) (by kernel_rfl) (by simp) ?_
        refine AllReadyH.cons rfl (fun K hK => ?_) ?_
        · have HCx := Lib.hid (HCP.out _ hHeld)
          go_simp
          go_wp2_with ((go_at_call 47; (with_reducible refine (HCx.out).mono ?_); rintro e y3 ⟨y, rfl, hty, hsy, hny, hsa, hsn, hsc, hss, hb⟩; have LV6 := Lib.hid V6.out.lt; have HNW : Hid (AllTx (w.heap.size ≤ ·) y) := Lib.hid (hny.mono fun b hb2 => by have h9 := HB2.out.size; have h8 := Below.size hHeld; omega); have HAG : Hid (AllTx (· ≠ r) y) := Lib.hid (hny.mono fun b hb2 => by have h9 := HG1L.out; have h8 := Below.size hHeld; omega); have HA6 : Hid (AllTx (· ≠ p6) y) := Lib.hid (hny.mono fun b hb2 => by have h9 := LV6.out; omega); have HTY := Lib.hid hty; have HNY := Lib.hid hny; have HSY := Lib.hid hsy; have HSN := Lib.hid hsn; have HSA := Lib.hid (show y.sa = none ∧ y.sn = 0 ∧ y.sc = 0 ∧ y.signs = [] from ⟨hsa, hsn, hsc, hss⟩); have V6 := Lib.hid (V6.out.below hb); have HX := Lib.hid (bthen hHeld hb); clear hty hny hsy hsn hsa hsc hss hb HCx))
          refine hK.out _ _ (by (try dsimp only); exact HX.out) (fun hHeld => ?_)
          clear hK K
          refine wpAnyH_ready (rs := [4]) (by kernel_rfl) (by simp) ?_
          refine AllReadyH.cons rfl (fun K hK => ?_) ?_
          · refine step_alloc_of (d := 5) rfl (by rfl) 23 rfl (cellsOf zero32).toArray Tryd.zeroSum32 ?_
            intro p5 y4 hp5 hh5 hb
            have HA5 : Hid (AllTx (· ≠ p5) y) := Lib.hid (HTY.out.lt.mono fun b hb2 => by omega)
            have V6 := Lib.hid (V6.out.below hb); have HTY := Lib.hid (HTY.out.below hb)
            have V5 : Hid (VarC y4 p5 23 (cellsOf zero32)) := Lib.hid hh5
            have P5 : Hid (w2.heap.size ≤ p5) := Lib.hid (Nat.le_trans (Below.size hHeld) hp5)
            have L5 := Lib.hid (lt_of_block hh5)
            have HX := Lib.hid (bthen hHeld hb)
            clear hb hh5 hp5
            refine hK.out _ _ (by (try dsimp only); exact HX.out) (fun hHeld => ?_)
            clear hK K
            refine wpAnyH_ready (rs := [6]) (by kernel_rfl) (by simp) ?_
            refine AllReadyH.cons rfl (fun K hK => ?_) ?_
            · refine step_store_row (by rfl) 23 _ _ rfl p5 (cellsOf S).toArray (by rfl) (by rfl) 23 (cellsOf zero32).toArray V5.out SS.out SZ.out (all_oneCell_toArray (cellsOf_one S)) ?_
              have hs := but_setRow y4 p5 (cellsOf S).toArray
              have V5b := Lib.hid (show VarC (y4.setRow p5 (cellsOf S).toArray) p5 23 (cellsOf S) from setRow_heap y4 p5 _ _ 23 _ V5.out)
              have V6b := Lib.hid (varC_other V6.out hs V5.out (by decide))
              have HTYb := Lib.hid (HTY.out.butAll HA5.out HSN.out hs)
              have HSS := Lib.hid ((hs.mono (Below.size hHeld)).below P5.out)
              clear hs
              revert V5b V6b HTYb HSS
              generalize World.setRow y4 _ _ = z6
              intro V5b V6b HTYb HSS
              refine hK.out _ _ (by (try dsimp only); exact Below.trans hHeld HSS.out) (fun hHeld => ?_)
              clear hK K
              refine wpAnyH_ready (rs := [7]) (by kernel_rfl) (by simp) ?_
              refine AllReadyH.cons rfl (fun K hK => ?_) ?_
              · refine step_store_row (by rfl) 50 _ _ rfl p6 y.cells.toArray (by rfl) (by rfl) 50 noTx.cells.toArray V6b.out (AXY.out y HTYb.out.op.root) (by have h9 := PTx.len HTYb.out.op.root; rw [List.size_toArray, List.size_toArray, h9]; rfl) (all_oneCell_toArray y.one) ?_
                have hs := but_setRow z6 p6 y.cells.toArray
                have V6c := Lib.hid (show VarC (z6.setRow p6 y.cells.toArray) p6 50 y.cells from setRow_heap z6 p6 _ _ 50 _ V6b.out)
                have V5c := Lib.hid (varC_other V5b.out hs V6b.out (by decide))
                have HTYc := Lib.hid (HTYb.out.butAll HA6.out HSN.out hs)
                have HST := Lib.hid ((hs.mono (Below.size hHeld)).below P6.out)
                clear hs
                revert V6c V5c HTYc HST
                generalize World.setRow z6 _ _ = z7
                intro V6c V5c HTYc HST
                refine hK.out _ _ (by (try dsimp only); exact Below.trans hHeld HST.out) (fun hHeld => ?_)
                clear hK K
                refine wpAnyH_done (by kernel_rfl) ?_ _
                have HFB := Lib.hid (show Below w2.heap.size w2 z7 from hHeld)
                clear hHeld
                have SGT : Hid (SgTx w r p5 p6 z7.heap.size y S z7) := Lib.hid ⟨VarC.below RES.out HFB.out, V5c.out, V6c.out, HTYc.out, HTYc.out.lt, HA6.out.and HAG.out, Nat.lt_of_lt_of_le HG1L.out HFB.out.size, V5c.out.lt, V6c.out.lt, HSN.out, Nat.le_refl _, bthen HB2.out HFB.out, HNW.out⟩
                go_wp2_with fail
                go_meet
                exact ⟨p5, p6, y, rfl, rfl, SGT.out, HSY.out, Nat.le_trans HB2.out.size P6.out, (by have h9 := P6.out; have h8 := HG1L.out; omega), HSA.out⟩
              exact AllReadyH.nil
            exact AllReadyH.nil
          exact AllReadyH.nil
        refine AllReadyH.cons rfl (fun K hK => ?_) ?_
        · refine step_alloc_of (d := 5) rfl (by rfl) 23 rfl (cellsOf zero32).toArray Tryd.zeroSum32 ?_
          intro p5 y3 hp5 hh5 hb
          have V6 := Lib.hid (V6.out.below hb)
          have V5 : Hid (VarC y3 p5 23 (cellsOf zero32)) := Lib.hid hh5
          have P5 : Hid (w2.heap.size ≤ p5) := Lib.hid (Nat.le_trans (Below.size hHeld) hp5)
          have L5 := Lib.hid (lt_of_block hh5)
          have HX := Lib.hid (bthen hHeld hb)
          clear hb hh5 hp5
          refine hK.out _ _ (by (try dsimp only); exact HX.out) (fun hHeld => ?_)
          clear hK K
          refine wpAnyH_ready (rs := [3]) (by kernel_rfl) (by simp) ?_
          refine AllReadyH.cons rfl (fun K hK => ?_) ?_
          · have HCx := Lib.hid (HCP.out _ hHeld)
            go_simp
            go_wp2_with ((go_at_call 47; (with_reducible refine (HCx.out).mono ?_); rintro e y4 ⟨y, rfl, hty, hsy, hny, hsa, hsn, hsc, hss, hb⟩; have LV6 := Lib.hid V6.out.lt; have LV5 := Lib.hid V5.out.lt; have HNW : Hid (AllTx (w.heap.size ≤ ·) y) := Lib.hid (hny.mono fun b hb2 => by have h9 := HB2.out.size; have h8 := Below.size hHeld; omega); have HAG : Hid (AllTx (· ≠ r) y) := Lib.hid (hny.mono fun b hb2 => by have h9 := HG1L.out; have h8 := Below.size hHeld; omega); have HA5 : Hid (AllTx (· ≠ p5) y) := Lib.hid (hny.mono fun b hb2 => by have h9 := LV5.out; omega); have HA6 : Hid (AllTx (· ≠ p6) y) := Lib.hid (hny.mono fun b hb2 => by have h9 := LV6.out; omega); have HTY := Lib.hid hty; have HNY := Lib.hid hny; have HSY := Lib.hid hsy; have HSN := Lib.hid hsn; have HSA := Lib.hid (show y.sa = none ∧ y.sn = 0 ∧ y.sc = 0 ∧ y.signs = [] from ⟨hsa, hsn, hsc, hss⟩); have V6 := Lib.hid (V6.out.below hb); have V5 := Lib.hid (V5.out.below hb); have HX := Lib.hid (bthen hHeld hb); clear hty hny hsy hsn hsa hsc hss hb HCx))
            refine hK.out _ _ (by (try dsimp only); exact HX.out) (fun hHeld => ?_)
            clear hK K
            refine wpAnyH_ready (rs := [6]) (by kernel_rfl) (by simp) ?_
            refine AllReadyH.cons rfl (fun K hK => ?_) ?_
            · refine step_store_row (by rfl) 23 _ _ rfl p5 (cellsOf S).toArray (by rfl) (by rfl) 23 (cellsOf zero32).toArray V5.out SS.out SZ.out (all_oneCell_toArray (cellsOf_one S)) ?_
              have hs := but_setRow y4 p5 (cellsOf S).toArray
              have V5b := Lib.hid (show VarC (y4.setRow p5 (cellsOf S).toArray) p5 23 (cellsOf S) from setRow_heap y4 p5 _ _ 23 _ V5.out)
              have V6b := Lib.hid (varC_other V6.out hs V5.out (by decide))
              have HTYb := Lib.hid (HTY.out.butAll HA5.out HSN.out hs)
              have HSS := Lib.hid ((hs.mono (Below.size hHeld)).below P5.out)
              clear hs
              revert V5b V6b HTYb HSS
              generalize World.setRow y4 _ _ = z6
              intro V5b V6b HTYb HSS
              refine hK.out _ _ (by (try dsimp only); exact Below.trans hHeld HSS.out) (fun hHeld => ?_)
              clear hK K
              refine wpAnyH_ready (rs := [7]) (by kernel_rfl) (by simp) ?_
              refine AllReadyH.cons rfl (fun K hK => ?_) ?_
              · refine step_store_row (by rfl) 50 _ _ rfl p6 y.cells.toArray (by rfl) (by rfl) 50 noTx.cells.toArray V6b.out (AXY.out y HTYb.out.op.root) (by have h9 := PTx.len HTYb.out.op.root; rw [List.size_toArray, List.size_toArray, h9]; rfl) (all_oneCell_toArray y.one) ?_
                have hs := but_setRow z6 p6 y.cells.toArray
                have V6c := Lib.hid (show VarC (z6.setRow p6 y.cells.toArray) p6 50 y.cells from setRow_heap z6 p6 _ _ 50 _ V6b.out)
                have V5c := Lib.hid (varC_other V5b.out hs V6b.out (by decide))
                have HTYc := Lib.hid (HTYb.out.butAll HA6.out HSN.out hs)
                have HST := Lib.hid ((hs.mono (Below.size hHeld)).below P6.out)
                clear hs
                revert V6c V5c HTYc HST
                generalize World.setRow z6 _ _ = z7
                intro V6c V5c HTYc HST
                refine hK.out _ _ (by (try dsimp only); exact Below.trans hHeld HST.out) (fun hHeld => ?_)
                clear hK K
                refine wpAnyH_done (by kernel_rfl) ?_ _
                have HFB := Lib.hid (show Below w2.heap.size w2 z7 from hHeld)
                clear hHeld
                have SGT : Hid (SgTx w r p5 p6 z7.heap.size y S z7) := Lib.hid ⟨VarC.below RES.out HFB.out, V5c.out, V6c.out, HTYc.out, HTYc.out.lt, HA6.out.and HAG.out, Nat.lt_of_lt_of_le HG1L.out HFB.out.size, V5c.out.lt, V6c.out.lt, HSN.out, Nat.le_refl _, bthen HB2.out HFB.out, HNW.out⟩
                go_wp2_with fail
                go_meet
                exact ⟨p5, p6, y, rfl, rfl, SGT.out, HSY.out, Nat.le_trans HB2.out.size P6.out, (by have h9 := P6.out; have h8 := HG1L.out; omega), HSA.out⟩
              exact AllReadyH.nil
            exact AllReadyH.nil
          exact AllReadyH.nil
        exact AllReadyH.nil
      refine AllReadyH.cons rfl (fun K hK => ?_) ?_
      · refine step_alloc_of (d := 5) rfl (by rfl) 23 rfl (cellsOf zero32).toArray Tryd.zeroSum32 ?_
        intro p5 y2 hp5 hh5 hb
        have V6 := Lib.hid (V6.out.below hb)
        have V5 : Hid (VarC y2 p5 23 (cellsOf zero32)) := Lib.hid hh5
        have P5 : Hid (w2.heap.size ≤ p5) := Lib.hid (Nat.le_trans (Below.size hHeld) hp5)
        have L5 := Lib.hid (lt_of_block hh5)
        have HX := Lib.hid (bthen hHeld hb)
        clear hb hh5 hp5
        refine hK.out _ _ (by (try dsimp only); exact HX.out) (fun hHeld => ?_)
        clear hK K
        refine wpAnyH_ready (rs := [1]) (by kernel_rfl) (by simp) ?_
        refine AllReadyH.cons rfl (fun K hK => ?_) ?_
        · have HCx := Lib.hid (HSUM.out _ hHeld)
          go_simp
          go_wp2_with ((go_at_call 17; (with_reducible refine (HCx.out).mono ?_); rintro e y3 ⟨rfl, hb⟩; have V6 := Lib.hid (V6.out.below hb); have V5 := Lib.hid (V5.out.below hb); have HX := Lib.hid (bthen hHeld hb); clear hb HCx))
          refine hK.out _ _ (by (try dsimp only); exact HX.out) (fun hHeld => ?_)
          clear hK K
          refine wpAnyH_ready (rs := [3]) (by kernel_rfl) (by simp) ?_
          refine AllReadyH.cons rfl (fun K hK => ?_) ?_
          · have HCx := Lib.hid (HCP.out _ hHeld)
            go_simp
            go_wp2_with ((go_at_call 47; (with_reducible refine (HCx.out).mono ?_); rintro e y4 ⟨y, rfl, hty, hsy, hny, hsa, hsn, hsc, hss, hb⟩; have LV6 := Lib.hid V6.out.lt; have LV5 := Lib.hid V5.out.lt; have HNW : Hid (AllTx (w.heap.size ≤ ·) y) := Lib.hid (hny.mono fun b hb2 => by have h9 := HB2.out.size; have h8 := Below.size hHeld; omega); have HAG : Hid (AllTx (· ≠ r) y) := Lib.hid (hny.mono fun b hb2 => by have h9 := HG1L.out; have h8 := Below.size hHeld; omega); have HA5 : Hid (AllTx (· ≠ p5) y) := Lib.hid (hny.mono fun b hb2 => by have h9 := LV5.out; omega); have HA6 : Hid (AllTx (· ≠ p6) y) := Lib.hid (hny.mono fun b hb2 => by have h9 := LV6.out; omega); have HTY := Lib.hid hty; have HNY := Lib.hid hny; have HSY := Lib.hid hsy; have HSN := Lib.hid hsn; have HSA := Lib.hid (show y.sa = none ∧ y.sn = 0 ∧ y.sc = 0 ∧ y.signs = [] from ⟨hsa, hsn, hsc, hss⟩); have V6 := Lib.hid (V6.out.below hb); have V5 := Lib.hid (V5.out.below hb); have HX := Lib.hid (bthen hHeld hb); clear hty hny hsy hsn hsa hsc hss hb HCx))
            refine hK.out _ _ (by (try dsimp only); exact HX.out) (fun hHeld => ?_)
            clear hK K
            refine wpAnyH_ready (rs := [6]) (by kernel_rfl) (by simp) ?_
            refine AllReadyH.cons rfl (fun K hK => ?_) ?_
            · refine step_store_row (by rfl) 23 _ _ rfl p5 (cellsOf S).toArray (by rfl) (by rfl) 23 (cellsOf zero32).toArray V5.out SS.out SZ.out (all_oneCell_toArray (cellsOf_one S)) ?_
              have hs := but_setRow y4 p5 (cellsOf S).toArray
              have V5b := Lib.hid (show VarC (y4.setRow p5 (cellsOf S).toArray) p5 23 (cellsOf S) from setRow_heap y4 p5 _ _ 23 _ V5.out)
              have V6b := Lib.hid (varC_other V6.out hs V5.out (by decide))
              have HTYb := Lib.hid (HTY.out.butAll HA5.out HSN.out hs)
              have HSS := Lib.hid ((hs.mono (Below.size hHeld)).below P5.out)
              clear hs
              revert V5b V6b HTYb HSS
              generalize World.setRow y4 _ _ = z6
              intro V5b V6b HTYb HSS
              refine hK.out _ _ (by (try dsimp only); exact Below.trans hHeld HSS.out) (fun hHeld => ?_)
              clear hK K
              refine wpAnyH_ready (rs := [7]) (by kernel_rfl) (by simp) ?_
              refine AllReadyH.cons rfl (fun K hK => ?_) ?_
              · refine step_store_row (by rfl) 50 _ _ rfl p6 y.cells.toArray (by rfl) (by rfl) 50 noTx.cells.toArray V6b.out (AXY.out y HTYb.out.op.root) (by have h9 := PTx.len HTYb.out.op.root; rw [List.size_toArray, List.size_toArray, h9]; rfl) (all_oneCell_toArray y.one) ?_
                have hs := but_setRow z6 p6 y.cells.toArray
                have V6c := Lib.hid (show VarC (z6.setRow p6 y.cells.toArray) p6 50 y.cells from setRow_heap z6 p6 _ _ 50 _ V6b.out)
                have V5c := Lib.hid (varC_other V5b.out hs V6b.out (by decide))
                have HTYc := Lib.hid (HTYb.out.butAll HA6.out HSN.out hs)
                have HST := Lib.hid ((hs.mono (Below.size hHeld)).below P6.out)
                clear hs
                revert V6c V5c HTYc HST
                generalize World.setRow z6 _ _ = z7
                intro V6c V5c HTYc HST
                refine hK.out _ _ (by (try dsimp only); exact Below.trans hHeld HST.out) (fun hHeld => ?_)
                clear hK K
                refine wpAnyH_done (by kernel_rfl) ?_ _
                have HFB := Lib.hid (show Below w2.heap.size w2 z7 from hHeld)
                clear hHeld
                have SGT : Hid (SgTx w r p5 p6 z7.heap.size y S z7) := Lib.hid ⟨VarC.below RES.out HFB.out, V5c.out, V6c.out, HTYc.out, HTYc.out.lt, HA6.out.and HAG.out, Nat.lt_of_lt_of_le HG1L.out HFB.out.size, V5c.out.lt, V6c.out.lt, HSN.out, Nat.le_refl _, bthen HB2.out HFB.out, HNW.out⟩
                go_wp2_with fail
                go_meet
                exact ⟨p5, p6, y, rfl, rfl, SGT.out, HSY.out, Nat.le_trans HB2.out.size P6.out, (by have h9 := P6.out; have h8 := HG1L.out; omega), HSA.out⟩
              exact AllReadyH.nil
            exact AllReadyH.nil
          exact AllReadyH.nil
        exact AllReadyH.nil
      exact AllReadyH.nil
    exact AllReadyH.nil
  case rest =>
    obtain ⟨p5, p6, y, rfl, rfl, hsg, hsy, hp6, hng, hsa⟩ := hcut
    obtain ⟨ia, inn, ic, ins, oa, on, oc, outs, op, sa, sn, sc, ss⟩ := y
    dsimp only at hsa
    obtain ⟨rfl, rfl, rfl, rfl⟩ := hsa
    have SG := Lib.hid hsg
    have HROOT := Lib.hid hsg.tx.op.root
    have HCB := Lib.hid hsg.but
    have HP6B := Lib.hid hp6
    have HNG := Lib.hid hng
    have HSY := Lib.hid hsy
    have BCW := Lib.hid hsg.size
    have HBC0 := Lib.hid hsg.but.size
    clear hsg hp6 hng hsy HSUM HCP V2 SXT SS SZ RES
    have HCL := Lib.hid (clone_any (HNQ.out.below SG.out.but) (by omega))
    go_wp2_with fail
    refine HCL.out.mono ?_
    rintro e w3 ⟨v, rfl, hov, hb3⟩
    have SG := Lib.hid (SG.out.below hb3)
    have hbs : w.heap.size ≤ wc.heap.size := by have := HCB.out.size; exact this
    have hwc3 : wc.heap.size ≤ w3.heap.size := hb3.size
    have OV := Lib.hid hov
    obtain ⟨b, cv, rfl, hbB, _, _, _, _⟩ := ownZ_where hov
    clear hov hb3 HCL HNQ
    go_upto_region 3 with (fail)
    have b4 : Below w3.heap.size w3 (w3.alloc (.cells #[.slice (some ⟨b, 0, none⟩) 1 cv] 80)) := (Below.refl _ _).alloc (Nat.le_refl _) _
    have h7 : VarC (w3.alloc (.cells #[.slice (some ⟨b, 0, none⟩) 1 cv] 80)) w3.heap.size 80 [.slice (some ⟨b, 0, none⟩) 1 cv] := heap_alloc_new _ _
    revert b4 h7
    generalize (w3.alloc (.cells #[.slice (some ⟨b, 0, none⟩) 1 cv] 80)) = w4
    obtain ⟨p7, hp7⟩ : ∃ p, p = w3.heap.size := ⟨_, rfl⟩
    rw [← hp7]
    intro b4 h7
    rw [hp7] at b4
    have SG := Lib.hid (SG.out.below b4)
    have OV := Lib.hid (OV.out.below b4)
    have V7 := Lib.hid h7
    have hwc4 : wc.heap.size ≤ w4.heap.size := Nat.le_trans hwc3 b4.size
    have HSO := Lib.hid (sort_any OV.out hwc4 (by simp))
    have c7 : w4.cell? ⟨p7, 0, none⟩ = some (.slice (some ⟨b, 0, none⟩) 1 cv) := (V7.out.cell 0).trans rfl
    obtain ⟨_, _, e, _, ⟨cur, hcur⟩, _, _, _⟩ := ownZ_where OV.out
    cases e
    have HCUR := Lib.hid hcur
    clear h7 b4 hp7 hcur OV
    go_wp2_with fail
    refine HSO.out.mono ?_
    rintro e w5 ⟨rfl, ho5, hg5, _⟩
    have hbt : But w4.heap.size b w4 w5 := ⟨hg5.os, hg5.tape, hg5.output, hg5.size, fun k hk hne => hg5.block k hk (fun e => hne (by cases e; rfl))⟩
    have SG := Lib.hid (SG.out.newer hbt hbB (by omega))
    have V7 := Lib.hid (varC_other V7.out hbt HCUR.out (by decide))
    have hz1 : sortedZ [z] = [z] := by simp [sortedZ]
    rw [hz1] at ho5
    have hwc5 : wc.heap.size ≤ w5.heap.size := Nat.le_trans hwc4 hbt.size
    obtain ⟨_, _, e, _, ⟨cur5, hcur5⟩, hcb, _, _⟩ := ownZ_where ho5
    cases e
    have HCB5 := Lib.hid hcb
    have HCU5 := Lib.hid hcur5
    have hlb := lt_of_block hcur5
    have c7' : w5.cell? ⟨p7, 0, none⟩ = some (.slice (some ⟨b, 0, none⟩) 1 cv) := (V7.out.cell 0).trans rfl
    have f7 := V7.out.free 0
    clear c7 ho5 hg5 hbt hz1 hcb hcur5 HSO HCUR
    go_upto_region 5 with (first | (go_at_call 50; (with_reducible refine (compact_one _ _ _).mono ?_); rintro e w9 ⟨rfl, rfl⟩) | fail)
    have hb6 := store_same (i := 0) (v := .slice (some ⟨b, 0, none⟩) 1 cv) V7.out rfl
    have SG6 := Lib.hid (SG.out.below hb6)
    have V76 := Lib.hid (V7.out.below hb6)
    have HC6 := Lib.hid ((hb6.cell (p := ⟨b, 0, none⟩) hlb).trans HCB5.out)
    have HBB6 := Lib.hid ((hb6.block b hlb).trans HCU5.out)
    have hwc6 := Nat.le_trans hwc5 hb6.size
    clear c7' f7 hb6 SG V7 HCB5 HCU5 hlb
    revert SG6 V76 HC6 HBB6 hwc6
    generalize World.setCell w5 _ _ = w6
    intro SG6 V76 HC6 HBB6 hwc6
    have c39 : w6.cell? ⟨p6, 39, none⟩ = some (.slice none 0 0) := (SG6.out.var.cell 39).trans (sign_cell15 HROOT.out)
    have c7 : w6.cell? ⟨p7, 0, none⟩ = some (.slice (some ⟨b, 0, none⟩) 1 cv) := (V76.out.cell 0).trans rfl
    have hmf : ∀ (fn : Fn) (first cap : Array Value) (w : World), (Instr.makeFunc fn first cap).run Tryd.prog w = .ok (.func fn first cap) w := fun _ _ _ _ => rfl
    go_upto_region 7 with (first | (go_at_call 51; (with_reducible refine (deleteSign_nil _ _).mono ?_); rintro e w9 ⟨rfl, rfl⟩) | fail)
    clear c39 c7 V76
    obtain ⟨Y, hY⟩ : ∃ Y : PSign, Y = ⟨z, S⟩ := ⟨_, rfl⟩
    have hYl : Y.sum.length = 32 := by rw [hY]; exact HSL.out
    have hYs : SignIn Y := by rw [hY]; exact ⟨HZ.out, HSL.out⟩
    have HY := Lib.hid hY
    have HYL := Lib.hid (PSign.len hYl)
    have HYS := Lib.hid hYs
    clear hY hYl hYs
    go_loopw [8, 27] (fun l i wr => ∃ (k : Nat) (a8 : Option Addr) (c8 : Nat), k ≤ 1 ∧ i = .int .i64 k ∧ l = .slice a8 k c8 ∧ OwnOf signK 86 wr wc.heap.size (.slice a8 k c8) (([Y] : List PSign).take k) ∧ SgTx w r p5 p6 wc.heap.size (⟨ia, inn, ic, ins, oa, on, oc, outs, op, none, 0, 0, []⟩ : PTx) S wr ∧ wr.cell? ⟨b, 0, none⟩ = some (.int .i64 z) ∧ wc.heap.size ≤ wr.heap.size ∧ ∃ cb, wr.heap[b]? = some (.cells cb 3 (0, 0))) (fun _ i _ => 1 - (intOf i).toNat)
    case atStart => exact ⟨0, none, 0, by omega, rfl, rfl, OwnOf.nil _ _ _ _, SG6.out, HC6.out, hwc6, ⟨_, HBB6.out⟩⟩
    case round =>
      obtain ⟨k, a8, c8, hk, rfl, rfl, ho8, hs8, hcz, hwr, cb, hcb⟩ := hrel
      have hbr := lt_of_block hcb
      have HCB9 := Lib.hid hcb
      have SG := Lib.hid hs8
      clear SG6 HC6 HBB6 hs8 hwc6 hcb
      by_cases hk0 : k = 0
      · subst hk0
        have O8 := Lib.hid (show OwnOf signK 86 wr wc.heap.size (.slice a8 0 c8) [] from ho8)
        have RS5 := Lib.hid SG.out.sum.range
        have HCZ0 := Lib.hid hcz
        have HWR := Lib.hid hwr
        have HBR0 := Lib.hid hbr
        clear ho8
        go_wp2_with (first | (refine wpList_load_mid rfl 23 _ rfl p5 0 rfl (cellsOf S) _ RS5.out Tryd.underlying23 rfl SSL.out ?_) | (refine wpList_build_sign rfl _ _ rfl z S rfl rfl HSL.out HY.out ?_) | (refine wpList_lit_of signS15 rfl _ rfl Y rfl HYL.out ?_; intro p9 w9 _ hlit hbl; have O9 := Lib.hid (O8.out.below hbl); have HP9 := Lib.hid hlit; have SG9 := Lib.hid (SG.out.below hbl); have HBK := Lib.hid ((hbl.block b HBR0.out).trans HCB9.out); have HCZ := Lib.hid ((hbl.cell (p := ⟨b, 0, none⟩) HBR0.out).trans HCZ0.out); have HSZ9 := Lib.hid SG9.out.size; have HW9 := Lib.hid (Nat.le_trans HWR.out hbl.size); have HB9 := Lib.hid (Nat.lt_of_lt_of_le HBR0.out hbl.size); clear hlit hbl) | (at_builtin; refine wpList_append_of signS15 rfl _ _ rfl rfl wc.heap.size (.slice a8 0 c8) [] rfl O9.out p9 Y rfl HP9.out HYL.out (by simp) HSZ9.out ?_; intro aa cc wa ho hg; have HOA := Lib.hid ho; have HGA := Lib.hid hg; clear ho hg) | fail)
        have hfin : SgTx w r p5 p6 wc.heap.size (⟨ia, inn, ic, ins, oa, on, oc, outs, op, none, 0, 0, []⟩ : PTx) S wa ∧ wa.cell? ⟨b, 0, none⟩ = some (.int .i64 z) ∧ wc.heap.size ≤ wa.heap.size ∧ ∃ cb, wa.heap[b]? = some (.cells cb 3 (0, 0)) := by
          rcases O9.out.step HGA.out with hb | ⟨gg, cs, _, hBg, hh, hb⟩
          · exact ⟨SG9.out.below hb, (hb.cell (p := ⟨b, 0, none⟩) HB9.out).trans HCZ.out, Nat.le_trans HW9.out hb.size, ⟨_, (hb.block b HB9.out).trans HBK.out⟩⟩
          · have hne : b ≠ gg := fun e => by
              have h9 := HBK.out
              rw [e, hh] at h9
              simp at h9
            exact ⟨SG9.out.newer hb hBg (Nat.le_trans HBC0.out hBg), (hb.cell (a := ⟨b, 0, none⟩) HB9.out hne).trans HCZ.out, Nat.le_trans HW9.out hb.size, ⟨_, (hb.block b HB9.out hne).trans HBK.out⟩⟩
        obtain ⟨f1, f2, f3, f4⟩ := hfin
        go_roundw
        case rel => exact ⟨1, aa, cc, by omega, by go_num, rfl, HOA.out, f1, f2, f3, f4⟩
        case measure => simp [intOf]
      · obtain rfl : k = 1 := by omega
        have O8 := Lib.hid (show OwnOf signK 86 wr wc.heap.size (.slice a8 1 c8) [Y] from ho8)
        have c39 : wr.cell? ⟨p6, 39, none⟩ = some (.slice none 0 0) := (SG.out.var.cell 39).trans (sign_cell15 HROOT.out)
        have f39 := SG.out.var.free 39
        clear ho8 hcz
        go_upto_region 13 with (first | (go_at_call 54; (with_reducible refine (sortSign_one _ _ _ _).mono ?_); rintro e w9 ⟨rfl, rfl⟩) | fail)
        have hs := (But.refl wr.heap.size p6 wr).setCell ⟨p6, 39, none⟩ (.inl rfl) (.slice a8 1 c8)
        have VF := Lib.hid (show VarC (wr.setCell ⟨p6, 39, none⟩ (.slice a8 1 c8)) p6 50 (⟨ia, inn, ic, ins, oa, on, oc, outs, op, a8, 1, c8, [Y]⟩ : PTx).cells from VarC.put1 (pre := .slice ia inn ic :: .slice oa on oc :: op.cells) (post := []) (u := .slice none 0 0) SG.out.var (by simp [POp.len HROOT.out]))
        have hne : r ≠ p6 := HNG.out
        have RF := Lib.hid (SG.out.res.but hs SG.out.res.lt hne)
        have OF := Lib.hid (SG.out.tx.butAll (SG.out.apart.mono fun b hb => hb.1) rfl hs)
        have AF := Lib.hid SG.out.apart
        have NF := Lib.hid SG.out.nw
        have O8F := Lib.hid (O8.out.but hs (not_typed SG.out.var (by decide)))
        have BF := Lib.hid (SG.out.but.trans ((hs.mono SG.out.but.size).below HP6B.out))
        clear hs c39 f39 SG O8 hne
        revert VF RF OF O8F BF
        generalize World.setCell wr _ _ = wz
        intro VF RF OF O8F BF
        have RX := Lib.hid VF.out.range
        have SX := Lib.hid (tx_size (x := (⟨ia, inn, ic, ins, oa, on, oc, outs, op, a8, 1, c8, [Y]⟩ : PTx)) HROOT.out)
        have AX := Lib.hid (tx_sizeA (x := (⟨ia, inn, ic, ins, oa, on, oc, outs, op, a8, 1, c8, [Y]⟩ : PTx)) HROOT.out)
        go_wp2_with (first | (refine wpList_load_mid rfl 50 _ rfl p6 0 rfl (⟨ia, inn, ic, ins, oa, on, oc, outs, op, a8, 1, c8, [Y]⟩ : PTx).cells _ RX.out Tryd.underlying50 rfl SX.out ?_) | (refine wpList_store_row rfl 50 _ _ rfl r (⟨ia, inn, ic, ins, oa, on, oc, outs, op, a8, 1, c8, [Y]⟩ : PTx).cells.toArray rfl rfl 50 noTx.cells.toArray RF.out AX.out (by rw [List.size_toArray, List.size_toArray, PTx.len (x := (⟨ia, inn, ic, ins, oa, on, oc, outs, op, a8, 1, c8, [Y]⟩ : PTx)) HROOT.out]; rfl) (all_oneCell_toArray (PTx.one _)) ?_) | fail)
        refine bodyPost_ret (results_cell_row rfl _ _ r 50 (⟨ia, inn, ic, ins, oa, on, oc, outs, op, a8, 1, c8, [Y]⟩ : PTx).cells.toArray (0, 0) _ rfl (setRow_heap wz r _ _ 50 _ RF.out) Tryd.underlying50 rfl AX.out) rfl ?_
        have hfb := but_setRow wz r (⟨ia, inn, ic, ins, oa, on, oc, outs, op, a8, 1, c8, [Y]⟩ : PTx).cells.toArray
        have hfx := OF.out.butAll (AF.out.mono fun b hb => hb.2) rfl hfb
        have e := congrArg (fun p : PTx => (⟨p.ia, p.inn, p.ic, p.ins, p.oa, p.on, p.oc, p.outs, p.op, none, 1, 0, [⟨z, S⟩]⟩ : PTx)) HSY.out
        refine ⟨(⟨ia, inn, ic, ins, oa, on, oc, outs, op, a8, 1, c8, [Y]⟩ : PTx), rfl, ⟨hfx.ins, hfx.outs, hfx.op, (O8F.out.but hfb (not_typed RF.out (by decide))).slice (fun y hy => by simp at hy; subst hy; exact HYS.out)⟩, ?_, ⟨⟨NF.out.ia, NF.out.oa, NF.out.pre, NF.out.ws, NF.out.ks, NF.out.data⟩, fun _ x e2 => by obtain ⟨a2, c2, e3, h3⟩ := O8F.out.shape; cases e3; exact Nat.le_trans HBC0.out (h3 x e2)⟩, BF.out.trans ((hfb.mono BF.out.size).below (by omega))⟩
        rw [HY.out]
        exact e
end Go.Proofs.YtlnenkmcegadmaaDoor
