/- What tx.Signed comes to, of any transaction of one sign or none, by no key: one that says the same, all of it new. -/
import Derived.Test.YteddkkcheaghaaaGreatDoorTxSigned
import Derived.Test.YteddkkcheaghaaaGreatDoorLks
import Derived.Test.YteddkkcheaghaaaGreatDoorAllT
namespace Go.Proofs.YteddkkcheaghaaaGreatDoor
open Go.RowKit

/-- How all stands while one is signed. -/
structure SgS (w0 : World) (g4 p5 p6 Bc : Nat) (y : PTx) (S : List UInt8) (w : World) : Prop where
  res : VarC w g4 50 noTx.cells
  sum : VarC w p5 28 (cellsOf S)
  var : VarC w p6 50 y.cells
  tx : TxIn w y
  lt : AllT (· < Bc) y
  apart : AllT (fun k => k ≠ p6 ∧ k ≠ g4) y
  l4 : g4 < Bc
  l5 : p5 < Bc
  l6 : p6 < Bc
  size : Bc ≤ w.heap.size
  but : Below w0.heap.size w0 w
  nw : AllT (w0.heap.size ≤ ·) y
theorem SgS.below {w0 w w' : World} {g4 p5 p6 Bc : Nat} {y : PTx} {S : List UInt8} (h : SgS w0 g4 p5 p6 Bc y S w) (hb : Below w.heap.size w w') : SgS w0 g4 p5 p6 Bc y S w' :=
  ⟨h.res.below hb, h.sum.below hb, h.var.below hb, h.tx.below hb, h.lt, h.apart, h.l4, h.l5, h.l6, Nat.le_trans h.size hb.size, h.but.trans (hb.mono h.but.size), h.nw⟩
set_option linter.unusedSimpArgs false in
set_option maxRecDepth 100000 in
set_option maxHeartbeats 3200000 in
theorem compact_nil (w : World) : Calls Tryz.prog 80 #[.slice none 0 0] w fun e w' => e = .returned (.slice none 0 0) ∧ w = w' := by
  go_enter Tryz.func80, Tryz.ntmps80
  go_wp2
  go_ret
  exact ⟨rfl, rfl⟩
set_option linter.unusedSimpArgs false in
set_option maxRecDepth 100000 in
set_option maxHeartbeats 3200000 in
/-- No key is among none. -/
theorem signed1_none {w : World} {y : PSign} {p : Nat} (hp : w.cell? ⟨p, 0, none⟩ = some (.slice none 0 0)) :
    Calls Tryz.prog 82 #[.agg y.cells.toArray, .pointer (some ⟨p, 0, none⟩)] w fun e w' => e = .returned (.bool false) ∧ Below w.heap.size w w' := by
  have b2 : Below w.heap.size w (w.alloc (.cells y.cells.toArray 162)) := (Below.refl _ _).alloc (Nat.le_refl _) _
  have h2 := heap_alloc_new w (.cells y.cells.toArray 162)
  have c0 := (b2.cell (p := ⟨p, 0, none⟩) (World.block_lt_of_cell? w _ hp)).trans hp
  have HS := Lib.hid (fun (W : World) => search_any y.key (Numbers.nil W) List.Pairwise.nil (by omega))
  have HB2 := Lib.hid b2
  go_enter Tryz.func82, Tryz.ntmps82
  go_upto_region 1 with (fail)
  revert h2 c0 HB2
  generalize (w.alloc (.cells y.cells.toArray 162)) = w2
  obtain ⟨g, hg⟩ : ∃ g, g = w.heap.size := ⟨_, rfl⟩
  rw [← hg]
  intro h2 c0 HB2
  rw [hg] at HB2
  have ck : w2.cell? ⟨g, 0, none⟩ = some (.int .i64 y.key) := by rw [cell_of_row _ _ _ _ _ _ h2]; rfl
  clear h2 hg b2
  go_wp2_with (first | (go_at_call 83; (with_reducible refine (HS.out _).mono ?_); rintro e w7 ⟨z, rfl, hb7⟩; have HB7 := Lib.hid hb7; clear hb7) | fail)
  go_ret
  exact ⟨rfl, HB2.out.trans (HB7.out.mono HB2.out.size)⟩
set_option linter.unusedSimpArgs false in
set_option maxRecDepth 100000 in
set_option maxHeartbeats 6400000 in
theorem indexSigns_none {w : World} {a : Option Addr} {n c p : Nat} {xs : List PSign} (h : SliceOf signK w a n c xs) (hp : w.cell? ⟨p, 0, none⟩ = some (.slice none 0 0)) :
    Calls Tryz.prog 142 #[.slice a n c, .func (.func 82) #[] #[.pointer (some ⟨p, 0, none⟩)]] w fun e w' => e = .returned (.int .i64 (-1)) ∧ Below w.heap.size w w' := by
  have hn63 := h.len63
  have H := Lib.hid h
  have HP := Lib.hid hp
  have HPL := Lib.hid (World.block_lt_of_cell? w _ hp)
  clear h hp
  go_enter Tryz.func142, Tryz.ntmps142
  go_upto_region 2 with (fail)
  go_loopw [8] (fun i wr => ∃ j : Nat, j ≤ n ∧ i = .int .i64 j ∧ Below w.heap.size w wr) (fun i _ => n - (intOf i).toNat)
  case atStart => exact ⟨0, Nat.zero_le _, rfl, Below.refl _ _⟩
  case round =>
    obtain ⟨j, hj, rfl, hb⟩ := hrel
    have HB := Lib.hid hb
    clear hb
    by_cases hjn : j < n
    · have f1 : (j : Int) < (n : Int) := by omega
      have f0 : (0 : Int) ≤ (j : Int) := by omega
      have ft : ((j : Int)).toNat = j := by omega
      obtain ⟨b1, o1, e1, hlt1, hc1⟩ := (H.out.below HB.out).2.2.2.2.2 (by omega)
      have hx := (H.out.below HB.out).get hjn
      have hrx := hc1 j hjn
      replace hx : signK.ok wr (xs.getD j noSign) := hx
      replace hrx : wr.rangeAt b1 (o1 + j * 33) (signK.cells (xs.getD j noSign)) := hrx
      revert hx hrx
      generalize xs.getD j noSign = y
      intro hx hrx
      subst e1
      have RX : Hid (wr.rangeAt b1 (o1 + j * 33) y.cells) := Lib.hid hrx
      have SX := Lib.hid (sign_size (SignIn.sum hx))
      have HC := Lib.hid (signed1_none (y := y) ((HB.out.cell (p := ⟨p, 0, none⟩) HPL.out).trans HP.out))
      clear hc1 hrx hx
      go_wp2_with (first | (refine wpList_load_mid rfl 162 _ rfl b1 (o1 + j * 33) rfl y.cells _ RX.out Tryz.underlying162 rfl SX.out ?_) | (go_at_call 82; (with_reducible refine HC.out.mono ?_); rintro e w7 ⟨rfl, hb7⟩; have HB7 := Lib.hid hb7; clear hb7) | fail)
      go_roundw
      case rel => exact ⟨j + 1, by omega, by go_num, HB.out.trans (HB7.out.mono HB.out.size)⟩
      case measure => simp [intOf]; omega
    · have f1 : ¬ ((j : Int) < (n : Int)) := by omega
      clear H
      go_wp2
      go_ret
      exact ⟨rfl, HB.out⟩
set_option linter.unusedSimpArgs false in
set_option maxRecDepth 100000 in
set_option maxHeartbeats 6400000 in
theorem deleteSigns_none {w : World} {a : Option Addr} {n c p : Nat} {xs : List PSign} (h : SliceOf signK w a n c xs) (hp : w.cell? ⟨p, 0, none⟩ = some (.slice none 0 0)) :
    Calls Tryz.prog 81 #[.slice a n c, .func (.func 82) #[] #[.pointer (some ⟨p, 0, none⟩)]] w fun e w' => e = .returned (.slice a n c) ∧ Below w.heap.size w w' := by
  have HC := Lib.hid (indexSigns_none h hp)
  clear h hp
  go_enter Tryz.func81, Tryz.ntmps81
  go_wp2_with (first | (go_at_call 142; (with_reducible refine HC.out.mono ?_); rintro e w7 ⟨rfl, hb7⟩; have HB7 := Lib.hid hb7; clear hb7) | fail)
  go_ret
  exact ⟨rfl, HB7.out⟩
set_option linter.unusedSimpArgs false in
set_option maxRecDepth 100000 in
set_option maxHeartbeats 6400000 in
theorem sortSigns_nil (a : Option Addr) (c : Nat) (f : Value) (w : World) : Calls Tryz.prog 84 #[.slice a 0 c, f] w fun e w' => e = .returned (.tuple #[]) ∧ w = w' := by
  have hi : ∀ W : World, Calls Tryz.prog 186 #[.slice a 0 c, .int .i64 0, .int .i64 0, f] W fun e w' => e = .returned (.tuple #[]) ∧ W = w' := fun W => by
    go_enter Tryz.func186, Tryz.ntmps186
    go_upto_region 1 with (fail)
    go_loop [8] (fun x => x = .int .i64 1) (fun _ => 0)
    case atStart => rfl
    case round =>
      subst hrel
      go_wp2
      go_end0
      exact ⟨rfl, rfl⟩
  have hs : ∀ W : World, Calls Tryz.prog 145 #[.slice a 0 c, .int .i64 0, f] W fun e w' => e = .returned (.tuple #[]) ∧ W = w' := fun W => by
    have HI := Lib.hid hi
    clear hi
    go_enter Tryz.func145, Tryz.ntmps145
    go_upto_region 2 with (fail)
    go_loop [7, 8] (fun x y => x = .int .i64 0 ∧ y = .int .i64 20) (fun _ _ => 0)
    case atStart => exact ⟨rfl, rfl⟩
    case round =>
      obtain ⟨rfl, rfl⟩ := hrel
      go_wp2_with (first | (go_at_call 186; (with_reducible refine (HI.out _).mono ?_); rintro e w9 ⟨rfl, rfl⟩) | fail)
      go_loop [6] (fun x => x = .int .i64 20) (fun _ => 0)
      case atStart => rfl
      case round =>
        subst hrel
        go_wp2
        go_end0
        exact ⟨rfl, rfl⟩
  have HS := Lib.hid hs
  clear hs hi
  go_enter Tryz.func84, Tryz.ntmps84
  go_wp2_with (first | (go_at_call 145; (with_reducible refine (HS.out _).mono ?_); rintro e w9 ⟨rfl, rfl⟩) | fail)
  go_end0
  exact ⟨rfl, rfl⟩
theorem sortSigns_few (a : Option Addr) {n : Nat} (hn : n ≤ 1) (c : Nat) (f : Value) (w : World) : Calls Tryz.prog 84 #[.slice a n c, f] w fun e w' => e = .returned (.tuple #[]) ∧ w = w' := by
  rcases Nat.lt_or_ge 0 n with h | h
  · obtain rfl : n = 1 := by omega
    exact sortSign_one a c f w
  · obtain rfl : n = 0 := by omega
    exact sortSigns_nil a c f w
set_option linter.unusedSimpArgs false in
set_option maxRecDepth 100000 in
set_option maxHeartbeats 6400000 in
/-- Signed by nobody: it is copied. -/
theorem txSelf_any {w : World} {t : PTx} (ht : TxIn w t) (hf : FewTxS t) (hff : FrontFew false t) (hk : KsAt w) (h1 : t.sn ≤ 1) :
    Calls Tryz.prog 31 #[.agg t.cells.toArray, .slice none 0 0] w fun e w' => ∃ y : PTx, e = .returned (.agg y.cells.toArray) ∧ TxIn w' y ∧ y.strip = t.strip ∧ NewTx w.heap.size y ∧ Below w.heap.size w w' := by
  obtain ⟨S, hS, hSl⟩ : ∃ S, txSum t = S ∧ S.length = 32 := ⟨_, rfl, txSum_len _⟩
  have hsum : ∀ W : World, Below w.heap.size w W → Calls Tryz.prog 16 #[.agg t.cells.toArray] W fun e w' => e = .returned (.agg (cellsOf S).toArray) ∧ Below W.heap.size W w' := fun W hW => by rw [← hS]; exact txSum_any (ht.below hW) (hk.below hW) hff
  have hcp := fun (W : World) (hW : Below w.heap.size w W) => txCopiedS_any (ht.below hW) hf
  have SS := Lib.hid (size_of hSl)
  have SZ : Hid ((cellsOf zero32).toArray.size = (cellsOf S).toArray.size) := Lib.hid (by rw [List.size_toArray, List.size_toArray, cellsOf_len, cellsOf_len, hSl]; exact zero32_len)
  have SXT := Lib.hid (tx_size (x := t) ht.op.root)
  have AXY : Hid (∀ y : PTx, y.op.root.length = 32 → (Tryz.prog.info? 50).map (·.size) = some y.cells.toArray.size) := Lib.hid (fun y h => tx_sizeA h)
  have H1 := Lib.hid h1
  clear hS hff hk hf ht hSl h1
  go_enter Tryz.func31, Tryz.ntmps31
  go_upto_region 1 with (first | (refine wpList_new rfl 50 rfl noTx.cells.toArray noTx15 ?_; intro r w2 hr hh hb; go_frame) | fail)
  have b0 : Below w.heap.size w (w.alloc (.cells t.cells.toArray 50)) := (Below.refl _ _).alloc (Nat.le_refl _) _
  have h1 := keep hb (heap_alloc_new w (.cells t.cells.toArray 50))
  have b2 := bthen b0 hb
  obtain ⟨g, hg⟩ : ∃ g, g = w.heap.size := ⟨_, rfl⟩
  rw [← hg] at h1 ⊢
  have RES : Hid (VarC w2 r 50 noTx.cells) := Lib.hid hh
  have HG1L := Lib.hid (lt_of_block hh)
  have HR0 : Hid (w.heap.size ≤ r) := Lib.hid (Nat.le_trans b0.size hr)
  have HB2 := Lib.hid b2
  have V2 := Lib.hid h1
  have HSUM := Lib.hid (fun (W : World) (hW : Below w2.heap.size w2 W) => hsum W (bthen b2 hW))
  have HCP := Lib.hid (fun (W : World) (hW : Below w2.heap.size w2 W) => hcp W (bthen b2 hW))
  clear b0 h1 b2 hr hh hb hsum hcp hg
  go_cut [5, 6] from 11 to 14 (fun u v w' => ∃ (p5 p6 : Nat) (y : PTx), u = .pointer (some ⟨p5, 0, none⟩) ∧ v = .pointer (some ⟨p6, 0, none⟩) ∧ SgS w r p5 p6 w'.heap.size y S w' ∧ y.strip = t.strip ∧ w.heap.size ≤ p6 ∧ r ≠ p6 ∧ y.sn = t.sn ∧ y.signs = t.signs ∧ (1 ≤ t.sn ∨ (y.sa = none ∧ y.sc = 0)))
  case first =>
    try simp only [Act.put]
    refine wp_region_held_drew (S := fun w' => Below w2.heap.size w2 w') (by kernel_rfl) (below_drew (Below.refl _ _)) (fun hHeld => ?_)
    refine tkA 0 rfl rfl (yieldsIf_load_mid (by rfl) _ _ rfl g 0 rfl t.cells _ (fun w0 hSw => range_of (keep hSw V2.out)) Tryz.underlying50 rfl SXT.out) ?_
    refine tkA 2 rfl rfl (yieldsIf_load_mid (by rfl) _ _ rfl g 0 rfl t.cells _ (fun w0 hSw => range_of (keep hSw V2.out)) Tryz.underlying50 rfl SXT.out) ?_
    refine wpAnyH_ready (rs := [1, 4, 5]) (by kernel_rfl) (by simp) (AllReadyH.cons rfl (fun K hK => ?_) (AllReadyH.cons rfl (fun K hK => ?_) (AllReadyH.cons rfl (fun K hK => ?_) AllReadyH.nil)))
    all_goals (first | (refine step_alloc_of (d := 5) rfl (by rfl) 28 rfl (cellsOf zero32).toArray Tryz.zeroSum32 ?_; intro p5 y1 hp hh hb; (try (have HA5 : Hid (AllT (· ≠ p5) y) := Lib.hid (HTY.out.ltT.mono fun b hb2 => by omega))); (try (have V5 := Lib.hid (V5.out.below hb))); (try (have V6 := Lib.hid (V6.out.below hb))); (try (have HTY := Lib.hid (HTY.out.below hb))); have V5 : Hid (VarC y1 p5 28 (cellsOf zero32)) := Lib.hid hh; have P5 : Hid (w2.heap.size ≤ p5) := Lib.hid (Nat.le_trans (Below.size hHeld) hp); have HX := Lib.hid (bthen hHeld hb); clear hb hh hp; refine hK.out _ _ (by (try dsimp only); exact HX.out) (fun hHeld => ?_); clear hK K) | (refine step_alloc_of (d := 6) rfl (by rfl) 50 rfl noTx.cells.toArray Tryz.zeroTx160 ?_; intro p6 y1 hp hh hb; (try (have HA6 : Hid (AllT (· ≠ p6) y) := Lib.hid (HTY.out.ltT.mono fun b hb2 => by omega))); (try (have V5 := Lib.hid (V5.out.below hb))); (try (have V6 := Lib.hid (V6.out.below hb))); (try (have HTY := Lib.hid (HTY.out.below hb))); have V6 : Hid (VarC y1 p6 50 (noTx.cells)) := Lib.hid hh; have P6 : Hid (w2.heap.size ≤ p6) := Lib.hid (Nat.le_trans (Below.size hHeld) hp); have HX := Lib.hid (bthen hHeld hb); clear hb hh hp; refine hK.out _ _ (by (try dsimp only); exact HX.out) (fun hHeld => ?_); clear hK K) | (have HCx := Lib.hid (HSUM.out _ hHeld); go_simp; go_wp2_with ((go_at_call 16; (with_reducible refine (HCx.out).mono ?_); rintro e y1 ⟨rfl, hb⟩; (try (have V5 := Lib.hid (V5.out.below hb))); (try (have V6 := Lib.hid (V6.out.below hb))); (try (have HTY := Lib.hid (HTY.out.below hb))); have HX := Lib.hid (bthen hHeld hb); clear hb HCx)); refine hK.out _ _ (by (try dsimp only); exact HX.out) (fun hHeld => ?_); clear hK K))
    all_goals (first | (refine wpAnyH_ready (rs := [3, 4, 5]) (by decide +kernel) (by simp) (AllReadyH.cons rfl (fun K hK => ?_) (AllReadyH.cons rfl (fun K hK => ?_) (AllReadyH.cons rfl (fun K hK => ?_) AllReadyH.nil)))) | (refine wpAnyH_ready (rs := [1, 4]) (by decide +kernel) (by simp) (AllReadyH.cons rfl (fun K hK => ?_) (AllReadyH.cons rfl (fun K hK => ?_) AllReadyH.nil))) | (refine wpAnyH_ready (rs := [1, 5]) (by decide +kernel) (by simp) (AllReadyH.cons rfl (fun K hK => ?_) (AllReadyH.cons rfl (fun K hK => ?_) AllReadyH.nil))))
    all_goals (first | (refine step_alloc_of (d := 5) rfl (by rfl) 28 rfl (cellsOf zero32).toArray Tryz.zeroSum32 ?_; intro p5 y1 hp hh hb; (try (have HA5 : Hid (AllT (· ≠ p5) y) := Lib.hid (HTY.out.ltT.mono fun b hb2 => by omega))); (try (have V5 := Lib.hid (V5.out.below hb))); (try (have V6 := Lib.hid (V6.out.below hb))); (try (have HTY := Lib.hid (HTY.out.below hb))); have V5 : Hid (VarC y1 p5 28 (cellsOf zero32)) := Lib.hid hh; have P5 : Hid (w2.heap.size ≤ p5) := Lib.hid (Nat.le_trans (Below.size hHeld) hp); have HX := Lib.hid (bthen hHeld hb); clear hb hh hp; refine hK.out _ _ (by (try dsimp only); exact HX.out) (fun hHeld => ?_); clear hK K) | (refine step_alloc_of (d := 6) rfl (by rfl) 50 rfl noTx.cells.toArray Tryz.zeroTx160 ?_; intro p6 y1 hp hh hb; (try (have HA6 : Hid (AllT (· ≠ p6) y) := Lib.hid (HTY.out.ltT.mono fun b hb2 => by omega))); (try (have V5 := Lib.hid (V5.out.below hb))); (try (have V6 := Lib.hid (V6.out.below hb))); (try (have HTY := Lib.hid (HTY.out.below hb))); have V6 : Hid (VarC y1 p6 50 (noTx.cells)) := Lib.hid hh; have P6 : Hid (w2.heap.size ≤ p6) := Lib.hid (Nat.le_trans (Below.size hHeld) hp); have HX := Lib.hid (bthen hHeld hb); clear hb hh hp; refine hK.out _ _ (by (try dsimp only); exact HX.out) (fun hHeld => ?_); clear hK K) | (have HCx := Lib.hid (HSUM.out _ hHeld); go_simp; go_wp2_with ((go_at_call 16; (with_reducible refine (HCx.out).mono ?_); rintro e y1 ⟨rfl, hb⟩; (try (have V5 := Lib.hid (V5.out.below hb))); (try (have V6 := Lib.hid (V6.out.below hb))); (try (have HTY := Lib.hid (HTY.out.below hb))); have HX := Lib.hid (bthen hHeld hb); clear hb HCx)); refine hK.out _ _ (by (try dsimp only); exact HX.out) (fun hHeld => ?_); clear hK K) | (have HCx := Lib.hid (HCP.out _ hHeld); go_simp; go_wp2_with ((go_at_call 77; (with_reducible refine (HCx.out).mono ?_); rintro e y1 ⟨y, rfl, hty, hsy, hny1, hny2, hsn, hss, hs0, hb⟩; have hny := And.intro hny1 hny2; have HNW : Hid (AllT (w.heap.size ≤ ·) y) := Lib.hid (AllT.mono hny fun b hb2 => by have h9 := HB2.out.size; have h8 := Below.size hHeld; omega); have HAG : Hid (AllT (· ≠ r) y) := Lib.hid (AllT.mono hny fun b hb2 => by have h9 := HG1L.out; have h8 := Below.size hHeld; omega); (try (have HA5 : Hid (AllT (· ≠ p5) y) := Lib.hid (AllT.mono hny fun b hb2 => by have h9 := V5.out.lt; omega))); (try (have HA6 : Hid (AllT (· ≠ p6) y) := Lib.hid (AllT.mono hny fun b hb2 => by have h9 := V6.out.lt; omega))); (try (have V5 := Lib.hid (V5.out.below hb))); (try (have V6 := Lib.hid (V6.out.below hb))); (try (have HTY := Lib.hid (HTY.out.below hb))); have HTY := Lib.hid hty; have HSY := Lib.hid hsy; have HSN := Lib.hid (And.intro hsn hss); have HS0 := Lib.hid hs0; have HX := Lib.hid (bthen hHeld hb); clear hty hsy hny hny1 hny2 hsn hss hs0 hb HCx)); refine hK.out _ _ (by (try dsimp only); exact HX.out) (fun hHeld => ?_); clear hK K))
    all_goals (first | (refine wpAnyH_ready (rs := [3, 4]) (by decide +kernel) (by simp) (AllReadyH.cons rfl (fun K hK => ?_) (AllReadyH.cons rfl (fun K hK => ?_) AllReadyH.nil))) | (refine wpAnyH_ready (rs := [3, 5]) (by decide +kernel) (by simp) (AllReadyH.cons rfl (fun K hK => ?_) (AllReadyH.cons rfl (fun K hK => ?_) AllReadyH.nil))) | (refine wpAnyH_ready (rs := [4, 5]) (by decide +kernel) (by simp) (AllReadyH.cons rfl (fun K hK => ?_) (AllReadyH.cons rfl (fun K hK => ?_) AllReadyH.nil))) | (refine wpAnyH_ready (rs := [1]) (by decide +kernel) (by simp) (AllReadyH.cons rfl (fun K hK => ?_) AllReadyH.nil)))
    all_goals (first | (refine step_alloc_of (d := 5) rfl (by rfl) 28 rfl (cellsOf zero32).toArray Tryz.zeroSum32 ?_; intro p5 y1 hp hh hb; (try (have HA5 : Hid (AllT (· ≠ p5) y) := Lib.hid (HTY.out.ltT.mono fun b hb2 => by omega))); (try (have V5 := Lib.hid (V5.out.below hb))); (try (have V6 := Lib.hid (V6.out.below hb))); (try (have HTY := Lib.hid (HTY.out.below hb))); have V5 : Hid (VarC y1 p5 28 (cellsOf zero32)) := Lib.hid hh; have P5 : Hid (w2.heap.size ≤ p5) := Lib.hid (Nat.le_trans (Below.size hHeld) hp); have HX := Lib.hid (bthen hHeld hb); clear hb hh hp; refine hK.out _ _ (by (try dsimp only); exact HX.out) (fun hHeld => ?_); clear hK K) | (refine step_alloc_of (d := 6) rfl (by rfl) 50 rfl noTx.cells.toArray Tryz.zeroTx160 ?_; intro p6 y1 hp hh hb; (try (have HA6 : Hid (AllT (· ≠ p6) y) := Lib.hid (HTY.out.ltT.mono fun b hb2 => by omega))); (try (have V5 := Lib.hid (V5.out.below hb))); (try (have V6 := Lib.hid (V6.out.below hb))); (try (have HTY := Lib.hid (HTY.out.below hb))); have V6 : Hid (VarC y1 p6 50 (noTx.cells)) := Lib.hid hh; have P6 : Hid (w2.heap.size ≤ p6) := Lib.hid (Nat.le_trans (Below.size hHeld) hp); have HX := Lib.hid (bthen hHeld hb); clear hb hh hp; refine hK.out _ _ (by (try dsimp only); exact HX.out) (fun hHeld => ?_); clear hK K) | (have HCx := Lib.hid (HSUM.out _ hHeld); go_simp; go_wp2_with ((go_at_call 16; (with_reducible refine (HCx.out).mono ?_); rintro e y1 ⟨rfl, hb⟩; (try (have V5 := Lib.hid (V5.out.below hb))); (try (have V6 := Lib.hid (V6.out.below hb))); (try (have HTY := Lib.hid (HTY.out.below hb))); have HX := Lib.hid (bthen hHeld hb); clear hb HCx)); refine hK.out _ _ (by (try dsimp only); exact HX.out) (fun hHeld => ?_); clear hK K) | (have HCx := Lib.hid (HCP.out _ hHeld); go_simp; go_wp2_with ((go_at_call 77; (with_reducible refine (HCx.out).mono ?_); rintro e y1 ⟨y, rfl, hty, hsy, hny1, hny2, hsn, hss, hs0, hb⟩; have hny := And.intro hny1 hny2; have HNW : Hid (AllT (w.heap.size ≤ ·) y) := Lib.hid (AllT.mono hny fun b hb2 => by have h9 := HB2.out.size; have h8 := Below.size hHeld; omega); have HAG : Hid (AllT (· ≠ r) y) := Lib.hid (AllT.mono hny fun b hb2 => by have h9 := HG1L.out; have h8 := Below.size hHeld; omega); (try (have HA5 : Hid (AllT (· ≠ p5) y) := Lib.hid (AllT.mono hny fun b hb2 => by have h9 := V5.out.lt; omega))); (try (have HA6 : Hid (AllT (· ≠ p6) y) := Lib.hid (AllT.mono hny fun b hb2 => by have h9 := V6.out.lt; omega))); (try (have V5 := Lib.hid (V5.out.below hb))); (try (have V6 := Lib.hid (V6.out.below hb))); (try (have HTY := Lib.hid (HTY.out.below hb))); have HTY := Lib.hid hty; have HSY := Lib.hid hsy; have HSN := Lib.hid (And.intro hsn hss); have HS0 := Lib.hid hs0; have HX := Lib.hid (bthen hHeld hb); clear hty hsy hny hny1 hny2 hsn hss hs0 hb HCx)); refine hK.out _ _ (by (try dsimp only); exact HX.out) (fun hHeld => ?_); clear hK K))
    all_goals (first | (refine wpAnyH_ready (rs := [3]) (by decide +kernel) (by simp) (AllReadyH.cons rfl (fun K hK => ?_) AllReadyH.nil)) | (refine wpAnyH_ready (rs := [4]) (by decide +kernel) (by simp) (AllReadyH.cons rfl (fun K hK => ?_) AllReadyH.nil)) | (refine wpAnyH_ready (rs := [5]) (by decide +kernel) (by simp) (AllReadyH.cons rfl (fun K hK => ?_) AllReadyH.nil)))
    all_goals (first | (refine step_alloc_of (d := 5) rfl (by rfl) 28 rfl (cellsOf zero32).toArray Tryz.zeroSum32 ?_; intro p5 y1 hp hh hb; (try (have HA5 : Hid (AllT (· ≠ p5) y) := Lib.hid (HTY.out.ltT.mono fun b hb2 => by omega))); (try (have V5 := Lib.hid (V5.out.below hb))); (try (have V6 := Lib.hid (V6.out.below hb))); (try (have HTY := Lib.hid (HTY.out.below hb))); have V5 : Hid (VarC y1 p5 28 (cellsOf zero32)) := Lib.hid hh; have P5 : Hid (w2.heap.size ≤ p5) := Lib.hid (Nat.le_trans (Below.size hHeld) hp); have HX := Lib.hid (bthen hHeld hb); clear hb hh hp; refine hK.out _ _ (by (try dsimp only); exact HX.out) (fun hHeld => ?_); clear hK K) | (refine step_alloc_of (d := 6) rfl (by rfl) 50 rfl noTx.cells.toArray Tryz.zeroTx160 ?_; intro p6 y1 hp hh hb; (try (have HA6 : Hid (AllT (· ≠ p6) y) := Lib.hid (HTY.out.ltT.mono fun b hb2 => by omega))); (try (have V5 := Lib.hid (V5.out.below hb))); (try (have V6 := Lib.hid (V6.out.below hb))); (try (have HTY := Lib.hid (HTY.out.below hb))); have V6 : Hid (VarC y1 p6 50 (noTx.cells)) := Lib.hid hh; have P6 : Hid (w2.heap.size ≤ p6) := Lib.hid (Nat.le_trans (Below.size hHeld) hp); have HX := Lib.hid (bthen hHeld hb); clear hb hh hp; refine hK.out _ _ (by (try dsimp only); exact HX.out) (fun hHeld => ?_); clear hK K) | (have HCx := Lib.hid (HCP.out _ hHeld); go_simp; go_wp2_with ((go_at_call 77; (with_reducible refine (HCx.out).mono ?_); rintro e y1 ⟨y, rfl, hty, hsy, hny1, hny2, hsn, hss, hs0, hb⟩; have hny := And.intro hny1 hny2; have HNW : Hid (AllT (w.heap.size ≤ ·) y) := Lib.hid (AllT.mono hny fun b hb2 => by have h9 := HB2.out.size; have h8 := Below.size hHeld; omega); have HAG : Hid (AllT (· ≠ r) y) := Lib.hid (AllT.mono hny fun b hb2 => by have h9 := HG1L.out; have h8 := Below.size hHeld; omega); (try (have HA5 : Hid (AllT (· ≠ p5) y) := Lib.hid (AllT.mono hny fun b hb2 => by have h9 := V5.out.lt; omega))); (try (have HA6 : Hid (AllT (· ≠ p6) y) := Lib.hid (AllT.mono hny fun b hb2 => by have h9 := V6.out.lt; omega))); (try (have V5 := Lib.hid (V5.out.below hb))); (try (have V6 := Lib.hid (V6.out.below hb))); (try (have HTY := Lib.hid (HTY.out.below hb))); have HTY := Lib.hid hty; have HSY := Lib.hid hsy; have HSN := Lib.hid (And.intro hsn hss); have HS0 := Lib.hid hs0; have HX := Lib.hid (bthen hHeld hb); clear hty hsy hny hny1 hny2 hsn hss hs0 hb HCx)); refine hK.out _ _ (by (try dsimp only); exact HX.out) (fun hHeld => ?_); clear hK K))
    all_goals (refine tkR 6 rfl (fun K hK => ?_))
    all_goals (refine step_store_row (by rfl) 28 _ _ rfl p5 (cellsOf S).toArray (by rfl) (by rfl) 28 (cellsOf zero32).toArray V5.out SS.out SZ.out (all_oneCell_toArray (cellsOf_one S)) ?_; have hs := but_setRow y1 p5 (cellsOf S).toArray; have V5b := Lib.hid (show VarC (y1.setRow p5 (cellsOf S).toArray) p5 28 (cellsOf S) from setRow_heap y1 p5 _ _ 28 _ V5.out); have V6b := Lib.hid (varC_other V6.out hs V5.out (by decide)); have HTYb := Lib.hid (HTY.out.butT HA5.out hs); have HSS := Lib.hid ((hs.mono (Below.size hHeld)).below P5.out); clear hs; revert V5b V6b HTYb HSS; generalize World.setRow y1 _ _ = z6; intro V5b V6b HTYb HSS; refine hK.out _ _ (by (try dsimp only); exact Below.trans hHeld HSS.out) (fun hHeld => ?_); clear hK K)
    all_goals (refine tkR 7 rfl (fun K hK => ?_))
    all_goals (refine step_store_row (by rfl) 50 _ _ rfl p6 y.cells.toArray (by rfl) (by rfl) 50 noTx.cells.toArray V6b.out (AXY.out y HTYb.out.op.root) (by have h9 := PTx.len HTYb.out.op.root; rw [List.size_toArray, List.size_toArray, h9]; rfl) (all_oneCell_toArray y.one) ?_; have hs := but_setRow z6 p6 y.cells.toArray; have V6c := Lib.hid (show VarC (z6.setRow p6 y.cells.toArray) p6 50 y.cells from setRow_heap z6 p6 _ _ 50 _ V6b.out); have V5c := Lib.hid (varC_other V5b.out hs V6b.out (by decide)); have HTYc := Lib.hid (HTYb.out.butT HA6.out hs); have HST := Lib.hid ((hs.mono (Below.size hHeld)).below P6.out); clear hs; revert V6c V5c HTYc HST; generalize World.setRow z6 _ _ = z7; intro V6c V5c HTYc HST; refine hK.out _ _ (by (try dsimp only); exact Below.trans hHeld HST.out) (fun hHeld => ?_); clear hK K)
    all_goals (refine wpAnyH_done (by kernel_rfl) ?_ _)
    all_goals (have HFB := Lib.hid (show Below w2.heap.size w2 z7 from hHeld); clear hHeld; have SGT : Hid (SgS w r p5 p6 z7.heap.size y S z7) := Lib.hid ⟨VarC.below RES.out HFB.out, V5c.out, V6c.out, HTYc.out, HTYc.out.ltT, HA6.out.and HAG.out, Nat.lt_of_lt_of_le HG1L.out HFB.out.size, V5c.out.lt, V6c.out.lt, Nat.le_refl _, bthen HB2.out HFB.out, HNW.out⟩; go_wp2_with fail; go_meet; exact ⟨p5, p6, y, rfl, rfl, SGT.out, HSY.out, Nat.le_trans HB2.out.size P6.out, (by have h9 := P6.out; have h8 := HG1L.out; omega), HSN.out.1, HSN.out.2, HS0.out⟩)
  case rest =>
    obtain ⟨p5, p6, y, rfl, rfl, hsg, hsy, hp6, hng, hsn, _, _⟩ := hcut
    have SG := Lib.hid hsg
    have HROOT := Lib.hid hsg.tx.op.root
    have HP6B := Lib.hid hp6
    have HNG := Lib.hid hng
    have HSY := Lib.hid hsy
    have HN1 : Hid (y.sn ≤ 1) := Lib.hid (by have h9 := H1.out; omega)
    clear hsg hp6 hng hsy hsn HSUM HCP V2 SXT SS SZ RES AXY H1
    have HCL := Lib.hid (Tryz.slices_Clone_int_nil 0 0 wc)
    go_wp2_with fail
    refine HCL.out.mono ?_
    rintro e w3 ⟨rfl, rfl⟩
    clear HCL
    go_upto_region 3 with (fail)
    have b4 : Below w3.heap.size w3 (w3.alloc (.cells #[.slice none 0 0] 38)) := (Below.refl _ _).alloc (Nat.le_refl _) _
    have h7 : VarC (w3.alloc (.cells #[.slice none 0 0] 38)) w3.heap.size 38 [.slice none 0 0] := heap_alloc_new _ _
    revert b4 h7
    generalize (w3.alloc (.cells #[.slice none 0 0] 38)) = w4
    obtain ⟨p7, hp7⟩ : ∃ p, p = w3.heap.size := ⟨_, rfl⟩
    rw [← hp7]
    intro b4 h7
    rw [hp7] at b4
    have SG := Lib.hid (SG.out.below b4)
    have V7 := Lib.hid h7
    have HSO := Lib.hid (sort_any (OwnZ.nil w4 3 w4.heap.size) (Nat.le_refl _) (by simp))
    have c7 : w4.cell? ⟨p7, 0, none⟩ = some (.slice none 0 0) := (V7.out.cell 0).trans rfl
    clear h7 b4 hp7
    go_wp2_with fail
    refine HSO.out.mono ?_
    rintro e w5 ⟨rfl, _, _, hb5⟩
    have SG := Lib.hid (SG.out.below hb5)
    have V7 := Lib.hid (V7.out.below hb5)
    have c7' : w5.cell? ⟨p7, 0, none⟩ = some (.slice none 0 0) := (V7.out.cell 0).trans rfl
    have f7 := V7.out.free 0
    clear c7 hb5 HSO
    go_upto_region 5 with (first | (go_at_call 80; (with_reducible refine (compact_nil _).mono ?_); rintro e w9 ⟨rfl, rfl⟩) | fail)
    have hb6 := store_same (i := 0) (v := .slice none 0 0) V7.out rfl
    have SG6 := Lib.hid (SG.out.below hb6)
    have V76 := Lib.hid (V7.out.below hb6)
    clear c7' f7 hb6 SG V7
    revert SG6 V76
    generalize World.setCell w5 _ _ = w6
    intro SG6 V76
    have c39 : w6.cell? ⟨p6, 39, none⟩ = some (.slice y.sa y.sn y.sc) := (SG6.out.var.cell 39).trans (sign_cell15 HROOT.out)
    have HDL := Lib.hid (deleteSigns_none SG6.out.tx.signs ((V76.out.cell 0).trans rfl))
    have hmf : ∀ (fn : Fn) (first cap : Array Value) (w : World), (Instr.makeFunc fn first cap).run Tryz.prog w = .ok (.func fn first cap) w := fun _ _ _ _ => rfl
    go_upto_region 7 with (first | (go_at_call 81; (with_reducible refine HDL.out.mono ?_); rintro e w8 ⟨rfl, hb8⟩; have c8 : w8.cell? ⟨p7, 0, none⟩ = some (.slice none 0 0) := ((V76.out.below hb8).cell 0).trans rfl; have HB8 := Lib.hid hb8; clear hb8) | fail)
    have SG := Lib.hid (SG6.out.below HB8.out)
    clear c39 c8 HDL SG6 V76 HB8
    go_loopw [8, 27] (fun l i wr => l = .slice y.sa y.sn y.sc ∧ i = .int .i64 0 ∧ SgS w r p5 p6 w3.heap.size y S wr) (fun _ _ _ => 0)
    case atStart => exact ⟨rfl, rfl, SG.out⟩
    case round =>
      obtain ⟨rfl, rfl, hs8⟩ := hrel
      have SG := Lib.hid hs8
      have HSR := Lib.hid (fun f W => sortSigns_few y.sa HN1.out y.sc f W)
      have c39 : wr.cell? ⟨p6, 39, none⟩ = some (.slice y.sa y.sn y.sc) := (SG.out.var.cell 39).trans (sign_cell15 HROOT.out)
      have f39 := SG.out.var.free 39
      clear hs8
      go_upto_region 13 with (first | (go_at_call 84; (with_reducible refine (HSR.out _ _).mono ?_); rintro e w9 ⟨rfl, rfl⟩) | fail)
      have hb9 := store_same (i := 39) (v := .slice y.sa y.sn y.sc) SG.out.var (by rw [List.getElem?_toArray]; exact sign_cell15 HROOT.out)
      have SG := Lib.hid (SG.out.below hb9)
      clear c39 f39 hb9 HSR
      revert SG
      generalize World.setCell wr _ _ = wz
      intro SG
      have RX := Lib.hid SG.out.var.range
      have SX := Lib.hid (tx_size (x := y) HROOT.out)
      have AX := Lib.hid (tx_sizeA (x := y) HROOT.out)
      have RF := Lib.hid SG.out.res
      go_wp2_with (first | (refine wpList_load_mid rfl 50 _ rfl p6 0 rfl y.cells _ RX.out Tryz.underlying50 rfl SX.out ?_) | (refine wpList_store_row rfl 50 _ _ rfl r y.cells.toArray rfl rfl 50 noTx.cells.toArray RF.out AX.out (by rw [List.size_toArray, List.size_toArray, PTx.len (x := y) HROOT.out]; rfl) (all_oneCell_toArray (PTx.one _)) ?_) | fail)
      refine bodyPost_ret (results_cell_row rfl _ _ r 50 y.cells.toArray (0, 0) _ rfl (setRow_heap wz r _ _ 50 _ RF.out) Tryz.underlying50 rfl AX.out) rfl ?_
      have hfb := but_setRow wz r y.cells.toArray
      have hfx := SG.out.tx.butT (SG.out.apart.mono fun b hb => hb.2) hfb
      exact ⟨y, rfl, hfx, HSY.out, ⟨SG.out.nw.1, SG.out.nw.2⟩, SG.out.but.trans ((hfb.mono SG.out.but.size).below HR0.out)⟩
end Go.Proofs.YteddkkcheaghaaaGreatDoor
