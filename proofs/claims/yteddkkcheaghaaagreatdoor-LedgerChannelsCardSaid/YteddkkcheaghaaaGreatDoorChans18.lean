/- LedgerChannels: a channel's bytes, and what bytes are read as. -/
import Derived.Test.YteddkkcheaghaaaGreatDoorChanr
import Derived.Test.YteddkkcheaghaaaGreatDoorBonds
namespace Go.Proofs.YteddkkcheaghaaaGreatDoor
open Go.RowKit

theorem no_guardC : Tryz.prog.eqGuardType Tryz.prog.depth 73 = false := by kernel_rfl
theorem run_eqC {x : PChan} (hx : x.ftx.length = 32) (W : World) : (binOp .eql 73 (.agg x.cells.toArray) (.agg x.cells.toArray)).run Tryz.prog W = .ok (.bool true) W := by
  rw [run_eql_struct, eq_chan_same 9996 hx W]
  rfl
theorem run_neC {x : PChan} (hx : x.ftx.length = 32) (W : World) : (binOp .neq 73 (.agg x.cells.toArray) (.agg x.cells.toArray)).run Tryz.prog W = .ok (.bool false) W := by
  rw [run_neq_struct, eq_chan_same 9996 hx W]
  rfl
theorem yields_neC {S : World → Prop} {ops : Array Oper} {o : Oper} {a : Act} {u v : Operand} {rt : TypeId} {x : PChan} (hw : Region.wanted o (yielded ops a.tmps) = true) (ho : o.op = .binOp .neq 73 u v rt) (hu : a.eval u = .agg x.cells.toArray) (hv : a.eval v = .agg x.cells.toArray) (hx : x.ftx.length = 32) : YieldsIf Tryz.prog ops S o (.bool false) a :=
  .inl ⟨hw, fun w _ => by
    unfold execOp
    simp only [ho, hu, hv, run_eqGuard_agg w .neq 73 u v _ _ no_guardC, Sem.run_bind, Sem.run_pure, Result.andThen_ok, run_neC hx w]⟩
theorem wpList_eqC {ops : Array Oper} {rest : List Oper} {o : Oper} {A : Act} {w : World} {Q : Exit → Act → World → Prop} {u v : Operand} {rt : TypeId} (hgd : o.guard = none) (ho : o.op = .binOp .eql 73 u v rt) (x : PChan) (hu : A.eval u = .agg x.cells.toArray) (hv : A.eval v = .agg x.cells.toArray) (hx : x.ftx.length = 32)
    (h : wpList Tryz.prog ops Q rest (A.put o.dst (.bool true)) w) : wpList Tryz.prog ops Q (o :: rest) A w := by
  refine wpList_plain hgd fun K' hK => ?_
  unfold Oper.wp execOp
  simp only [ho, hu, hv, run_eqGuard_agg w .eql 73 u v _ _ no_guardC, Sem.run_bind, Sem.run_pure, Result.andThen_ok, run_eqC hx w]
  exact hK _ _ h
theorem rd_len (b : List UInt8) : (rdX b).ftx.length = 32 := by
  unfold rdX
  split
  · exact (chX_in b).ftx
  · rfl
set_option linter.unusedSimpArgs false in
set_option maxRecDepth 100000 in
set_option maxHeartbeats 6400000 in
theorem channels18_walk {w : World} {c : PChan} {ab : Option Addr} {nb cb : Nat} {l : List UInt8} (hc : ChanIn c) (hl : Row w ab nb cb l) (hk : KsAt w)
    (haw : ∀ W : World, KsAt W → Calls Tryz.prog 9 #[] W fun e w' => e = .returned (.bool true) ∧ Below W.heap.size W w') :
    Calls Tryz.prog 6 #[.agg c.cells.toArray, .slice ab nb cb] w fun e w' => e = .returned (.bool true) ∧ Below w.heap.size w w' := by
  have z0 := (numB_len c.id).2
  have z1 := (numB_len c.client).2
  have z2 := (numB_len c.peer).2
  have z4 := (numB_len c.fat).2
  have z5 := (numB_len c.cap).2
  have z6 := (numB_len c.wait).2
  have z7 := (numB_len c.window).2
  have HF := Lib.hid hc.ftx
  have HMid := Lib.hid (show c.id ≤ 9223372036854775807 from hc.id.2)
  have HMclient := Lib.hid (show c.client ≤ 9223372036854775807 from hc.client.2)
  have HMpeer := Lib.hid (show c.peer ≤ 9223372036854775807 from hc.peer.2)
  have HMfat := Lib.hid (show c.fat ≤ 9223372036854775807 from hc.fat.2)
  have HMcap := Lib.hid (show c.cap ≤ 9223372036854775807 from hc.cap.2)
  have HMwait := Lib.hid (show c.wait ≤ 9223372036854775807 from hc.wait.2)
  have HMwindow := Lib.hid (show c.window ≤ 9223372036854775807 from hc.window.2)
  have HQ0 : Hid (([] : List UInt8).length + 9 ≤ 140737488355328) := Lib.hid (by simp only [List.length_append, List.length_nil, HF.out]; omega)
  have HQ1 : Hid ((([] ++ numB c.id) : List UInt8).length + 9 ≤ 140737488355328) := Lib.hid (by simp only [List.length_append, List.length_nil, HF.out]; omega)
  have HQ2 : Hid (((([] ++ numB c.id) ++ numB c.client) : List UInt8).length + 9 ≤ 140737488355328) := Lib.hid (by simp only [List.length_append, List.length_nil, HF.out]; omega)
  have HQ3 : Hid ((((([] ++ numB c.id) ++ numB c.client) ++ numB c.peer) : List UInt8).length ≤ 1000000) := Lib.hid (by simp only [List.length_append, List.length_nil, HF.out]; omega)
  have HQ4 : Hid (((((([] ++ numB c.id) ++ numB c.client) ++ numB c.peer) ++ c.ftx) : List UInt8).length + 9 ≤ 140737488355328) := Lib.hid (by simp only [List.length_append, List.length_nil, HF.out]; omega)
  have HQ5 : Hid ((((((([] ++ numB c.id) ++ numB c.client) ++ numB c.peer) ++ c.ftx) ++ numB c.fat) : List UInt8).length + 9 ≤ 140737488355328) := Lib.hid (by simp only [List.length_append, List.length_nil, HF.out]; omega)
  have HQ6 : Hid (((((((([] ++ numB c.id) ++ numB c.client) ++ numB c.peer) ++ c.ftx) ++ numB c.fat) ++ numB c.cap) : List UInt8).length + 9 ≤ 140737488355328) := Lib.hid (by simp only [List.length_append, List.length_nil, HF.out]; omega)
  have HQ7 : Hid ((((((((([] ++ numB c.id) ++ numB c.client) ++ numB c.peer) ++ c.ftx) ++ numB c.fat) ++ numB c.cap) ++ numB c.wait) : List UInt8).length + 9 ≤ 140737488355328) := Lib.hid (by simp only [List.length_append, List.length_nil, HF.out]; omega)
  have HQ8 : Hid (((((((((([] ++ numB c.id) ++ numB c.client) ++ numB c.peer) ++ c.ftx) ++ numB c.fat) ++ numB c.cap) ++ numB c.wait) ++ numB c.window) : List UInt8).length ≤ 140737488355328) := Lib.hid (by simp only [List.length_append, List.length_nil, HF.out]; omega)
  obtain ⟨SB, hSB⟩ : ∃ r, chanB c = r := ⟨_, rfl⟩
  have hSBl : SB.length ≤ 1000000 := by rw [← hSB]; simp only [chanB, List.length_append, HF.out]; omega
  have TE : Hid (SB = (((((((([] ++ numB c.id) ++ numB c.client) ++ numB c.peer) ++ c.ftx) ++ numB c.fat) ++ numB c.cap) ++ numB c.wait) ++ numB c.window)) := Lib.hid (by rw [← hSB]; simp [chanB])
  obtain ⟨l2, hl2⟩ : ∃ r, r = l.take 200 := ⟨_, rfl⟩
  obtain ⟨n2, hn2⟩ : ∃ r, r = min nb 200 := ⟨_, rfl⟩
  have hr2 : Row w ab n2 cb l2 := by
    rw [hl2, hn2, show l.take 200 = l.take (min nb 200) by rw [← hl.1, List.take_eq_take_iff]; omega]
    exact hl.take (by omega)
  have hn2l : n2 ≤ 1000000 := by omega
  obtain ⟨R, hR⟩ : ∃ r, chanOk c = r := ⟨_, rfl⟩
  obtain ⟨E1, hE1⟩ : ∃ r, rdE SB = r := ⟨_, rfl⟩
  obtain ⟨X1, hX1⟩ : ∃ r, rdX SB = r := ⟨_, rfl⟩
  obtain ⟨E2, hE2⟩ : ∃ r, rdE l2 = r := ⟨_, rfl⟩
  obtain ⟨X2, hX2⟩ : ∃ r, rdX l2 = r := ⟨_, rfl⟩
  have HOK : Hid (R = true → E1 = 0 ∧ X1 = c) := Lib.hid fun h0 => by
    obtain ⟨e1, e2⟩ := rd_back hc (by rw [hR]; exact h0)
    rw [hSB] at e1 e2
    exact ⟨by rw [← hE1]; exact e1, by rw [← hX1]; exact e2⟩
  have HE0 : Hid (E2 = 0 → chanOk X2 = true ∧ chanB X2 = l2 ∧ ChanIn X2) := Lib.hid fun h0 => by
    obtain ⟨e1, e2, e3⟩ := rd_ok (b := l2) (by rw [hE2]; exact h0)
    rw [hX2] at e1 e2 e3
    exact ⟨e2, e3, by rw [e1]; exact chX_in l2⟩
  have HE1 : Hid (E2 ≠ 0 → X2 = noChan) := Lib.hid fun h0 => by rw [← hX2]; exact rd_no (by rw [hE2]; exact h0)
  have HXL1 : Hid (X1.ftx.length = 32) := Lib.hid (by rw [← hX1]; exact rd_len _)
  have HXL2 : Hid (X2.ftx.length = 32) := Lib.hid (by rw [← hX2]; exact rd_len _)
  have HRD1 : Hid (∀ (W : World) (a : Option Addr) (n d : Nat), Row W a n d SB → Calls Tryz.prog 28 #[.slice a n d] W fun e w' => e = .returned (.tuple #[.agg X1.cells.toArray, .int .i64 E1]) ∧ Below W.heap.size W w') := Lib.hid fun W a n d h => by rw [← hE1, ← hX1]; exact readchan_any h (by rw [← h.1]; exact hSBl)
  have HRD2 : Hid (∀ W : World, Row W ab n2 cb l2 → Calls Tryz.prog 28 #[.slice ab n2 cb] W fun e w' => e = .returned (.tuple #[.agg X2.cells.toArray, .int .i64 E2]) ∧ Below W.heap.size W w') := Lib.hid fun W h => by rw [← hE2, ← hX2]; exact readchan_any h hn2l
  have HCH1 : Hid (∀ W : World, Calls Tryz.prog 29 #[.agg c.cells.toArray] W fun e w' => ∃ a n d, e = .returned (.slice a n d) ∧ Row w' a n d SB ∧ Below W.heap.size W w') := Lib.hid fun W => by
    rw [← hSB]
    exact (putchan_any (w := W) hc).mono fun e w' ⟨a, n, d, e1, e2, _, e3⟩ => ⟨a, n, d, e1, e2, e3⟩
  have HRC1 : Hid (∀ W : World, Calls Tryz.prog 30 #[.agg c.cells.toArray] W fun e w' => e = .returned (.bool R) ∧ Below W.heap.size W w') := Lib.hid fun W => by rw [← hR]; exact rightChannel_any W hc.ftx
  have HAW : Hid (∀ W : World, Below w.heap.size w W → Calls Tryz.prog 9 #[] W fun e w' => e = .returned (.bool true) ∧ Below W.heap.size W w') := Lib.hid fun W hW => haw W (hk.below hW)
  have SXH := Lib.hid (sumLen18 hc.ftx)
  have SZC := Lib.hid (chan_size hc.ftx)
  have SZ1 := Lib.hid (chan_size HXL1.out)
  have SZ2 := Lib.hid (chan_size HXL2.out)
  have HR2 := Lib.hid hr2
  have hncb : (nb : Int) ≤ (cb : Int) := by have h9 := hl.2.1; omega
  have hcb63 : (cb : Int) ≤ 9223372036854775807 := by have h9 := hl.2.2.1; unfold maxLen at h9; omega
  have HSB := Lib.hid (show (⟨SB.toArray⟩ : ByteArray) = ⟨SB.toArray⟩ from rfl)
  have HUN : Hid (0 < n2 → ∀ y, ab = some y → y.block < w.heap.size) := Lib.hid fun h0 y e => by
    obtain ⟨b, off, e2, hlt, _⟩ := hr2.2.2.2.2 h0
    rw [e] at e2
    cases e2
    exact hlt
  clear hc hl hk haw hSB hSBl hl2 hr2 hn2l hR hE1 hX1 hE2 hX2 HSB z0 z1 z2 z4 z5 z6 z7
  go_enter Tryz.func6, Tryz.ntmps6
  go_upto_region 1 with (fail)
  have b1 : Below w.heap.size w (w.alloc (.cells c.cells.toArray 73)) := (Below.refl _ _).alloc (Nat.le_refl _) _
  have h1 := heap_alloc_new w (.cells c.cells.toArray 73)
  revert b1 h1
  generalize (w.alloc (.cells c.cells.toArray 73)) = w1
  obtain ⟨g, hg⟩ : ∃ g, g = w.heap.size := ⟨_, rfl⟩
  rw [← hg]
  intro b1 h1
  rw [hg] at b1
  have HB1 := Lib.hid b1
  have HG1 := Lib.hid h1
  have HGE := Lib.hid hg
  clear b1 h1 hg
  go_upto_if 13 with (fail)
  go_cut [1, 13] from 14 to 15 (fun u _ w' => u = .slice ab n2 cb ∧ w1 = w')
  case first =>
    by_cases hb : 200 < nb
    · have f1 : (200 : Int) < (nb : Int) := by omega
      have f2 : decide ((200 : Int) < (nb : Int)) = true := decide_eq_true f1
      have f3 : (200 : Int) ≤ (nb : Int) := by omega
      have f4 : (200 : Int) ≤ (cb : Int) := by omega
      have e2 : n2 = 200 := by omega
      clear hn2
      subst e2
      go_wp2_with fail
      go_meet
      exact ⟨rfl, rfl⟩
    · have f1 : ¬ (200 : Int) < (nb : Int) := by omega
      have f2 : decide ((200 : Int) < (nb : Int)) = false := decide_eq_false f1
      have e2 : n2 = nb := by omega
      clear hn2
      subst e2
      go_wp2_with fail
      go_meet
      exact ⟨rfl, rfl⟩
  case rest =>
    obtain ⟨rfl, rfl⟩ := hcut
    clear hncb hcb63 hn2
    go_upto_region 4 with (fail)
    have b2 : Below w1.heap.size w1 (w1.alloc (.cells #[.pointer none, .int .i64 0] 81)) := (Below.refl _ _).alloc (Nat.le_refl _) _
    have h2 := heap_alloc_new w1 (.cells #[.pointer none, .int .i64 0] 81)
    revert b2 h2
    generalize (w1.alloc (.cells #[.pointer none, .int .i64 0] 81)) = w2
    obtain ⟨pb, hpb⟩ : ∃ pb, pb = w1.heap.size := ⟨_, rfl⟩
    rw [← hpb]
    intro b2 h2
    rw [hpb] at b2
    have HG2 := Lib.hid (keep b2 HG1.out)
    have HGL := Lib.hid (lt_of_block HG1.out)
    have HGN : Hid (g ≠ pb) := Lib.hid (by have h9 := HGL.out; omega)
    have HPG : Hid (w.heap.size ≤ pb) := Lib.hid (by have h9 := HB1.out.size; omega)
    have HB2 := Lib.hid (bthen HB1.out b2)
    obtain ⟨B, hB⟩ : ∃ B, B = w2.heap.size := ⟨_, rfl⟩
    have HBE := Lib.hid hB
    have HGB : Hid (g < B) := Lib.hid (by rw [hB]; exact lt_of_block HG2.out)
    have HCA : Hid (∀ W : World, But B pb w2 W → ChanAt W g 0 c) := Lib.hid fun W hW => chan_at HF.out (range_of (But.heap hW HG2.out HGB.out HGN.out))
    have HP0 : Hid (PenAt w2.drew B pb []) := Lib.hid (.inl ⟨h2, rfl⟩)
    clear hB b2 h2 hpb HG1
    refine wp_region_held_drew (S := fun w' => But B pb w2 w') (by kernel_rfl) (by have h9 := But.refl B pb w2; exact ⟨h9.os, h9.tape, h9.output, h9.size, h9.block⟩) (fun hHeld => ?_)
    refine tkP 0 rfl rfl ?_
    refine tkP 3 rfl rfl ?_
    refine tkP 6 rfl rfl ?_
    refine tkP 9 rfl rfl ?_
    refine tkP 10 rfl rfl ?_
    refine tkP 13 rfl rfl ?_
    refine tkP 14 rfl rfl ?_
    refine tkP 17 rfl rfl ?_
    refine tkP 20 rfl rfl ?_
    refine tkP 23 rfl rfl ?_
    refine tkA 1 rfl rfl (yields_cell (by rfl) rfl rfl (b := g) (o := 0) (fun w0 hSw => (HCA.out _ hSw).id) Tryz.isAgg3) ?_
    refine tkA 4 rfl rfl (yields_cell (by rfl) rfl rfl (b := g) (o := 1) (fun w0 hSw => (HCA.out _ hSw).client) Tryz.isAgg3) ?_
    refine tkA 7 rfl rfl (yields_cell (by rfl) rfl rfl (b := g) (o := 2) (fun w0 hSw => (HCA.out _ hSw).peer) Tryz.isAgg3) ?_
    refine tkA 11 rfl rfl (yieldsIf_load_mid (by rfl) _ _ rfl g 3 rfl (cellsOf c.ftx) _ (fun w0 hSw => (range_append (HCA.out _ hSw).fund).1) Tryz.underlying28 rfl SXH.out) ?_
    refine tkA 15 rfl rfl (yields_cell (by rfl) rfl rfl (b := g) (o := 35) (fun w0 hSw => (HCA.out _ hSw).fat) Tryz.isAgg3) ?_
    refine tkA 18 rfl rfl (yields_cell (by rfl) rfl rfl (b := g) (o := 36) (fun w0 hSw => (HCA.out _ hSw).cap) Tryz.isAgg2) ?_
    refine tkA 21 rfl rfl (yields_cell (by rfl) rfl rfl (b := g) (o := 37) (fun w0 hSw => (HCA.out _ hSw).wait) Tryz.isAgg3) ?_
    refine tkA 24 rfl rfl (yields_cell (by rfl) rfl rfl (b := g) (o := 38) (fun w0 hSw => (HCA.out _ hSw).window) Tryz.isAgg3) ?_
    refine tkR 2 rfl (fun K hK => ?_)
    have HZv1 : Hid (B ≤ (w2.drew).heap.size) := Lib.hid (by have h9 := But.size hHeld; rw [← HBE.out] at h9; exact h9)
    go_simp
    go_wp2_with ((go_at_call 25; (with_reducible refine (pnum_typed c.id HP0.out HZv1.out HQ0.out HMid.out).mono ?_); rintro e v1 ⟨rfl, hp, hb, _⟩; have HPv1 := Lib.hid hp; have HSv1 := Lib.hid hb; clear hp hb))
    refine hK.out _ _ (by (try dsimp only); exact But.trans hHeld HSv1.out) (fun hHeld => ?_)
    clear hK K
    refine tkR 5 rfl (fun K hK => ?_)
    have HZv2 : Hid (B ≤ (v1).heap.size) := Lib.hid (by have h9 := But.size hHeld; rw [← HBE.out] at h9; exact h9)
    go_simp
    go_wp2_with ((go_at_call 25; (with_reducible refine (pnum_typed c.client HPv1.out HZv2.out HQ1.out HMclient.out).mono ?_); rintro e v2 ⟨rfl, hp, hb, _⟩; have HPv2 := Lib.hid hp; have HSv2 := Lib.hid hb; clear hp hb))
    refine hK.out _ _ (by (try dsimp only); exact But.trans hHeld HSv2.out) (fun hHeld => ?_)
    clear hK K
    refine tkR 8 rfl (fun K hK => ?_)
    have HZv3 : Hid (B ≤ (v2).heap.size) := Lib.hid (by have h9 := But.size hHeld; rw [← HBE.out] at h9; exact h9)
    go_simp
    go_wp2_with ((go_at_call 25; (with_reducible refine (pnum_typed c.peer HPv2.out HZv3.out HQ2.out HMpeer.out).mono ?_); rintro e v3 ⟨rfl, hp, hb, _⟩; have HPv3 := Lib.hid hp; have HSv3 := Lib.hid hb; clear hp hb))
    refine hK.out _ _ (by (try dsimp only); exact But.trans hHeld HSv3.out) (fun hHeld => ?_)
    clear hK K
    refine tkR 12 rfl (fun K hK => ?_)
    have HZv4 : Hid (B ≤ (v3).heap.size) := Lib.hid (by have h9 := But.size hHeld; rw [← HBE.out] at h9; exact h9)
    go_simp
    go_wp2_with ((go_at_call 26; (with_reducible refine (psum_at _ HF.out HPv3.out HZv4.out HQ3.out).mono ?_); rintro e v4 ⟨rfl, hp, hb⟩; have HPv4 := Lib.hid hp; have HSv4 := Lib.hid hb; clear hp hb))
    refine hK.out _ _ (by (try dsimp only); exact But.trans hHeld HSv4.out) (fun hHeld => ?_)
    clear hK K
    refine tkR 16 rfl (fun K hK => ?_)
    have HZv5 : Hid (B ≤ (v4).heap.size) := Lib.hid (by have h9 := But.size hHeld; rw [← HBE.out] at h9; exact h9)
    go_simp
    go_wp2_with ((go_at_call 25; (with_reducible refine (pnum_typed c.fat HPv4.out HZv5.out HQ4.out HMfat.out).mono ?_); rintro e v5 ⟨rfl, hp, hb, _⟩; have HPv5 := Lib.hid hp; have HSv5 := Lib.hid hb; clear hp hb))
    refine hK.out _ _ (by (try dsimp only); exact But.trans hHeld HSv5.out) (fun hHeld => ?_)
    clear hK K
    refine tkR 19 rfl (fun K hK => ?_)
    have HZv6 : Hid (B ≤ (v5).heap.size) := Lib.hid (by have h9 := But.size hHeld; rw [← HBE.out] at h9; exact h9)
    go_simp
    go_wp2_with ((go_at_call 25; (with_reducible refine (pnum_typed c.cap HPv5.out HZv6.out HQ5.out HMcap.out).mono ?_); rintro e v6 ⟨rfl, hp, hb, _⟩; have HPv6 := Lib.hid hp; have HSv6 := Lib.hid hb; clear hp hb))
    refine hK.out _ _ (by (try dsimp only); exact But.trans hHeld HSv6.out) (fun hHeld => ?_)
    clear hK K
    refine tkR 22 rfl (fun K hK => ?_)
    have HZv7 : Hid (B ≤ (v6).heap.size) := Lib.hid (by have h9 := But.size hHeld; rw [← HBE.out] at h9; exact h9)
    go_simp
    go_wp2_with ((go_at_call 25; (with_reducible refine (pnum_typed c.wait HPv6.out HZv7.out HQ6.out HMwait.out).mono ?_); rintro e v7 ⟨rfl, hp, hb, _⟩; have HPv7 := Lib.hid hp; have HSv7 := Lib.hid hb; clear hp hb))
    refine hK.out _ _ (by (try dsimp only); exact But.trans hHeld HSv7.out) (fun hHeld => ?_)
    clear hK K
    refine tkR 25 rfl (fun K hK => ?_)
    have HZv8 : Hid (B ≤ (v7).heap.size) := Lib.hid (by have h9 := But.size hHeld; rw [← HBE.out] at h9; exact h9)
    go_simp
    go_wp2_with ((go_at_call 25; (with_reducible refine (pnum_typed c.window HPv7.out HZv8.out HQ7.out HMwindow.out).mono ?_); rintro e v8 ⟨rfl, hp, hb, _⟩; have HPv8 := Lib.hid hp; have HSv8 := Lib.hid hb; clear hp hb))
    refine hK.out _ _ (by (try dsimp only); exact But.trans hHeld HSv8.out) (fun hHeld => ?_)
    clear hK K
    refine tkR 26 rfl (fun K hK => ?_)
    have HZbb : Hid (B ≤ v8.heap.size) := Lib.hid (by have h9 := But.size hHeld; rw [← HBE.out] at h9; exact h9)
    go_simp
    go_wp2_with ((go_at_call 27; (with_reducible refine (bytes_any HPv8.out HQ8.out).mono ?_); rintro e v9 ⟨a9, n9, c9, rfl, hr9, hf9, hb9⟩; have HR9 := Lib.hid hr9; have HB9 := Lib.hid hb9; clear hr9 hf9 hb9))
    refine hK.out _ _ (by (try dsimp only); exact But.trans hHeld (But.of (HB9.out.mono HZbb.out))) (fun hHeld => ?_)
    clear hK K
    refine tkP 27 rfl rfl ?_
    refine wpAnyH_done (by kernel_rfl) ?_ _
    have HBB : Hid (But B pb w2 v9) := Lib.hid hHeld
    have HBN : Hid (Below w.heap.size w v9) := Lib.hid (HB2.out.trans (But.below (But.mono hHeld (by rw [HBE.out]; exact HB2.out.size)) HPG.out))
    have HO9 : Hid (Row v9 a9 n9 c9 SB) := Lib.hid (by rw [TE.out]; exact HR9.out)
    have HG9 := Lib.hid (But.heap hHeld HG2.out HGB.out HGN.out)
    have HL9 : Hid (Row v9 ab n2 cb l2) := Lib.hid ((HR2.out.below HB2.out).but (show But w2.heap.size pb w2 v9 from by rw [← HBE.out]; exact hHeld) (fun h0 b off e => by have h9 := HUN.out h0 _ e; have h8 := HPG.out; intro e9; simp at h9; omega))
    clear hHeld HBB HB2 HP0 HG2 HCA HBE HGB TE HR9 HB9 HZbb HPv1 HSv1 HZv1 HPv2 HSv2 HZv2 HPv3 HSv3 HZv3 HPv4 HSv4 HZv4 HPv5 HSv5 HZv5 HPv6 HSv6 HZv6 HPv7 HSv7 HZv7 HPv8 HSv8 HZv8
    go_upto_region 6 with (first | (go_at_call 28; (with_reducible refine (HRD1.out _ _ _ _ HO9.out).mono ?_); rintro e y5 ⟨rfl, hb⟩; have HB5 := Lib.hid hb; clear hb) | (refine wpList_var rfl rfl 73 rfl _ _ rfl noChan.cells.toArray Tryz.zeroChan rfl X1.cells (fun _ => rfl) (fun _ => rfl) (PChan.len HXL1.out) (PChan.one _) ?_; intro p7 w6 hq hh hb; go_frame; have HP7 := Lib.hid hh; have HB6 := Lib.hid (bthen HB5.out hb); clear hq hh hb) | fail)
    have HG6 := Lib.hid (keep HB6.out HG9.out)
    have HO6 := Lib.hid (HO9.out.below HB6.out)
    have HL6 := Lib.hid (HL9.out.below HB6.out)
    have HBW := Lib.hid (bthen HBN.out HB6.out)
    clear HO9 HL9 HG9 HBN HB6 HB5 HRD1
    go_cut [66] from 48 to 66 (fun v w' => v = .bool false ∧ Below w6.heap.size w6 w')
    case first =>
      cases R
      · refine wp_region_held_drew (S := fun w' => Below w6.heap.size w6 w') (by kernel_rfl) (below_drew (Below.refl _ _)) (fun hHeld => ?_)
        refine tkA 0 rfl rfl (yieldsIf_load_mid (by rfl) _ _ rfl g 0 rfl c.cells _ (fun w0 hSw => range_of (keep hSw HG6.out)) Tryz.underlying73 rfl SZC.out) ?_
        refine tkP 3 rfl rfl ?_
        refine tkA 4 rfl rfl (yields_conv (by rfl) rfl (by rfl) (l := SB) (bs := ⟨SB.toArray⟩) rfl (fun w0 hSw => HO6.out.below hSw)) ?_
        refine tkR 1 rfl (fun K hK => ?_)
        go_simp
        go_wp2_with ((go_at_call 29; (with_reducible refine (HCH1.out _).mono ?_); rintro e y1 ⟨q1, q2, q3, rfl, hr, hb⟩; have HRy := Lib.hid hr; have HY1 := Lib.hid (bthen hHeld hb); clear hr hb))
        refine hK.out _ _ (by (try dsimp only); exact HY1.out) (fun hHeld => ?_)
        clear hK K
        refine tkR 2 rfl (fun K hK => ?_)
        refine step_conv (d := 50) rfl (by rfl) rfl (by rfl) (bs := ⟨SB.toArray⟩) rfl HRy.out ?_
        refine hK.out _ _ (by (try dsimp only); exact hHeld) (fun hHeld => ?_)
        clear hK K
        refine tkP (v := .bool false) 5 rfl rfl ?_
        refine tkP 6 rfl rfl ?_
        refine tkA 7 rfl rfl (yieldsIf_load_mid (by rfl) _ _ rfl g 0 rfl c.cells _ (fun w0 hSw => range_of (keep hSw HG6.out)) Tryz.underlying73 rfl SZC.out) ?_
        refine tkR 8 rfl (fun K hK => ?_)
        go_simp
        go_wp2_with ((go_at_call 30; (with_reducible refine (HRC1.out _).mono ?_); rintro e y2 ⟨rfl, hb⟩; have HY2 := Lib.hid (bthen hHeld hb); clear hb))
        refine hK.out _ _ (by (try dsimp only); exact HY2.out) (fun hHeld => ?_)
        clear hK K
        refine tkP 9 rfl rfl ?_
        refine tkA (v := undef) 10 rfl rfl (Or.inr ⟨by rfl, rfl⟩) ?_
        refine tkA (v := undef) 11 rfl rfl (Or.inr ⟨by rfl, rfl⟩) ?_
        refine tkA (v := undef) 12 rfl rfl (Or.inr ⟨by rfl, rfl⟩) ?_
        refine tkA (v := undef) 13 rfl rfl (Or.inr ⟨by rfl, rfl⟩) ?_
        refine tkA (v := undef) 14 rfl rfl (Or.inr ⟨by rfl, rfl⟩) ?_
        refine tkA (v := undef) 15 rfl rfl (Or.inr ⟨by rfl, rfl⟩) ?_
        refine tkA (v := undef) 16 rfl rfl (Or.inr ⟨by rfl, rfl⟩) ?_
        refine tkP 17 rfl rfl ?_
        refine tkP 18 rfl rfl ?_
        refine wpAnyH_done (by kernel_rfl) ?_ _
        have HB7 := Lib.hid (show Below w6.heap.size w6 y2 from hHeld)
        clear hHeld
        go_wp2_with fail
        go_meet
        exact ⟨rfl, HB7.out⟩
      · obtain ⟨e1, e2⟩ := HOK.out rfl
        subst e1
        have e3 := e2.symm
        clear e2
        subst e3
        refine wp_region_held_drew (S := fun w' => Below w6.heap.size w6 w') (by kernel_rfl) (below_drew (Below.refl _ _)) (fun hHeld => ?_)
        refine tkA 0 rfl rfl (yieldsIf_load_mid (by rfl) _ _ rfl g 0 rfl c.cells _ (fun w0 hSw => range_of (keep hSw HG6.out)) Tryz.underlying73 rfl SZC.out) ?_
        refine tkP 3 rfl rfl ?_
        refine tkA 4 rfl rfl (yields_conv (by rfl) rfl (by rfl) (l := SB) (bs := ⟨SB.toArray⟩) rfl (fun w0 hSw => HO6.out.below hSw)) ?_
        refine tkR 1 rfl (fun K hK => ?_)
        go_simp
        go_wp2_with ((go_at_call 29; (with_reducible refine (HCH1.out _).mono ?_); rintro e y1 ⟨q1, q2, q3, rfl, hr, hb⟩; have HRy := Lib.hid hr; have HY1 := Lib.hid (bthen hHeld hb); clear hr hb))
        refine hK.out _ _ (by (try dsimp only); exact HY1.out) (fun hHeld => ?_)
        clear hK K
        refine tkR 2 rfl (fun K hK => ?_)
        refine step_conv (d := 50) rfl (by rfl) rfl (by rfl) (bs := ⟨SB.toArray⟩) rfl HRy.out ?_
        refine hK.out _ _ (by (try dsimp only); exact hHeld) (fun hHeld => ?_)
        clear hK K
        refine tkP (v := .bool false) 5 rfl rfl ?_
        refine tkP 6 rfl rfl ?_
        refine tkA 7 rfl rfl (yieldsIf_load_mid (by rfl) _ _ rfl g 0 rfl c.cells _ (fun w0 hSw => range_of (keep hSw HG6.out)) Tryz.underlying73 rfl SZC.out) ?_
        refine tkR 8 rfl (fun K hK => ?_)
        go_simp
        go_wp2_with ((go_at_call 30; (with_reducible refine (HRC1.out _).mono ?_); rintro e y2 ⟨rfl, hb⟩; have HY2 := Lib.hid (bthen hHeld hb); clear hb))
        refine hK.out _ _ (by (try dsimp only); exact HY2.out) (fun hHeld => ?_)
        clear hK K
        refine tkP 9 rfl rfl ?_
        refine tkA 10 rfl rfl (yieldsIf_load_mid (by rfl) _ _ rfl p7 0 rfl c.cells _ (fun w0 hSw => range_of (keep hSw HP7.out)) Tryz.underlying73 rfl SZC.out) ?_
        refine tkA 11 rfl rfl (yieldsIf_load_mid (by rfl) _ _ rfl g 0 rfl c.cells _ (fun w0 hSw => range_of (keep hSw HG6.out)) Tryz.underlying73 rfl SZC.out) ?_
        refine tkA 12 rfl rfl (yields_neC (by rfl) rfl rfl rfl HF.out) ?_
        refine tkP 13 rfl rfl ?_
        refine tkP 14 rfl rfl ?_
        refine tkP 15 rfl rfl ?_
        refine tkP 16 rfl rfl ?_
        refine tkP 17 rfl rfl ?_
        refine tkP 18 rfl rfl ?_
        refine wpAnyH_done (by kernel_rfl) ?_ _
        have HB7 := Lib.hid (show Below w6.heap.size w6 y2 from hHeld)
        clear hHeld
        go_wp2_with fail
        go_meet
        exact ⟨rfl, HB7.out⟩
    case rest =>
      obtain ⟨rfl, hb7⟩ := hcut
      obtain ⟨w7, rfl⟩ : ∃ q, q = wc := ⟨_, rfl⟩
      have HB7 := Lib.hid (bthen HBW.out hb7)
      have HL7 := Lib.hid (HL6.out.below hb7)
      clear hb7 HG6 HO6 HL6 HBW HP7 HOK HCH1 HRC1 SZC SZ1
      go_upto_region 9 with (first | (go_at_call 28; (with_reducible refine (HRD2.out _ HL7.out).mono ?_); rintro e y5 ⟨rfl, hb⟩; have HB5 := Lib.hid hb; clear hb) | (refine wpList_var rfl rfl 73 rfl _ _ rfl noChan.cells.toArray Tryz.zeroChan rfl X2.cells (fun _ => rfl) (fun _ => rfl) (PChan.len HXL2.out) (PChan.one _) ?_; intro p9 w8 hq hh hb; go_frame; have HP9 := Lib.hid hh; have HB8 := Lib.hid (bthen HB5.out hb); clear hq hh hb) | fail)
      have HBW8 := Lib.hid (bthen HB7.out HB8.out)
      have HL8 := Lib.hid (HL7.out.below HB8.out)
      have RP9 := Lib.hid (range_of HP9.out)
      clear HB7 HL7 HB5 HB8 HRD2
      by_cases h0 : E2 = 0
      · obtain ⟨k1, k2, k3⟩ := HE0.out h0
        have HCH2 : Hid (∀ W : World, Calls Tryz.prog 29 #[.agg X2.cells.toArray] W fun e w' => ∃ a n d, e = .returned (.slice a n d) ∧ Row w' a n d l2 ∧ Below W.heap.size W w') := Lib.hid fun W => by
          have h9 := putchan_any (w := W) k3
          rw [k2] at h9
          exact h9.mono fun e w' ⟨a, n, d, e1, e2, _, e3⟩ => ⟨a, n, d, e1, e2, e3⟩
        have HRC2 : Hid (∀ W : World, Calls Tryz.prog 30 #[.agg X2.cells.toArray] W fun e w' => e = .returned (.bool true) ∧ Below W.heap.size W w') := Lib.hid fun W => by rw [← k1]; exact rightChannel_any W k3.ftx
        subst h0
        have hb : ((0 : Int) != 0) = false := by decide
        clear k1 k2 k3 HE0 HE1
        go_upto_region 11 with (fail)
        refine wp_region_held_drew (S := fun w' => Below w8.heap.size w8 w') (by kernel_rfl) (below_drew (Below.refl _ _)) (fun hHeld => ?_)
        refine tkA 0 rfl rfl (yieldsIf_load_mid (by rfl) _ _ rfl p9 0 rfl X2.cells _ (fun w0 hSw => range_of (keep hSw HP9.out)) Tryz.underlying73 rfl SZ2.out) ?_
        refine tkR 1 rfl (fun K hK => ?_)
        go_simp
        go_wp2_with ((go_at_call 30; (with_reducible refine (HRC2.out _).mono ?_); rintro e y1 ⟨rfl, hb⟩; have HY1 := Lib.hid (bthen hHeld hb); clear hb))
        refine hK.out _ _ (by (try dsimp only); exact HY1.out) (fun hHeld => ?_)
        clear hK K
        refine tkP 2 rfl rfl ?_
        refine tkA 3 rfl rfl (yieldsIf_load_mid (by rfl) _ _ rfl p9 0 rfl X2.cells _ (fun w0 hSw => range_of (keep hSw HP9.out)) Tryz.underlying73 rfl SZ2.out) ?_
        refine tkP 6 rfl rfl ?_
        refine tkA 7 rfl rfl (yields_conv (by rfl) rfl (by rfl) (l := l2) (bs := ⟨l2.toArray⟩) rfl (fun w0 hSw => HL8.out.below hSw)) ?_
        refine tkR 4 rfl (fun K hK => ?_)
        go_simp
        go_wp2_with ((go_at_call 29; (with_reducible refine (HCH2.out _).mono ?_); rintro e y2 ⟨q1, q2, q3, rfl, hr, hb⟩; have HRy := Lib.hid hr; have HY2 := Lib.hid (bthen hHeld hb); clear hr hb))
        refine hK.out _ _ (by (try dsimp only); exact HY2.out) (fun hHeld => ?_)
        clear hK K
        refine tkR 5 rfl (fun K hK => ?_)
        refine step_conv (d := 85) rfl (by rfl) rfl (by rfl) (bs := ⟨l2.toArray⟩) rfl HRy.out ?_
        refine hK.out _ _ (by (try dsimp only); exact hHeld) (fun hHeld => ?_)
        clear hK K
        refine tkP (v := .bool true) 8 rfl rfl ?_
        refine tkP 9 rfl rfl ?_
        refine tkP 10 rfl rfl ?_
        refine tkR 11 rfl (fun K hK => ?_)
        go_simp
        go_wp2_with ((go_at_call 9; (with_reducible refine (HAW.out _ (bthen HBW8.out hHeld)).mono ?_); rintro e y3 ⟨rfl, hb⟩; have HY3 := Lib.hid (bthen hHeld hb); clear hb))
        refine hK.out _ _ (by (try dsimp only); exact HY3.out) (fun hHeld => ?_)
        clear hK K
        refine tkP 12 rfl rfl ?_
        refine tkP 13 rfl rfl ?_
        refine wpAnyH_done (by kernel_rfl) ?_ _
        have HBZ := Lib.hid (bthen HBW8.out (show Below w8.heap.size w8 y3 from hHeld))
        clear hHeld
        go_wp2_with fail
        go_ret
        exact ⟨rfl, HBZ.out⟩
      · obtain rfl : X2 = noChan := HE1.out h0
        have hb : (E2 != 0) = true := by simpa using h0
        clear h0 HE0 HE1
        go_wp2_with (first | (refine wpList_load_mid rfl 73 _ rfl p9 0 rfl noChan.cells _ RP9.out Tryz.underlying73 rfl SZ2.out ?_) | (refine wpList_build10 rfl rfl (vs := []) (by rfl) build_noChan18 ?_) | (refine wpList_eqC rfl rfl noChan rfl rfl rfl ?_) | (go_at_call 9; (with_reducible refine (HAW.out _ HBW8.out).mono ?_); rintro e y3 ⟨rfl, hb9⟩; have HBZ := Lib.hid (bthen HBW8.out hb9); clear hb9) | fail)
        go_ret
        exact ⟨rfl, HBZ.out⟩
end Go.Proofs.YteddkkcheaghaaaGreatDoor
