/- The law's prove: Prove, or Settle. -/
import Derived.Test.YtijanllppbambaaLAsk
import Derived.Test.YtijanllppbambaaBondProve
import Derived.Test.YtijanllppbambaaPlainRaw
namespace Go.Proofs.Ytijanllppbambaa
open Go.RowKit Go.Maps

theorem PlainAt.fit {B : Nat} {w : World} {p : Value} {pb N : Nat} {ts : List PTE} {hs : List PHE} {M : Nat} (h : PlainAt B w p pb N ts hs) (h1 : ts.length ≤ M) (h2 : hs.length ≤ M) (h3 : M ≤ 100) : PlainAt B w p pb M ts hs := ⟨h.is, h.base, h.parts, h3, h1, h2, h.inv⟩
theorem keepP {w w' : World} {pb g : Nat} {cs cs2 : Array Value} {t : TypeId} {fr fr2 : Nat × Nat} (k : Bar (plainOf pb) w w') (hg : w.heap[g]? = some (.cells cs t fr)) (hp : w.heap[pb]? = some (.cells cs2 29 fr2)) (h1 : t ≠ 71) (h2 : t ≠ 73) (h3 : t ≠ 29) : w'.heap[g]? = some (.cells cs t fr) := k.keep hg (fun e => by
  rcases e with e | ⟨cs, fr, e⟩ | ⟨cs, fr, e⟩
  · rw [e, hp] at hg
    cases hg
    exact h3 rfl
  · cases e
    exact h1 rfl
  · cases e
    exact h2 rfl)
set_option linter.unusedSimpArgs false in
set_option maxRecDepth 100000 in
set_option maxHeartbeats 12800000 in
theorem lprove_none {B : Nat} {w : World} {p : Value} {pb N : Nat} {ts : List PTE} {hs : List PHE} {k n m z : Int} {s : List UInt8} {c : PChan} (h : PlainAt B w p pb N ts hs) (hN : N + 1 ≤ 100) (ho : CallIn ⟨k, n, m, s, c, z⟩) (hl : lookH n c.id hs = none) :
    Calls Try.prog 26 #[p, .agg (PCall.cells ⟨k, n, m, s, c, z⟩).toArray] w fun e w' => PlainOut B w p pb N (.tuple #[.int .i64 0, .int .i64 7]) ts hs e w' := by
  have HO := Lib.hid ho
  have HA := Lib.hid h
  have HN := Lib.hid hN
  obtain ⟨i, hid⟩ : ∃ i, i = c.id := ⟨_, rfl⟩
  have HID := Lib.hid hid
  have hlh := lhold_none h hl
  rw [← hid] at hlh
  have HLH := Lib.hid hlh
  clear h hN ho hl hlh hid
  go_enter Try.func26, Try.ntmps26
  go_wp2_with (first | (refine wpList_box10 rfl 37 _ rfl (PCall.cells ⟨k, n, m, s, c, z⟩).toArray rfl ?_; intro g3 w3 n3 h3 k3; have H3 := Lib.hid h3; have K3 := Lib.hid k3; have c1 : w3.cell? ⟨g3, 1, none⟩ = some (.int .i64 n) := (by have h9 := (call_cells HO.out h3).2.1; exact h9); have c5 : w3.cell? ⟨g3, 35, none⟩ = some (.int .i64 i) := (by have h9 := (call_cells HO.out h3).2.2.2.2.2.1; rw [← HID.out] at h9; exact h9); clear h3 k3 n3; go_frame) | (go_at_call 38; refine (HLH.out _ K3.out).mono ?_; rintro e w4 ⟨rfl, rfl⟩) | fail)
  go_ret2
  exact HA.out.same HN.out K3.out _
set_option linter.unusedSimpArgs false in
set_option maxRecDepth 100000 in
set_option maxHeartbeats 12800000 in
theorem lprove_proved {B : Nat} {w : World} {p : Value} {pb N : Nat} {ts : List PTE} {hs : List PHE} {k n m z : Int} {s : List UInt8} {c : PChan} (h : PlainAt B w p pb N ts hs) (hN : N + 1 ≤ 100) (ho : CallIn ⟨k, n, m, s, c, z⟩) (hk : k = 6) {y : PHE} (hl : lookH n c.id hs = some y) (hp9 : y.h.proved = true) :
    Calls Try.prog 26 #[p, .agg (PCall.cells ⟨k, n, m, s, c, z⟩).toArray] w fun e w' => PlainOut B w p pb N (.tuple #[.int .i64 0, .int .i64 9]) ts hs e w' := by
  have HO := Lib.hid ho
  have HA := Lib.hid h
  have HN := Lib.hid hN
  obtain ⟨i, hid⟩ : ∃ i, i = c.id := ⟨_, rfl⟩
  have HID := Lib.hid hid
  obtain ⟨jh, hjh, hlh, hjhx⟩ := lhold_some h hl
  rw [← hid] at hlh
  have HLH := Lib.hid hlh
  obtain ⟨v, hv⟩ : ∃ v, v = y.h := ⟨_, rfl⟩
  have hyin := (h.inv.hin y (lookK_mem hl).1).h
  rw [← hv] at hyin
  have HV : Hid (HoldIn v) := Lib.hid hyin
  have hyha := h.inv.ha y (lookK_mem hl).1
  have hymx := h.inv.amountMax (lookK_mem hl).1
  rw [← hv] at hyha hymx
  obtain ⟨a1, c1', a2, c2', hp, s1, s2, o1, o2⟩ := h.read
  have hpis := h.is
  subst hpis
  have HP := Lib.hid hp
  have hn63h := s2.len63
  have hnch : (hs.length : Int) ≤ (c2' : Int) := by have h2 := s2.2.1; omega
  have hc63h : (c2' : Int) ≤ 9223372036854775807 := by have h2 := s2.2.2.1; unfold maxLen at h2; omega
  have f1h : (jh : Int) < (hs.length : Int) := by omega
  have f0h : (0 : Int) ≤ (jh : Int) := by omega
  have fth : ((jh : Int)).toNat = jh := by omega
  obtain ⟨b8, o8, e9h, hlth, hcch⟩ := s2.2.2.2.2.2 (by omega)
  have rxh := hcch jh hjh
  rw [hjhx] at rxh
  subst e9h
  have RH : Hid (∀ W : World, Below w.heap.size w W → W.rangeAt b8 (o8 + jh * 75) y.cells) := Lib.hid (fun W hW => rangeAt_below rxh hlth hW)
  have RHH : Hid (∀ W : World, Below w.heap.size w W → W.rangeAt b8 (o8 + jh * 75 + 1) v.cells) := Lib.hid (fun W hW => by rw [hv]; exact (range_cons (RH.out W hW)).2)
  obtain ⟨L, hL⟩ : ∃ L, L = hs.length := ⟨_, rfl⟩
  obtain ⟨t, ht9⟩ : ∃ t, t = v.at9 := ⟨_, rfl⟩
  have HTT := Lib.hid ht9
  obtain ⟨am, ham⟩ : ∃ t, t = v.amount := ⟨_, rfl⟩
  have HAM := Lib.hid ham
  have f2h : ¬ ((jh : Int) < 0) := by omega
  rw [← hv] at hp9
  have HPV : Hid (v.proved = true) := Lib.hid hp9
  clear hp9
  rw [← hL] at HP hn63h hnch f1h
  clear h hN ho hl hlh hid hjh hjhx hv hp s1 s2 o1 o2 hlth hcch rxh hL ht9 ham hyin hyha hymx
  have HK := Lib.hid hk
  clear hk
  go_enter Try.func26, Try.ntmps26
  go_wp2_with (first | (refine wpList_box10 rfl 37 _ rfl (PCall.cells ⟨k, n, m, s, c, z⟩).toArray rfl ?_; intro g3 w3 n3 h3 k3; have H3 := Lib.hid h3; have K3 := Lib.hid k3; have c0 : w3.cell? ⟨g3, 0, none⟩ = some (.int .i64 6) := (by have h9 := (call_cells HO.out h3).1; rw [HK.out] at h9; exact h9); have c1 : w3.cell? ⟨g3, 1, none⟩ = some (.int .i64 n) := (by have h9 := (call_cells HO.out h3).2.1; exact h9); have c5 : w3.cell? ⟨g3, 35, none⟩ = some (.int .i64 i) := (by have h9 := (call_cells HO.out h3).2.2.2.2.2.1; rw [← HID.out] at h9; exact h9); have cs1 := cell_of_row w3 pb 1 _ _ _ (keep k3 HP.out); clear h3 k3 n3; go_frame) | (go_at_call 38; refine (HLH.out _ K3.out).mono ?_; rintro e w4 ⟨rfl, rfl⟩) | (refine wpList_loadw (by rfl) 53 _ rfl b8 (o8 + jh * 75 + 1) rfl v.cells _ (RHH.out _ K3.out) Try.underlying53 rfl (hold_size HV.out) ?_; go_frame) | (refine wpList_var rfl rfl 53 rfl _ _ rfl noHold.cells.toArray Try.zeroHold rfl v.cells (fun _ => rfl) (fun _ => rfl) (PHold.len HV.out) v.one ?_; intro g7 w6 n6 h6 k6; have H6 := Lib.hid h6; have K6 := Lib.hid (bthen K3.out k6); have N6 := Lib.hid (Nat.le_trans K3.out.size n6); have H36 := Lib.hid (keep k6 H3.out); have NE := Lib.hid (show g3 ≠ g7 by have := lt_of_block H3.out; omega); have c60 : w6.cell? ⟨g3, 0, none⟩ = some (.int .i64 6) := (by have h9 := (call_cells HO.out (keep k6 H3.out)).1; rw [HK.out] at h9; exact h9); have c40 : w6.cell? ⟨g7, 40, none⟩ = some (.bool true) := (by have h9 := (hold_at HV.out (range_of h6)).proved; rw [Nat.zero_add, HPV.out] at h9; exact h9); clear h6 k6 n6 cs1 c0 c1 c5; go_frame) | fail)
  go_ret2
  exact HA.out.same HN.out K6.out _
set_option linter.unusedSimpArgs false in
set_option maxRecDepth 100000 in
set_option maxHeartbeats 12800000 in
theorem lprove_ok {B : Nat} {w : World} {p : Value} {pb N : Nat} {ts : List PTE} {hs : List PHE} {k n m z : Int} {s : List UInt8} {c : PChan} (h : PlainAt B w p pb N ts hs) (hN : N + 1 ≤ 100) (ho : CallIn ⟨k, n, m, s, c, z⟩) (hk : k = 6) {y : PHE} (hl : lookH n c.id hs = some y) (hz0 : -1099511627776 ≤ z) (hz1 : z ≤ 1099511627776) (hp9 : y.h.proved = false) :
    Calls Try.prog 26 #[p, .agg (PCall.cells ⟨k, n, m, s, c, z⟩).toArray] w fun e w' => PlainOut B w p pb N (.tuple #[.int .i64 0, .int .i64 0]) ts (setK hkey (n, c.id) ⟨n, ⟨y.h.ch, y.h.amount, true, z, s⟩⟩ hs) e w' := by
  have hi := h.inv.prove (n := n) (id := c.id) hl hz0 hz1 ho.root
  have HZ : Hid (Fits z) := Lib.hid (by constructor <;> omega)
  have hyn : y.n = n := congrArg Prod.fst (lookK_mem hl).2
  have HO := Lib.hid ho
  have HA := Lib.hid h
  have HN := Lib.hid hN
  obtain ⟨i, hid⟩ : ∃ i, i = c.id := ⟨_, rfl⟩
  have HID := Lib.hid hid
  obtain ⟨jh, hjh, hlh, hjhx⟩ := lhold_some h hl
  rw [← hid] at hlh
  have HLH := Lib.hid hlh
  obtain ⟨v, hv⟩ : ∃ v, v = y.h := ⟨_, rfl⟩
  have hyin := (h.inv.hin y (lookK_mem hl).1).h
  rw [← hv] at hyin
  have HV : Hid (HoldIn v) := Lib.hid hyin
  have hyha := h.inv.ha y (lookK_mem hl).1
  have hymx := h.inv.amountMax (lookK_mem hl).1
  rw [← hv] at hyha hymx
  obtain ⟨a1, c1', a2, c2', hp, s1, s2, o1, o2⟩ := h.read
  have hpis := h.is
  subst hpis
  have HP := Lib.hid hp
  have hn63h := s2.len63
  have hnch : (hs.length : Int) ≤ (c2' : Int) := by have h2 := s2.2.1; omega
  have hc63h : (c2' : Int) ≤ 9223372036854775807 := by have h2 := s2.2.2.1; unfold maxLen at h2; omega
  have f1h : (jh : Int) < (hs.length : Int) := by omega
  have f0h : (0 : Int) ≤ (jh : Int) := by omega
  have fth : ((jh : Int)).toNat = jh := by omega
  obtain ⟨b8, o8, e9h, hlth, hcch⟩ := s2.2.2.2.2.2 (by omega)
  have rxh := hcch jh hjh
  rw [hjhx] at rxh
  subst e9h
  have RH : Hid (∀ W : World, Below w.heap.size w W → W.rangeAt b8 (o8 + jh * 75) y.cells) := Lib.hid (fun W hW => rangeAt_below rxh hlth hW)
  have RHH : Hid (∀ W : World, Below w.heap.size w W → W.rangeAt b8 (o8 + jh * 75 + 1) v.cells) := Lib.hid (fun W hW => by rw [hv]; exact (range_cons (RH.out W hW)).2)
  obtain ⟨L, hL⟩ : ∃ L, L = hs.length := ⟨_, rfl⟩
  obtain ⟨t, ht9⟩ : ∃ t, t = v.at9 := ⟨_, rfl⟩
  have HTT := Lib.hid ht9
  obtain ⟨am, ham⟩ : ∃ t, t = v.amount := ⟨_, rfl⟩
  have HAM := Lib.hid ham
  have f2h : ¬ ((jh : Int) < 0) := by omega
  rw [← hv] at hi ⊢
  have hset := dropL_set (n := n) (id := c.id) h.inv.hk hjh hjhx (lookK_mem hl).2 ⟨n, ⟨v.ch, v.amount, true, z, s⟩⟩
  have HDR : Hid (∀ W : World, Below w.heap.size w W → Calls Try.prog 39 #[(.pointer (some ⟨pb, 0, none⟩)), .int .i64 (jh : Nat), .agg (PHold.cells ⟨v.ch, v.amount, true, z, s⟩).toArray, .bool true] W fun e w' => e = .returned (.tuple #[]) ∧ PlainOut B w (.pointer (some ⟨pb, 0, none⟩)) pb N (.tuple #[.int .i64 0, .int .i64 0]) ts (setK hkey (n, c.id) ⟨n, ⟨v.ch, v.amount, true, z, s⟩⟩ hs) (.returned (.tuple #[.int .i64 0, .int .i64 0])) w') := Lib.hid (fun W hW => by
    have h8 : HoldIn ⟨v.ch, v.amount, true, z, s⟩ := ⟨HV.out.ch, HV.out.amount, HZ.out, HO.out.root⟩
    have h7 := drop_any (kp := true) (v := ⟨v.ch, v.amount, true, z, s⟩) (h.below hW) hN hjh h8
    rw [hjhx, hyn, hset] at h7
    refine (h7 hi).mono ?_
    intro e w' hout
    refine ⟨hout.1, ?_⟩
    have h6 := PlainOut.after hW h.size hout
    exact ⟨rfl, h6.2.1, h6.2.2.1, h6.2.2.2⟩)
  rw [← hv] at hp9
  have HPV : Hid (v.proved = false) := Lib.hid hp9
  clear hp9
  rw [← hL] at HP hn63h hnch f1h
  generalize setK hkey (n, c.id) ⟨n, ⟨v.ch, v.amount, true, z, s⟩⟩ hs = hs' at HDR ⊢
  clear hi hset hyn hz0 hz1 h hN ho hl hlh hid hjh hjhx hv hp s1 s2 o1 o2 hlth hcch rxh hL ht9 ham hyin hyha hymx
  have HK := Lib.hid hk
  clear hk
  go_enter Try.func26, Try.ntmps26
  go_wp2_with (first | (refine wpList_box10 rfl 37 _ rfl (PCall.cells ⟨k, n, m, s, c, z⟩).toArray rfl ?_; intro g3 w3 n3 h3 k3; have H3 := Lib.hid h3; have K3 := Lib.hid k3; have c0 : w3.cell? ⟨g3, 0, none⟩ = some (.int .i64 6) := (by have h9 := (call_cells HO.out h3).1; rw [HK.out] at h9; exact h9); have c1 : w3.cell? ⟨g3, 1, none⟩ = some (.int .i64 n) := (by have h9 := (call_cells HO.out h3).2.1; exact h9); have c5 : w3.cell? ⟨g3, 35, none⟩ = some (.int .i64 i) := (by have h9 := (call_cells HO.out h3).2.2.2.2.2.1; rw [← HID.out] at h9; exact h9); have cs1 := cell_of_row w3 pb 1 _ _ _ (keep k3 HP.out); clear h3 k3 n3; go_frame) | (go_at_call 38; refine (HLH.out _ K3.out).mono ?_; rintro e w4 ⟨rfl, rfl⟩) | (refine wpList_loadw (by rfl) 53 _ rfl b8 (o8 + jh * 75 + 1) rfl v.cells _ (RHH.out _ K3.out) Try.underlying53 rfl (hold_size HV.out) ?_; go_frame) | (refine wpList_var rfl rfl 53 rfl _ _ rfl noHold.cells.toArray Try.zeroHold rfl v.cells (fun _ => rfl) (fun _ => rfl) (PHold.len HV.out) v.one ?_; intro g7 w6 n6 h6 k6; have H6 := Lib.hid h6; have K6 := Lib.hid (bthen K3.out k6); have N6 := Lib.hid (Nat.le_trans K3.out.size n6); have H36 := Lib.hid (keep k6 H3.out); have NE := Lib.hid (show g3 ≠ g7 by have := lt_of_block H3.out; omega); have c60 : w6.cell? ⟨g3, 0, none⟩ = some (.int .i64 6) := (by have h9 := (call_cells HO.out (keep k6 H3.out)).1; rw [HK.out] at h9; exact h9); have c40 : w6.cell? ⟨g7, 40, none⟩ = some (.bool false) := (by have h9 := (hold_at HV.out (range_of h6)).proved; rw [Nat.zero_add, HPV.out] at h9; exact h9); clear h6 k6 n6 cs1 c0 c1 c5; go_frame) | (refine wpList_field10 rfl 4 _ _ rfl g7 40 rfl (.bool true) rfl 53 v.cells H6.out (by rw [PHold.len HV.out]; omega) (by kernel_rfl) rfl ?_; intro w10 h10 k10; have H10 : Hid (w10.heap[g7]? = some (.cells (PHold.cells ⟨v.ch, v.amount, true, v.at9, v.commit⟩).toArray 53 (0, 0))) := Lib.hid (by rw [← hold_set_proved HV.out.ch.ftx]; exact h10); have K10 := Lib.hid (But.in K6.out k10 N6.out); have H310 := Lib.hid (k10.heap H36.out (lt_of_block H36.out) NE.out); have c174 : w10.cell? ⟨g3, 74, none⟩ = some (.int .i64 z) := (call_cells HO.out (k10.heap H36.out (lt_of_block H36.out) NE.out)).2.2.2.2.2.2.2; clear h10 k10 c60 c40; go_frame) | (refine wpList_field10 rfl 3 _ _ rfl g7 41 rfl (.int .i64 z) rfl 53 (PHold.cells ⟨v.ch, v.amount, true, v.at9, v.commit⟩) H10.out (by rw [PHold.len (x := ⟨v.ch, v.amount, true, v.at9, v.commit⟩) ⟨HV.out.ch, HV.out.amount, HV.out.at9, HV.out.commit⟩]; omega) (by kernel_rfl) rfl ?_; intro w11 h11 k11; have H11 : Hid (w11.heap[g7]? = some (.cells (PHold.cells ⟨v.ch, v.amount, true, z, v.commit⟩).toArray 53 (0, 0))) := Lib.hid (by rw [← hold_set_at (x := ⟨v.ch, v.amount, true, v.at9, v.commit⟩) HV.out.ch.ftx]; exact h11); have K11 := Lib.hid (But.in K10.out k11 N6.out); have H311 := Lib.hid (k11.heap H310.out (lt_of_block H310.out) NE.out); clear h11 k11 c174; go_frame) | (refine wpList_loadw (by rfl) 31 _ rfl g3 3 rfl (cellsOf s) _ ((call_cells HO.out H311.out).2.2.2.1) Try.underlying31 rfl (sum_size HO.out.root) ?_; go_frame) | (refine wpList_part10 rfl 31 _ _ rfl g7 42 rfl (cellsOf s) rfl 53 (v.ch.cells ++ [.int .i64 v.amount, .bool true, .int .i64 z]) (cellsOf v.commit) [] (by have h9 := H11.out; rw [hold_parts] at h9; exact h9) (by simp [PChan.len HV.out.ch.ftx]) (by rw [cellsOf_len, cellsOf_len, HV.out.commit, HO.out.root]) (sum_size HO.out.root) (cellsOf_one _) ?_; intro w12 h12 k12; have H12 : Hid (w12.heap[g7]? = some (.cells (PHold.cells ⟨v.ch, v.amount, true, z, s⟩).toArray 53 (0, 0))) := Lib.hid (by rw [hold_parts]; exact h12); have K12 := Lib.hid (But.in K11.out k12 N6.out); clear h12 k12; go_frame) | (refine wpList_loadw (by rfl) 53 _ rfl g7 0 rfl (PHold.cells ⟨v.ch, v.amount, true, z, s⟩) _ (range_of H12.out) Try.underlying53 rfl (hold_size (x := ⟨v.ch, v.amount, true, z, s⟩) ⟨HV.out.ch, HV.out.amount, HZ.out, HO.out.root⟩) ?_; go_frame) | (go_at_call 39; refine (HDR.out _ K12.out).mono ?_; rintro e w13 ⟨rfl, hout⟩; have HOUT := Lib.hid hout; clear hout) | fail)
  go_ret2
  exact HOUT.out
set_option linter.unusedSimpArgs false in
set_option maxRecDepth 100000 in
set_option maxHeartbeats 12800000 in
theorem lprove_wait {B : Nat} {w : World} {p : Value} {pb N : Nat} {ts : List PTE} {hs : List PHE} {k n m z : Int} {s : List UInt8} {c : PChan} (h : PlainAt B w p pb N ts hs) (hN : N + 1 ≤ 100) (ho : CallIn ⟨k, n, m, s, c, z⟩) (hk : ¬ k = 6) {y : PHE} (hl : lookH n c.id hs = some y) (hp9 : y.h.proved = false) :
    Calls Try.prog 26 #[p, .agg (PCall.cells ⟨k, n, m, s, c, z⟩).toArray] w fun e w' => PlainOut B w p pb N (.tuple #[.int .i64 0, .int .i64 7]) ts hs e w' := by
  have HO := Lib.hid ho
  have HA := Lib.hid h
  have HN := Lib.hid hN
  obtain ⟨i, hid⟩ : ∃ i, i = c.id := ⟨_, rfl⟩
  have HID := Lib.hid hid
  obtain ⟨jh, hjh, hlh, hjhx⟩ := lhold_some h hl
  rw [← hid] at hlh
  have HLH := Lib.hid hlh
  obtain ⟨v, hv⟩ : ∃ v, v = y.h := ⟨_, rfl⟩
  have hyin := (h.inv.hin y (lookK_mem hl).1).h
  rw [← hv] at hyin
  have HV : Hid (HoldIn v) := Lib.hid hyin
  have hyha := h.inv.ha y (lookK_mem hl).1
  have hymx := h.inv.amountMax (lookK_mem hl).1
  rw [← hv] at hyha hymx
  obtain ⟨a1, c1', a2, c2', hp, s1, s2, o1, o2⟩ := h.read
  have hpis := h.is
  subst hpis
  have HP := Lib.hid hp
  have hn63h := s2.len63
  have hnch : (hs.length : Int) ≤ (c2' : Int) := by have h2 := s2.2.1; omega
  have hc63h : (c2' : Int) ≤ 9223372036854775807 := by have h2 := s2.2.2.1; unfold maxLen at h2; omega
  have f1h : (jh : Int) < (hs.length : Int) := by omega
  have f0h : (0 : Int) ≤ (jh : Int) := by omega
  have fth : ((jh : Int)).toNat = jh := by omega
  obtain ⟨b8, o8, e9h, hlth, hcch⟩ := s2.2.2.2.2.2 (by omega)
  have rxh := hcch jh hjh
  rw [hjhx] at rxh
  subst e9h
  have RH : Hid (∀ W : World, Below w.heap.size w W → W.rangeAt b8 (o8 + jh * 75) y.cells) := Lib.hid (fun W hW => rangeAt_below rxh hlth hW)
  have RHH : Hid (∀ W : World, Below w.heap.size w W → W.rangeAt b8 (o8 + jh * 75 + 1) v.cells) := Lib.hid (fun W hW => by rw [hv]; exact (range_cons (RH.out W hW)).2)
  obtain ⟨L, hL⟩ : ∃ L, L = hs.length := ⟨_, rfl⟩
  obtain ⟨t, ht9⟩ : ∃ t, t = v.at9 := ⟨_, rfl⟩
  have HTT := Lib.hid ht9
  obtain ⟨am, ham⟩ : ∃ t, t = v.amount := ⟨_, rfl⟩
  have HAM := Lib.hid ham
  have f2h : ¬ ((jh : Int) < 0) := by omega
  rw [← hv] at hp9
  have HPV : Hid (v.proved = false) := Lib.hid hp9
  clear hp9
  rw [← hL] at HP hn63h hnch f1h
  clear h hN ho hl hlh hid hjh hjhx hv hp s1 s2 o1 o2 hlth hcch rxh hL ht9 ham hyin hyha hymx
  go_enter Try.func26, Try.ntmps26
  go_wp2_with (first | (refine wpList_box10 rfl 37 _ rfl (PCall.cells ⟨k, n, m, s, c, z⟩).toArray rfl ?_; intro g3 w3 n3 h3 k3; have H3 := Lib.hid h3; have K3 := Lib.hid k3; have c0 : w3.cell? ⟨g3, 0, none⟩ = some (.int .i64 k) := (by have h9 := (call_cells HO.out h3).1; exact h9); have c1 : w3.cell? ⟨g3, 1, none⟩ = some (.int .i64 n) := (by have h9 := (call_cells HO.out h3).2.1; exact h9); have c5 : w3.cell? ⟨g3, 35, none⟩ = some (.int .i64 i) := (by have h9 := (call_cells HO.out h3).2.2.2.2.2.1; rw [← HID.out] at h9; exact h9); have cs1 := cell_of_row w3 pb 1 _ _ _ (keep k3 HP.out); clear h3 k3 n3; go_frame) | (go_at_call 38; refine (HLH.out _ K3.out).mono ?_; rintro e w4 ⟨rfl, rfl⟩) | (refine wpList_loadw (by rfl) 53 _ rfl b8 (o8 + jh * 75 + 1) rfl v.cells _ (RHH.out _ K3.out) Try.underlying53 rfl (hold_size HV.out) ?_; go_frame) | (refine wpList_var rfl rfl 53 rfl _ _ rfl noHold.cells.toArray Try.zeroHold rfl v.cells (fun _ => rfl) (fun _ => rfl) (PHold.len HV.out) v.one ?_; intro g7 w6 n6 h6 k6; have H6 := Lib.hid h6; have K6 := Lib.hid (bthen K3.out k6); have N6 := Lib.hid (Nat.le_trans K3.out.size n6); have H36 := Lib.hid (keep k6 H3.out); have NE := Lib.hid (show g3 ≠ g7 by have := lt_of_block H3.out; omega); have c60 : w6.cell? ⟨g3, 0, none⟩ = some (.int .i64 k) := (by have h9 := (call_cells HO.out (keep k6 H3.out)).1; exact h9); have c40 : w6.cell? ⟨g7, 40, none⟩ = some (.bool false) := (by have h9 := (hold_at HV.out (range_of h6)).proved; rw [Nat.zero_add, HPV.out] at h9; exact h9); clear h6 k6 n6 cs1 c0 c1 c5; go_frame) | fail)
  go_ret2
  exact HA.out.same HN.out K6.out _
set_option linter.unusedSimpArgs false in
set_option maxRecDepth 100000 in
set_option maxHeartbeats 12800000 in
theorem lprove_early {B : Nat} {w : World} {p : Value} {pb N : Nat} {ts : List PTE} {hs : List PHE} {k n m z : Int} {s : List UInt8} {c : PChan} (h : PlainAt B w p pb N ts hs) (hN : N + 1 ≤ 100) (ho : CallIn ⟨k, n, m, s, c, z⟩) (hk : ¬ k = 6) {y : PHE} (hl : lookH n c.id hs = some y) (hz0 : -1099511627776 ≤ z) (hz1 : z ≤ 1099511627776) (hp9 : y.h.proved = true) (h2 : z - y.h.at9 < 3) :
    Calls Try.prog 26 #[p, .agg (PCall.cells ⟨k, n, m, s, c, z⟩).toArray] w fun e w' => PlainOut B w p pb N (.tuple #[.int .i64 0, .int .i64 17]) ts hs e w' := by
  have HO := Lib.hid ho
  have HA := Lib.hid h
  have HN := Lib.hid hN
  obtain ⟨i, hid⟩ : ∃ i, i = c.id := ⟨_, rfl⟩
  have HID := Lib.hid hid
  obtain ⟨jh, hjh, hlh, hjhx⟩ := lhold_some h hl
  rw [← hid] at hlh
  have HLH := Lib.hid hlh
  obtain ⟨v, hv⟩ : ∃ v, v = y.h := ⟨_, rfl⟩
  have hyin := (h.inv.hin y (lookK_mem hl).1).h
  rw [← hv] at hyin
  have HV : Hid (HoldIn v) := Lib.hid hyin
  have hyha := h.inv.ha y (lookK_mem hl).1
  have hymx := h.inv.amountMax (lookK_mem hl).1
  rw [← hv] at hyha hymx
  obtain ⟨a1, c1', a2, c2', hp, s1, s2, o1, o2⟩ := h.read
  have hpis := h.is
  subst hpis
  have HP := Lib.hid hp
  have hn63h := s2.len63
  have hnch : (hs.length : Int) ≤ (c2' : Int) := by have h2 := s2.2.1; omega
  have hc63h : (c2' : Int) ≤ 9223372036854775807 := by have h2 := s2.2.2.1; unfold maxLen at h2; omega
  have f1h : (jh : Int) < (hs.length : Int) := by omega
  have f0h : (0 : Int) ≤ (jh : Int) := by omega
  have fth : ((jh : Int)).toNat = jh := by omega
  obtain ⟨b8, o8, e9h, hlth, hcch⟩ := s2.2.2.2.2.2 (by omega)
  have rxh := hcch jh hjh
  rw [hjhx] at rxh
  subst e9h
  have RH : Hid (∀ W : World, Below w.heap.size w W → W.rangeAt b8 (o8 + jh * 75) y.cells) := Lib.hid (fun W hW => rangeAt_below rxh hlth hW)
  have RHH : Hid (∀ W : World, Below w.heap.size w W → W.rangeAt b8 (o8 + jh * 75 + 1) v.cells) := Lib.hid (fun W hW => by rw [hv]; exact (range_cons (RH.out W hW)).2)
  obtain ⟨L, hL⟩ : ∃ L, L = hs.length := ⟨_, rfl⟩
  obtain ⟨t, ht9⟩ : ∃ t, t = v.at9 := ⟨_, rfl⟩
  have HTT := Lib.hid ht9
  obtain ⟨am, ham⟩ : ∃ t, t = v.amount := ⟨_, rfl⟩
  have HAM := Lib.hid ham
  have f2h : ¬ ((jh : Int) < 0) := by omega
  rw [← hv, ← ht9] at h2
  rw [← ht9] at hyha
  have iw : IntKind.i64.wrap (z - t) = z - t := IntWalk.i64_in _ (by omega)
  rw [← hv] at hp9
  have HPV : Hid (v.proved = true) := Lib.hid hp9
  clear hp9
  rw [← hL] at HP hn63h hnch f1h
  clear h hN ho hl hlh hid hjh hjhx hv hp s1 s2 o1 o2 hlth hcch rxh hL ht9 ham hyin hyha hymx
  go_enter Try.func26, Try.ntmps26
  go_wp2_with (first | (refine wpList_box10 rfl 37 _ rfl (PCall.cells ⟨k, n, m, s, c, z⟩).toArray rfl ?_; intro g3 w3 n3 h3 k3; have H3 := Lib.hid h3; have K3 := Lib.hid k3; have c0 : w3.cell? ⟨g3, 0, none⟩ = some (.int .i64 k) := (by have h9 := (call_cells HO.out h3).1; exact h9); have c1 : w3.cell? ⟨g3, 1, none⟩ = some (.int .i64 n) := (by have h9 := (call_cells HO.out h3).2.1; exact h9); have c5 : w3.cell? ⟨g3, 35, none⟩ = some (.int .i64 i) := (by have h9 := (call_cells HO.out h3).2.2.2.2.2.1; rw [← HID.out] at h9; exact h9); have cs1 := cell_of_row w3 pb 1 _ _ _ (keep k3 HP.out); clear h3 k3 n3; go_frame) | (go_at_call 38; refine (HLH.out _ K3.out).mono ?_; rintro e w4 ⟨rfl, rfl⟩) | (refine wpList_loadw (by rfl) 53 _ rfl b8 (o8 + jh * 75 + 1) rfl v.cells _ (RHH.out _ K3.out) Try.underlying53 rfl (hold_size HV.out) ?_; go_frame) | (refine wpList_var rfl rfl 53 rfl _ _ rfl noHold.cells.toArray Try.zeroHold rfl v.cells (fun _ => rfl) (fun _ => rfl) (PHold.len HV.out) v.one ?_; intro g7 w6 n6 h6 k6; have H6 := Lib.hid h6; have K6 := Lib.hid (bthen K3.out k6); have N6 := Lib.hid (Nat.le_trans K3.out.size n6); have H36 := Lib.hid (keep k6 H3.out); have NE := Lib.hid (show g3 ≠ g7 by have := lt_of_block H3.out; omega); have c60 : w6.cell? ⟨g3, 0, none⟩ = some (.int .i64 k) := (by have h9 := (call_cells HO.out (keep k6 H3.out)).1; exact h9); have c40 : w6.cell? ⟨g7, 40, none⟩ = some (.bool true) := (by have h9 := (hold_at HV.out (range_of h6)).proved; rw [Nat.zero_add, HPV.out] at h9; exact h9); have c41 : w6.cell? ⟨g7, 41, none⟩ = some (.int .i64 t) := (by have h9 := (hold_at HV.out (range_of h6)).at9; rw [Nat.zero_add, ← HTT.out] at h9; exact h9); have c74 : w6.cell? ⟨g3, 74, none⟩ = some (.int .i64 z) := (call_cells HO.out (keep k6 H3.out)).2.2.2.2.2.2.2; clear h6 k6 n6 cs1 c0 c1 c5; go_frame) | fail)
  go_ret2
  exact HA.out.same HN.out K6.out _
set_option linter.unusedSimpArgs false in
set_option maxRecDepth 100000 in
set_option maxHeartbeats 12800000 in
theorem lprove_settle {B : Nat} {w : World} {p : Value} {pb N : Nat} {ts : List PTE} {hs : List PHE} {k n m z : Int} {s : List UInt8} {c : PChan} (h : PlainAt B w p pb N ts hs) (hN : N + 1 ≤ 100) (ho : CallIn ⟨k, n, m, s, c, z⟩) (hk : ¬ k = 6) {y : PHE} (hl : lookH n c.id hs = some y) (hz0 : -1099511627776 ≤ z) (hz1 : z ≤ 1099511627776) (hp9 : y.h.proved = true) (h2 : ¬ z - y.h.at9 < 3) {x : PTE} (hlx : lookT n ts = some x) :
    Calls Try.prog 26 #[p, .agg (PCall.cells ⟨k, n, m, s, c, z⟩).toArray] w fun e w' => PlainOut B w p pb N (.tuple #[.int .i64 y.h.amount, .int .i64 0]) (putT n ⟨x.t.root, x.t.locked - y.h.amount, x.t.asked, x.t.at9⟩ ts) (delK hkey (n, c.id) hs) e w' := by
  have hi := h.inv.settle hl hlx
  have hyn : y.n = n := congrArg Prod.fst (lookK_mem hl).2
  have hya := h.inv.amountHeld (lookK_mem hl).1
  have hxl0 := h.inv.locked0 (lookT_num hlx).1
  have hxlm := h.inv.lockedMax (lookT_num hlx).1
  have hxtl := h.inv.tl x (lookT_num hlx).1
  have hxin := h.inv.towIn (lookT_num hlx).1
  have hxta := h.inv.ta x (lookT_num hlx).1
  rw [(lookT_num hlx).2] at hxtl
  rw [hyn] at hya
  obtain ⟨j, hj, hat, hjx⟩ := at_some h hlx
  have HAT := Lib.hid hat
  obtain ⟨u, hu⟩ : ∃ u, u = x.t := ⟨_, rfl⟩
  rw [← hu] at hi hxl0 hxlm hxtl hxin hxta ⊢
  have HR : Hid (u.root.length = 32) := Lib.hid hxin.root
  have HO := Lib.hid ho
  have HA := Lib.hid h
  have HN := Lib.hid hN
  obtain ⟨i, hid⟩ : ∃ i, i = c.id := ⟨_, rfl⟩
  have HID := Lib.hid hid
  obtain ⟨jh, hjh, hlh, hjhx⟩ := lhold_some h hl
  rw [← hid] at hlh
  have HLH := Lib.hid hlh
  obtain ⟨v, hv⟩ : ∃ v, v = y.h := ⟨_, rfl⟩
  have hyin := (h.inv.hin y (lookK_mem hl).1).h
  rw [← hv] at hyin
  have HV : Hid (HoldIn v) := Lib.hid hyin
  have hyha := h.inv.ha y (lookK_mem hl).1
  have hymx := h.inv.amountMax (lookK_mem hl).1
  rw [← hv] at hyha hymx
  obtain ⟨a1, c1', a2, c2', hp, s1, s2, o1, o2⟩ := h.read
  have hpis := h.is
  subst hpis
  have HP := Lib.hid hp
  have hn63h := s2.len63
  have hnch : (hs.length : Int) ≤ (c2' : Int) := by have h2 := s2.2.1; omega
  have hc63h : (c2' : Int) ≤ 9223372036854775807 := by have h2 := s2.2.2.1; unfold maxLen at h2; omega
  have f1h : (jh : Int) < (hs.length : Int) := by omega
  have f0h : (0 : Int) ≤ (jh : Int) := by omega
  have fth : ((jh : Int)).toNat = jh := by omega
  obtain ⟨b8, o8, e9h, hlth, hcch⟩ := s2.2.2.2.2.2 (by omega)
  have rxh := hcch jh hjh
  rw [hjhx] at rxh
  subst e9h
  have RH : Hid (∀ W : World, Below w.heap.size w W → W.rangeAt b8 (o8 + jh * 75) y.cells) := Lib.hid (fun W hW => rangeAt_below rxh hlth hW)
  have RHH : Hid (∀ W : World, Below w.heap.size w W → W.rangeAt b8 (o8 + jh * 75 + 1) v.cells) := Lib.hid (fun W hW => by rw [hv]; exact (range_cons (RH.out W hW)).2)
  obtain ⟨L, hL⟩ : ∃ L, L = hs.length := ⟨_, rfl⟩
  obtain ⟨t, ht9⟩ : ∃ t, t = v.at9 := ⟨_, rfl⟩
  have HTT := Lib.hid ht9
  obtain ⟨am, ham⟩ : ∃ t, t = v.amount := ⟨_, rfl⟩
  have HAM := Lib.hid ham
  have f2h : ¬ ((jh : Int) < 0) := by omega
  rw [← hv] at hi hya ⊢
  rw [← hv, ← ht9] at h2
  rw [← ht9] at hyha
  have hn63 := s1.len63
  have hnc : (ts.length : Int) ≤ (c1' : Int) := by have h2 := s1.2.1; omega
  have hc63 : (c1' : Int) ≤ 9223372036854775807 := by have h2 := s1.2.2.1; unfold maxLen at h2; omega
  have f1 : (j : Int) < (ts.length : Int) := by omega
  have f0 : (0 : Int) ≤ (j : Int) := by omega
  have ft : ((j : Int)).toNat = j := by omega
  obtain ⟨b9, o9, e9, hlt, hcc⟩ := s1.2.2.2.2.2 (by omega)
  have rx := hcc j hj
  rw [hjx] at rx
  subst e9
  have RE : Hid (∀ W : World, Below w.heap.size w W → W.rangeAt b9 (o9 + j * 36) x.cells) := Lib.hid (fun W hW => rangeAt_below rx hlt hW)
  have RTT : Hid (∀ W : World, Below w.heap.size w W → W.rangeAt b9 (o9 + j * 36 + 1) u.cells) := Lib.hid (fun W hW => by rw [hu]; exact (range_cons (RE.out W hW)).2)
  have f2 : ¬ ((j : Int) < 0) := by omega
  obtain ⟨l, hlk⟩ : ∃ l, l = u.locked := ⟨_, rfl⟩
  have HLK := Lib.hid hlk
  rw [← ham, ← hlk] at hi ⊢
  rw [← ham] at hyha hymx hya
  rw [← hlk] at hxl0 hxlm hxtl
  have iw : IntKind.i64.wrap (z - t) = z - t := IntWalk.i64_in _ (by omega)
  have iw2 : IntKind.i64.wrap (l - am) = l - am := IntWalk.i64_in _ (by omega)
  have hdel := dropL_del (n := n) (id := c.id) h.inv.hk hjh hjhx (lookK_mem hl).2 ⟨(hs.getD jh heK.dflt).n, v⟩
  have hmem := (lookT_num hlx).1
  have hputi : RawInv (putT n ⟨u.root, l - am, u.asked, u.at9⟩ ts) hs := by
    refine ⟨fun y hy => ?_, h.inv.hin⟩
    rcases putT_mem hy with rfl | ⟨h9, _⟩
    · exact ⟨HO.out.tower, ⟨HR.out, (show Fits (l - am) by constructor <;> omega), hxin.asked, hxin.at9⟩⟩
    · exact h.inv.teIn h9
  have hlen : (putT n ⟨u.root, l - am, u.asked, u.at9⟩ ts).length ≤ N := by rw [putT_len, hlx]; exact h.tn
  have HCH : Hid (∀ W : World, Below w.heap.size w W → Calls Try.prog 37 #[(.pointer (some ⟨pb, 0, none⟩)), .int .i64 n, .agg (PTow.cells ⟨u.root, l - am, u.asked, u.at9⟩).toArray] W fun e w' => e = .returned (.tuple #[]) ∧ (PlainRaw B w' (.pointer (some ⟨pb, 0, none⟩)) pb N (putT n ⟨u.root, l - am, u.asked, u.at9⟩ ts) hs ∧ Bar (plainOf pb) W w' ∧ (Bar (plainOf pb) w w' ∧ Below B w w'))) := Lib.hid (fun W hW => by
    refine (change_raw (t := ⟨u.root, l - am, u.asked, u.at9⟩) (n := n) ((PlainRaw.of h).below hW) hN ⟨HR.out, (show Fits (l - am) by constructor <;> omega), hxin.asked, hxin.at9⟩ hputi).mono ?_
    intro e w' hout
    exact ⟨hout.1, hout.2.1.fit hlen h.hn h.few, hout.2.2.1, (Bar.of hW).trans hout.2.2.1, (hW.mono h.size).trans hout.2.2.2⟩)
  have HDR : Hid (∀ W : World, PlainRaw B W (.pointer (some ⟨pb, 0, none⟩)) pb N (putT n ⟨u.root, l - am, u.asked, u.at9⟩ ts) hs → (Bar (plainOf pb) w W ∧ Below B w W) → Calls Try.prog 39 #[(.pointer (some ⟨pb, 0, none⟩)), .int .i64 (jh : Nat), .agg v.cells.toArray, .bool false] W fun e w' => e = .returned (.tuple #[]) ∧ Bar (plainOf pb) W w' ∧ PlainOut B w (.pointer (some ⟨pb, 0, none⟩)) pb N (.tuple #[.int .i64 am, .int .i64 0]) (putT n ⟨u.root, l - am, u.asked, u.at9⟩ ts) (delK hkey (n, c.id) hs) (.returned (.tuple #[.int .i64 am, .int .i64 0])) w') := Lib.hid (fun W hW hW2 => by
    refine (drop_raw (kp := false) (v := v) hW hN hjh HV.out (by rw [hdel]; exact RawInv.of hi)).mono ?_
    intro e w' hout
    rw [hdel] at hout
    exact ⟨hout.1, hout.2.2.1, rfl, hout.2.1.full hi, hW2.1.trans hout.2.2.1, hW2.2.trans hout.2.2.2⟩)
  rw [← hv] at hp9
  have HPV : Hid (v.proved = true) := Lib.hid hp9
  clear hp9
  rw [← hL] at HP hn63h hnch f1h
  generalize putT n ⟨u.root, l - am, u.asked, u.at9⟩ ts = ts' at HCH HDR ⊢
  generalize delK hkey (n, c.id) hs = hs' at HDR ⊢
  clear hi hyn hya hxl0 hxlm hxtl hxin hxta hat hj hjx hu hlk hlx hlt hcc rx hdel hputi hmem hlen hz0 hz1 h hN ho hl hlh hid hjh hjhx hv hp s1 s2 o1 o2 hlth hcch rxh hL ht9 ham hyin hyha hymx
  go_enter Try.func26, Try.ntmps26
  go_wp2_with (first | (refine wpList_box10 rfl 37 _ rfl (PCall.cells ⟨k, n, m, s, c, z⟩).toArray rfl ?_; intro g3 w3 n3 h3 k3; have H3 := Lib.hid h3; have K3 := Lib.hid k3; have c0 : w3.cell? ⟨g3, 0, none⟩ = some (.int .i64 k) := (by have h9 := (call_cells HO.out h3).1; exact h9); have c1 : w3.cell? ⟨g3, 1, none⟩ = some (.int .i64 n) := (by have h9 := (call_cells HO.out h3).2.1; exact h9); have c5 : w3.cell? ⟨g3, 35, none⟩ = some (.int .i64 i) := (by have h9 := (call_cells HO.out h3).2.2.2.2.2.1; rw [← HID.out] at h9; exact h9); have cs1 := cell_of_row w3 pb 1 _ _ _ (keep k3 HP.out); clear h3 k3 n3; go_frame) | (go_at_call 38; refine (HLH.out _ K3.out).mono ?_; rintro e w4 ⟨rfl, rfl⟩) | (refine wpList_loadw (by rfl) 53 _ rfl b8 (o8 + jh * 75 + 1) rfl v.cells _ (RHH.out _ K3.out) Try.underlying53 rfl (hold_size HV.out) ?_; go_frame) | (refine wpList_var rfl rfl 53 rfl _ _ rfl noHold.cells.toArray Try.zeroHold rfl v.cells (fun _ => rfl) (fun _ => rfl) (PHold.len HV.out) v.one ?_; intro g7 w6 n6 h6 k6; have H6 := Lib.hid h6; have K6 := Lib.hid (bthen K3.out k6); have N6 := Lib.hid (Nat.le_trans K3.out.size n6); have H36 := Lib.hid (keep k6 H3.out); have NE := Lib.hid (show g3 ≠ g7 by have := lt_of_block H3.out; omega); have c60 : w6.cell? ⟨g3, 0, none⟩ = some (.int .i64 k) := (by have h9 := (call_cells HO.out (keep k6 H3.out)).1; exact h9); have c40 : w6.cell? ⟨g7, 40, none⟩ = some (.bool true) := (by have h9 := (hold_at HV.out (range_of h6)).proved; rw [Nat.zero_add, HPV.out] at h9; exact h9); have c41 : w6.cell? ⟨g7, 41, none⟩ = some (.int .i64 t) := (by have h9 := (hold_at HV.out (range_of h6)).at9; rw [Nat.zero_add, ← HTT.out] at h9; exact h9); have c74 : w6.cell? ⟨g3, 74, none⟩ = some (.int .i64 z) := (call_cells HO.out (keep k6 H3.out)).2.2.2.2.2.2.2; have c61 : w6.cell? ⟨g3, 1, none⟩ = some (.int .i64 n) := (call_cells HO.out (keep k6 H3.out)).2.1; have cs6 := cell_of_row w6 pb 0 _ _ _ (keep (bthen K3.out k6) HP.out); clear h6 k6 n6 cs1 c0 c1 c5; go_frame) | (go_at_call 36; refine (HAT.out _ K6.out).mono ?_; rintro e w4 ⟨rfl, rfl⟩) | (refine wpList_loadw (by rfl) 67 _ rfl b9 (o9 + j * 36 + 1) rfl u.cells _ (RTT.out _ K6.out) Try.underlying67 rfl (tow_size HR.out) ?_; go_frame) | (refine wpList_var rfl rfl 67 rfl _ _ rfl noTow.cells.toArray Try.zeroTow rfl u.cells (fun _ => rfl) (fun _ => rfl) (PTow.len HR.out) u.one ?_; intro g8 w8 n8 h8 k8; have H8 := Lib.hid h8; have K8 := Lib.hid (bthen K6.out k8); have N8 := Lib.hid (Nat.le_trans K6.out.size n8); have H38 := Lib.hid (keep k8 H36.out); have H78 := Lib.hid (keep k8 H6.out); have NE3 := Lib.hid (show g3 ≠ g8 by have := lt_of_block H36.out; omega); have NE7 := Lib.hid (show g7 ≠ g8 by have := lt_of_block H6.out; omega); have c832 : w8.cell? ⟨g8, 32, none⟩ = some (.int .i64 l) := (by have h9 := (tow_at HR.out (range_of h8)).locked; rw [Nat.zero_add, ← HLK.out] at h9; exact h9); have c839 : w8.cell? ⟨g7, 39, none⟩ = some (.int .i64 am) := (by have h9 := (hold_at HV.out (range_of (keep k8 H6.out))).amount; rw [Nat.zero_add, ← HAM.out] at h9; exact h9); clear h8 k8 n8 c60 c40 c41 c74 c61 cs6; go_frame) | (refine wpList_field10 rfl 2 _ _ rfl g8 32 rfl (.int .i64 (l - am)) rfl 67 u.cells H8.out (by rw [PTow.len HR.out]; omega) (by kernel_rfl) rfl ?_; intro w10 h10 k10; have H10 : Hid (w10.heap[g8]? = some (.cells (PTow.cells ⟨u.root, l - am, u.asked, u.at9⟩).toArray 67 (0, 0))) := Lib.hid (by rw [← tow_set_locked HR.out]; exact h10); have K10 := Lib.hid (But.in K8.out k10 N8.out); have H710 := Lib.hid (k10.heap H78.out (lt_of_block H78.out) NE7.out); have c101 : w10.cell? ⟨g3, 1, none⟩ = some (.int .i64 n) := (call_cells HO.out (k10.heap H38.out (lt_of_block H38.out) NE3.out)).2.1; clear h10 k10 c832 c839; go_frame) | (refine wpList_loadw (by rfl) 67 _ rfl g8 0 rfl (PTow.cells ⟨u.root, l - am, u.asked, u.at9⟩) _ (range_of H10.out) Try.underlying67 rfl (tow_size (x := ⟨u.root, l - am, u.asked, u.at9⟩) HR.out) ?_; go_frame) | (go_at_call 37; refine (HCH.out _ K10.out).mono ?_; rintro e w12 ⟨rfl, hout⟩; have HM := Lib.hid hout; have H712 := Lib.hid (keepP hout.2.1 H710.out (keep K10.out HP.out) (by decide) (by decide) (by decide)); clear hout c101) | (refine wpList_loadw (by rfl) 53 _ rfl g7 0 rfl v.cells _ (range_of H712.out) Try.underlying53 rfl (hold_size HV.out) ?_; go_frame) | (go_at_call 39; refine (HDR.out _ HM.out.1 HM.out.2.2).mono ?_; rintro e w13 ⟨rfl, hb13, hout⟩; have HOUT := Lib.hid hout; have c1339 : w13.cell? ⟨g7, 39, none⟩ = some (.int .i64 am) := (by obtain ⟨q1, q2, q3, _⟩ := HM.out.1.parts; have h8 := keepP hb13 H712.out q3 (by decide) (by decide) (by decide); have h9 := (hold_at HV.out (range_of h8)).amount; rw [Nat.zero_add, ← HAM.out] at h9; exact h9); clear hout hb13) | fail)
  go_ret2
  exact HOUT.out
def proveLB (k n id z : Int) (s : List UInt8) (ts : List PTE) (hs : List PHE) : Int × Int × List PTE × List PHE := if k = 6 then (0, (proveB n id z s hs).1, ts, (proveB n id z s hs).2) else settleB n id z ts hs
theorem lprove_any {B : Nat} {w : World} {p : Value} {pb N : Nat} {ts : List PTE} {hs : List PHE} {k n m z : Int} {s : List UInt8} {c : PChan} (h : PlainAt B w p pb N ts hs) (hN : N + 1 ≤ 100) (ho : CallIn ⟨k, n, m, s, c, z⟩) (hz0 : -1099511627776 ≤ z) (hz1 : z ≤ 1099511627776) : Calls Try.prog 26 #[p, .agg (PCall.cells ⟨k, n, m, s, c, z⟩).toArray] w fun e w' => PlainOut B w p pb N (.tuple #[.int .i64 (proveLB k n c.id z s ts hs).1, .int .i64 (proveLB k n c.id z s ts hs).2.1]) (proveLB k n c.id z s ts hs).2.2.1 (proveLB k n c.id z s ts hs).2.2.2 e w' := by
  unfold proveLB
  by_cases hk : k = 6
  · rw [if_pos hk]
    unfold proveB
    cases hl : lookH n c.id hs with
    | none => exact lprove_none h hN ho hl
    | some y =>
      simp only
      cases h1 : y.h.proved with
      | true => exact lprove_proved h hN ho hk hl h1
      | false => exact lprove_ok h hN ho hk hl hz0 hz1 h1
  · rw [if_neg hk]
    unfold settleB
    cases hl : lookH n c.id hs with
    | none => exact lprove_none h hN ho hl
    | some y =>
      simp only
      cases h1 : y.h.proved with
      | false => exact lprove_wait h hN ho hk hl h1
      | true =>
        by_cases h2 : z - y.h.at9 < 3
        · simp only [Bool.true_eq_false, if_false, if_pos h2]
          exact lprove_early h hN ho hk hl hz0 hz1 h1 h2
        · simp only [Bool.true_eq_false, if_false, if_neg h2]
          have hyn : y.n = n := congrArg Prod.fst (lookK_mem hl).2
          have ht := h.inv.ht y (lookK_mem hl).1
          rw [hyn] at ht
          unfold lessT
          cases hx : lookT n ts with
          | none => exact absurd hx ht
          | some x => exact lprove_settle h hN ho hk hl hz0 hz1 h1 h2 hx
end Go.Proofs.Ytijanllppbambaa
