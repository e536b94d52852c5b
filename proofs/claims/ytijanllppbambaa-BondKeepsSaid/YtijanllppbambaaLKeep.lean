/- The law's keep: Hold, or Let. -/
import Derived.Test.YtijanllppbambaaLawCall
import Derived.Test.YtijanllppbambaaBondHold
namespace Go.Proofs.Ytijanllppbambaa
open Go.RowKit Go.Maps

set_option linter.unusedSimpArgs false in
set_option maxRecDepth 100000 in
set_option maxHeartbeats 12800000 in
theorem lkeep_letNone {B : Nat} {w : World} {p : Value} {pb N : Nat} {ts : List PTE} {hs : List PHE} {k n m z : Int} {s : List UInt8} {c : PChan} (h : PlainAt B w p pb N ts hs) (hN : N + 1 ≤ 100) (ho : CallIn ⟨k, n, m, s, c, z⟩) (hk : k = 3) (hl : lookH n c.id hs = none) :
    Calls Try.prog 24 #[p, .agg (PCall.cells ⟨k, n, m, s, c, z⟩).toArray] w fun e w' => PlainOut B w p pb N (.int .i64 7) ts hs e w' := by
  have HO := Lib.hid ho
  have HA := Lib.hid h
  have HN := Lib.hid hN
  obtain ⟨i, hid⟩ : ∃ i, i = c.id := ⟨_, rfl⟩
  obtain ⟨pc, hpc⟩ : ∃ i, i = c.cap := ⟨_, rfl⟩
  have HID := Lib.hid hid
  have HCP := Lib.hid hpc
  have hlh := lhold_none h hl
  rw [← hid] at hlh
  have HLH := Lib.hid hlh
  have HK := Lib.hid hk
  clear hk
  clear h hN ho hl hlh hid hpc
  go_enter Try.func24, Try.ntmps24
  go_wp2_with (first | (refine wpList_box10 rfl 37 _ rfl (PCall.cells ⟨k, n, m, s, c, z⟩).toArray rfl ?_; intro g3 w3 n3 h3 k3; have H3 := Lib.hid h3; have K3 := Lib.hid k3; have c0 : w3.cell? ⟨g3, 0, none⟩ = some (.int .i64 3) := (by have h9 := (call_cells HO.out h3).1; rw [HK.out] at h9; exact h9); have c1 : w3.cell? ⟨g3, 1, none⟩ = some (.int .i64 n) := (by have h9 := (call_cells HO.out h3).2.1; exact h9); have c5 : w3.cell? ⟨g3, 35, none⟩ = some (.int .i64 i) := (by have h9 := (call_cells HO.out h3).2.2.2.2.2.1; rw [← HID.out] at h9; exact h9); clear h3 k3 n3; go_frame) | (go_at_call 38; refine (HLH.out _ K3.out).mono ?_; rintro e w4 ⟨rfl, rfl⟩) | fail)
  go_ret
  exact HA.out.same HN.out K3.out _
set_option linter.unusedSimpArgs false in
set_option maxRecDepth 100000 in
set_option maxHeartbeats 12800000 in
theorem lkeep_letProved {B : Nat} {w : World} {p : Value} {pb N : Nat} {ts : List PTE} {hs : List PHE} {k n m z : Int} {s : List UInt8} {c : PChan} (h : PlainAt B w p pb N ts hs) (hN : N + 1 ≤ 100) (ho : CallIn ⟨k, n, m, s, c, z⟩) (hk : k = 3) {y : PHE} (hl : lookH n c.id hs = some y) (hp9 : y.h.proved = true) :
    Calls Try.prog 24 #[p, .agg (PCall.cells ⟨k, n, m, s, c, z⟩).toArray] w fun e w' => PlainOut B w p pb N (.int .i64 9) ts hs e w' := by
  have HO := Lib.hid ho
  have HA := Lib.hid h
  have HN := Lib.hid hN
  obtain ⟨i, hid⟩ : ∃ i, i = c.id := ⟨_, rfl⟩
  obtain ⟨pc, hpc⟩ : ∃ i, i = c.cap := ⟨_, rfl⟩
  have HID := Lib.hid hid
  have HCP := Lib.hid hpc
  obtain ⟨jh, hjh, hlh, hjhx⟩ := lhold_some h hl
  rw [← hid] at hlh
  have HLH := Lib.hid hlh
  have hy := h.inv.hin y (lookK_mem hl).1
  have HY : Hid (HoldIn y.h) := Lib.hid hy.h
  obtain ⟨a1, c1', a2, c2', hp, s1, s2, o1, o2⟩ := h.read
  have hpis := h.is
  subst hpis
  have HP := Lib.hid hp
  have hn63h := s2.len63
  have hnch : (hs.length : Int) ≤ (c2' : Int) := by have h2 := s2.2.1; omega
  have hc63h : (c2' : Int) ≤ 9223372036854775807 := by have h2 := s2.2.2.1; unfold maxLen at h2; omega
  have f1h : (jh : Int) < (hs.length : Int) := by omega
  have f0h : (0 : Int) ≤ (jh : Int) := by omega
  have fth : ((jh : Int)).toNat = jh := by omega
  obtain ⟨b8, o8, e9h, hlth, hcch⟩ := s2.2.2.2.2.2 (by omega)
  have rxh := hcch jh hjh
  rw [hjhx] at rxh
  subst e9h
  have RH : Hid (∀ W : World, Below w.heap.size w W → W.rangeAt b8 (o8 + jh * 75) y.cells) := Lib.hid (fun W hW => rangeAt_below rxh hlth hW)
  obtain ⟨L, hL⟩ : ∃ L, L = hs.length := ⟨_, rfl⟩
  rw [← hL] at HP hn63h hnch f1h
  have HPV : Hid (y.h.proved = true) := Lib.hid hp9
  have HK := Lib.hid hk
  clear hk
  clear h hN ho hl hlh hid hpc hp s1 s2 o1 o2 hlth hcch rxh hjh hjhx hL hp9 hy
  go_enter Try.func24, Try.ntmps24
  go_wp2_with (first | (refine wpList_box10 rfl 37 _ rfl (PCall.cells ⟨k, n, m, s, c, z⟩).toArray rfl ?_; intro g3 w3 n3 h3 k3; have H3 := Lib.hid h3; have K3 := Lib.hid k3; have c0 : w3.cell? ⟨g3, 0, none⟩ = some (.int .i64 3) := (by have h9 := (call_cells HO.out h3).1; rw [HK.out] at h9; exact h9); have c1 : w3.cell? ⟨g3, 1, none⟩ = some (.int .i64 n) := (by have h9 := (call_cells HO.out h3).2.1; exact h9); have c5 : w3.cell? ⟨g3, 35, none⟩ = some (.int .i64 i) := (by have h9 := (call_cells HO.out h3).2.2.2.2.2.1; rw [← HID.out] at h9; exact h9); have cp : w3.cell? ⟨b8, o8 + jh * 75 + 41, none⟩ = some (.bool true) := (by have h9 := (he_at HY.out (RH.out _ k3)).2.proved; rw [HPV.out] at h9; exact h9); have cs1 := cell_of_row w3 pb 1 _ _ _ (keep k3 HP.out); clear h3 k3 n3; go_frame) | (go_at_call 38; refine (HLH.out _ K3.out).mono ?_; rintro e w4 ⟨rfl, rfl⟩) | fail)
  go_ret
  exact HA.out.same HN.out K3.out _
set_option linter.unusedSimpArgs false in
set_option maxRecDepth 100000 in
set_option maxHeartbeats 12800000 in
theorem lkeep_letOk {B : Nat} {w : World} {p : Value} {pb N : Nat} {ts : List PTE} {hs : List PHE} {k n m z : Int} {s : List UInt8} {c : PChan} (h : PlainAt B w p pb N ts hs) (hN : N + 1 ≤ 100) (ho : CallIn ⟨k, n, m, s, c, z⟩) (hk : k = 3) {y : PHE} (hl : lookH n c.id hs = some y) (hp9 : y.h.proved = false) :
    Calls Try.prog 24 #[p, .agg (PCall.cells ⟨k, n, m, s, c, z⟩).toArray] w fun e w' => PlainOut B w p pb N (.int .i64 0) ts (delK hkey (n, c.id) hs) e w' := by
  have HO := Lib.hid ho
  have HA := Lib.hid h
  have HN := Lib.hid hN
  obtain ⟨i, hid⟩ : ∃ i, i = c.id := ⟨_, rfl⟩
  obtain ⟨pc, hpc⟩ : ∃ i, i = c.cap := ⟨_, rfl⟩
  have HID := Lib.hid hid
  have HCP := Lib.hid hpc
  obtain ⟨jh, hjh, hlh, hjhx⟩ := lhold_some h hl
  rw [← hid] at hlh
  have HLH := Lib.hid hlh
  have hy := h.inv.hin y (lookK_mem hl).1
  have HY : Hid (HoldIn y.h) := Lib.hid hy.h
  obtain ⟨a1, c1', a2, c2', hp, s1, s2, o1, o2⟩ := h.read
  have hpis := h.is
  subst hpis
  have HP := Lib.hid hp
  have hn63h := s2.len63
  have hnch : (hs.length : Int) ≤ (c2' : Int) := by have h2 := s2.2.1; omega
  have hc63h : (c2' : Int) ≤ 9223372036854775807 := by have h2 := s2.2.2.1; unfold maxLen at h2; omega
  have f1h : (jh : Int) < (hs.length : Int) := by omega
  have f0h : (0 : Int) ≤ (jh : Int) := by omega
  have fth : ((jh : Int)).toNat = jh := by omega
  obtain ⟨b8, o8, e9h, hlth, hcch⟩ := s2.2.2.2.2.2 (by omega)
  have rxh := hcch jh hjh
  rw [hjhx] at rxh
  subst e9h
  have RH : Hid (∀ W : World, Below w.heap.size w W → W.rangeAt b8 (o8 + jh * 75) y.cells) := Lib.hid (fun W hW => rangeAt_below rxh hlth hW)
  obtain ⟨L, hL⟩ : ∃ L, L = hs.length := ⟨_, rfl⟩
  have hdel := dropL_del (n := n) (id := c.id) h.inv.hk hjh hjhx (lookK_mem hl).2 ⟨(hs.getD jh heK.dflt).n, noHold⟩
  have HDR : Hid (∀ W : World, Below w.heap.size w W → Calls Try.prog 39 #[(.pointer (some ⟨pb, 0, none⟩)), .int .i64 (jh : Nat), .agg noHold.cells.toArray, .bool false] W fun e w' => e = .returned (.tuple #[]) ∧ PlainOut B w (.pointer (some ⟨pb, 0, none⟩)) pb N (.int .i64 0) ts (delK hkey (n, c.id) hs) (.returned (.int .i64 0)) w') := Lib.hid (fun W hW => by
    refine (drop_any (kp := false) (h.below hW) hN hjh noHold_in (by rw [hdel]; exact h.inv.del n c.id)).mono ?_
    intro e w' hout
    refine ⟨hout.1, ?_⟩
    have h7 := PlainOut.after hW h.size hout
    rw [hdel] at h7
    exact ⟨rfl, h7.2.1, h7.2.2.1, h7.2.2.2⟩)
  rw [← hL] at HP hn63h hnch f1h
  have HPV : Hid (y.h.proved = false) := Lib.hid hp9
  have HK := Lib.hid hk
  clear hk
  generalize delK hkey (n, c.id) hs = hs' at HDR ⊢
  clear h hN ho hl hlh hid hpc hp s1 s2 o1 o2 hlth hcch rxh hjh hjhx hL hp9 hy hdel
  go_enter Try.func24, Try.ntmps24
  go_wp2_with (first | (refine wpList_box10 rfl 37 _ rfl (PCall.cells ⟨k, n, m, s, c, z⟩).toArray rfl ?_; intro g3 w3 n3 h3 k3; have H3 := Lib.hid h3; have K3 := Lib.hid k3; have c0 : w3.cell? ⟨g3, 0, none⟩ = some (.int .i64 3) := (by have h9 := (call_cells HO.out h3).1; rw [HK.out] at h9; exact h9); have c1 : w3.cell? ⟨g3, 1, none⟩ = some (.int .i64 n) := (by have h9 := (call_cells HO.out h3).2.1; exact h9); have c5 : w3.cell? ⟨g3, 35, none⟩ = some (.int .i64 i) := (by have h9 := (call_cells HO.out h3).2.2.2.2.2.1; rw [← HID.out] at h9; exact h9); have cp : w3.cell? ⟨b8, o8 + jh * 75 + 41, none⟩ = some (.bool false) := (by have h9 := (he_at HY.out (RH.out _ k3)).2.proved; rw [HPV.out] at h9; exact h9); have cs1 := cell_of_row w3 pb 1 _ _ _ (keep k3 HP.out); clear h3 k3 n3; go_frame) | (go_at_call 38; refine (HLH.out _ K3.out).mono ?_; rintro e w4 ⟨rfl, rfl⟩) | (refine wpList_buildw (by rfl) rfl (vs := []) (by rfl) build_noHold ?_; go_frame) | (go_at_call 39; refine (HDR.out _ K3.out).mono ?_; rintro e w5 ⟨rfl, hout⟩; have HOUT := Lib.hid hout; clear hout) | fail)
  go_ret
  exact HOUT.out
set_option linter.unusedSimpArgs false in
set_option maxRecDepth 100000 in
set_option maxHeartbeats 12800000 in
theorem lkeep_bad {B : Nat} {w : World} {p : Value} {pb N : Nat} {ts : List PTE} {hs : List PHE} {k n m z : Int} {s : List UInt8} {c : PChan} (h : PlainAt B w p pb N ts hs) (hN : N + 1 ≤ 100) (ho : CallIn ⟨k, n, m, s, c, z⟩) (hk : ¬ k = 3) (hbad : c.cap < 1 ∨ 1125899906842624 < c.cap) :
    Calls Try.prog 24 #[p, .agg (PCall.cells ⟨k, n, m, s, c, z⟩).toArray] w fun e w' => PlainOut B w p pb N (.int .i64 1) ts hs e w' := by
  have HO := Lib.hid ho
  have HA := Lib.hid h
  have HN := Lib.hid hN
  obtain ⟨i, hid⟩ : ∃ i, i = c.id := ⟨_, rfl⟩
  obtain ⟨pc, hpc⟩ : ∃ i, i = c.cap := ⟨_, rfl⟩
  have HID := Lib.hid hid
  have HCP := Lib.hid hpc
  have HC : Hid (ChanIn c) := Lib.hid ho.ch
  have hlh := lholdIs h n c.id
  obtain ⟨q, hq9⟩ : ∃ q, q = ixK hkey (n, c.id) hs 0 := ⟨_, rfl⟩
  rw [← hq9, ← hid] at hlh
  have HLH := Lib.hid hlh
  rw [← hpc] at hbad
  clear h hN ho hlh hid hpc hq9
  go_enter Try.func24, Try.ntmps24
  by_cases h1 : pc < 1
  · clear hbad
    go_wp2_with (first | (refine wpList_box10 rfl 37 _ rfl (PCall.cells ⟨k, n, m, s, c, z⟩).toArray rfl ?_; intro g3 w3 n3 h3 k3; have H3 := Lib.hid h3; have K3 := Lib.hid k3; have c0 : w3.cell? ⟨g3, 0, none⟩ = some (.int .i64 k) := (by have h9 := (call_cells HO.out h3).1; exact h9); have c1 : w3.cell? ⟨g3, 1, none⟩ = some (.int .i64 n) := (by have h9 := (call_cells HO.out h3).2.1; exact h9); have c5 : w3.cell? ⟨g3, 35, none⟩ = some (.int .i64 i) := (by have h9 := (call_cells HO.out h3).2.2.2.2.2.1; rw [← HID.out] at h9; exact h9); clear h3 k3 n3; go_frame) | (go_at_call 38; refine (HLH.out _ K3.out).mono ?_; rintro e w4 ⟨rfl, rfl⟩) | (refine wpList_loadw (by rfl) 35 _ rfl g3 35 rfl c.cells _ ((call_cells HO.out H3.out).2.2.2.2.1) Try.underlying35 rfl (chan_size HC.out.ftx) ?_; go_frame) | (refine wpList_var rfl rfl 35 rfl _ _ rfl noChan.cells.toArray Try.zeroChan rfl c.cells (fun _ => rfl) (fun _ => rfl) (PChan.len HC.out.ftx) c.one ?_; intro g6 w6 n6 h6 k6; have H6 := Lib.hid h6; have K6 := Lib.hid (bthen K3.out k6); have H36 := Lib.hid (keep k6 H3.out); have ck : w6.cell? ⟨g6, 36, none⟩ = some (.int .i64 pc) := (by have h9 := chan_cap HC.out.ftx (range_of h6); rw [Nat.zero_add, ← HCP.out] at h9; exact h9); have c61 : w6.cell? ⟨g3, 1, none⟩ = some (.int .i64 n) := (call_cells HO.out (keep k6 H3.out)).2.1; clear h6 k6 n6 c0 c1 c5; go_frame) | fail)
    go_ret
    exact HA.out.same HN.out K6.out _
  · have h2 : 1125899906842624 < pc := hbad.resolve_left h1
    clear hbad
    go_wp2_with (first | (refine wpList_box10 rfl 37 _ rfl (PCall.cells ⟨k, n, m, s, c, z⟩).toArray rfl ?_; intro g3 w3 n3 h3 k3; have H3 := Lib.hid h3; have K3 := Lib.hid k3; have c0 : w3.cell? ⟨g3, 0, none⟩ = some (.int .i64 k) := (by have h9 := (call_cells HO.out h3).1; exact h9); have c1 : w3.cell? ⟨g3, 1, none⟩ = some (.int .i64 n) := (by have h9 := (call_cells HO.out h3).2.1; exact h9); have c5 : w3.cell? ⟨g3, 35, none⟩ = some (.int .i64 i) := (by have h9 := (call_cells HO.out h3).2.2.2.2.2.1; rw [← HID.out] at h9; exact h9); clear h3 k3 n3; go_frame) | (go_at_call 38; refine (HLH.out _ K3.out).mono ?_; rintro e w4 ⟨rfl, rfl⟩) | (refine wpList_loadw (by rfl) 35 _ rfl g3 35 rfl c.cells _ ((call_cells HO.out H3.out).2.2.2.2.1) Try.underlying35 rfl (chan_size HC.out.ftx) ?_; go_frame) | (refine wpList_var rfl rfl 35 rfl _ _ rfl noChan.cells.toArray Try.zeroChan rfl c.cells (fun _ => rfl) (fun _ => rfl) (PChan.len HC.out.ftx) c.one ?_; intro g6 w6 n6 h6 k6; have H6 := Lib.hid h6; have K6 := Lib.hid (bthen K3.out k6); have H36 := Lib.hid (keep k6 H3.out); have ck : w6.cell? ⟨g6, 36, none⟩ = some (.int .i64 pc) := (by have h9 := chan_cap HC.out.ftx (range_of h6); rw [Nat.zero_add, ← HCP.out] at h9; exact h9); have c61 : w6.cell? ⟨g3, 1, none⟩ = some (.int .i64 n) := (call_cells HO.out (keep k6 H3.out)).2.1; clear h6 k6 n6 c0 c1 c5; go_frame) | fail)
    go_ret
    exact HA.out.same HN.out K6.out _
set_option linter.unusedSimpArgs false in
set_option maxRecDepth 100000 in
set_option maxHeartbeats 12800000 in
theorem lkeep_tower {B : Nat} {w : World} {p : Value} {pb N : Nat} {ts : List PTE} {hs : List PHE} {k n m z : Int} {s : List UInt8} {c : PChan} (h : PlainAt B w p pb N ts hs) (hN : N + 1 ≤ 100) (ho : CallIn ⟨k, n, m, s, c, z⟩) (hk : ¬ k = 3) (h1 : ¬ c.cap < 1) (h2 : ¬ 1125899906842624 < c.cap) (hl : lookT n ts = none) :
    Calls Try.prog 24 #[p, .agg (PCall.cells ⟨k, n, m, s, c, z⟩).toArray] w fun e w' => PlainOut B w p pb N (.int .i64 21) ts hs e w' := by
  have HO := Lib.hid ho
  have HA := Lib.hid h
  have HN := Lib.hid hN
  obtain ⟨i, hid⟩ : ∃ i, i = c.id := ⟨_, rfl⟩
  obtain ⟨pc, hpc⟩ : ∃ i, i = c.cap := ⟨_, rfl⟩
  have HID := Lib.hid hid
  have HCP := Lib.hid hpc
  have HC : Hid (ChanIn c) := Lib.hid ho.ch
  have hlh := lholdIs h n c.id
  obtain ⟨q, hq9⟩ : ∃ q, q = ixK hkey (n, c.id) hs 0 := ⟨_, rfl⟩
  rw [← hq9, ← hid] at hlh
  have HLH := Lib.hid hlh
  rw [← hpc] at h1 h2
  have hat := at_none h hl
  have HAT := Lib.hid hat
  clear h hN ho hlh hid hpc hq9 hat hl
  go_enter Try.func24, Try.ntmps24
  go_wp2_with (first | (refine wpList_box10 rfl 37 _ rfl (PCall.cells ⟨k, n, m, s, c, z⟩).toArray rfl ?_; intro g3 w3 n3 h3 k3; have H3 := Lib.hid h3; have K3 := Lib.hid k3; have c0 : w3.cell? ⟨g3, 0, none⟩ = some (.int .i64 k) := (by have h9 := (call_cells HO.out h3).1; exact h9); have c1 : w3.cell? ⟨g3, 1, none⟩ = some (.int .i64 n) := (by have h9 := (call_cells HO.out h3).2.1; exact h9); have c5 : w3.cell? ⟨g3, 35, none⟩ = some (.int .i64 i) := (by have h9 := (call_cells HO.out h3).2.2.2.2.2.1; rw [← HID.out] at h9; exact h9); clear h3 k3 n3; go_frame) | (go_at_call 38; refine (HLH.out _ K3.out).mono ?_; rintro e w4 ⟨rfl, rfl⟩) | (refine wpList_loadw (by rfl) 35 _ rfl g3 35 rfl c.cells _ ((call_cells HO.out H3.out).2.2.2.2.1) Try.underlying35 rfl (chan_size HC.out.ftx) ?_; go_frame) | (refine wpList_var rfl rfl 35 rfl _ _ rfl noChan.cells.toArray Try.zeroChan rfl c.cells (fun _ => rfl) (fun _ => rfl) (PChan.len HC.out.ftx) c.one ?_; intro g6 w6 n6 h6 k6; have H6 := Lib.hid h6; have K6 := Lib.hid (bthen K3.out k6); have H36 := Lib.hid (keep k6 H3.out); have ck : w6.cell? ⟨g6, 36, none⟩ = some (.int .i64 pc) := (by have h9 := chan_cap HC.out.ftx (range_of h6); rw [Nat.zero_add, ← HCP.out] at h9; exact h9); have c61 : w6.cell? ⟨g3, 1, none⟩ = some (.int .i64 n) := (call_cells HO.out (keep k6 H3.out)).2.1; clear h6 k6 n6 c0 c1 c5; go_frame) | (go_at_call 36; refine (HAT.out _ K6.out).mono ?_; rintro e w7 ⟨rfl, rfl⟩) | fail)
  go_ret
  exact HA.out.same HN.out K6.out _
set_option linter.unusedSimpArgs false in
set_option maxRecDepth 100000 in
set_option maxHeartbeats 12800000 in
theorem lkeep_twice {B : Nat} {w : World} {p : Value} {pb N : Nat} {ts : List PTE} {hs : List PHE} {k n m z : Int} {s : List UInt8} {c : PChan} (h : PlainAt B w p pb N ts hs) (hN : N + 1 ≤ 100) (ho : CallIn ⟨k, n, m, s, c, z⟩) (hk : ¬ k = 3) (h1 : ¬ c.cap < 1) (h2 : ¬ 1125899906842624 < c.cap) {x : PTE} (hl : lookT n ts = some x) {y : PHE} (hly : lookH n c.id hs = some y) :
    Calls Try.prog 24 #[p, .agg (PCall.cells ⟨k, n, m, s, c, z⟩).toArray] w fun e w' => PlainOut B w p pb N (.int .i64 8) ts hs e w' := by
  have HO := Lib.hid ho
  have HA := Lib.hid h
  have HN := Lib.hid hN
  obtain ⟨i, hid⟩ : ∃ i, i = c.id := ⟨_, rfl⟩
  obtain ⟨pc, hpc⟩ : ∃ i, i = c.cap := ⟨_, rfl⟩
  have HID := Lib.hid hid
  have HCP := Lib.hid hpc
  have HC : Hid (ChanIn c) := Lib.hid ho.ch
  obtain ⟨jh, hjh, hlh, hjhx⟩ := lhold_some h hly
  rw [← hid] at hlh
  have HLH := Lib.hid hlh
  obtain ⟨j, hj, hat, hjx⟩ := at_some h hl
  have HAT := Lib.hid hat
  rw [← hpc] at h1 h2
  have f0 : (0 : Int) ≤ (j : Int) := by omega
  have f0h : (0 : Int) ≤ (jh : Int) := by omega
  have f2 : ¬ ((j : Int) < 0) := by omega
  clear h hN ho hlh hid hpc hat hl hly hjh hjhx hj hjx
  go_enter Try.func24, Try.ntmps24
  go_wp2_with (first | (refine wpList_box10 rfl 37 _ rfl (PCall.cells ⟨k, n, m, s, c, z⟩).toArray rfl ?_; intro g3 w3 n3 h3 k3; have H3 := Lib.hid h3; have K3 := Lib.hid k3; have c0 : w3.cell? ⟨g3, 0, none⟩ = some (.int .i64 k) := (by have h9 := (call_cells HO.out h3).1; exact h9); have c1 : w3.cell? ⟨g3, 1, none⟩ = some (.int .i64 n) := (by have h9 := (call_cells HO.out h3).2.1; exact h9); have c5 : w3.cell? ⟨g3, 35, none⟩ = some (.int .i64 i) := (by have h9 := (call_cells HO.out h3).2.2.2.2.2.1; rw [← HID.out] at h9; exact h9); clear h3 k3 n3; go_frame) | (go_at_call 38; refine (HLH.out _ K3.out).mono ?_; rintro e w4 ⟨rfl, rfl⟩) | (refine wpList_loadw (by rfl) 35 _ rfl g3 35 rfl c.cells _ ((call_cells HO.out H3.out).2.2.2.2.1) Try.underlying35 rfl (chan_size HC.out.ftx) ?_; go_frame) | (refine wpList_var rfl rfl 35 rfl _ _ rfl noChan.cells.toArray Try.zeroChan rfl c.cells (fun _ => rfl) (fun _ => rfl) (PChan.len HC.out.ftx) c.one ?_; intro g6 w6 n6 h6 k6; have H6 := Lib.hid h6; have K6 := Lib.hid (bthen K3.out k6); have H36 := Lib.hid (keep k6 H3.out); have ck : w6.cell? ⟨g6, 36, none⟩ = some (.int .i64 pc) := (by have h9 := chan_cap HC.out.ftx (range_of h6); rw [Nat.zero_add, ← HCP.out] at h9; exact h9); have c61 : w6.cell? ⟨g3, 1, none⟩ = some (.int .i64 n) := (call_cells HO.out (keep k6 H3.out)).2.1; clear h6 k6 n6 c0 c1 c5; go_frame) | (go_at_call 36; refine (HAT.out _ K6.out).mono ?_; rintro e w7 ⟨rfl, rfl⟩) | fail)
  go_ret
  exact HA.out.same HN.out K6.out _
set_option linter.unusedSimpArgs false in
set_option maxRecDepth 100000 in
set_option maxHeartbeats 12800000 in
theorem lkeep_bond {B : Nat} {w : World} {p : Value} {pb N : Nat} {ts : List PTE} {hs : List PHE} {k n m z : Int} {s : List UInt8} {c : PChan} (h : PlainAt B w p pb N ts hs) (hN : N + 1 ≤ 100) (ho : CallIn ⟨k, n, m, s, c, z⟩) (hk : ¬ k = 3) (h1 : ¬ c.cap < 1) (h2 : ¬ 1125899906842624 < c.cap) {x : PTE} (hl : lookT n ts = some x) (hly : lookH n c.id hs = none) (h3 : freeB n ts hs < c.cap) :
    Calls Try.prog 24 #[p, .agg (PCall.cells ⟨k, n, m, s, c, z⟩).toArray] w fun e w' => PlainOut B w p pb N (.int .i64 20) ts hs e w' := by
  have HO := Lib.hid ho
  have HA := Lib.hid h
  have HN := Lib.hid hN
  obtain ⟨i, hid⟩ : ∃ i, i = c.id := ⟨_, rfl⟩
  obtain ⟨pc, hpc⟩ : ∃ i, i = c.cap := ⟨_, rfl⟩
  have HID := Lib.hid hid
  have HCP := Lib.hid hpc
  have HC : Hid (ChanIn c) := Lib.hid ho.ch
  have hlh := lhold_none h hly
  rw [← hid] at hlh
  have HLH := Lib.hid hlh
  obtain ⟨j, hj, hat, hjx⟩ := at_some h hl
  have HAT := Lib.hid hat
  have f0 : (0 : Int) ≤ (j : Int) := by omega
  have f2 : ¬ ((j : Int) < 0) := by omega
  obtain ⟨F, hF⟩ : ∃ F, F = freeB n ts hs := ⟨_, rfl⟩
  have HLF : Hid (∀ W : World, Below w.heap.size w W → Calls Try.prog 29 #[p, .int .i64 n] W fun e w' => e = .returned (.int .i64 F) ∧ Below W.heap.size W w') := Lib.hid (fun W hW => by rw [hF]; exact lfree_any (h.below hW) n)
  rw [← hF] at h3
  rw [← hpc] at h1 h2 h3
  clear h hN ho hlh hid hpc hat hl hly hj hjx hF
  go_enter Try.func24, Try.ntmps24
  go_upto_region 16 with (first | (refine wpList_box10 rfl 37 _ rfl (PCall.cells ⟨k, n, m, s, c, z⟩).toArray rfl ?_; intro g3 w3 n3 h3 k3; have H3 := Lib.hid h3; have K3 := Lib.hid k3; have c0 : w3.cell? ⟨g3, 0, none⟩ = some (.int .i64 k) := (by have h9 := (call_cells HO.out h3).1; exact h9); have c1 : w3.cell? ⟨g3, 1, none⟩ = some (.int .i64 n) := (by have h9 := (call_cells HO.out h3).2.1; exact h9); have c5 : w3.cell? ⟨g3, 35, none⟩ = some (.int .i64 i) := (by have h9 := (call_cells HO.out h3).2.2.2.2.2.1; rw [← HID.out] at h9; exact h9); clear h3 k3 n3; go_frame) | (go_at_call 38; refine (HLH.out _ K3.out).mono ?_; rintro e w4 ⟨rfl, rfl⟩) | (refine wpList_loadw (by rfl) 35 _ rfl g3 35 rfl c.cells _ ((call_cells HO.out H3.out).2.2.2.2.1) Try.underlying35 rfl (chan_size HC.out.ftx) ?_; go_frame) | (refine wpList_var rfl rfl 35 rfl _ _ rfl noChan.cells.toArray Try.zeroChan rfl c.cells (fun _ => rfl) (fun _ => rfl) (PChan.len HC.out.ftx) c.one ?_; intro g6 w6 n6 h6 k6; have H6 := Lib.hid h6; have K6 := Lib.hid (bthen K3.out k6); have H36 := Lib.hid (keep k6 H3.out); have ck : w6.cell? ⟨g6, 36, none⟩ = some (.int .i64 pc) := (by have h9 := chan_cap HC.out.ftx (range_of h6); rw [Nat.zero_add, ← HCP.out] at h9; exact h9); have c61 : w6.cell? ⟨g3, 1, none⟩ = some (.int .i64 n) := (call_cells HO.out (keep k6 H3.out)).2.1; clear h6 k6 n6 c0 c1 c5; go_frame) | (go_at_call 36; refine (HAT.out _ K6.out).mono ?_; rintro e w7 ⟨rfl, rfl⟩) | fail)
  have C61 : Hid (∀ W : World, Below w6.heap.size w6 W → W.cell? ⟨g3, 1, none⟩ = some (.int .i64 n)) := Lib.hid (fun W hW => (call_cells HO.out (keep hW H36.out)).2.1)
  have CK : Hid (∀ W : World, Below w6.heap.size w6 W → W.cell? ⟨g6, 36, none⟩ = some (.int .i64 pc)) := Lib.hid (fun W hW => by have h9 := chan_cap HC.out.ftx (range_of (keep hW H6.out)); rw [Nat.zero_add, ← HCP.out] at h9; exact h9)
  refine wp_region_held_drew (S := fun w' => Below w6.heap.size w6 w') (by kernel_rfl) (below_drew (Below.refl _ _)) (fun hHeld => ?_)
  refine take_at (i := 0) (v := ?_) rfl rfl (by kernel_rfl) (by kernel_rfl) (by kernel_rfl) (fun _ _ _ h => h) (Or.inl ⟨by rfl, ?_⟩) (by assumption) ?_
  rotate_left
  · intro w0 hSw; (try dsimp only at hSw); first | (go_simp; done) | (go_simp; with_reducible rfl)
  simp only [List.setIfInBounds_toArray, List.set_cons_zero, List.set_cons_succ]
  refine take_at (i := 1) (v := ?_) rfl rfl (by kernel_rfl) (by kernel_rfl) (by kernel_rfl) (fun _ _ _ h => h) (Or.inl ⟨by rfl, ?_⟩) (by assumption) ?_
  rotate_left
  · intro w0 hSw; (try dsimp only at hSw); first | (go_simp; done) | (go_simp; with_reducible rfl)
  simp only [List.setIfInBounds_toArray, List.set_cons_zero, List.set_cons_succ]
  refine take_at (i := 2) rfl rfl (by kernel_rfl) (by kernel_rfl) (by kernel_rfl) (fun _ _ _ h => h) (yields_cell (b := g3) (o := 1) (by rfl) rfl rfl (fun w0 hSw => C61.out w0 hSw) (fun w0 => Try.isAgg3 w0)) (by assumption) ?_
  simp only [List.setIfInBounds_toArray, List.set_cons_zero, List.set_cons_succ]
  refine take_at (i := 4) (v := ?_) rfl rfl (by kernel_rfl) (by kernel_rfl) (by kernel_rfl) (fun _ _ _ h => h) (Or.inl ⟨by rfl, ?_⟩) (by assumption) ?_
  rotate_left
  · intro w0 hSw; (try dsimp only at hSw); first | (go_simp; done) | (go_simp; with_reducible rfl)
  simp only [List.setIfInBounds_toArray, List.set_cons_zero, List.set_cons_succ]
  refine take_at (i := 5) rfl rfl (by kernel_rfl) (by kernel_rfl) (by kernel_rfl) (fun _ _ _ h => h) (yields_cell (b := g6) (o := 36) (by rfl) rfl rfl (fun w0 hSw => CK.out w0 hSw) (fun w0 => Try.isAgg2 w0)) (by assumption) ?_
  simp only [List.setIfInBounds_toArray, List.set_cons_zero, List.set_cons_succ]
  refine wpAnyH_ready (rs := [3]) (by kernel_rfl) (by simp) ?_
  refine AllReadyH.cons rfl (fun K hK => ?_) ?_
  · go_simp
    refine (HLF.out _ (bthen K6.out hHeld)).mono ?_
    rintro e w9 ⟨rfl, hb9⟩
    dsimp only
    have J9 := Lib.hid (bthen hHeld hb9)
    have K9 := Lib.hid (bthen K6.out (bthen hHeld hb9))
    have H39 := Lib.hid (keep (bthen hHeld hb9) H36.out)
    have H69 := Lib.hid (keep (bthen hHeld hb9) H6.out)
    clear hb9
    refine hK.out _ _ (by (try dsimp only); exact J9.out) (fun hHeld => ?_)
    clear hK K
    refine take_at (i := 6) (v := ?_) rfl rfl (by kernel_rfl) (by kernel_rfl) (by kernel_rfl) (fun _ _ _ h => h) (Or.inl ⟨by rfl, ?_⟩) (by assumption) ?_
    rotate_left
    · intro w0 hSw; (try dsimp only at hSw); first | (go_simp; done) | (go_simp; with_reducible rfl)
    simp only [List.setIfInBounds_toArray, List.set_cons_zero, List.set_cons_succ]
    refine wpAnyH_done (by kernel_rfl) ?_ _
    go_wp2_with fail
    go_ret
    exact HA.out.same HN.out K9.out _
  exact AllReadyH.nil
end Go.Proofs.Ytijanllppbambaa
