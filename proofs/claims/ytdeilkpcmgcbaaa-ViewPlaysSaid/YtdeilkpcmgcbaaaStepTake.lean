/- Law 9's step: Take of a coin that is there. -/
import Derived.Test.YtdeilkpcmgcbaaaRowStep
namespace Go.Proofs.Ytdeilkpcmgcbaaa
open Go.RowKit Go.Maps

theorem erase_step {rs : List PRow} {k j : Nat} (hj : j < rs.length) : (rs.take (j + 1)).eraseIdx k = if j = k then (rs.take j).eraseIdx k else (rs.take j).eraseIdx k ++ [rs.getD j noRow] := by
  have e1 : rs.take (j + 1) = rs.take j ++ [rs.getD j noRow] := by
    rw [List.take_succ_eq_append_getElem hj, List.getD_eq_getElem?_getD, List.getElem?_eq_getElem hj]
    rfl
  have hl : (rs.take j).length = j := by rw [List.length_take]; omega
  rw [e1]
  by_cases h1 : j = k
  · subst h1
    rw [if_pos rfl, List.eraseIdx_append_of_length_le (by omega), hl, Nat.sub_self, List.eraseIdx_of_length_le (l := rs.take j) (by omega)]
    simp
  · rw [if_neg h1]
    by_cases h2 : k < j
    · rw [List.eraseIdx_append_of_lt_length (by omega)]
    · rw [List.eraseIdx_of_length_le (by simp [hl]; omega), List.eraseIdx_of_length_le (by omega)]
theorem erase_rows {rs : List PRow} {k : Nat} {P : PRow → Prop} (h : ∀ r ∈ rs, P r) : ∀ r ∈ rs.eraseIdx k, P r := fun r hr => h r (List.mem_of_mem_eraseIdx hr)
set_option linter.unusedSimpArgs false in
set_option maxRecDepth 100000 in
set_option maxHeartbeats 25600000 in
theorem step_take {w0 w : World} {pv lv : Value} {b N k : Nat} {rs : List PRow} {o : PCall} (hL : LSt w0 w pv b N lv rs) (ho : CallIn w o) (hk : o.kind = 2) (hkl : k < rs.length) (hfi : findIx o.row.tx o.row.place rs 0 = (k : Int)) (ht1 : rs[k].tx = o.row.tx) (ht2 : rs[k].place = o.row.place) :
    Calls Try.prog 8 #[pv, lv, .agg o.cells.toArray] w fun e w' => StepOut w0 w pv b N e w' := by
  have hlist := hL.list
  obtain ⟨a, c, rfl, hs, _⟩ := hL.list.it
  obtain ⟨kind, ⟨s, p, ⟨m, ao, no, co, xs⟩, ht⟩⟩ := o
  dsimp only at *
  obtain ⟨n, hn⟩ : ∃ n, n = rs.length := ⟨_, rfl⟩
  rw [← hn] at hs ⊢
  have hn63 := hs.len63
  have hnc : n ≤ c := hs.2.1
  have hc63 : (c : Int) ≤ 9223372036854775807 := by have h2 := hs.2.2.1; unfold maxLen at h2; omega
  have htx : s.length = 32 := ho.row.tx
  have HN := Lib.hid hn
  have HS := Lib.hid hs
  have HO := Lib.hid ho
  have HTX := Lib.hid htx
  have SR := Lib.hid (refSize (z := p) htx)
  subst hk
  have HFIND : Hid (∀ W : World, Below w.heap.size w W → Calls Try.prog 22 #[.slice a n c, .agg (refCells s p).toArray] W fun e w' => e = .returned (.int .i64 (k : Int)) ∧ Below W.heap.size W w') := Lib.hid (fun W hW => by
    have h9 := find_law (p := p) (HS.out.below hW) HTX.out
    rw [hfi] at h9
    exact h9)
  have hkn : k < n := by omega
  have hrsN : n ≤ 100 := by
    obtain ⟨F, hm, _⟩ := hL.view.map
    have h1 := hm.few
    have h2 := hL.view.few
    omega
  have HTAKE : Hid (∀ W : World, Below w.heap.size w W → Calls Try.prog 14 #[pv, .agg (refCells s p).toArray] W fun e w' => ∃ v, e = .returned (.tuple #[v, .int .i64 0]) ∧ CoinAt w' rs[k] v ∧ ViewAt w' pv b N (rs.eraseIdx k) ∧ But W.heap.size b W w') := Lib.hid (fun W hW => by
    have h9 := take_row (hL.view.below hW) hkl
    rw [ht1, ht2] at h9
    exact h9)
  obtain ⟨es, cl, hmap⟩ := hL.view.isMap
  have hgd : rs.getD k noRow = rs[k] := by rw [List.getD_eq_getElem?_getD, List.getElem?_eq_getElem hkl]; rfl
  have HL0 := Lib.hid hL
  have HLI := Lib.hid hlist
  have HMP := Lib.hid hmap
  have HGD := Lib.hid hgd
  have hbl : b < w.heap.size := lt_of_block hmap
  have HNR : Hid (∀ j, j < n → (rs.take (j + 1)).eraseIdx k = if j = k then (rs.take j).eraseIdx k else (rs.take j).eraseIdx k ++ [rs.getD j noRow]) := Lib.hid (fun j hj => erase_step (by omega))
  have HNE : Hid ((rs.take n).eraseIdx k = rs.eraseIdx k) := Lib.hid (by rw [hn, List.take_length])
  revert HTAKE HGD
  generalize rs[k] = z
  intro HTAKE HGD
  clear hL hs ho htx hn hfi ht1 ht2 hkl hgd hmap hlist
  go_enter Try.func8, Try.ntmps8
  go_upto_region 1 with (fail)
  have b1 : Below w.heap.size w (w.alloc (.cells (PCall.cells ⟨2, ⟨s, p, ⟨m, ao, no, co, xs⟩, ht⟩⟩).toArray 34)) := (Below.refl _ _).alloc (Nat.le_refl _) _
  have h1 := callAt_row HTX.out (heap_alloc_new w (.cells (PCall.cells ⟨2, ⟨s, p, ⟨m, ao, no, co, xs⟩, ht⟩⟩).toArray 34))
  revert b1 h1
  generalize (w.alloc (.cells (PCall.cells ⟨2, ⟨s, p, ⟨m, ao, no, co, xs⟩, ht⟩⟩).toArray 34)) = w1
  obtain ⟨g5, hg5⟩ : ∃ g, g = w.heap.size := ⟨_, rfl⟩
  rw [← hg5]
  intro b1 h1
  have HG5 : Hid (w.heap.size ≤ g5) := Lib.hid (by omega)
  rw [hg5] at b1
  have HB1 := Lib.hid b1
  have HC1 := Lib.hid h1
  have hk1 := h1.kind
  clear b1 h1 hg5
  have f0k : (0 : Int) ≤ (k : Int) := by omega
  have f1k : (k : Int) < (n : Int) := by omega
  have ftk : ((k : Int)).toNat = k := by omega
  have f2k : ¬ ((k : Int) < 0) := by omega
  go_upto_region 7 with (go_big_may; first
    | (refine wpList_load_mid rfl 32 _ rfl g5 1 rfl (refCells s p) _ HC1.out.ref Try.underlying32 rfl SR.out ?_)
    | (go_at_call 22; refine (HFIND.out w1 HB1.out).mono ?_; rintro e w2 ⟨rfl, hb2⟩; have HB2 := Lib.hid (HB1.out.trans (hb2.mono HB1.out.size)); have HC2 := Lib.hid (HC1.out.below hb2); have hk2 := HC2.out.kind; have ho2 := HC2.out.height; clear hb2 HFIND)
    | (refine wpList_load_mid rfl 32 _ rfl g5 1 rfl (refCells s p) _ HC2.out.ref Try.underlying32 rfl SR.out ?_)
    | (go_at_call 14; refine (HTAKE.out w2 HB2.out).mono ?_; rintro e w3 ⟨v3, rfl, ⟨a7, n7, c7, ys7, rfl, hw7, _, hst7⟩, hv3, hb3⟩; have HV3 := Lib.hid hv3; have HW7 := Lib.hid hw7; have HST := Lib.hid hst7; have HB3 := Lib.hid ((But.of (p := b) HB2.out).trans (hb3.mono HB2.out.size)); obtain ⟨m7, hm7⟩ : ∃ m, m = z.out.m := ⟨_, rfl⟩; obtain ⟨h7, hh7⟩ : ∃ h, h = z.height := ⟨_, rfl⟩; rw [← hm7, ← hh7]; have HM7 := Lib.hid hm7; have HH7 := Lib.hid hh7; clear hb3 hv3 hw7 hst7 hm7 hh7 HTAKE; unfold coinV)
    | (refine wpList_store_row rfl 41 _ _ rfl w3.heap.size #[.int .i64 m7, .slice a7 n7 c7, .int .i64 h7] rfl rfl 41 #[.int .i64 0, .slice none 0 0, .int .i64 0] (heap_alloc_new _ _) (coin_size9 m7 h7 a7 n7 c7) rfl (coin_one9 m7 h7 a7 n7 c7) ?_)
    | fail)
  rw [layCoin_is]
  have h9 := layCoin_heap w3 m7 a7 n7 c7 h7
  have b9 := layCoin_below (Below.refl w3.heap.size w3) (Nat.le_refl _) m7 a7 n7 c7 h7
  revert h9 b9
  generalize layCoin w3 m7 a7 n7 c7 h7 = w5
  obtain ⟨g9, hg9⟩ : ∃ g, g = w3.heap.size := ⟨_, rfl⟩
  rw [← hg9]
  intro h9 b9
  rw [hg9] at b9
  have HB5 : Hid (But w.heap.size b w w5) := Lib.hid (HB3.out.trans ((But.of (p := b) b9).mono HB3.out.size))
  have HV5 := Lib.hid (HV3.out.below b9)
  have HW5 := Lib.hid (HW7.out.below b9)
  have HLI5 := Lib.hid (HLI.out.but HB5.out (fun cs fr e => by rw [HMP.out] at e; cases e) (below_but9 HL0.out.below HB5.out HL0.out.new))
  obtain ⟨aa, cc, eaa, hsl5, _⟩ := HLI5.out.it
  cases eaa
  rw [← HN.out] at hsl5
  have HS5 := Lib.hid hsl5
  have H9 := Lib.hid h9
  have hz5 : RowIn w5 z := by rw [← HGD.out]; exact hsl5.get hkn
  have HZ5 := Lib.hid hz5
  have HOUT : Hid (∀ (W : World) (aL : Option Addr) (cL : Nat) (L : List PRow), OwnOf rowK 43 W w5.heap.size (.slice aL L.length cL) L → Below w5.heap.size w5 W → L = rs.eraseIdx k → StepOut w0 w pv b N (.returned (.tuple #[.slice aL L.length cL, .bool true])) W) := Lib.hid (fun W aL cL L hL9 hW9 e9 => by
    subst e9
    have k1 : But w.heap.size b w W := HB5.out.trans ((But.of (p := b) hW9).mono HB5.out.size)
    have k2 := below_but9 HL0.out.below k1 HL0.out.new
    exact ⟨aL, cL, rs.eraseIdx k, N, rfl, ⟨HV5.out.below hW9, ListAt.own hL9 (erase_rows HLI.out.rows) k2, k2, HL0.out.new⟩, by omega, k1⟩)
  clear h9 b9 hg9 HB1 HB2 HC1 HC2 hk1 hk2 ho2 HB3 HV3 HW7 HLI5 hsl5 HS HL0 HLI HMP HV5 hz5 HB5 hbl
  try simp only [Act.put]
  go_wp2_with fail
  go_loopw [11, 12] (fun v i wr => ∃ (j : Nat) (L : List PRow), j ≤ n ∧ i = .int .i64 j ∧ OwnOf rowK 43 wr w5.heap.size v L ∧ L = (rs.take j).eraseIdx k ∧ Below w5.heap.size w5 wr) (fun _ i _ => n - (intOf i).toNat)
  case atStart => exact ⟨0, [], Nat.zero_le _, rfl, OwnOf.nil _ _ _ _, by simp, Below.refl _ _⟩
  case round =>
    obtain ⟨j, L, hj, rfl, hown, hL9, hbr⟩ := hrel
    obtain ⟨aL, cL, rfl, _⟩ := hown.shape
    have HO := Lib.hid hown
    have HL := Lib.hid hL9
    have HBR := Lib.hid hbr
    have hLl : L.length ≤ 100 := by
      rw [hL9]
      have h1 := List.length_eraseIdx_le (rs.take j) k
      rw [List.length_take] at h1
      omega
    clear hown hL9 hbr
    by_cases hjn : j < n
    · have f1 : (j : Int) < (n : Int) := by omega
      have f0 : (0 : Int) ≤ (j : Int) := by omega
      have ft : ((j : Int)).toNat = j := by omega
      have hst := HNR.out j hjn
      by_cases hjk : j = k
      · have fj : ¬ ((j : Int) ≠ (k : Int)) := by omega
        rw [if_pos hjk] at hst
        have HE := Lib.hid hst
        clear hst
        go_wp2_with fail
        go_roundw
        case rel => exact ⟨j + 1, L, by omega, by go_num, HO.out, HL.out.trans HE.out.symm, HBR.out⟩
        case measure => simp [intOf]; omega
      · have fj : (j : Int) ≠ (k : Int) := by omega
        rw [if_neg hjk] at hst
        have hsr := HS5.out.below HBR.out
        obtain ⟨b2, o2, e2, hlt2, hc2⟩ := hsr.2.2.2.2.2 (by omega)
        have rx : wr.rangeAt b2 (o2 + j * 36) (rs.getD j noRow).cells := hc2 j hjn
        have ix : RowIn wr (rs.getD j noRow) := hsr.get hjn
        revert rx ix hst
        generalize rs.getD j noRow = x
        intro hst rx ix
        subst e2
        have RX := Lib.hid rx
        have SX := Lib.hid (row_size ix.tx)
        have XL := Lib.hid (PRow.len ix.tx)
        have HE := Lib.hid hst
        clear rx ix hst hsr hc2 hlt2
        go_wp2_with (first
          | (refine wpList_load_mid rfl 43 _ rfl b2 (o2 + j * 36) rfl x.cells _ RX.out Try.underlying43 rfl SX.out ?_)
          | (refine wpList_lit9 Try.rowAt9 rfl _ rfl x rfl XL.out ?_; intro p8 w8 hp8 hx8 hb8; have HB8 := Lib.hid hb8; have HX8 := Lib.hid hx8; have HO8 := Lib.hid (HO.out.below hb8); clear hp8 hx8 hb8)
          | (at_builtin; refine wpList_append9 Try.rowAt9 rfl _ _ rfl rfl w5.heap.size (.slice aL L.length cL) L rfl HO8.out p8 x rfl HX8.out XL.out (by omega) (Nat.le_trans HBR.out.size HB8.out.size) ?_; intro a9 c9 w9 ho9 hg9; have HO9 := Lib.hid ho9; have HB9 := Lib.hid ((HBR.out.trans (HB8.out.mono HBR.out.size)).trans (HO8.out.grows hg9 (Nat.le_trans HBR.out.size HB8.out.size))); clear ho9 hg9)
          | fail)
        go_roundw
        case rel => exact ⟨j + 1, L ++ [x], by omega, by go_num, HO9.out, (by rw [HL.out]; exact HE.out.symm), HB9.out⟩
        case measure => simp [intOf]; omega
    · obtain rfl : j = n := by omega
      have f1 : ¬ ((j : Int) < (j : Int)) := by omega
      have hsr := HS5.out.below HBR.out
      obtain ⟨b2, o2, e2, hlt2, hc2⟩ := hsr.2.2.2.2.2 (by omega)
      have rz : wr.rangeAt b2 (o2 + k * 36) (rs.getD k noRow).cells := hc2 k hkn
      rw [HGD.out] at rz
      have iz := HZ5.out.below HBR.out
      subst e2
      have ozr := row_out iz.tx rz
      have hzr := row_height iz.tx rz
      have wz := iz.out.ws
      have hst := HST.out
      have hm7 := HM7.out
      have hh7 := HH7.out
      obtain ⟨s6, p6, ⟨m6, a6, n6, c6, ws6⟩, h6⟩ := z
      dsimp only at hm7 hh7 ozr hzr wz hst
      subst hm7 hh7
      have OZ : Hid (∀ W : World, Below wr.heap.size wr W → W.rangeAt b2 (o2 + k * 36 + 33) [.int .i64 m7, .slice a6 n6 c6]) := Lib.hid (fun W hW => rangeAt_below ozr hlt2 hW)
      have HZ : Hid (∀ W : World, Below wr.heap.size wr W → W.cell? ⟨b2, o2 + k * 36 + 35, none⟩ = some (.int .i64 h7)) := Lib.hid (fun W hW => (hW.cell (p := ⟨b2, o2 + k * 36 + 35, none⟩) hlt2).trans hzr)
      have OG : Hid (∀ W : World, Below wr.heap.size wr W → W.rangeAt g9 0 [.int .i64 m7, .slice a7 n7 c7]) := Lib.hid (fun W hW => fun i v hv => by
        have h8 := (hW.block _ (Nat.lt_of_lt_of_le (lt_of_block H9.out) HBR.out.size)).trans ((HBR.out.block _ (lt_of_block H9.out)).trans H9.out)
        rw [Nat.zero_add, cell_of_row W g9 _ _ _ _ h8]
        match i, hv with
        | 0, hv => exact hv
        | 1, hv => exact hv)
      have K2 : Hid (∀ W : World, Below wr.heap.size wr W → W.cell? ⟨g9, 2, none⟩ = some (.int .i64 h7)) := Lib.hid (fun W hW => by
        have h8 := (hW.block _ (Nat.lt_of_lt_of_le (lt_of_block H9.out) HBR.out.size)).trans ((HBR.out.block _ (lt_of_block H9.out)).trans H9.out)
        exact cell_of_row W g9 2 _ _ _ h8)
      have SGZ : Hid (∀ W : World, Below wr.heap.size wr W → Calls Try.prog 23 #[.agg #[.int .i64 m7, .slice a7 n7 c7], .agg #[.int .i64 m7, .slice a6 n6 c6]] W fun e w' => e = .returned (.bool true) ∧ Below W.heap.size W w') := Lib.hid (fun W hW => by
        have h9 := lockSame_any (m := m7) (m' := m7) ((HW5.out.below HBR.out).below hW) (wz.below hW)
        rw [decide_eq_true rfl, Bool.true_and, alikeWs_strip.2 hst] at h9
        exact h9)
      have HFIN := Lib.hid (HL.out.trans HNE.out)
      clear hsr hlt2 hc2 rz iz ozr hzr wz hst HZ5 HGD HST HM7 HH7 HW5 H9 HS5 HNR HNE HL hjn hj
      go_upto_region 12 with fail
      refine wp_region_held_drew (S := fun w' => Below wr.heap.size wr w') (by kernel_rfl) (below_drew (Below.refl _ _)) (fun hHeld => ?_)
      refine take_at (i := 0) (v := ?_) rfl rfl (by kernel_rfl) (by kernel_rfl) (by kernel_rfl) (fun _ _ _ h => h) (Or.inl ⟨by rfl, ?_⟩) (by assumption) ?_
      rotate_left
      · intro w0 hSw; (try dsimp only at hSw); first | (go_simp; done) | (go_simp; with_reducible rfl)
      simp only [List.setIfInBounds_toArray, List.set_cons_zero, List.set_cons_succ]
      refine take_at (i := 1) (v := ?_) rfl rfl (by kernel_rfl) (by kernel_rfl) (by kernel_rfl) (fun _ _ _ h => h) (Or.inl ⟨by rfl, ?_⟩) (by assumption) ?_
      rotate_left
      · intro w0 hSw; (try dsimp only at hSw); first | (go_simp; done) | (go_simp; with_reducible rfl)
      simp only [List.setIfInBounds_toArray, List.set_cons_zero, List.set_cons_succ]
      refine take_at (i := 2) (v := ?_) rfl rfl (by kernel_rfl) (by kernel_rfl) (by kernel_rfl) (fun _ _ _ h => h) (Or.inl ⟨by rfl, ?_⟩) (by assumption) ?_
      rotate_left
      · intro w0 hSw; (try dsimp only at hSw); first | (go_simp; done) | (go_simp; with_reducible rfl)
      simp only [List.setIfInBounds_toArray, List.set_cons_zero, List.set_cons_succ]
      refine take_at (i := 3) (v := ?_) rfl rfl (by kernel_rfl) (by kernel_rfl) (by kernel_rfl) (fun _ _ _ h => h) (Or.inl ⟨by rfl, ?_⟩) (by assumption) ?_
      rotate_left
      · intro w0 hSw; (try dsimp only at hSw); first | (go_simp; done) | (go_simp; with_reducible rfl)
      simp only [List.setIfInBounds_toArray, List.set_cons_zero, List.set_cons_succ]
      refine take_at (i := 4) (v := ?_) rfl rfl (by kernel_rfl) (by kernel_rfl) (by kernel_rfl) (fun _ _ _ h => h) (Or.inl ⟨by rfl, ?_⟩) (by assumption) ?_
      rotate_left
      · intro w0 hSw; (try dsimp only at hSw); first | (go_simp; done) | (go_simp; with_reducible rfl)
      simp only [List.setIfInBounds_toArray, List.set_cons_zero, List.set_cons_succ]
      refine take_at (i := 5) rfl rfl (by kernel_rfl) (by kernel_rfl) (by kernel_rfl) (fun _ _ _ h => h) (yieldsIf_load_mid (by rfl) _ _ rfl g9 0 rfl [.int .i64 m7, .slice a7 n7 c7] _ (fun w0 hSw => OG.out w0 hSw) Try.underlying28 rfl (by kernel_rfl)) (by assumption) ?_
      simp only [List.setIfInBounds_toArray, List.set_cons_zero, List.set_cons_succ]
      refine take_at (i := 6) (v := ?_) rfl rfl (by kernel_rfl) (by kernel_rfl) (by kernel_rfl) (fun _ _ _ h => h) (Or.inl ⟨by rfl, ?_⟩) (by assumption) ?_
      rotate_left
      · intro w0 hSw; (try dsimp only at hSw); first | (go_simp; done) | (go_simp; with_reducible rfl)
      simp only [List.setIfInBounds_toArray, List.set_cons_zero, List.set_cons_succ]
      refine take_at (i := 7) (v := ?_) rfl rfl (by kernel_rfl) (by kernel_rfl) (by kernel_rfl) (fun _ _ _ h => h) (Or.inl ⟨by rfl, ?_⟩) (by assumption) ?_
      rotate_left
      · intro w0 hSw; (try dsimp only at hSw); first | (go_simp; done) | (go_simp; with_reducible rfl)
      simp only [List.setIfInBounds_toArray, List.set_cons_zero, List.set_cons_succ]
      refine take_at (i := 8) (v := ?_) rfl rfl (by kernel_rfl) (by kernel_rfl) (by kernel_rfl) (fun _ _ _ h => h) (Or.inl ⟨by rfl, ?_⟩) (by assumption) ?_
      rotate_left
      · intro w0 hSw; (try dsimp only at hSw); first | (go_simp; done) | (go_simp; with_reducible rfl)
      simp only [List.setIfInBounds_toArray, List.set_cons_zero, List.set_cons_succ]
      refine take_at (i := 9) (v := ?_) rfl rfl (by kernel_rfl) (by kernel_rfl) (by kernel_rfl) (fun _ _ _ h => h) (Or.inl ⟨by rfl, ?_⟩) (by assumption) ?_
      rotate_left
      · intro w0 hSw; (try dsimp only at hSw); first | (go_simp; done) | (go_simp; with_reducible rfl)
      simp only [List.setIfInBounds_toArray, List.set_cons_zero, List.set_cons_succ]
      refine take_at (i := 10) (v := ?_) rfl rfl (by kernel_rfl) (by kernel_rfl) (by kernel_rfl) (fun _ _ _ h => h) (Or.inl ⟨by rfl, ?_⟩) (by assumption) ?_
      rotate_left
      · intro w0 hSw; (try dsimp only at hSw); first | (go_simp; done) | (go_simp; with_reducible rfl)
      simp only [List.setIfInBounds_toArray, List.set_cons_zero, List.set_cons_succ]
      refine take_at (i := 11) rfl rfl (by kernel_rfl) (by kernel_rfl) (by kernel_rfl) (fun _ _ _ h => h) (yieldsIf_load_mid (by rfl) _ _ rfl b2 (o2 + k * 36 + 33) rfl [.int .i64 m7, .slice a6 n6 c6] _ (fun w0 hSw => OZ.out w0 hSw) Try.underlying28 rfl (by kernel_rfl)) (by assumption) ?_
      simp only [List.setIfInBounds_toArray, List.set_cons_zero, List.set_cons_succ]
      refine wpAnyH_ready (rs := [12]) (by kernel_rfl) (by simp) ?_
      refine AllReadyH.cons rfl (fun K hK => ?_) ?_
      · go_simp
        go_at_call 23
        refine (SGZ.out _ hHeld).mono ?_
        rintro e x9 ⟨rfl, hb9⟩
        dsimp only
        have HS9 := Lib.hid (Below.trans hHeld (hb9.mono (Below.size hHeld)))
        clear hb9
        refine hK.out _ _ (by (try dsimp only); exact HS9.out) (fun hHeld => ?_)
        clear hK K
        refine take_at (i := 13) (v := ?_) rfl rfl (by kernel_rfl) (by kernel_rfl) (by kernel_rfl) (fun _ _ _ h => h) (Or.inl ⟨by rfl, ?_⟩) (by assumption) ?_
        rotate_left
        · intro w0 hSw; (try dsimp only at hSw); first | (go_simp; done) | (go_simp; with_reducible rfl)
        simp only [List.setIfInBounds_toArray, List.set_cons_zero, List.set_cons_succ]
        refine take_at (i := 14) (v := ?_) rfl rfl (by kernel_rfl) (by kernel_rfl) (by kernel_rfl) (fun _ _ _ h => h) (Or.inl ⟨by rfl, ?_⟩) (by assumption) ?_
        rotate_left
        · intro w0 hSw; (try dsimp only at hSw); first | (go_simp; done) | (go_simp; with_reducible rfl)
        simp only [List.setIfInBounds_toArray, List.set_cons_zero, List.set_cons_succ]
        refine take_at (i := 15) (v := ?_) rfl rfl (by kernel_rfl) (by kernel_rfl) (by kernel_rfl) (fun _ _ _ h => h) (Or.inl ⟨by rfl, ?_⟩) (by assumption) ?_
        rotate_left
        · intro w0 hSw; (try dsimp only at hSw); first | (go_simp; done) | (go_simp; with_reducible rfl)
        simp only [List.setIfInBounds_toArray, List.set_cons_zero, List.set_cons_succ]
        refine take_at (i := 16) rfl rfl (by kernel_rfl) (by kernel_rfl) (by kernel_rfl) (fun _ _ _ h => h) (yields_cell (b := g9) (o := 2) (by rfl) rfl rfl (fun w0 hSw => K2.out w0 hSw) Try.isAgg3) (by assumption) ?_
        simp only [List.setIfInBounds_toArray, List.set_cons_zero, List.set_cons_succ]
        refine take_at (i := 17) (v := ?_) rfl rfl (by kernel_rfl) (by kernel_rfl) (by kernel_rfl) (fun _ _ _ h => h) (Or.inl ⟨by rfl, ?_⟩) (by assumption) ?_
        rotate_left
        · intro w0 hSw; (try dsimp only at hSw); first | (go_simp; done) | (go_simp; with_reducible rfl)
        simp only [List.setIfInBounds_toArray, List.set_cons_zero, List.set_cons_succ]
        refine take_at (i := 18) (v := ?_) rfl rfl (by kernel_rfl) (by kernel_rfl) (by kernel_rfl) (fun _ _ _ h => h) (Or.inl ⟨by rfl, ?_⟩) (by assumption) ?_
        rotate_left
        · intro w0 hSw; (try dsimp only at hSw); first | (go_simp; done) | (go_simp; with_reducible rfl)
        simp only [List.setIfInBounds_toArray, List.set_cons_zero, List.set_cons_succ]
        refine take_at (i := 19) (v := ?_) rfl rfl (by kernel_rfl) (by kernel_rfl) (by kernel_rfl) (fun _ _ _ h => h) (Or.inl ⟨by rfl, ?_⟩) (by assumption) ?_
        rotate_left
        · intro w0 hSw; (try dsimp only at hSw); first | (go_simp; done) | (go_simp; with_reducible rfl)
        simp only [List.setIfInBounds_toArray, List.set_cons_zero, List.set_cons_succ]
        refine take_at (i := 20) (v := ?_) rfl rfl (by kernel_rfl) (by kernel_rfl) (by kernel_rfl) (fun _ _ _ h => h) (Or.inl ⟨by rfl, ?_⟩) (by assumption) ?_
        rotate_left
        · intro w0 hSw; (try dsimp only at hSw); first | (go_simp; done) | (go_simp; with_reducible rfl)
        simp only [List.setIfInBounds_toArray, List.set_cons_zero, List.set_cons_succ]
        refine take_at (i := 21) (v := ?_) rfl rfl (by kernel_rfl) (by kernel_rfl) (by kernel_rfl) (fun _ _ _ h => h) (Or.inl ⟨by rfl, ?_⟩) (by assumption) ?_
        rotate_left
        · intro w0 hSw; (try dsimp only at hSw); first | (go_simp; done) | (go_simp; with_reducible rfl)
        simp only [List.setIfInBounds_toArray, List.set_cons_zero, List.set_cons_succ]
        refine take_at (i := 22) rfl rfl (by kernel_rfl) (by kernel_rfl) (by kernel_rfl) (fun _ _ _ h => h) (yields_cell (b := b2) (o := o2 + k * 36 + 35) (by rfl) rfl rfl (fun w0 hSw => HZ.out w0 hSw) Try.isAgg3) (by assumption) ?_
        simp only [List.setIfInBounds_toArray, List.set_cons_zero, List.set_cons_succ]
        refine take_at (i := 23) (v := .bool true) rfl rfl (by kernel_rfl) (by kernel_rfl) (by kernel_rfl) (fun _ _ _ h => h) (Or.inl ⟨by rfl, ?_⟩) (by assumption) ?_
        · intro w0 hSw; (try dsimp only at hSw); first | (go_simp; done) | (go_simp; with_reducible rfl) | (go_simp; omega)
        simp only [List.setIfInBounds_toArray, List.set_cons_zero, List.set_cons_succ]
        refine take_at (i := 24) (v := ?_) rfl rfl (by kernel_rfl) (by kernel_rfl) (by kernel_rfl) (fun _ _ _ h => h) (Or.inl ⟨by rfl, ?_⟩) (by assumption) ?_
        rotate_left
        · intro w0 hSw; (try dsimp only at hSw); first | (go_simp; done) | (go_simp; with_reducible rfl)
        simp only [List.setIfInBounds_toArray, List.set_cons_zero, List.set_cons_succ]
        refine take_at (i := 25) (v := ?_) rfl rfl (by kernel_rfl) (by kernel_rfl) (by kernel_rfl) (fun _ _ _ h => h) (Or.inl ⟨by rfl, ?_⟩) (by assumption) ?_
        rotate_left
        · intro w0 hSw; (try dsimp only at hSw); first | (go_simp; done) | (go_simp; with_reducible rfl)
        simp only [List.setIfInBounds_toArray, List.set_cons_zero, List.set_cons_succ]
        refine take_at (i := 26) (v := ?_) rfl rfl (by kernel_rfl) (by kernel_rfl) (by kernel_rfl) (fun _ _ _ h => h) (Or.inl ⟨by rfl, ?_⟩) (by assumption) ?_
        rotate_left
        · intro w0 hSw; (try dsimp only at hSw); first | (go_simp; done) | (go_simp; with_reducible rfl)
        simp only [List.setIfInBounds_toArray, List.set_cons_zero, List.set_cons_succ]
        refine wpAnyH_done (by kernel_rfl) ?_ _
        have HB9 := Lib.hid (show Below wr.heap.size wr _ from hHeld)
        clear hHeld
        go_wp2_with fail
        go_ret2
        exact HOUT.out _ _ _ _ (HO.out.below HB9.out) (HBR.out.trans (HB9.out.mono HBR.out.size)) HFIN.out
      exact AllReadyH.nil
end Go.Proofs.Ytdeilkpcmgcbaaa
