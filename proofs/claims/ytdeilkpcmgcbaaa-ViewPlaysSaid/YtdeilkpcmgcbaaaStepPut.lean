/- Law 9's step: Put of a coin that is not there. -/
import Derived.Test.YtdeilkpcmgcbaaaRowStep
namespace Go.Proofs.Ytdeilkpcmgcbaaa
open Go.RowKit Go.Maps

theorem ins_step (r : PRow) {rs : List PRow} {j : Nat} (hj : j < rs.length) : insRow r (rs.drop j) = if refLess r.tx (rs.getD j noRow).tx r.place (rs.getD j noRow).place = true then r :: rs.getD j noRow :: rs.drop (j + 1) else rs.getD j noRow :: insRow r (rs.drop (j + 1)) := by
  rw [drop_getD (d := noRow) hj, insRow]
/-- How the law's list grows: what stands in it, and what is to come. -/
def InsAt (r : PRow) (rs L : List PRow) (j : Nat) (q : Bool) : Prop := L ++ (if q = true then rs.drop j else insRow r (rs.drop j)) = insRow r rs
theorem InsAt.len {r : PRow} {rs L : List PRow} {j : Nat} {q : Bool} (h : InsAt r rs L j q) : L.length ≤ rs.length + 1 := by
  have h1 := congrArg List.length h
  rw [insRow_len, List.length_append] at h1
  omega
theorem InsAt.put {r : PRow} {rs L : List PRow} {j : Nat} (h : InsAt r rs L j true) (hj : j < rs.length) : InsAt r rs (L ++ [rs.getD j noRow]) (j + 1) true := by
  unfold InsAt at h ⊢
  rw [if_pos rfl] at h ⊢
  rw [drop_getD (d := noRow) hj] at h
  simpa using h
theorem InsAt.less {r : PRow} {rs L : List PRow} {j : Nat} (h : InsAt r rs L j false) (hj : j < rs.length) (hl : refLess r.tx (rs.getD j noRow).tx r.place (rs.getD j noRow).place = true) : InsAt r rs (L ++ [r] ++ [rs.getD j noRow]) (j + 1) true := by
  unfold InsAt at h ⊢
  rw [if_neg (by simp), ins_step r hj, if_pos hl] at h
  rw [if_pos rfl]
  simpa using h
theorem InsAt.more {r : PRow} {rs L : List PRow} {j : Nat} (h : InsAt r rs L j false) (hj : j < rs.length) (hl : refLess r.tx (rs.getD j noRow).tx r.place (rs.getD j noRow).place = false) : InsAt r rs (L ++ [rs.getD j noRow]) (j + 1) false := by
  unfold InsAt at h ⊢
  rw [if_neg (by simp), ins_step r hj, if_neg (by rw [hl]; simp)] at h
  rw [if_neg (by simp)]
  simpa using h
theorem InsAt.done {r : PRow} {rs L : List PRow} (h : InsAt r rs L rs.length true) : L = insRow r rs := by
  unfold InsAt at h
  rw [if_pos rfl, List.drop_length, List.append_nil] at h
  exact h
theorem InsAt.last {r : PRow} {rs L : List PRow} (h : InsAt r rs L rs.length false) : L ++ [r] = insRow r rs := by
  unfold InsAt at h
  rw [if_neg (by simp), List.drop_length] at h
  exact h
set_option linter.unusedSimpArgs false in
set_option maxRecDepth 100000 in
set_option maxHeartbeats 25600000 in
theorem step_put {w0 w : World} {pv lv : Value} {b N : Nat} {rs : List PRow} {o : PCall} (hL : LSt w0 w pv b N lv rs) (hN1 : N + 1 ≤ 100) (ho : CallIn w o) (ho0 : RowIn w0 o.row) (hk : ¬ o.kind = 2) (hok : outOk o.row.out.m o.row.out.ws = true) (f1 : ¬ o.row.height < 0) (f2 : ¬ o.row.height > 1073741824) (hfi : findIx o.row.tx o.row.place rs 0 = -1) (hno : NoRow rs o.row.tx o.row.place) :
    Calls Try.prog 8 #[pv, lv, .agg o.cells.toArray] w fun e w' => StepOut w0 w pv b N e w' := by
  have hlist := hL.list
  obtain ⟨a, c, rfl, hs, _⟩ := hL.list.it
  obtain ⟨kind, ⟨s, p, ⟨m, ao, no, co, xs⟩, ht⟩⟩ := o
  dsimp only at *
  obtain ⟨n, hn⟩ : ∃ n, n = rs.length := ⟨_, rfl⟩
  rw [← hn] at hs ⊢
  have hn63 := hs.len63
  have hnc : n ≤ c := hs.2.1
  have hc63 : (c : Int) ≤ 9223372036854775807 := by have h2 := hs.2.2.1; unfold maxLen at h2; omega
  have htx : s.length = 32 := ho.row.tx
  have HN := Lib.hid hn
  have HS := Lib.hid hs
  have HO := Lib.hid ho
  have HTX := Lib.hid htx
  have SR := Lib.hid (refSize (z := p) htx)
  have HFIND : Hid (∀ W : World, Below w.heap.size w W → Calls Try.prog 22 #[.slice a n c, .agg (refCells s p).toArray] W fun e w' => e = .returned (.int .i64 (-1)) ∧ Below W.heap.size W w') := Lib.hid (fun W hW => by
    have h9 := find_law (p := p) (HS.out.below hW) HTX.out
    rw [hfi] at h9
    exact h9)
  have hrsN : n ≤ 100 := by
    obtain ⟨F, hm, _⟩ := hL.view.map
    have h1 := hm.few
    omega
  have HPUT : Hid (∀ W : World, Below w.heap.size w W → Calls Try.prog 16 #[pv, .agg (refCells s p).toArray, .agg #[.int .i64 m, .slice ao no co], .int .i64 ht] W fun e w' => e = .returned (.int .i64 0) ∧ ViewAt w' pv b (N + 1) (insRow ⟨s, p, ⟨m, ao, no, co, xs⟩, ht⟩ rs) ∧ But W.heap.size b W w') := Lib.hid (fun W hW => put_ok (hL.view.below hW) hN1 htx ho.row.place hno (ho.row.out.ws.below hW) hok (by omega) (by omega))
  have HRIGHT : Hid (∀ W : World, Below w0.heap.size w0 W → Calls Try.prog 24 #[.agg #[.int .i64 m, .slice ao no co]] W fun e w' => e = .returned (.bool true) ∧ Below W.heap.size W w') := Lib.hid (fun W hW => by
    rw [← hok]
    exact lockRightOut_any (ho0.out.ws.below hW))
  obtain ⟨es, cl, hmap⟩ := hL.view.isMap
  obtain ⟨r, hr⟩ : ∃ r : PRow, r = ⟨s, p, ⟨m, ao, no, co, xs⟩, ht⟩ := ⟨_, rfl⟩
  have HRB : Hid (∀ w : World, (Instr.build 43 #[(0, .agg (refCells s p).toArray), (1, coinV m ao no co ht)]).run Try.prog w = .ok (.agg r.cells.toArray) w) := Lib.hid (fun w => by rw [hr]; exact run_build_row htx m ao no co ht xs w)
  have HR0 : Hid (RowIn w0 r) := Lib.hid (by rw [hr]; exact ho0)
  have RL : Hid (r.cells.length = 36) := Lib.hid (PRow.len (by rw [hr]; exact htx))
  have RTX : Hid (r.tx.length = 32) := Lib.hid (by rw [hr]; exact htx)
  have SRW := Lib.hid (row_sizeA (x := r) (by rw [hr]; exact htx))
  have RT : Hid (r.tx = s ∧ r.place = p) := Lib.hid (by rw [hr]; exact ⟨rfl, rfl⟩)
  rw [← hr] at HPUT
  have HL0 := Lib.hid hL
  have HLI := Lib.hid hlist
  have HMP := Lib.hid hmap
  have HPF := Lib.hid ho.row.place
  have hbl : b < w.heap.size := lt_of_block hmap
  clear hL hs ho ho0 htx hn hfi hno hok hmap hlist hr
  go_enter Try.func8, Try.ntmps8
  go_upto_region 1 with (fail)
  have b1 : Below w.heap.size w (w.alloc (.cells (PCall.cells ⟨kind, ⟨s, p, ⟨m, ao, no, co, xs⟩, ht⟩⟩).toArray 34)) := (Below.refl _ _).alloc (Nat.le_refl _) _
  have h1 := callAt_row HTX.out (heap_alloc_new w (.cells (PCall.cells ⟨kind, ⟨s, p, ⟨m, ao, no, co, xs⟩, ht⟩⟩).toArray 34))
  revert b1 h1
  generalize (w.alloc (.cells (PCall.cells ⟨kind, ⟨s, p, ⟨m, ao, no, co, xs⟩, ht⟩⟩).toArray 34)) = w1
  obtain ⟨g5, hg5⟩ : ∃ g, g = w.heap.size := ⟨_, rfl⟩
  rw [← hg5]
  intro b1 h1
  have HG5 : Hid (w.heap.size ≤ g5) := Lib.hid (by omega)
  rw [hg5] at b1
  have HB1 := Lib.hid b1
  have HC1 := Lib.hid h1
  have hk1 := h1.kind
  clear b1 h1 hg5
  have g5b : g5 ≠ b := by have h9 := HG5.out; omega
  go_upto_region 13 with (go_big_may; first
    | (refine wpList_load_mid rfl 32 _ rfl g5 1 rfl (refCells s p) _ HC1.out.ref Try.underlying32 rfl SR.out ?_)
    | (go_at_call 22; refine (HFIND.out w1 HB1.out).mono ?_; rintro e w2 ⟨rfl, hb2⟩; have HB2 := Lib.hid (HB1.out.trans (hb2.mono HB1.out.size)); have HC2 := Lib.hid (HC1.out.below hb2); have hk2 := HC2.out.kind; have ho2 := HC2.out.height; clear hb2 HFIND)
    | fail)
  go_upto_region 14 with (go_big_may; first
    | (refine wpList_load_mid rfl 32 _ rfl g5 1 rfl (refCells s p) _ HC2.out.ref Try.underlying32 rfl SR.out ?_)
    | (refine wpList_load_mid rfl 28 _ rfl g5 34 rfl [.int .i64 m, .slice ao no co] _ HC2.out.out Try.underlying28 rfl (by kernel_rfl) ?_)
    | (go_at_call 16; refine (HPUT.out w2 HB2.out).mono ?_; rintro e w3 ⟨rfl, hv3, hb3⟩; have HV3 := Lib.hid hv3; have HB3 := Lib.hid ((But.of (p := b) HB2.out).trans (hb3.mono HB2.out.size)); have HC3 := Lib.hid (HC2.out.but hb3 g5b); have ho3 := HC3.out.height; clear hb3 hv3 HPUT)
    | fail)
  go_upto_region 16 with (go_big_may; first
    | (refine wpList_load_mid rfl 28 _ rfl g5 34 rfl [.int .i64 m, .slice ao no co] _ HC3.out.out Try.underlying28 rfl (by kernel_rfl) ?_)
    | (go_at_call 24; refine (HRIGHT.out w3 (below_but9 HL0.out.below HB3.out HL0.out.new)).mono ?_; rintro e w4 ⟨rfl, hb4⟩; have HB4 : Hid (But w.heap.size b w w4) := Lib.hid (HB3.out.trans ((But.of (p := b) hb4).mono HB3.out.size)); have HV4 := Lib.hid (HV3.out.below hb4); have HC4 := Lib.hid (HC3.out.below hb4); have ho4 := HC4.out.height; clear hb4)
    | fail)
  go_upto_region 19 with fail
  iterate 4 go_step
  (refine wpList_load_mid rfl 32 _ rfl g5 1 rfl (refCells s p) _ HC4.out.ref Try.underlying32 rfl SR.out ?_)
  iterate 3 go_step
  (refine wpList_load_mid rfl 28 _ rfl g5 34 rfl [.int .i64 m, .slice ao no co] _ HC4.out.out Try.underlying28 rfl (by kernel_rfl) ?_)
  iterate 3 go_step
  iterate 3 go_step
  refine wpList_build9 rfl rfl rfl rfl (fun W => run_build_coin m ao no co ht W) ?_
  refine wpList_build9 rfl rfl rfl rfl HRB.out ?_
  iterate 3 go_step
  refine wpList_layRow rfl _ _ rfl w4 r RTX.out rfl rfl rfl ?_
  have h15 := layRow_heap w4 r
  have b15 := layRow_below w4 r
  revert h15 b15
  generalize layRow w4 r = w5
  obtain ⟨g15, hg15⟩ : ∃ g, g = w4.heap.size := ⟨_, rfl⟩
  rw [← hg15]
  intro h15 b15
  rw [hg15] at b15
  have HB5 : Hid (But w.heap.size b w w5) := Lib.hid (HB4.out.trans ((But.of (p := b) b15).mono HB4.out.size))
  have HV5 := Lib.hid (HV4.out.below b15)
  have HC5 := Lib.hid (HC4.out.below b15)
  have HLI5 := Lib.hid (HLI.out.but HB5.out (fun cs fr e => by rw [HMP.out] at e; cases e) (below_but9 HL0.out.below HB5.out HL0.out.new))
  obtain ⟨aa, cc, eaa, hsl5, _⟩ := HLI5.out.it
  cases eaa
  rw [← HN.out] at hsl5
  have HS5 := Lib.hid hsl5
  have H15w := Lib.hid h15
  have HOUT : Hid (∀ (W : World) (aL : Option Addr) (cL : Nat) (L : List PRow), OwnOf rowK 43 W w5.heap.size (.slice aL L.length cL) L → Below w5.heap.size w5 W → L = insRow r rs → StepOut w0 w pv b N (.returned (.tuple #[.slice aL L.length cL, .bool true])) W) := Lib.hid (fun W aL cL L hL9 hW9 e9 => by
    subst e9
    have k1 : But w.heap.size b w W := HB5.out.trans ((But.of (p := b) hW9).mono HB5.out.size)
    have k2 := below_but9 HL0.out.below k1 HL0.out.new
    refine ⟨aL, cL, insRow r rs, N + 1, rfl, ⟨HV5.out.below hW9, ListAt.own hL9 (fun x hx => ?_) k2, k2, HL0.out.new⟩, by omega, k1⟩
    rcases insRow_mem.1 hx with rfl | hx
    · exact HR0.out
    · exact HLI.out.rows x hx)
  have hlenN : Hid (rs.length = n) := Lib.hid HN.out.symm
  clear h15 b15 hg15 HB1 HB2 HC1 HC2 HC3 HC4 hk1 hk2 ho2 ho3 ho4 HB3 HB4 HV3 HV4 HLI5 hsl5 HS HL0 HLI HMP HV5 HB5 hbl g5b HN HRB HRIGHT
  try simp only [Act.put]
  go_wp2_with fail
  go_loopw [14, 16, 17] (fun v q i wr => ∃ (j : Nat) (qq : Bool) (L : List PRow), j ≤ n ∧ i = .int .i64 j ∧ q = .bool qq ∧ OwnOf rowK 43 wr w5.heap.size v L ∧ InsAt r rs L j qq ∧ Below w5.heap.size w5 wr) (fun _ _ i _ => n - (intOf i).toNat)
  case atStart => exact ⟨0, false, [], Nat.zero_le _, rfl, rfl, OwnOf.nil _ _ _ _, by unfold InsAt; simp, Below.refl _ _⟩
  case round =>
    obtain ⟨j, qq, L, hj, rfl, rfl, hown, hins, hbr⟩ := hrel
    obtain ⟨aL, cL, rfl, _⟩ := hown.shape
    have HO := Lib.hid hown
    have HI := Lib.hid hins
    have HBR := Lib.hid hbr
    have hLl : L.length ≤ 101 := by have h1 := hins.len; have h2 := hlenN.out; omega
    clear hown hins hbr
    by_cases hjn : j < n
    · have f1 : (j : Int) < (n : Int) := by omega
      have f0 : (0 : Int) ≤ (j : Int) := by omega
      have ft : ((j : Int)).toNat = j := by omega
      have hjl : j < rs.length := by rw [hlenN.out]; exact hjn
      obtain ⟨b2, o2, e2, hlt2, hc2⟩ := HS5.out.2.2.2.2.2 (by omega)
      have rx : w5.rangeAt b2 (o2 + j * 36) (rs.getD j noRow).cells := hc2 j hjn
      have ix : RowIn w5 (rs.getD j noRow) := HS5.out.get hjn
      have hput := fun (e : qq = true) => InsAt.put (r := r) (rs := rs) (L := L) (j := j) (by have h9 := HI.out; rw [e] at h9; exact h9) hjl
      have hless := fun (e : qq = false) => InsAt.less (r := r) (rs := rs) (L := L) (j := j) (by have h9 := HI.out; rw [e] at h9; exact h9) hjl
      have hmore := fun (e : qq = false) => InsAt.more (r := r) (rs := rs) (L := L) (j := j) (by have h9 := HI.out; rw [e] at h9; exact h9) hjl
      rw [RT.out.1, RT.out.2] at hless hmore
      revert rx ix hput hless hmore
      generalize rs.getD j noRow = x
      intro rx ix hput hless hmore
      subst e2
      have RXW : Hid (∀ W : World, Below w5.heap.size w5 W → W.rangeAt b2 (o2 + j * 36) x.cells) := Lib.hid (fun W hW => rangeAt_below rx hlt2 hW)
      have SX := Lib.hid (row_size ix.tx)
      have XL := Lib.hid (PRow.len ix.tx)
      have IXT := Lib.hid ix.tx
      have IXP := Lib.hid ix.place
      cases qq
      · have RXR : Hid (∀ W : World, Below wr.heap.size wr W → W.rangeAt b2 (o2 + j * 36) (refCells x.tx x.place)) := Lib.hid (fun W hW => row_ref (RXW.out W (HBR.out.trans (hW.mono HBR.out.size))))
        have RG5 : Hid (∀ W : World, Below wr.heap.size wr W → W.rangeAt g5 1 (refCells s p)) := Lib.hid (fun W hW => (HC5.out.below (HBR.out.trans (hW.mono HBR.out.size))).ref)
        have SXR := Lib.hid (refSize (z := x.place) IXT.out)
        obtain ⟨R, hR⟩ : ∃ R, R = refLess s x.tx p x.place := ⟨_, rfl⟩
        have HLESS : Hid (∀ W : World, Below wr.heap.size wr W → Calls Try.prog 25 #[.agg (refCells s p).toArray, .agg (refCells x.tx x.place).toArray] W fun e w' => e = .returned (.bool R) ∧ Below W.heap.size W w') := Lib.hid (fun W hW => by
          rw [hR]
          exact less_law HTX.out IXT.out HPF.out IXP.out)
        rw [← hR] at hless hmore
        clear rx ix hput hlt2 hc2 hR
        cases R
        · have HEQ := Lib.hid (hmore rfl rfl)
          clear hless hmore
          go_upto_region 24 with fail
          refine wp_region_held_drew (S := fun w' => Below wr.heap.size wr w') (by kernel_rfl) (below_drew (Below.refl _ _)) (fun hHeld => ?_)
          refine take_at (i := 0) (v := ?_) rfl rfl (by kernel_rfl) (by kernel_rfl) (by kernel_rfl) (fun _ _ _ h => h) (Or.inl ⟨by rfl, ?_⟩) (by assumption) ?_
          rotate_left
          · intro w0 hSw; (try dsimp only at hSw); first | (go_simp; done) | (go_simp; with_reducible rfl)
          simp only [List.setIfInBounds_toArray, List.set_cons_zero, List.set_cons_succ]
          refine take_at (i := 1) (v := ?_) rfl rfl (by kernel_rfl) (by kernel_rfl) (by kernel_rfl) (fun _ _ _ h => h) (Or.inl ⟨by rfl, ?_⟩) (by assumption) ?_
          rotate_left
          · intro w0 hSw; (try dsimp only at hSw); first | (go_simp; done) | (go_simp; with_reducible rfl)
          simp only [List.setIfInBounds_toArray, List.set_cons_zero, List.set_cons_succ]
          refine take_at (i := 2) (v := ?_) rfl rfl (by kernel_rfl) (by kernel_rfl) (by kernel_rfl) (fun _ _ _ h => h) (Or.inl ⟨by rfl, ?_⟩) (by assumption) ?_
          rotate_left
          · intro w0 hSw; (try dsimp only at hSw); first | (go_simp; done) | (go_simp; with_reducible rfl)
          simp only [List.setIfInBounds_toArray, List.set_cons_zero, List.set_cons_succ]
          refine take_at (i := 3) (v := ?_) rfl rfl (by kernel_rfl) (by kernel_rfl) (by kernel_rfl) (fun _ _ _ h => h) (Or.inl ⟨by rfl, ?_⟩) (by assumption) ?_
          rotate_left
          · intro w0 hSw; (try dsimp only at hSw); first | (go_simp; done) | (go_simp; with_reducible rfl)
          simp only [List.setIfInBounds_toArray, List.set_cons_zero, List.set_cons_succ]
          refine take_at (i := 4) rfl rfl (by kernel_rfl) (by kernel_rfl) (by kernel_rfl) (fun _ _ _ h => h) (yieldsIf_load_mid (by rfl) _ _ rfl g5 1 rfl (refCells s p) _ (fun w0 hSw => RG5.out w0 hSw) Try.underlying32 rfl SR.out) (by assumption) ?_
          simp only [List.setIfInBounds_toArray, List.set_cons_zero, List.set_cons_succ]
          refine take_at (i := 5) (v := ?_) rfl rfl (by kernel_rfl) (by kernel_rfl) (by kernel_rfl) (fun _ _ _ h => h) (Or.inl ⟨by rfl, ?_⟩) (by assumption) ?_
          rotate_left
          · intro w0 hSw; (try dsimp only at hSw); first | (go_simp; done) | (go_simp; with_reducible rfl)
          simp only [List.setIfInBounds_toArray, List.set_cons_zero, List.set_cons_succ]
          refine take_at (i := 6) (v := ?_) rfl rfl (by kernel_rfl) (by kernel_rfl) (by kernel_rfl) (fun _ _ _ h => h) (Or.inl ⟨by rfl, ?_⟩) (by assumption) ?_
          rotate_left
          · intro w0 hSw; (try dsimp only at hSw); first | (go_simp; done) | (go_simp; with_reducible rfl)
          simp only [List.setIfInBounds_toArray, List.set_cons_zero, List.set_cons_succ]
          refine take_at (i := 7) (v := ?_) rfl rfl (by kernel_rfl) (by kernel_rfl) (by kernel_rfl) (fun _ _ _ h => h) (Or.inl ⟨by rfl, ?_⟩) (by assumption) ?_
          rotate_left
          · intro w0 hSw; (try dsimp only at hSw); first | (go_simp; done) | (go_simp; with_reducible rfl)
          simp only [List.setIfInBounds_toArray, List.set_cons_zero, List.set_cons_succ]
          refine take_at (i := 8) (v := ?_) rfl rfl (by kernel_rfl) (by kernel_rfl) (by kernel_rfl) (fun _ _ _ h => h) (Or.inl ⟨by rfl, ?_⟩) (by assumption) ?_
          rotate_left
          · intro w0 hSw; (try dsimp only at hSw); first | (go_simp; done) | (go_simp; with_reducible rfl)
          simp only [List.setIfInBounds_toArray, List.set_cons_zero, List.set_cons_succ]
          refine take_at (i := 9) rfl rfl (by kernel_rfl) (by kernel_rfl) (by kernel_rfl) (fun _ _ _ h => h) (yieldsIf_load_mid (by rfl) _ _ rfl b2 (o2 + j * 36) rfl (refCells x.tx x.place) _ (fun w0 hSw => RXR.out w0 hSw) Try.underlying32 rfl SXR.out) (by assumption) ?_
          simp only [List.setIfInBounds_toArray, List.set_cons_zero, List.set_cons_succ]
          refine wpAnyH_ready (rs := [10]) (by kernel_rfl) (by simp) ?_
          refine AllReadyH.cons rfl (fun K hK => ?_) ?_
          · go_simp
            go_at_call 25
            refine (HLESS.out _ hHeld).mono ?_
            rintro e x9 ⟨rfl, hb9⟩
            dsimp only
            have HS9 := Lib.hid (Below.trans hHeld (hb9.mono (Below.size hHeld)))
            clear hb9
            refine hK.out _ _ (by (try dsimp only); exact HS9.out) (fun hHeld => ?_)
            clear hK K
            refine take_at (i := 11) (v := ?_) rfl rfl (by kernel_rfl) (by kernel_rfl) (by kernel_rfl) (fun _ _ _ h => h) (Or.inl ⟨by rfl, ?_⟩) (by assumption) ?_
            rotate_left
            · intro w0 hSw; (try dsimp only at hSw); first | (go_simp; done) | (go_simp; with_reducible rfl)
            simp only [List.setIfInBounds_toArray, List.set_cons_zero, List.set_cons_succ]
            refine wpAnyH_done (by kernel_rfl) ?_ _
            have HOP := Lib.hid (HO.out.below HS9.out)
            have HBP := Lib.hid (HBR.out.trans (HS9.out.mono HBR.out.size))
            have RX := Lib.hid (RXW.out _ HBP.out)
            clear hHeld HS9
            go_wp2_with (first
              | (refine wpList_load_mid rfl 43 _ rfl b2 (o2 + j * 36) rfl x.cells _ RX.out Try.underlying43 rfl SX.out ?_)
              | (refine wpList_lit9 Try.rowAt9 rfl _ rfl x rfl XL.out ?_; intro p8 w8 hp8 hx8 hb8; have HX8 := Lib.hid hx8; have HO8 := Lib.hid (HOP.out.below hb8); have HB8 := Lib.hid (HBP.out.trans (hb8.mono HBP.out.size)); clear hp8 hx8 hb8)
              | (at_builtin; refine wpList_append9 Try.rowAt9 rfl _ _ rfl rfl w5.heap.size (.slice aL L.length cL) L rfl HO8.out p8 x rfl HX8.out XL.out (by omega) HB8.out.size ?_; intro a9 c9 w9 ho9 hg9; have HO9 := Lib.hid ho9; have HB9 := Lib.hid (HB8.out.trans (HO8.out.grows hg9 HB8.out.size)); clear ho9 hg9)
              | fail)
            go_roundw
            case rel => exact ⟨j + 1, false, L ++ [x], by omega, by go_num, rfl, HO9.out, HEQ.out, HB9.out⟩
            case measure => simp [intOf]; omega
          exact AllReadyH.nil
        · have HEQ := Lib.hid (hless rfl rfl)
          clear hless hmore
          go_upto_region 24 with fail
          refine wp_region_held_drew (S := fun w' => Below wr.heap.size wr w') (by kernel_rfl) (below_drew (Below.refl _ _)) (fun hHeld => ?_)
          refine take_at (i := 0) (v := ?_) rfl rfl (by kernel_rfl) (by kernel_rfl) (by kernel_rfl) (fun _ _ _ h => h) (Or.inl ⟨by rfl, ?_⟩) (by assumption) ?_
          rotate_left
          · intro w0 hSw; (try dsimp only at hSw); first | (go_simp; done) | (go_simp; with_reducible rfl)
          simp only [List.setIfInBounds_toArray, List.set_cons_zero, List.set_cons_succ]
          refine take_at (i := 1) (v := ?_) rfl rfl (by kernel_rfl) (by kernel_rfl) (by kernel_rfl) (fun _ _ _ h => h) (Or.inl ⟨by rfl, ?_⟩) (by assumption) ?_
          rotate_left
          · intro w0 hSw; (try dsimp only at hSw); first | (go_simp; done) | (go_simp; with_reducible rfl)
          simp only [List.setIfInBounds_toArray, List.set_cons_zero, List.set_cons_succ]
          refine take_at (i := 2) (v := ?_) rfl rfl (by kernel_rfl) (by kernel_rfl) (by kernel_rfl) (fun _ _ _ h => h) (Or.inl ⟨by rfl, ?_⟩) (by assumption) ?_
          rotate_left
          · intro w0 hSw; (try dsimp only at hSw); first | (go_simp; done) | (go_simp; with_reducible rfl)
          simp only [List.setIfInBounds_toArray, List.set_cons_zero, List.set_cons_succ]
          refine take_at (i := 3) (v := ?_) rfl rfl (by kernel_rfl) (by kernel_rfl) (by kernel_rfl) (fun _ _ _ h => h) (Or.inl ⟨by rfl, ?_⟩) (by assumption) ?_
          rotate_left
          · intro w0 hSw; (try dsimp only at hSw); first | (go_simp; done) | (go_simp; with_reducible rfl)
          simp only [List.setIfInBounds_toArray, List.set_cons_zero, List.set_cons_succ]
          refine take_at (i := 4) rfl rfl (by kernel_rfl) (by kernel_rfl) (by kernel_rfl) (fun _ _ _ h => h) (yieldsIf_load_mid (by rfl) _ _ rfl g5 1 rfl (refCells s p) _ (fun w0 hSw => RG5.out w0 hSw) Try.underlying32 rfl SR.out) (by assumption) ?_
          simp only [List.setIfInBounds_toArray, List.set_cons_zero, List.set_cons_succ]
          refine take_at (i := 5) (v := ?_) rfl rfl (by kernel_rfl) (by kernel_rfl) (by kernel_rfl) (fun _ _ _ h => h) (Or.inl ⟨by rfl, ?_⟩) (by assumption) ?_
          rotate_left
          · intro w0 hSw; (try dsimp only at hSw); first | (go_simp; done) | (go_simp; with_reducible rfl)
          simp only [List.setIfInBounds_toArray, List.set_cons_zero, List.set_cons_succ]
          refine take_at (i := 6) (v := ?_) rfl rfl (by kernel_rfl) (by kernel_rfl) (by kernel_rfl) (fun _ _ _ h => h) (Or.inl ⟨by rfl, ?_⟩) (by assumption) ?_
          rotate_left
          · intro w0 hSw; (try dsimp only at hSw); first | (go_simp; done) | (go_simp; with_reducible rfl)
          simp only [List.setIfInBounds_toArray, List.set_cons_zero, List.set_cons_succ]
          refine take_at (i := 7) (v := ?_) rfl rfl (by kernel_rfl) (by kernel_rfl) (by kernel_rfl) (fun _ _ _ h => h) (Or.inl ⟨by rfl, ?_⟩) (by assumption) ?_
          rotate_left
          · intro w0 hSw; (try dsimp only at hSw); first | (go_simp; done) | (go_simp; with_reducible rfl)
          simp only [List.setIfInBounds_toArray, List.set_cons_zero, List.set_cons_succ]
          refine take_at (i := 8) (v := ?_) rfl rfl (by kernel_rfl) (by kernel_rfl) (by kernel_rfl) (fun _ _ _ h => h) (Or.inl ⟨by rfl, ?_⟩) (by assumption) ?_
          rotate_left
          · intro w0 hSw; (try dsimp only at hSw); first | (go_simp; done) | (go_simp; with_reducible rfl)
          simp only [List.setIfInBounds_toArray, List.set_cons_zero, List.set_cons_succ]
          refine take_at (i := 9) rfl rfl (by kernel_rfl) (by kernel_rfl) (by kernel_rfl) (fun _ _ _ h => h) (yieldsIf_load_mid (by rfl) _ _ rfl b2 (o2 + j * 36) rfl (refCells x.tx x.place) _ (fun w0 hSw => RXR.out w0 hSw) Try.underlying32 rfl SXR.out) (by assumption) ?_
          simp only [List.setIfInBounds_toArray, List.set_cons_zero, List.set_cons_succ]
          refine wpAnyH_ready (rs := [10]) (by kernel_rfl) (by simp) ?_
          refine AllReadyH.cons rfl (fun K hK => ?_) ?_
          · go_simp
            go_at_call 25
            refine (HLESS.out _ hHeld).mono ?_
            rintro e x9 ⟨rfl, hb9⟩
            dsimp only
            have HS9 := Lib.hid (Below.trans hHeld (hb9.mono (Below.size hHeld)))
            clear hb9
            refine hK.out _ _ (by (try dsimp only); exact HS9.out) (fun hHeld => ?_)
            clear hK K
            refine take_at (i := 11) (v := ?_) rfl rfl (by kernel_rfl) (by kernel_rfl) (by kernel_rfl) (fun _ _ _ h => h) (Or.inl ⟨by rfl, ?_⟩) (by assumption) ?_
            rotate_left
            · intro w0 hSw; (try dsimp only at hSw); first | (go_simp; done) | (go_simp; with_reducible rfl)
            simp only [List.setIfInBounds_toArray, List.set_cons_zero, List.set_cons_succ]
            refine wpAnyH_done (by kernel_rfl) ?_ _
            have HOP := Lib.hid (HO.out.below HS9.out)
            have HBP := Lib.hid (HBR.out.trans (HS9.out.mono HBR.out.size))
            have H15 := Lib.hid ((HBP.out.block _ (lt_of_block H15w.out)).trans H15w.out)
            clear hHeld HS9
            go_wp2_with (first
              | (refine wpList_load_row rfl 43 _ rfl g15 rfl 43 r.cells.toArray (0, 0) _ H15.out Try.underlying43 rfl SRW.out ?_)
              | (refine wpList_lit9 Try.rowAt9 rfl _ rfl r rfl RL.out ?_; intro p6 w6 hp6 hx6 hb6; have HX6 := Lib.hid hx6; have HO6 := Lib.hid (HOP.out.below hb6); have HB6 := Lib.hid (HBP.out.trans (hb6.mono HBP.out.size)); clear hp6 hx6 hb6)
              | (at_builtin; refine wpList_append9 Try.rowAt9 rfl _ _ rfl rfl w5.heap.size (.slice aL L.length cL) L rfl HO6.out p6 r rfl HX6.out RL.out (by omega) HB6.out.size ?_; intro a7 c7 w7 ho7 hg7; obtain ⟨L2, hL2⟩ : ∃ l, l = L ++ [r] := ⟨_, rfl⟩; rw [← hL2] at ho7; have hl2 : L.length + 1 = L2.length := (by simp [hL2]); rw [hl2] at ho7 ⊢; have HO7 := Lib.hid ho7; have HL2 := Lib.hid hL2; have HL3 := Lib.hid hl2; have HB7 := Lib.hid (HB6.out.trans (HO6.out.grows hg7 HB6.out.size)); have hl2b : L2.length ≤ 102 := (by omega); have RX := Lib.hid (RXW.out _ HB7.out); clear ho7 hg7 hL2 hl2)
              | (refine wpList_load_mid rfl 43 _ rfl b2 (o2 + j * 36) rfl x.cells _ RX.out Try.underlying43 rfl SX.out ?_)
              | (refine wpList_lit9 Try.rowAt9 rfl _ rfl x rfl XL.out ?_; intro p8 w8 hp8 hx8 hb8; have HX8 := Lib.hid hx8; have HO8 := Lib.hid (HO7.out.below hb8); have HB8 := Lib.hid (HB7.out.trans (hb8.mono HB7.out.size)); clear hp8 hx8 hb8)
              | (at_builtin; refine wpList_append9 Try.rowAt9 rfl _ _ rfl rfl w5.heap.size (.slice a7 L2.length c7) L2 rfl HO8.out p8 x rfl HX8.out XL.out (by omega) HB8.out.size ?_; intro a9 c9 w9 ho9 hg9; have HO9 := Lib.hid ho9; have HB9 := Lib.hid (HB8.out.trans (HO8.out.grows hg9 HB8.out.size)); clear ho9 hg9)
              | fail)
            go_roundw
            case rel => exact ⟨j + 1, true, L2 ++ [x], by omega, by go_num, rfl, HO9.out, (by rw [HL2.out]; exact HEQ.out), HB9.out⟩
            case measure => simp [intOf]; omega
          exact AllReadyH.nil
      · have HEQ := Lib.hid (hput rfl)
        clear rx ix hput hless hmore hlt2 hc2
        go_upto_region 24 with fail
        refine wp_region_held_drew (S := fun w' => Below wr.heap.size wr w') (by kernel_rfl) (below_drew (Below.refl _ _)) (fun hHeld => ?_)
        refine take_at (i := 0) (v := ?_) rfl rfl (by kernel_rfl) (by kernel_rfl) (by kernel_rfl) (fun _ _ _ h => h) (Or.inl ⟨by rfl, ?_⟩) (by assumption) ?_
        rotate_left
        · intro w0 hSw; (try dsimp only at hSw); first | (go_simp; done) | (go_simp; with_reducible rfl)
        simp only [List.setIfInBounds_toArray, List.set_cons_zero, List.set_cons_succ]
        refine take_at (i := 1) (v := ?_) rfl rfl (by kernel_rfl) (by kernel_rfl) (by kernel_rfl) (fun _ _ _ h => h) (Or.inl ⟨by rfl, ?_⟩) (by assumption) ?_
        rotate_left
        · intro w0 hSw; (try dsimp only at hSw); first | (go_simp; done) | (go_simp; with_reducible rfl)
        simp only [List.setIfInBounds_toArray, List.set_cons_zero, List.set_cons_succ]
        refine take_at (i := 2) (v := ?_) rfl rfl (by kernel_rfl) (by kernel_rfl) (by kernel_rfl) (fun _ _ _ h => h) (Or.inl ⟨by rfl, ?_⟩) (by assumption) ?_
        rotate_left
        · intro w0 hSw; (try dsimp only at hSw); first | (go_simp; done) | (go_simp; with_reducible rfl)
        simp only [List.setIfInBounds_toArray, List.set_cons_zero, List.set_cons_succ]
        refine take_at (i := 3) (v := undef) rfl rfl (by kernel_rfl) (by kernel_rfl) (by kernel_rfl) (fun _ _ _ h => h) (Or.inr ⟨by rfl, rfl⟩) (by assumption) ?_
        simp only [List.setIfInBounds_toArray, List.set_cons_zero, List.set_cons_succ]
        refine take_at (i := 4) (v := undef) rfl rfl (by kernel_rfl) (by kernel_rfl) (by kernel_rfl) (fun _ _ _ h => h) (Or.inr ⟨by rfl, rfl⟩) (by assumption) ?_
        simp only [List.setIfInBounds_toArray, List.set_cons_zero, List.set_cons_succ]
        refine take_at (i := 5) (v := undef) rfl rfl (by kernel_rfl) (by kernel_rfl) (by kernel_rfl) (fun _ _ _ h => h) (Or.inr ⟨by rfl, rfl⟩) (by assumption) ?_
        simp only [List.setIfInBounds_toArray, List.set_cons_zero, List.set_cons_succ]
        refine take_at (i := 6) (v := undef) rfl rfl (by kernel_rfl) (by kernel_rfl) (by kernel_rfl) (fun _ _ _ h => h) (Or.inr ⟨by rfl, rfl⟩) (by assumption) ?_
        simp only [List.setIfInBounds_toArray, List.set_cons_zero, List.set_cons_succ]
        refine take_at (i := 7) (v := undef) rfl rfl (by kernel_rfl) (by kernel_rfl) (by kernel_rfl) (fun _ _ _ h => h) (Or.inr ⟨by rfl, rfl⟩) (by assumption) ?_
        simp only [List.setIfInBounds_toArray, List.set_cons_zero, List.set_cons_succ]
        refine take_at (i := 8) (v := undef) rfl rfl (by kernel_rfl) (by kernel_rfl) (by kernel_rfl) (fun _ _ _ h => h) (Or.inr ⟨by rfl, rfl⟩) (by assumption) ?_
        simp only [List.setIfInBounds_toArray, List.set_cons_zero, List.set_cons_succ]
        refine take_at (i := 9) (v := undef) rfl rfl (by kernel_rfl) (by kernel_rfl) (by kernel_rfl) (fun _ _ _ h => h) (Or.inr ⟨by rfl, rfl⟩) (by assumption) ?_
        simp only [List.setIfInBounds_toArray, List.set_cons_zero, List.set_cons_succ]
        refine take_at (i := 10) (v := undef) rfl rfl (by kernel_rfl) (by kernel_rfl) (by kernel_rfl) (fun _ _ _ h => h) (Or.inr ⟨by rfl, rfl⟩) (by assumption) ?_
        simp only [List.setIfInBounds_toArray, List.set_cons_zero, List.set_cons_succ]
        refine take_at (i := 11) (v := ?_) rfl rfl (by kernel_rfl) (by kernel_rfl) (by kernel_rfl) (fun _ _ _ h => h) (Or.inl ⟨by rfl, ?_⟩) (by assumption) ?_
        rotate_left
        · intro w0 hSw; (try dsimp only at hSw); first | (go_simp; done) | (go_simp; with_reducible rfl)
        simp only [List.setIfInBounds_toArray, List.set_cons_zero, List.set_cons_succ]
        refine wpAnyH_done (by kernel_rfl) ?_ _
        have hq := hHeld
        have HOP := Lib.hid (HO.out.below (show Below wr.heap.size wr _ from hq))
        have HBP := Lib.hid (HBR.out.trans ((show Below wr.heap.size wr _ from hq).mono HBR.out.size))
        have RX := Lib.hid (RXW.out _ HBP.out)
        clear hq hHeld
        go_wp2_with (first
          | (refine wpList_load_mid rfl 43 _ rfl b2 (o2 + j * 36) rfl x.cells _ RX.out Try.underlying43 rfl SX.out ?_)
          | (refine wpList_lit9 Try.rowAt9 rfl _ rfl x rfl XL.out ?_; intro p8 w8 hp8 hx8 hb8; have HX8 := Lib.hid hx8; have HO8 := Lib.hid (HOP.out.below hb8); have HB8 := Lib.hid (HBP.out.trans (hb8.mono HBP.out.size)); clear hp8 hx8 hb8)
          | (at_builtin; refine wpList_append9 Try.rowAt9 rfl _ _ rfl rfl w5.heap.size (.slice aL L.length cL) L rfl HO8.out p8 x rfl HX8.out XL.out (by omega) HB8.out.size ?_; intro a9 c9 w9 ho9 hg9; have HO9 := Lib.hid ho9; have HB9 := Lib.hid (HB8.out.trans (HO8.out.grows hg9 HB8.out.size)); clear ho9 hg9)
          | fail)
        go_roundw
        case rel => exact ⟨j + 1, true, L ++ [x], by omega, by go_num, rfl, HO9.out, HEQ.out, HB9.out⟩
        case measure => simp [intOf]; omega
    · have hjn9 : j = rs.length := by have h1 := hlenN.out; omega
      have f1 : ¬ ((j : Int) < (n : Int)) := by omega
      cases qq
      · have HEQ : Hid (L ++ [r] = insRow r rs) := Lib.hid (by have h9 := HI.out; rw [hjn9] at h9; exact h9.last)
        have H15 := Lib.hid ((HBR.out.block _ (lt_of_block H15w.out)).trans H15w.out)
        clear hjn hj hjn9 HI
        go_wp2_with (first
          | (refine wpList_load_row rfl 43 _ rfl g15 rfl 43 r.cells.toArray (0, 0) _ H15.out Try.underlying43 rfl SRW.out ?_)
          | (refine wpList_lit9 Try.rowAt9 rfl _ rfl r rfl RL.out ?_; intro p6 w6 hp6 hx6 hb6; have HX6 := Lib.hid hx6; have HO6 := Lib.hid (HO.out.below hb6); have HB6 := Lib.hid (HBR.out.trans (hb6.mono HBR.out.size)); clear hp6 hx6 hb6)
          | (at_builtin; refine wpList_append9 Try.rowAt9 rfl _ _ rfl rfl w5.heap.size (.slice aL L.length cL) L rfl HO6.out p6 r rfl HX6.out RL.out (by omega) HB6.out.size ?_; intro a7 c7 w7 ho7 hg7; obtain ⟨L2, hL2⟩ : ∃ l, l = L ++ [r] := ⟨_, rfl⟩; rw [← hL2] at ho7; have hl2 : L.length + 1 = L2.length := (by simp [hL2]); rw [hl2] at ho7 ⊢; have HO7 := Lib.hid ho7; have HL2 := Lib.hid hL2; have HL3 := Lib.hid hl2; have HB7 := Lib.hid (HB6.out.trans (HO6.out.grows hg7 HB6.out.size)); have hl2b : L2.length ≤ 102 := (by omega); clear ho7 hg7 hL2 hl2)
          | fail)
        go_ret2
        exact HOUT.out _ _ _ _ HO7.out HB7.out (HL2.out.trans HEQ.out)
      · have HEQ : Hid (L = insRow r rs) := Lib.hid (by have h9 := HI.out; rw [hjn9] at h9; exact h9.done)
        clear hjn hj hjn9 HI
        go_wp2_with fail
        go_ret2
        exact HOUT.out _ _ _ _ HO.out HBR.out HEQ.out
end Go.Proofs.Ytdeilkpcmgcbaaa
