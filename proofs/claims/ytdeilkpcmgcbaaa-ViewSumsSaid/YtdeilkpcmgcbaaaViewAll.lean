/- view.All: the rows of a view, in order. -/
import Derived.Test.YtdeilkpcmgcbaaaRowBuild
namespace Go.Proofs.Ytdeilkpcmgcbaaa
open Go.RowKit Go.Maps

/-- All that is no row of rows stays. -/
structure Kept9 (w w' : World) : Prop where
  same : ∀ (k : Nat) (o : Obj), w.heap[k]? = some o → (∀ cs fr, o ≠ Obj.cells cs 43 fr) → w'.heap[k]? = some o
theorem Kept9.refl (w : World) : Kept9 w w := ⟨fun _ _ h _ => h⟩
theorem Kept9.drew {w w' : World} (h : Kept9 w w') : Kept9 w w'.drew := ⟨h.same⟩
theorem Kept9.trans {a b c : World} (h : Kept9 a b) (k : Kept9 b c) : Kept9 a c := ⟨fun i o hi hn => k.same i o (h.same i o hi hn) hn⟩
theorem Kept9.of {w w' : World} (h : Below w.heap.size w w') : Kept9 w w' := ⟨fun k _ hk _ => (h.block k (Array.getElem?_eq_some_iff.1 hk).1).trans hk⟩
theorem Kept9.own {w w' : World} {B : Nat} {v : Value} {rs : List PRow} (h : OwnOf rowK 43 w B v rs) (hg : w.grownBy w' v.ownBlock) : Kept9 w w' := by
  rcases h.step hg with hb | ⟨g, cs, _, _, hh, hb⟩
  · exact Kept9.of hb
  · exact ⟨fun k o hk hn => (hb.block k (Array.getElem?_eq_some_iff.1 hk).1 (fun e => by
      rw [e, hh] at hk
      exact hn _ _ (Option.some.inj hk).symm)).trans hk⟩
theorem MapRef.same9 {w w' : World} {b N n : Nat} {F : List UInt8 → Int → Option Value} (h : MapRef w b N n F) (hb : w'.heap[b]? = w.heap[b]?) : MapRef w' b N n F := by
  obtain ⟨D, ⟨es, cl, h1, h2⟩, h3⟩ := h
  exact ⟨D, ⟨es, cl, hb.trans h1, h2⟩, h3⟩
theorem yields_build9 {P : Program} {ops : Array Oper} {S : World → Prop} {op : Oper} {a : Act} {t : TypeId} {x y : Operand} {u v r : Value} (hw : Region.wanted op (yielded ops a.tmps) = true) (ho : op.op = .build t #[(0, x), (1, y)]) (hx : a.eval x = u) (hy : a.eval y = v) (hf : ∀ w, (Instr.build t #[(0, u), (1, v)]).run P w = .ok r w) : YieldsIf P ops S op r a :=
  .inl ⟨hw, fun w _ => by
    unfold execOp
    simp only [ho, List.map_toArray, List.map_cons, List.map_nil, hx, hy, Sem.run_bind, hf w, Result.andThen_ok, Sem.run_pure]⟩
theorem wpList_layRef {ops : Array Oper} {rest : List Oper} {o : Oper} {a : Act} {w : World} {Q : Exit → Act → World → Prop} (hg : o.guard = none) (u v : Operand) (ho : o.op = .store 32 u v) (w0 : World) (x : RefD)
    (hx : a.eval u = .pointer (some ⟨w0.heap.size, 0, none⟩)) (hy : a.eval v = .agg x.cells.toArray) (hw : w = w0.alloc (.cells noRef.cells.toArray 32))
    (h : wpList Try.prog ops Q rest (a.put o.dst undef) (layRef w0 x)) : wpList Try.prog ops Q (o :: rest) a w := by
  subst hw
  exact wpList_store_row hg 32 u v ho w0.heap.size x.cells.toArray hx hy 32 noRef.cells.toArray (heap_alloc_new _ _) (refD_size x) (refD_zero x) (all_oneCell_toArray x.one) h
set_option linter.unusedSimpArgs false in
set_option maxRecDepth 100000 in
set_option maxHeartbeats 25600000 in
theorem all_any {w : World} {pv : Value} {b N : Nat} {rows : List PRow} (h : ViewAt w pv b N rows) (hn9 : rows.length ≤ 1000) :
    Calls Try.prog 19 #[pv] w fun e w' => ∃ (a : Option Addr) (c : Nat) (rs : List PRow), e = .returned (.slice a rows.length c) ∧ SliceOf rowK w' a rows.length c rs ∧ rs.map PRow.strip = rows.map PRow.strip ∧ Below w.heap.size w w' := by
  obtain ⟨F, hmo, hF⟩ := h.mapOr
  obtain ⟨vb, hpv, _⟩ := h.has
  have HPL := Lib.hid (places_any h.hasIt hmo)
  have HPR : Hid (∀ ss : List RefD, SortedKeys F ss → ss.length = rows.length ∧ ∀ j (h1 : j < ss.length) (h2 : j < rows.length), ss[j].tx = rows[j].tx ∧ ss[j].place = rows[j].place) := Lib.hid (fun ss hs => places_rows hF h.rising h.ok hs)
  subst hpv
  obtain ⟨len, hlen⟩ : ∃ l, l = rows.length := ⟨_, rfl⟩
  have HV := Lib.hid h
  have HLEN := Lib.hid hlen
  rw [← hlen] at hn9 ⊢
  clear h hmo hF hlen
  go_enter Try.func19, Try.ntmps19
  go_upto_region 3 with (first | (go_at_call 27; refine HPL.out.mono ?_; rintro e w3 ⟨v3, ss, rfl, hk3, ho3, hb3⟩; obtain ⟨hssl, hssg⟩ := HPR.out ss hk3; rw [← HLEN.out] at hssl; obtain ⟨as9, cs, rfl, _⟩ := ho3.shape; rw [hssl] at ho3 ⊢; have HSS := Lib.hid (ho3.slice (fun x _ => trivial)); have HB3 := Lib.hid hb3; have HSG := Lib.hid hssg; have HSL := Lib.hid hssl; clear hk3 ho3 hb3 hssg hssl HPL HPR) | fail)
  have hc63 : (cs : Int) ≤ 9223372036854775807 := by have h2 := HSS.out.2.2.1; unfold maxLen at h2; omega
  have hlc : (len : Int) ≤ (cs : Int) := by have h2 := HSS.out.2.1; omega
  go_loopw [3, 9] (fun v i wr => ∃ (j : Nat) (rs : List PRow), j ≤ len ∧ i = .int .i64 j ∧ rs.length = j ∧ OwnOf rowK 43 wr w3.heap.size v rs ∧ rs.map PRow.strip = (rows.take j).map PRow.strip ∧ (∀ r ∈ rs, TypedRow wr r) ∧ Below w3.heap.size w3 wr) (fun _ i _ => len - (intOf i).toNat)
  case atStart => exact ⟨0, [], Nat.zero_le _, rfl, rfl, OwnOf.nil _ _ _ _, by simp, (fun r hr => by cases hr), Below.refl _ _⟩
  case round =>
    obtain ⟨j, rs, hj, rfl, hrl, hown, hst, htr, hbr⟩ := hrel
    have HST := Lib.hid hst
    have HRL := Lib.hid hrl
    have HOWN := Lib.hid hown
    have HTR := Lib.hid htr
    have HBR := Lib.hid hbr
    obtain ⟨va, vc, rfl, _⟩ := hown.shape
    rw [hrl] at HOWN ⊢
    clear hst hown htr hbr hrl
    by_cases hjn : j < len
    · have f1 : (j : Int) < (len : Int) := by omega
      have f0 : (0 : Int) ≤ (j : Int) := by omega
      have ft : ((j : Int)).toNat = j := by omega
      have hVr := (HV.out.below HB3.out).below (HBR.out.mono (Nat.le_refl _))
      have hSr := HSS.out.below HBR.out
      obtain ⟨b1, o1, e1, hltb, hcc⟩ := hSr.2.2.2.2.2 (by omega)
      have hrx : wr.rangeAt b1 (o1 + j * 33) (ss.getD j noRef).cells := hcc j hjn
      have hjr : j < rows.length := by rw [← HLEN.out]; exact hjn
      have hjs : j < ss.length := by rw [HSL.out]; exact hjn
      obtain ⟨ht1, ht2⟩ := HSG.out j hjs hjr
      have hmem : rows[j] ∈ rows := List.getElem_mem hjr
      have hok := hVr.ok _ hmem
      obtain ⟨a, n, c, ys, hl, hw, hys, hn1, hn16, hfk⟩ := look_row hVr hmem
      have hstep : (rows.take (j + 1)).map PRow.strip = (rows.take j).map PRow.strip ++ [rows[j].strip] := by
        rw [List.take_succ_eq_append_getElem hjr, List.map_append]
        rfl
      have hgd : ss.getD j noRef = ss[j] := by rw [List.getD_eq_getElem?_getD, List.getElem?_eq_getElem hjs]; rfl
      obtain ⟨F2, hm2, hF2⟩ := hVr.map
      obtain ⟨u2, hu2, a2, n2, c2, ys2, rfl, hw2, _, hst2⟩ := hF2.2 _ hmem
      obtain ⟨vb2, hvb2, hvh2⟩ := hVr.has
      cases hvb2
      rw [hgd] at hrx
      revert hrx ht1 ht2
      generalize ss[j] = x
      intro hrx ht1 ht2
      obtain ⟨f1k, f2k, f3k⟩ := outOk_few hok.out
      have hys2l := strip_len hst2
      have hn2l := hw2.1
      have HCX : Hid (∀ W : World, Below wr.heap.size wr W → Calls Try.prog 28 #[coinV rows[j].out.m a2 n2 c2 rows[j].height] W fun e w' => ∃ (a' : Option Addr) (c' : Nat) (zs : List PWay), e = .returned (coinV rows[j].out.m a' n2 c' rows[j].height) ∧ Ways w' a' n2 c' zs ∧ zs.map PWay.strip = rows[j].out.ws.map PWay.strip ∧ TypedW w' a' n2 zs ∧ Below W.heap.size W w') := Lib.hid (fun W hW => by
        refine (copied_any (hw2.below hW) (.inr (by omega)) (by omega) (fewKeys_strip hst2 f1k)).mono ?_
        rintro e w' ⟨a', c', zs, rfl, k1, k2, _, k3, k4⟩
        exact ⟨a', c', zs, rfl, k1, k2.trans hst2, k3, k4⟩)
      have HFX : Hid (∀ (W : World) (a7 : Option Addr) (n7 c7 : Nat) (ys7 : List PWay), ys7.map PWay.strip = rows[j].out.ws.map PWay.strip → (rs ++ [(⟨x.tx, x.place, ⟨rows[j].out.m, a7, n7, c7, ys7⟩, rows[j].height⟩ : PRow)]).map PRow.strip = (rows.take (j + 1)).map PRow.strip) := Lib.hid (fun W a7 n7 c7 ys7 h7 => by
        rw [List.map_append, HST.out, hstep]
        congr 1
        show [PRow.strip _] = _
        unfold PRow.strip
        simp only [ht1, ht2, h7])
      have hmfit : Fits rows[j].out.m := by
        have h8 := hok.out
        unfold outOk at h8
        simp only [Bool.and_eq_true, decide_eq_true_eq] at h8
        constructor <;> omega
      have hhfit : Fits rows[j].height := by have h8 := hok.low; have h10 := hok.high; constructor <;> omega
      rw [← ht1, ← ht2] at hu2
      revert HCX HFX hu2 hmfit hhfit
      generalize rows[j].out.m = m
      generalize rows[j].height = ht
      generalize rows[j].out.ws = wsj
      intro hu2 HCX HFX hmfit hhfit
      have RX := Lib.hid hrx
      have HS := Lib.hid x.hs
      have HP := Lib.hid x.hp
      have HM := Lib.hid hmfit
      have HH := Lib.hid hhfit
      have HUF := Lib.hid hu2
      have HMR := Lib.hid hm2
      have HVH := Lib.hid hvh2
      have SX : Hid ((Try.prog.info? 32).map (·.size) = some x.cells.length) := Lib.hid (by rw [x.len]; exact Try.sizeRef)
      subst e1
      clear hVr hSr hcc hrx hok hl hw hys hn1 hn16 hfk hstep hgd hm2 hF2 hu2 hw2 hst2 hvh2 hmem hjr hjs ht1 ht2 f1k f2k f3k hys2l hn2l hltb hmfit hhfit a n c ys
      go_upto_region 5 with (first
        | (refine wpList_load_mid rfl 32 _ rfl b1 (o1 + j * 33) rfl x.cells _ RX.out Try.underlying32 rfl SX.out ?_)
        | (refine wpList_layRef rfl _ _ rfl wr x rfl rfl rfl ?_)
        | fail)
      have h5 := layRef_heap wr x
      have hwk : Below wr.heap.size wr (layRef wr x) := ⟨rfl, rfl, rfl, by rw [layRef_size]; omega, fun k hk => layRef_old wr x hk⟩
      have hlt : wr.heap.size < (layRef wr x).heap.size := by rw [layRef_size]; omega
      revert h5 hwk hlt
      generalize layRef wr x = w5
      obtain ⟨g5, hg5⟩ : ∃ g, g = wr.heap.size := ⟨_, rfl⟩
      rw [← hg5]
      intro h5 hwk hlt
      rw [hg5] at hwk
      have hvb5 := (hwk.block _ (lt_of_block HVH.out)).trans HVH.out
      obtain ⟨es2, cl2, hes2⟩ := (MapRef.below HMR.out hwk).isMap
      have HM5 := Lib.hid (MapRef.below HMR.out hwk)
      have CV : Hid (∀ W : World, Kept9 w5 W → W.cell? ⟨vb, 0, none⟩ = some (.map (some b))) := Lib.hid (fun W hW => cell_of_row W vb 0 _ _ _ (hW.same _ _ hvb5 (fun cs fr e => by injection e with _ e2 _; exact absurd e2 (by decide))))
      have RG : Hid (∀ W : World, Kept9 w5 W → W.rangeAt g5 0 x.cells) := Lib.hid (fun W hW => range_of (hW.same _ _ h5 (fun cs fr e => by injection e with _ e2 _; exact absurd e2 (by decide))))
      have HL : Hid (∀ W : World, Kept9 w5 W → (Instr.lookup 49 (.map (some b)) (.agg (refCells x.tx x.place).toArray) false).run Try.prog W = .ok (coinV m a2 n2 c2 ht) W) := Lib.hid (fun W hW => by
        have h7 := (MapRef.same9 HM5.out ((hW.same _ _ hes2 (fun cs fr e => by cases e)).trans hes2.symm)).get Try.underlying49 (z := .agg #[.int .i64 0, .slice none 0 0, .int .i64 0]) (Try.zeroValue41 W) x.hs x.hp
        rw [HUF.out] at h7
        exact h7)
      have HC := Lib.hid (HCX.out w5.drew (below_drew hwk))
      have HO5 := Lib.hid (HOWN.out.below hwk)
      have HTR5 : Hid (∀ r ∈ rs, TypedRow w5 r) := Lib.hid (fun r hr => (HTR.out r hr).below hwk)
      have HB5 : Hid (Below w3.heap.size w3 w5) := Lib.hid (HBR.out.trans (hwk.mono HBR.out.size))
      clear h5 hwk hlt hvb5 hes2 hg5 HVH HMR HM5 HUF HCX RX
      refine wp_region_held_drew (S := fun w' => Kept9 w5 w') (by kernel_rfl) ((Kept9.refl w5).drew) (fun hHeld => ?_)
      refine take_at (i := 0) (v := ?_) rfl rfl (by kernel_rfl) (by kernel_rfl) (by kernel_rfl) (fun _ _ _ h => h) (Or.inl ⟨by rfl, ?_⟩) (by assumption) ?_
      rotate_left
      · intro w0 hSw; (try dsimp only at hSw); first | (go_simp; done) | (go_simp; with_reducible rfl)
      simp only [List.setIfInBounds_toArray, List.set_cons_zero, List.set_cons_succ]
      refine take_at (i := 1) rfl rfl (by kernel_rfl) (by kernel_rfl) (by kernel_rfl) (fun _ _ _ h => h) (yieldsIf_load_mid (by rfl) _ _ rfl g5 0 rfl x.cells _ (fun w0 hSw => RG.out w0 hSw) Try.underlying32 rfl SX.out) (by assumption) ?_
      simp only [List.setIfInBounds_toArray, List.set_cons_zero, List.set_cons_succ]
      refine take_at (i := 2) (v := ?_) rfl rfl (by kernel_rfl) (by kernel_rfl) (by kernel_rfl) (fun _ _ _ h => h) (Or.inl ⟨by rfl, ?_⟩) (by assumption) ?_
      rotate_left
      · intro w0 hSw; (try dsimp only at hSw); first | (go_simp; done) | (go_simp; with_reducible rfl)
      simp only [List.setIfInBounds_toArray, List.set_cons_zero, List.set_cons_succ]
      refine take_at (i := 3) (v := ?_) rfl rfl (by kernel_rfl) (by kernel_rfl) (by kernel_rfl) (fun _ _ _ h => h) (Or.inl ⟨by rfl, ?_⟩) (by assumption) ?_
      rotate_left
      · intro w0 hSw; (try dsimp only at hSw); first | (go_simp; done) | (go_simp; with_reducible rfl)
      simp only [List.setIfInBounds_toArray, List.set_cons_zero, List.set_cons_succ]
      refine take_at (i := 4) (v := ?_) rfl rfl (by kernel_rfl) (by kernel_rfl) (by kernel_rfl) (fun _ _ _ h => h) (Or.inl ⟨by rfl, ?_⟩) (by assumption) ?_
      rotate_left
      · intro w0 hSw; (try dsimp only at hSw); first | (go_simp; done) | (go_simp; with_reducible rfl)
      simp only [List.setIfInBounds_toArray, List.set_cons_zero, List.set_cons_succ]
      refine take_at (i := 5) rfl rfl (by kernel_rfl) (by kernel_rfl) (by kernel_rfl) (fun _ _ _ h => h) (yields_cell (b := vb) (o := 0) (by rfl) rfl rfl (fun w0 hSw => CV.out w0 hSw) (fun w0 => Try.isAgg49 w0)) (by assumption) ?_
      simp only [List.setIfInBounds_toArray, List.set_cons_zero, List.set_cons_succ]
      refine take_at (i := 6) rfl rfl (by kernel_rfl) (by kernel_rfl) (by kernel_rfl) (fun _ _ _ h => h) (yieldsIf_load_mid (by rfl) _ _ rfl g5 0 rfl x.cells _ (fun w0 hSw => RG.out w0 hSw) Try.underlying32 rfl SX.out) (by assumption) ?_
      simp only [List.setIfInBounds_toArray, List.set_cons_zero, List.set_cons_succ]
      refine take_at (i := 7) rfl rfl (by kernel_rfl) (by kernel_rfl) (by kernel_rfl) (fun _ _ _ h => h) (yields_lookup (by rfl) rfl rfl rfl (fun w0 hSw => HL.out w0 hSw)) (by assumption) ?_
      simp only [List.setIfInBounds_toArray, List.set_cons_zero, List.set_cons_succ]
      refine wpAnyH_ready (rs := [8]) (by kernel_rfl) (by simp) ?_
      refine AllReadyH.cons rfl (fun K hK => ?_) ?_
      · go_simp
        refine HC.out.mono ?_
        rintro e w7 ⟨a7, c7, ys7, rfl, hw7, hst7, ht7, hb7⟩
        dsimp only
        have HB7 := Lib.hid ((below_drew (Below.refl w5.heap.size w5)).trans hb7)
        have HST7 := Lib.hid hst7
        have HT7 : Hid (TypedRow w7 (⟨x.tx, x.place, ⟨m, a7, n2, c7, ys7⟩, ht⟩ : PRow)) := Lib.hid ⟨⟨HS.out, HP.out, ⟨HM.out, hw7⟩, HH.out⟩, ht7⟩
        have HO7 := Lib.hid (HO5.out.below HB7.out)
        have HTR7 : Hid (∀ r ∈ rs, TypedRow w7 r) := Lib.hid (fun r hr => (HTR5.out r hr).below HB7.out)
        clear hw7 hst7 ht7 hb7 HC
        refine hK.out _ _ (by (try dsimp only); exact Kept9.of HB7.out) (fun hHeld => ?_)
        clear hK K
        refine take_at (i := 9) rfl rfl (by kernel_rfl) (by kernel_rfl) (by kernel_rfl) (fun _ _ _ h => h) (yields_build9 (by rfl) rfl (u := .agg x.cells.toArray) (v := coinV m a7 n2 c7 ht) rfl rfl (fun w => run_build_row HS.out m a7 n2 c7 ht ys7 w)) (by assumption) ?_
        simp only [List.setIfInBounds_toArray, List.set_cons_zero, List.set_cons_succ]
        refine wpAnyH_ready (rs := [10]) (by kernel_rfl) (by simp) ?_
        refine AllReadyH.cons rfl (fun K hK => ?_) ?_
        · refine step_lit_of Try.rowAt9 rfl (by rfl) rfl (x := (⟨x.tx, x.place, ⟨m, a7, n2, c7, ys7⟩, ht⟩ : PRow)) rfl (PRow.len HS.out) ?_
          intro p8 w8 hp8 hx8 hb8
          have HB8 := Lib.hid hb8
          have HX8 := Lib.hid hx8
          have HO8 := Lib.hid (HO7.out.below hb8)
          have HT8 := Lib.hid (HT7.out.below hb8)
          have HTR8 : Hid (∀ r ∈ rs, TypedRow w8 r) := Lib.hid (fun r hr => (HTR7.out r hr).below HB8.out)
          clear hp8 hx8 hb8 HO7 HT7 HTR7
          refine hK.out _ _ (by (try dsimp only); exact Kept9.of (HB7.out.trans (HB8.out.mono HB7.out.size))) (fun hHeld => ?_)
          clear hK K
          refine wpAnyH_ready (rs := [11]) (by kernel_rfl) (by simp) ?_
          refine AllReadyH.cons rfl (fun K hK => ?_) ?_
          · refine step_append_of Try.rowAt9 rfl (by rfl) _ _ rfl rfl w3.heap.size (.slice va j vc) rs rfl HO8.out p8 (⟨x.tx, x.place, ⟨m, a7, n2, c7, ys7⟩, ht⟩ : PRow) rfl HX8.out (PRow.len HS.out) (by rw [HRL.out]; omega) (Nat.le_trans HB5.out.size (Nat.le_trans HB7.out.size HB8.out.size)) ?_
            intro a9 c9 w9 ho9 hg9
            rw [HRL.out] at ho9 ⊢
            have HO9 := Lib.hid ho9
            have HG9 := Lib.hid hg9
            have HT9 := Lib.hid (HT8.out.grown HO8.out hg9)
            have HTR9 : Hid (∀ r ∈ rs ++ [(⟨x.tx, x.place, ⟨m, a7, n2, c7, ys7⟩, ht⟩ : PRow)], TypedRow w9 r) := Lib.hid (fun r hr => by
              rcases List.mem_append.1 hr with hr | hr
              · exact (HTR8.out r hr).grown HO8.out HG9.out
              · simp at hr
                subst hr
                exact HT9.out)
            have HB9 : Hid (Below w3.heap.size w3 w9) := Lib.hid ((HB5.out.trans ((HB7.out.trans (HB8.out.mono HB7.out.size)).mono HB5.out.size)).trans (HO8.out.grows hg9 (Nat.le_trans HB5.out.size (Nat.le_trans HB7.out.size HB8.out.size))))
            have HK9 : Hid (Kept9 w5 w9) := Lib.hid ((Kept9.of (HB7.out.trans (HB8.out.mono HB7.out.size))).trans (Kept9.own HO8.out hg9))
            clear ho9 hg9
            refine hK.out _ _ (by (try dsimp only); exact HK9.out) (fun hHeld => ?_)
            clear hK K
            refine take_at (i := 12) (v := ?_) rfl rfl (by kernel_rfl) (by kernel_rfl) (by kernel_rfl) (fun _ _ _ h => h) (Or.inl ⟨by rfl, ?_⟩) (by assumption) ?_
            rotate_left
            · intro w0 hSw; (try dsimp only at hSw); first | (go_simp; done) | (go_simp; with_reducible rfl)
            simp only [List.setIfInBounds_toArray, List.set_cons_zero, List.set_cons_succ]
            refine wpAnyH_done (by kernel_rfl) ?_ _
            try simp only [Act.put]
            go_wp2_with fail
            go_roundw
            case rel => exact ⟨j + 1, rs ++ [(⟨x.tx, x.place, ⟨m, a7, n2, c7, ys7⟩, ht⟩ : PRow)], by omega, by go_num, by rw [List.length_append, HRL.out]; rfl, HO9.out, HFX.out w9 a7 n2 c7 ys7 HST7.out, HTR9.out, HB9.out⟩
            case measure => simp [intOf]; omega
          exact AllReadyH.nil
        exact AllReadyH.nil
      exact AllReadyH.nil
    · obtain rfl : j = len := by omega
      have f1 : ¬ ((j : Int) < (j : Int)) := by omega
      clear hjn hj hlc
      go_wp2_with fail
      go_ret
      refine ⟨va, vc, rfl, rs, HOWN.out.slice (fun r hr => (HTR.out r hr).1), ?_, HB3.out.trans (HBR.out.mono HB3.out.size)⟩
      rw [HST.out, HLEN.out, List.take_length]
end Go.Proofs.Ytdeilkpcmgcbaaa
