/- LockReads, walked. -/
import Derived.Test.YtdaafeaeinomoaaDoorLockGet
import Derived.Test.YtdaafeaeinomoaaDoorLaw7Out
import Derived.Test.YtdaafeaeinomoaaDoorAwake7
import Derived.Test.YtdaafeaeinomoaaDoorConvs
namespace Go.Proofs.YtdaafeaeinomoaaDoor
open Go.RowKit

theorem run_bcut_to {a : Option Addr} {n c A : Nat} (hA : A ≤ c) (W : World) : (Instr.sliceAt 27 (.slice a n c) none (some (.int .i64 (A : Int))) none).run Tryd.prog W = .ok (.slice a A c) W := by
  have hu : Tryd.prog.underlying 27 = some (.slice (Tryd.prog.elem 27)) := by kernel_rfl
  have hs : (sizeOf (Tryd.prog.elem 27)).run Tryd.prog W = .ok 1 W := by kernel_rfl
  rw [run_sliceAt_slice W _ _ _ _ _ hu, run_slice_h W _ a n c hu .i64 (A : Int) (by omega) (by omega), hs]
  simp [Result.andThen, sliced]
  intro _
  cases a with
  | none => rfl
  | some x => obtain ⟨b, o, sp⟩ := x; cases sp <;> simp [Addr.add]
theorem yields_bto {ops : Array Oper} {S : World → Prop} {op : Oper} {a : Act} {x hi : Operand} {ad : Option Addr} {n c A : Nat} (hw : Region.wanted op (yielded ops a.tmps) = true) (ho : op.op = .slice 27 x none (some hi) none) (hx : a.eval x = .slice ad n c) (hhi : a.eval hi = .int .i64 (A : Int)) (hA : A ≤ c) :
    YieldsIf Tryd.prog ops S op (.slice ad A c) a :=
  .inl ⟨hw, fun w _ => by
    have h := run_bcut_to (a := ad) (n := n) hA w
    unfold execOp
    simp only [ho, hx, hhi, Option.map_some, Option.map_none, Sem.run_bind, h, Result.andThen_ok, Sem.run_pure]⟩
set_option linter.unusedSimpArgs false in
set_option maxRecDepth 100000 in
set_option maxHeartbeats 12800000 in
theorem readsLaw_walk {w : World} {a : Option Addr} {n c : Nat} {l : List UInt8} (h : Row w a n c l) (hk : KsAt w) :
    Calls Tryd.prog 6 #[.slice a n c] w fun e w' => e = .returned (.bool true) ∧ Below w.heap.size w w' := by
  have hn63 : (n : Int) ≤ 9223372036854775807 := by have h1 := h.2.1; have h2 := h.2.2.1; unfold maxLen at h2; omega
  have hc63 : (c : Int) ≤ 9223372036854775807 := by have h2 := h.2.2.1; unfold maxLen at h2; omega
  have hnc := h.2.1
  have H := Lib.hid h
  have HK := Lib.hid hk
  clear h hk
  go_enter Tryd.func6, Tryd.ntmps6
  go_upto_if 9 with (fail)
  go_cut [0] from 7 to 43 (fun u w' => ∃ k q, u = .slice a k c ∧ k ≤ 400 ∧ Row w a k c q ∧ w = w')
  case first =>
    by_cases hn : n ≤ 400
    · have f1 : ¬ 400 < (n : Int) := by omega
      go_wp2_with fail
      go_meet
      exact ⟨n, l, rfl, hn, H.out, rfl⟩
    · have f1 : 400 < (n : Int) := by omega
      have f2 : 400 ≤ c := by omega
      have f3 : (400 : Int) ≤ (c : Int) := by omega
      go_wp2_with fail
      go_meet
      exact ⟨400, l.take 400, rfl, Nat.le_refl _, H.out.take (by omega), rfl⟩
  case rest =>
    obtain ⟨k, q, rfl, hk400, hq, rfl⟩ := hcut
    have HKW := Lib.hid HK.out
    have hql := hq.1
    have HQ := Lib.hid hq
    have hkc := hq.2.1
    have HLK := Lib.hid (look_any hq (by omega))
    clear hq H hnc hn63
    go_wp2_with fail
    refine HLK.out.mono ?_
    rintro e w1 ⟨yb, rfl, hyb, he1, hb1⟩
    have HE1 := Lib.hid he1
    have HB1 := Lib.hid hb1
    have HG := Lib.hid (lockGet_st (s := (q, 0)) he1 (by show q.length ≤ _; omega))
    clear he1 hb1 HLK
    go_wp2_with fail
    refine HG.out.mono ?_
    rintro e w2 ⟨a2, n2, c2, xs, rfl, hws, _, _, hmap, he2, hb2⟩
    obtain ⟨m, qs, s', hR⟩ : ∃ m qs s', outR (q, 0) = ((m, qs), s') := ⟨_, _, _, rfl⟩
    rw [hR] at hmap he2 ⊢
    dsimp only at hmap he2 ⊢
    have HR := Lib.hid hR
    have HM := Lib.hid hmap
    have HWS := Lib.hid hws
    have HE2 := Lib.hid he2
    have HB2 := Lib.hid (HB1.out.trans ((hb2.mono HB1.out.size).below hyb))
    clear hR hmap hws he2 hb2 HG HB1 HE1
    go_upto_region 5 with (fail)
    have b3 : Below w2.heap.size w2 (w2.alloc (.cells #[.int .i64 m, .slice a2 n2 c2] 38)) := (Below.refl _ _).alloc (Nat.le_refl _) _
    have h3 := heap_alloc_new w2 (.cells #[.int .i64 m, .slice a2 n2 c2] 38)
    revert b3 h3
    generalize (w2.alloc (.cells #[.int .i64 m, .slice a2 n2 c2] 38)) = w3
    obtain ⟨g4, hg4⟩ : ∃ g4, g4 = w2.heap.size := ⟨_, rfl⟩
    rw [← hg4]
    intro b3 h3
    rw [hg4] at b3
    have H3 := Lib.hid h3
    have HW3 := Lib.hid (HWS.out.below b3)
    have HE3 := Lib.hid (HE2.out.below b3)
    have HB3 := Lib.hid (HB2.out.trans (b3.mono HB2.out.size))
    have HK3 := Lib.hid (HK.out.below HB3.out)
    clear b3 h3 hg4 HWS HE2 HB2 HK
    go_wp2_with fail
    refine (err_at HE3.out).mono ?_
    rintro e w3' ⟨rfl, rfl⟩
    obtain ⟨ec, hec⟩ : ∃ ec, ec = s'.2 := ⟨_, rfl⟩
    rw [← hec]
    by_cases h0 : ec = 0
    case neg =>
      have hb : (ec != 0) = true := by simp [h0]
      clear h0 hec
      go_wp2_with (first | (go_at_call 9; (with_reducible refine (awake_any HK3.out).mono ?_); rintro e w5 ⟨rfl, hb5⟩; have HB5 := Lib.hid hb5; clear hb5) | fail)
      go_ret
      exact ⟨rfl, HB3.out.trans (HB5.out.mono HB3.out.size)⟩
    case pos =>
      have hb : (ec != 0) = false := by simp [h0]
      obtain ⟨hok, _, hpre⟩ := outR_ok (s := (q, 0)) (by rw [HR.out]; exact hec.symm.trans h0)
      rw [HR.out] at hok hpre
      dsimp only at hok hpre
      obtain ⟨o1, o2, o3, o4, o5⟩ := outOk_parts hok
      have hxo : outOk m xs = true := by rw [← outOk_strip, HM.out]; exact hok
      obtain ⟨_, _, p3, p4, p5⟩ := outOk_parts hxo
      have hP : outB m qs = outB m xs := by rw [← HM.out, outB_strip]
      rw [hP] at hpre
      have hpl : (outB m xs).length ≤ 100000 := by
        have e1 := congrArg List.length hpre
        rw [List.length_append] at e1
        have e2 : q.length ≤ 400 := by omega
        show (outB m xs).length ≤ 100000
        omega
      obtain ⟨P, hPd⟩ : ∃ P, P = outB m xs := ⟨_, rfl⟩
      obtain ⟨L, hLd⟩ : ∃ L, L = P.length := ⟨_, rfl⟩
      rw [← hPd] at hpre hpl
      have hLk : L ≤ k := by
        have e1 := congrArg List.length hpre
        rw [List.length_append] at e1
        omega
      have hLc : L ≤ c := by omega
      have hqt : q.take L = P := by rw [hpre, hLd]; simp
      have HQL0 : Hid (Row w a L c P) := Lib.hid (by have h9 := HQ.out.take hLk; rw [hqt] at h9; exact h9)
      have HXO := Lib.hid hxo
      have HPD := Lib.hid hPd
      have HLD := Lib.hid hLd
      have HPL := Lib.hid hpl
      have hn2 : n2 ≤ 16 := by rw [← HW3.out.1]; exact p4
      have HKS : Hid (∀ x ∈ xs, x.ks.length ≤ 1000) := Lib.hid (fun x hx => by have := (wayOk_parts (p5 x hx)).1; omega)
      have HFM : Hid (Fits m) := Lib.hid ⟨by omega, by omega⟩
      clear h0 hec hok hpre o1 o2 o3 o4 o5 hxo p3 p4 p5 hP hPd hLd hpl hqt hql HR HM HE3
      go_upto_region 8 with (fail)
      clear hb
      have b4 : Below w3.heap.size w3 (w3.alloc (.cells #[.pointer none, .int .i64 0] 43)) := (Below.refl _ _).alloc (Nat.le_refl _) _
      have h4 := heap_alloc_new w3 (.cells #[.pointer none, .int .i64 0] 43)
      revert b4 h4
      generalize (w3.alloc (.cells #[.pointer none, .int .i64 0] 43)) = w4
      obtain ⟨pb, hpb⟩ : ∃ pb, pb = w3.heap.size := ⟨_, rfl⟩
      rw [← hpb]
      intro b4 h4
      rw [hpb] at b4
      have hbz4 : pb ≤ w4.heap.size := by rw [hpb]; exact b4.size
      have hlt3 := lt_of_block H3.out
      have RG4 := Lib.hid (rangeAt_below (range_of (cs := [.int .i64 m, .slice a2 n2 c2]) H3.out) hlt3 b4)
      have HPT := Lib.hid (lockPut_at (B := pb) (pb := pb) (l := []) (m := m) (HW3.out.below b4) (HW3.out.oldWs (by omega) (by omega)) (.inl ⟨h4, rfl⟩) hbz4 HFM.out (by omega) HKS.out (by have h9 := HPL.out; rw [HPD.out] at h9; show 0 + _ ≤ _; omega))
      rw [← HPD.out, List.nil_append] at HPT
      have HB4 := Lib.hid (HB3.out.trans (b4.mono HB3.out.size))
      have hpb3 : w3.heap.size ≤ pb := by omega
      have HB34 := Lib.hid b4
      clear b4 h4 hlt3 hpb
      go_wp2_with (first | (refine wpList_load_mid rfl 38 _ rfl g4 0 rfl [.int .i64 m, .slice a2 n2 c2] _ RG4.out Tryd.underlying38 rfl size_out ?_) | fail)
      refine HPT.out.mono ?_
      rintro e w5 ⟨rfl, hp5, hb5, _⟩
      have hbw : Below w3.heap.size w3 w5 := HB34.out.trans ((hb5.mono hpb3).below hpb3)
      have HP5 := Lib.hid hp5
      have H5 := Lib.hid ((hbw.block _ (lt_of_block H3.out)).trans H3.out)
      have HW5 := Lib.hid (HW3.out.below hbw)
      have HB5 := Lib.hid (HB3.out.trans (hbw.mono HB3.out.size))
      have hbz5 : pb ≤ w5.heap.size := Nat.le_trans hbz4 hb5.size
      have HPL2 : Hid (P.length ≤ 140737488355328) := Lib.hid (by have := HPL.out; omega)
      clear hp5 hb5 hbw HPT RG4 HB4 HB34 H3 HW3 HK3
      go_wp2_with fail
      refine (bytes_any HP5.out HPL2.out).mono ?_
      rintro e w6 ⟨a6, n6, c6, rfl, hr6, _, hb6⟩
      obtain rfl : n6 = L := by rw [HLD.out]; exact hr6.1.symm
      have HP6 := Lib.hid (HP5.out.below hbz5 hb6)
      have H6 := Lib.hid ((hb6.block _ (lt_of_block H5.out)).trans H5.out)
      have hlt6 := lt_of_block H6.out
      have RG6 := Lib.hid (range_of (cs := [.int .i64 m, .slice a2 n2 c2]) H6.out)
      have HW6 := Lib.hid (HW5.out.below hb6)
      have HB6 := Lib.hid (HB5.out.trans (hb6.mono HB5.out.size))
      have HRO : Hid (∀ W : World, Below w6.heap.size w6 W → Calls Tryd.prog 16 #[.agg #[.int .i64 m, .slice a2 n2 c2]] W fun e w' => e = .returned (.bool true) ∧ Below W.heap.size W w') := Lib.hid (fun W hW => by have h9 := rightOut_law (m := m) (HW6.out.below hW); rw [HXO.out] at h9; exact h9)
      have HBY := Lib.hid (fun (W : World) (hW : Below w6.heap.size w6 W) => bytes_any (HP6.out.below (Nat.le_trans hbz5 hb6.size) hW) HPL2.out)
      have HAW := Lib.hid (fun (W : World) (hW : Below w6.heap.size w6 W) => awake_any (HKW.out.below (HB6.out.trans (hW.mono HB6.out.size))))
      have HQL := Lib.hid (HQL0.out.below HB6.out)
      obtain ⟨bs, hbs⟩ : ∃ bs : ByteArray, (⟨P.toArray⟩ : ByteArray) = bs := ⟨_, rfl⟩
      have HBS := Lib.hid hbs
      have f6 : (n6 : Int) ≤ (k : Int) := by omega
      clear hr6 hb6 hbs HP5 H5 HW5 HB5 HXO HW6 HP6 HKS HFM HPD HPL HQL0
      go_upto_region 10 with (fail)
      refine wp_region_held_drew (S := fun w' => Below w6.heap.size w6 w') (by kernel_rfl) (below_drew (Below.refl _ _)) (fun hHeld => ?_)
      refine take_at (i := 0) rfl rfl (by kernel_rfl) (by kernel_rfl) (by kernel_rfl) (fun _ _ _ h => h) (yieldsIf_load_mid (by rfl) _ _ rfl g4 0 rfl [.int .i64 m, .slice a2 n2 c2] _ (fun w0 hSw => rangeAt_below RG6.out hlt6 hSw) Tryd.underlying38 rfl size_out) (by assumption) ?_
      simp only [List.setIfInBounds_toArray, List.set_cons_zero, List.set_cons_succ]
      refine wpAnyH_ready (rs := [1]) (by kernel_rfl) (by simp) ?_
      refine AllReadyH.cons rfl (fun K hK => ?_) ?_
      · have hS1 : Below w6.heap.size w6 w6.drew := hHeld
        have HC1 := Lib.hid (HRO.out _ hS1)
        clear hS1
        go_simp
        go_wp2_with ((go_at_call 16; (with_reducible refine (HC1.out).mono ?_); rintro e y1 ⟨rfl, hb1⟩; have HX1 := Lib.hid hb1; clear hb1))
        refine hK.out _ _ (by (try dsimp only); exact Below.trans hHeld (HX1.out.mono (Below.size hHeld))) (fun hHeld => ?_)
        clear hK K
        refine take_at (i := 2) (v := ?_) rfl rfl (by kernel_rfl) (by kernel_rfl) (by kernel_rfl) (fun _ _ _ h => h) (Or.inl ⟨by rfl, ?_⟩) (by assumption) ?_
        rotate_left
        · intro w0 hSw; (try dsimp only at hSw); first | (go_simp; done) | (go_simp; with_reducible rfl)
        simp only [List.setIfInBounds_toArray, List.set_cons_zero, List.set_cons_succ]
        refine take_at (i := 3) (v := ?_) rfl rfl (by kernel_rfl) (by kernel_rfl) (by kernel_rfl) (fun _ _ _ h => h) (Or.inl ⟨by rfl, ?_⟩) (by assumption) ?_
        rotate_left
        · intro w0 hSw; (try dsimp only at hSw); first | (go_simp; done) | (go_simp; with_reducible rfl)
        simp only [List.setIfInBounds_toArray, List.set_cons_zero, List.set_cons_succ]
        refine take_at (i := 4) (v := ?_) rfl rfl (by kernel_rfl) (by kernel_rfl) (by kernel_rfl) (fun _ _ _ h => h) (Or.inl ⟨by rfl, ?_⟩) (by assumption) ?_
        rotate_left
        · intro w0 hSw; (try dsimp only at hSw); first | (go_simp; done) | (go_simp; with_reducible rfl)
        simp only [List.setIfInBounds_toArray, List.set_cons_zero, List.set_cons_succ]
        refine take_at (i := 5) (v := ?_) rfl rfl (by kernel_rfl) (by kernel_rfl) (by kernel_rfl) (fun _ _ _ h => h) (Or.inl ⟨by rfl, ?_⟩) (by assumption) ?_
        rotate_left
        · intro w0 hSw; (try dsimp only at hSw); first | (go_simp; done) | (go_simp; with_reducible rfl)
        simp only [List.setIfInBounds_toArray, List.set_cons_zero, List.set_cons_succ]
        refine take_at (i := 6) (v := .bool true) rfl rfl (by kernel_rfl) (by kernel_rfl) (by kernel_rfl) (fun _ _ _ h => h) (Or.inl ⟨by rfl, ?_⟩) (by assumption) ?_
        · intro w0 hSw; (try dsimp only at hSw); first | (go_simp; done) | (go_simp; with_reducible rfl) | (go_simp; omega)
        simp only [List.setIfInBounds_toArray, List.set_cons_zero, List.set_cons_succ]
        refine take_at (i := 7) (v := ?_) rfl rfl (by kernel_rfl) (by kernel_rfl) (by kernel_rfl) (fun _ _ _ h => h) (Or.inl ⟨by rfl, ?_⟩) (by assumption) ?_
        rotate_left
        · intro w0 hSw; (try dsimp only at hSw); first | (go_simp; done) | (go_simp; with_reducible rfl)
        simp only [List.setIfInBounds_toArray, List.set_cons_zero, List.set_cons_succ]
        refine take_at (i := 8) (v := ?_) rfl rfl (by kernel_rfl) (by kernel_rfl) (by kernel_rfl) (fun _ _ _ h => h) (Or.inl ⟨by rfl, ?_⟩) (by assumption) ?_
        rotate_left
        · intro w0 hSw; (try dsimp only at hSw); first | (go_simp; done) | (go_simp; with_reducible rfl)
        simp only [List.setIfInBounds_toArray, List.set_cons_zero, List.set_cons_succ]
        refine take_at (i := 9) (v := ?_) rfl rfl (by kernel_rfl) (by kernel_rfl) (by kernel_rfl) (fun _ _ _ h => h) (Or.inl ⟨by rfl, ?_⟩) (by assumption) ?_
        rotate_left
        · intro w0 hSw; (try dsimp only at hSw); first | (go_simp; done) | (go_simp; with_reducible rfl)
        simp only [List.setIfInBounds_toArray, List.set_cons_zero, List.set_cons_succ]
        refine take_at (i := 10) (v := ?_) rfl rfl (by kernel_rfl) (by kernel_rfl) (by kernel_rfl) (fun _ _ _ h => h) (Or.inl ⟨by rfl, ?_⟩) (by assumption) ?_
        rotate_left
        · intro w0 hSw; (try dsimp only at hSw); first | (go_simp; done) | (go_simp; with_reducible rfl)
        simp only [List.setIfInBounds_toArray, List.set_cons_zero, List.set_cons_succ]
        refine take_at (i := 11) rfl rfl (by kernel_rfl) (by kernel_rfl) (by kernel_rfl) (fun _ _ _ h => h) (yields_bto (by rfl) rfl rfl rfl hLc) (by assumption) ?_
        simp only [List.setIfInBounds_toArray, List.set_cons_zero, List.set_cons_succ]
        refine take_at (i := 12) rfl rfl (by kernel_rfl) (by kernel_rfl) (by kernel_rfl) (fun _ _ _ h => h) (yields_conv (by rfl) rfl rfl HBS.out (fun w0 hSw => HQL.out.below hSw)) (by assumption) ?_
        simp only [List.setIfInBounds_toArray, List.set_cons_zero, List.set_cons_succ]
        refine wpAnyH_ready (rs := [13]) (by kernel_rfl) (by simp) ?_
        refine AllReadyH.cons rfl (fun K hK => ?_) ?_
        · have hS13 : Below w6.heap.size w6 y1 := hHeld
          have HC13 := Lib.hid (HBY.out _ hS13)
          clear hS13
          go_simp
          go_wp2_with ((go_at_call 24; (with_reducible refine (HC13.out).mono ?_); rintro e y13 ⟨a7, n7, c7, rfl, hr7, _, hb13⟩; have HR7 := Lib.hid hr7; have HX13 := Lib.hid hb13; clear hb13 hr7))
          refine hK.out _ _ (by (try dsimp only); exact Below.trans hHeld (HX13.out.mono (Below.size hHeld))) (fun hHeld => ?_)
          clear hK K
          refine wpAnyH_ready (rs := [14]) (by kernel_rfl) (by simp) ?_
          refine AllReadyH.cons rfl (fun K hK => ?_) ?_
          · refine step_conv (d := 38) rfl (by rfl) rfl (by rfl) HBS.out HR7.out ?_
            refine hK.out _ _ (by (try dsimp only); exact hHeld) (fun hHeld => ?_)
            clear hK K
            refine take_at (i := 15) (v := .bool true) rfl rfl (by kernel_rfl) (by kernel_rfl) (by kernel_rfl) (fun _ _ _ h => h) (Or.inl ⟨by rfl, ?_⟩) (by assumption) ?_
            · intro w0 hSw; (try dsimp only at hSw); first | (go_simp; done) | (go_simp; with_reducible rfl) | (go_simp; omega)
            simp only [List.setIfInBounds_toArray, List.set_cons_zero, List.set_cons_succ]
            refine take_at (i := 16) (v := ?_) rfl rfl (by kernel_rfl) (by kernel_rfl) (by kernel_rfl) (fun _ _ _ h => h) (Or.inl ⟨by rfl, ?_⟩) (by assumption) ?_
            rotate_left
            · intro w0 hSw; (try dsimp only at hSw); first | (go_simp; done) | (go_simp; with_reducible rfl)
            simp only [List.setIfInBounds_toArray, List.set_cons_zero, List.set_cons_succ]
            refine take_at (i := 17) (v := ?_) rfl rfl (by kernel_rfl) (by kernel_rfl) (by kernel_rfl) (fun _ _ _ h => h) (Or.inl ⟨by rfl, ?_⟩) (by assumption) ?_
            rotate_left
            · intro w0 hSw; (try dsimp only at hSw); first | (go_simp; done) | (go_simp; with_reducible rfl)
            simp only [List.setIfInBounds_toArray, List.set_cons_zero, List.set_cons_succ]
            refine wpAnyH_ready (rs := [18]) (by kernel_rfl) (by simp) ?_
            refine AllReadyH.cons rfl (fun K hK => ?_) ?_
            · have hS18 : Below w6.heap.size w6 y13 := hHeld
              have HC18 := Lib.hid (HAW.out _ hS18)
              clear hS18
              go_simp
              go_wp2_with ((go_at_call 9; (with_reducible refine (HC18.out).mono ?_); rintro e y18 ⟨rfl, hb18⟩; have HX18 := Lib.hid hb18; clear hb18))
              refine hK.out _ _ (by (try dsimp only); exact Below.trans hHeld (HX18.out.mono (Below.size hHeld))) (fun hHeld => ?_)
              clear hK K
              refine take_at (i := 19) (v := ?_) rfl rfl (by kernel_rfl) (by kernel_rfl) (by kernel_rfl) (fun _ _ _ h => h) (Or.inl ⟨by rfl, ?_⟩) (by assumption) ?_
              rotate_left
              · intro w0 hSw; (try dsimp only at hSw); first | (go_simp; done) | (go_simp; with_reducible rfl)
              simp only [List.setIfInBounds_toArray, List.set_cons_zero, List.set_cons_succ]
              refine take_at (i := 20) (v := ?_) rfl rfl (by kernel_rfl) (by kernel_rfl) (by kernel_rfl) (fun _ _ _ h => h) (Or.inl ⟨by rfl, ?_⟩) (by assumption) ?_
              rotate_left
              · intro w0 hSw; (try dsimp only at hSw); first | (go_simp; done) | (go_simp; with_reducible rfl)
              simp only [List.setIfInBounds_toArray, List.set_cons_zero, List.set_cons_succ]
              refine wpAnyH_done (by kernel_rfl) ?_ _
              have HY := Lib.hid (show Below w6.heap.size w6 y18 from hHeld)
              clear hHeld
              go_wp2_with fail
              go_ret
              exact ⟨rfl, HB6.out.trans (HY.out.mono HB6.out.size)⟩
            exact AllReadyH.nil
          exact AllReadyH.nil
        exact AllReadyH.nil
      exact AllReadyH.nil
end Go.Proofs.YtdaafeaeinomoaaDoor
