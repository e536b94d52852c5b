/- The law's change and drop once more, where the invariant may be broken: what lies in memory alone. -/
import Derived.Test.YtijanllppbambaaPlainSet
namespace Go.Proofs.Ytijanllppbambaa
open Go.RowKit Go.Maps

structure RawInv (ts : List PTE) (hs : List PHE) : Prop where
  te : ∀ x ∈ ts, TEIn x
  he : ∀ x ∈ hs, HEIn x
theorem RawInv.of {ts : List PTE} {hs : List PHE} (h : Inv ts hs) : RawInv ts hs := ⟨fun _ hx => h.teIn hx, h.hin⟩
structure PlainRaw (B : Nat) (w : World) (p : Value) (pb N : Nat) (ts : List PTE) (hs : List PHE) : Prop where
  is : p = .pointer (some ⟨pb, 0, none⟩)
  base : B ≤ pb
  parts : ∃ v1 v2, w.heap[pb]? = some (.cells #[v1, v2] 29 (0, 0)) ∧ OwnOf teK 71 w B v1 ts ∧ OwnOf heK 73 w B v2 hs
  few : N ≤ 100
  tn : ts.length ≤ N
  hn : hs.length ≤ N
  inv : RawInv ts hs
section
variable {B : Nat} {w : World} {p : Value} {pb N : Nat} {ts : List PTE} {hs : List PHE} {w' : World}
theorem PlainRaw.of (h : PlainAt B w p pb N ts hs) : PlainRaw B w p pb N ts hs := ⟨h.is, h.base, h.parts, h.few, h.tn, h.hn, .of h.inv⟩
theorem PlainRaw.full (h : PlainRaw B w p pb N ts hs) (hi : Inv ts hs) : PlainAt B w p pb N ts hs := ⟨h.is, h.base, h.parts, h.few, h.tn, h.hn, hi⟩
theorem PlainRaw.fit {M : Nat} (h : PlainRaw B w p pb N ts hs) (h1 : ts.length ≤ M) (h2 : hs.length ≤ M) (h3 : M ≤ 100) : PlainRaw B w p pb M ts hs := ⟨h.is, h.base, h.parts, h3, h1, h2, h.inv⟩
theorem PlainRaw.below (h : PlainRaw B w p pb N ts hs) (k : Below w.heap.size w w') : PlainRaw B w' p pb N ts hs := by
  obtain ⟨v1, v2, h1, h2, h3⟩ := h.parts
  exact ⟨h.is, h.base, ⟨v1, v2, keep k h1, h2.below k, h3.below k⟩, h.few, h.tn, h.hn, h.inv⟩
theorem PlainRaw.size (h : PlainRaw B w p pb N ts hs) : B ≤ w.heap.size := by
  obtain ⟨v1, v2, h1, _⟩ := h.parts
  have h2 := lt_of_block h1
  have h3 := h.base
  omega
theorem PlainRaw.read (h : PlainRaw B w p pb N ts hs) : ∃ a1 c1 a2 c2, w.heap[pb]? = some (.cells #[.slice a1 ts.length c1, .slice a2 hs.length c2] 29 (0, 0)) ∧ SliceOf teK w a1 ts.length c1 ts ∧ SliceOf heK w a2 hs.length c2 hs ∧ OwnOf teK 71 w B (.slice a1 ts.length c1) ts ∧ OwnOf heK 73 w B (.slice a2 hs.length c2) hs := by
  obtain ⟨v1, v2, h1, h2, h3⟩ := h.parts
  obtain ⟨a1, c1, rfl, _⟩ := h2.shape
  obtain ⟨a2, c2, rfl, _⟩ := h3.shape
  exact ⟨a1, c1, a2, c2, h1, h2.slice (fun x hx => h.inv.te x hx), h3.slice (fun x hx => h.inv.he x hx), h2, h3⟩
end
def RawOut (B : Nat) (w : World) (p : Value) (pb N : Nat) (ans : Value) (ts : List PTE) (hs : List PHE) (e : Ending) (w' : World) : Prop :=
  e = .returned ans ∧ PlainRaw B w' p pb (N + 1) ts hs ∧ Bar (plainOf pb) w w' ∧ Below B w w'
/-- The slice of towers is another one. -/
theorem PlainRaw.newT {B : Nat} {w : World} {p : Value} {pb N : Nat} {ts : List PTE} {hs : List PHE} {w5 w' : World} (h : PlainRaw B w p pb N ts hs) (hN : N + 1 ≤ 100) (k : Below w.heap.size w w5) {v2 ov : Value} {ts' : List PTE} (ho : OwnOf teK 71 w5 w.heap.size ov ts') (h2 : OwnOf heK 73 w B v2 hs) (hb : w'.heap[pb]? = some (.cells #[ov, v2] 29 (0, 0))) (hw : But w5.heap.size pb w5 w') (ht : ts'.length ≤ N + 1) (hpl : ∃ v1, w5.heap[pb]? = some (.cells #[v1, v2] 29 (0, 0))) (hi : RawInv ts' hs) (ans : Value) : RawOut B w p pb N ans ts' hs (.returned ans) w' := by
  obtain ⟨v1, hpb⟩ := hpl
  have hno : ∀ cs fr, w5.heap[pb]? ≠ some (.cells cs 71 fr) := fun cs fr e => by rw [hpb] at e; cases e
  have hno2 : ∀ cs fr, w5.heap[pb]? ≠ some (.cells cs 73 fr) := fun cs fr e => by rw [hpb] at e; cases e
  refine ⟨rfl, ⟨h.is, h.base, ⟨ov, v2, hb, (ho.but hw hno).lower h.size, ((h2.below k).but hw hno2)⟩, hN, ht, by have := h.hn; omega, hi⟩, (Bar.of k).trans (Bar.but hw (fun _ => .inl rfl)), (k.mono h.size).trans ((hw.mono (Nat.le_trans h.size k.size)).below h.base)⟩
theorem PlainRaw.newH {B : Nat} {w : World} {p : Value} {pb N : Nat} {ts : List PTE} {hs : List PHE} {w5 w' : World} (h : PlainRaw B w p pb N ts hs) (hN : N + 1 ≤ 100) (k : Below w.heap.size w w5) {v1 ov : Value} {hs' : List PHE} (ho : OwnOf heK 73 w5 w.heap.size ov hs') (h2 : OwnOf teK 71 w B v1 ts) (hb : w'.heap[pb]? = some (.cells #[v1, ov] 29 (0, 0))) (hw : But w5.heap.size pb w5 w') (ht : hs'.length ≤ N + 1) (hpl : ∃ v2, w5.heap[pb]? = some (.cells #[v1, v2] 29 (0, 0))) (hi : RawInv ts hs') (ans : Value) : RawOut B w p pb N ans ts hs' (.returned ans) w' := by
  obtain ⟨v2, hpb⟩ := hpl
  have hno : ∀ cs fr, w5.heap[pb]? ≠ some (.cells cs 71 fr) := fun cs fr e => by rw [hpb] at e; cases e
  have hno2 : ∀ cs fr, w5.heap[pb]? ≠ some (.cells cs 73 fr) := fun cs fr e => by rw [hpb] at e; cases e
  refine ⟨rfl, ⟨h.is, h.base, ⟨v1, ov, hb, ((h2.below k).but hw hno), (ho.but hw hno2).lower h.size⟩, hN, by have := h.tn; omega, ht, hi⟩, (Bar.of k).trans (Bar.but hw (fun _ => .inl rfl)), (k.mono h.size).trans ((hw.mono (Nat.le_trans h.size k.size)).below h.base)⟩
set_option linter.unusedSimpArgs false in
set_option maxRecDepth 100000 in
set_option maxHeartbeats 12800000 in
theorem change_raw {B : Nat} {w : World} {p : Value} {pb N : Nat} {ts : List PTE} {hs : List PHE} (h : PlainRaw B w p pb N ts hs) (hN : N + 1 ≤ 100) {n : Int} {t : PTow} (ht : TowIn t) (hi : RawInv (putT n t ts) hs) : Calls Try.prog 37 #[p, .int .i64 n, .agg t.cells.toArray] w fun e w' => RawOut B w p pb N (.tuple #[]) (putT n t ts) hs e w' := by
  obtain ⟨a1, c1, a2, c2, hp, s1, s2, o1, o2⟩ := h.read
  have hpis := h.is
  subst hpis
  have HA := Lib.hid h
  have HP := Lib.hid hp
  have HO1 := Lib.hid o1
  have HO2 := Lib.hid o2
  have HS1 := Lib.hid s1
  have hn63 := s1.len63
  have hnc : (ts.length : Int) ≤ (c1 : Int) := by have h2 := s1.2.1; omega
  have hc63 : (c1 : Int) ≤ 9223372036854775807 := by have h2 := s1.2.2.1; unfold maxLen at h2; omega
  have HN := Lib.hid hN
  have HT := Lib.hid ht
  have HI := Lib.hid hi
  have htn := h.tn
  have hfew := h.few
  obtain ⟨L, hL⟩ : ∃ L, L = ts.length := ⟨_, rfl⟩
  have C0 : Hid (∀ W : World, Below w.heap.size w W → W.cell? ⟨pb, 0, none⟩ = some (.slice a1 L c1)) := Lib.hid (fun W hW => by rw [hL]; exact cell_of_row W pb 0 _ _ _ (keep hW hp))
  rw [← hL] at hn63 hnc HS1 htn HP
  have HL := Lib.hid hL
  have HTN : Hid (L ≤ N) := Lib.hid htn
  have hL100 : L ≤ 100 := by omega
  clear h hp s1 s2 o1 o2 ht hi hL hN htn hfew
  go_enter Try.func37, Try.ntmps37
  go_upto_region 4 with (first | (refine wpList_box10 rfl 67 _ rfl t.cells.toArray rfl ?_; intro gt wt nt hht kt; have HTT := Lib.hid hht; have KT := Lib.hid kt; clear hht kt nt; go_frame) | fail)
  go_loopw [6, 7, 8] (fun ov fv i wr => ∃ (j : Nat) (U : List PTE) (f : Bool), j ≤ L ∧ i = .int .i64 j ∧ fv = .bool f ∧ (f = true ↔ lookT n (ts.take j) ≠ none) ∧ U = setK PTE.n n ⟨n, t⟩ (ts.take j) ∧ OwnOf teK 71 wr wt.heap.size ov U ∧ Below wt.heap.size wt wr) (fun _ _ i _ => L - (intOf i).toNat)
  case atStart => exact ⟨0, [], false, Nat.zero_le _, rfl, rfl, by simp [lookT, lookK], rfl, OwnOf.nil _ _ _ _, Below.refl _ _⟩
  case round =>
    obtain ⟨j, U, f, hj0, rfl, rfl, hf, hU, hown, hbr⟩ := hrel
    obtain ⟨aL, cL, rfl, _⟩ := hown.shape
    have HOW := Lib.hid hown
    have HTB := Lib.hid hbr
    have HB := Lib.hid (bthen KT.out hbr)
    have HF := Lib.hid hf
    have HU := Lib.hid hU
    have hUl : U.length ≤ 100 := by rw [hU, setK_len, List.length_take]; omega
    have c0 := C0.out wr HB.out
    clear hown hbr hf hU
    by_cases hj : j < L
    · have f1 : (j : Int) < (L : Int) := by omega
      have f0 : (0 : Int) ≤ (j : Int) := by omega
      have ft : ((j : Int)).toNat = j := by omega
      have hnx := take_getD (d := teK.dflt) (xs := ts) (j := j) (by rw [← HL.out]; exact hj)
      obtain ⟨b9, o9, e9, hlt, hcc⟩ := HS1.out.2.2.2.2.2 (by omega)
      have rx : wr.rangeAt b9 (o9 + j * 36) _ := rangeAt_below (hcc j hj) hlt HB.out
      have ix := HS1.out.get hj
      subst e9
      revert rx ix
      generalize hx9 : ts.getD j teK.dflt = x
      intro rx ix
      rw [hx9] at hnx
      have HNX := Lib.hid hnx
      have RX := Lib.hid rx
      have HX : Hid (TEIn x) := Lib.hid ix
      obtain ⟨xn, hxn⟩ : ∃ z, z = x.n := ⟨_, rfl⟩
      have HXN := Lib.hid hxn
      clear hcc rx ix hx9 hnx hlt hxn
      by_cases hxx : xn = n
      · have HR : Hid ((true = true ↔ lookT n (ts.take (j + 1)) ≠ none) ∧ U ++ [⟨x.n, t⟩] = setK PTE.n n ⟨n, t⟩ (ts.take (j + 1))) := Lib.hid ⟨by rw [lookT_take HNX.out]; cases lookT n (ts.take j) <;> simp [← HXN.out, hxx], by rw [HNX.out, HU.out]; unfold setK; rw [List.map_append, List.map_cons, List.map_nil, if_pos (by rw [← HXN.out]; exact hxx), ← HXN.out, hxx]⟩
        subst hxx
        go_wp2_with (first | (refine wpList_loadw (by rfl) 71 _ rfl b9 (o9 + j * 36) rfl x.cells _ RX.out Try.underlying71 rfl (te_size HX.out.t.root) ?_; go_frame) | (refine wpList_var rfl rfl 71 rfl _ _ rfl (PTE.cells ⟨0, noTow⟩).toArray Try.zeroTE rfl x.cells (fun _ => rfl) (fun _ => rfl) (PTE.len HX.out.t.root) x.one ?_; intro g6 w6 n6 h6 k6; have H6 := Lib.hid h6; have J6 := Lib.hid k6; have N6 := Lib.hid n6; have c60 : w6.cell? ⟨g6, 0, none⟩ = some (.int .i64 xn) := (by have h9 := (range_cons (range_of h6)).1; rw [← HXN.out] at h9; exact h9); have HT6 := Lib.hid (keep (bthen HTB.out k6) HTT.out); clear h6 k6 n6; go_frame) | (refine wpList_loadw (by rfl) 67 _ rfl gt 0 rfl t.cells _ (range_of HT6.out) Try.underlying67 rfl (tow_size HT.out.root) ?_; go_frame) | (refine wpList_part10 rfl 67 _ _ rfl g6 1 rfl t.cells rfl 71 [.int .i64 x.n] x.t.cells [] (by have h9 := H6.out; rw [show x.cells = [.int .i64 x.n] ++ (x.t.cells ++ []) by simp [PTE.cells]] at h9; exact h9) rfl (by rw [PTow.len HX.out.t.root, PTow.len HT.out.root]) (tow_size HT.out.root) t.one ?_; intro w7 h7 k7; have H7 : Hid (w7.heap[g6]? = some (.cells (PTE.cells ⟨x.n, t⟩).toArray 71 (0, 0))) := Lib.hid (by rw [show PTE.cells ⟨x.n, t⟩ = [.int .i64 x.n] ++ (t.cells ++ []) by simp [PTE.cells]]; exact h7); have J7 := Lib.hid (But.in J6.out k7 N6.out); clear h7 k7 c60; go_frame) | (refine wpList_loadw (by rfl) 71 _ rfl g6 0 rfl (PTE.cells ⟨x.n, t⟩) _ (range_of H7.out) Try.underlying71 rfl (te_size (x := ⟨x.n, t⟩) HT.out.root) ?_; go_frame) | (refine wpList_lit10 Try.teAt rfl _ rfl ⟨x.n, t⟩ rfl (PTE.len (x := ⟨x.n, t⟩) HT.out.root) ?_; intro g8 w8 n8 h8 k8; have H8 := Lib.hid h8; have J8 := Lib.hid (bthen J7.out k8); have HO8 := Lib.hid (HOW.out.below (bthen J7.out k8)); have K8 := Lib.hid (bthen HTB.out (bthen J7.out k8)); clear h8 k8 n8; go_frame) | (at_builtin; refine wpList_append10 Try.teAt rfl _ _ rfl rfl wt.heap.size (.slice aL U.length cL) U rfl HO8.out g8 ⟨x.n, t⟩ rfl H8.out (PTE.len (x := ⟨x.n, t⟩) HT.out.root) (by omega) K8.out.size ?_; intro a9 c9 w9 ho9 hg9; have HO9 := Lib.hid ho9; have K9 := Lib.hid (K8.out.trans (HO8.out.grows hg9 K8.out.size)); have HP9 := Lib.hid (keep (KT.out.trans ((K8.out.trans (HO8.out.grows hg9 K8.out.size)).mono KT.out.size)) HP.out); clear ho9 hg9; go_frame) | fail)
        go_roundw
        case rel => exact ⟨j + 1, _, true, by omega, by go_num, rfl, HR.out.1, HR.out.2, by simpa using HO9.out, K9.out⟩
        case measure => simp [intOf]; omega
      · have HR : Hid ((f = true ↔ lookT n (ts.take (j + 1)) ≠ none) ∧ U ++ [x] = setK PTE.n n ⟨n, t⟩ (ts.take (j + 1))) := Lib.hid ⟨by rw [HF.out, lookT_take HNX.out]; cases lookT n (ts.take j) <;> simp [← HXN.out, hxx], by rw [HNX.out, HU.out]; unfold setK; rw [List.map_append, List.map_cons, List.map_nil, if_neg (by rw [← HXN.out]; exact hxx)]⟩
        go_wp2_with (first | (refine wpList_loadw (by rfl) 71 _ rfl b9 (o9 + j * 36) rfl x.cells _ RX.out Try.underlying71 rfl (te_size HX.out.t.root) ?_; go_frame) | (refine wpList_var rfl rfl 71 rfl _ _ rfl (PTE.cells ⟨0, noTow⟩).toArray Try.zeroTE rfl x.cells (fun _ => rfl) (fun _ => rfl) (PTE.len HX.out.t.root) x.one ?_; intro g6 w6 n6 h6 k6; have H6 := Lib.hid h6; have J6 := Lib.hid k6; have N6 := Lib.hid n6; have c60 : w6.cell? ⟨g6, 0, none⟩ = some (.int .i64 xn) := (by have h9 := (range_cons (range_of h6)).1; rw [← HXN.out] at h9; exact h9); have HT6 := Lib.hid (keep (bthen HTB.out k6) HTT.out); clear h6 k6 n6; go_frame) | (refine wpList_loadw (by rfl) 71 _ rfl g6 0 rfl x.cells _ (range_of H6.out) Try.underlying71 rfl (te_size (x := x) HX.out.t.root) ?_; go_frame) | (refine wpList_lit10 Try.teAt rfl _ rfl x rfl (PTE.len HX.out.t.root) ?_; intro g8 w8 n8 h8 k8; have H8 := Lib.hid h8; have J8 := Lib.hid (bthen J6.out k8); have HO8 := Lib.hid (HOW.out.below (bthen J6.out k8)); have K8 := Lib.hid (bthen HTB.out (bthen J6.out k8)); clear h8 k8 n8; go_frame) | (at_builtin; refine wpList_append10 Try.teAt rfl _ _ rfl rfl wt.heap.size (.slice aL U.length cL) U rfl HO8.out g8 x rfl H8.out (PTE.len HX.out.t.root) (by omega) K8.out.size ?_; intro a9 c9 w9 ho9 hg9; have HO9 := Lib.hid ho9; have K9 := Lib.hid (K8.out.trans (HO8.out.grows hg9 K8.out.size)); have HP9 := Lib.hid (keep (KT.out.trans ((K8.out.trans (HO8.out.grows hg9 K8.out.size)).mono KT.out.size)) HP.out); clear ho9 hg9; go_frame) | fail)
        go_roundw
        case rel => exact ⟨j + 1, _, f, by omega, by go_num, rfl, HR.out.1, HR.out.2, by simpa using HO9.out, K9.out⟩
        case measure => simp [intOf]; omega
    · have f1 : ¬ ((j : Int) < (L : Int)) := by omega
      have htk : ts.take j = ts := List.take_of_length_le (by rw [← HL.out]; omega)
      have HF2 := Lib.hid (show f = true ↔ lookT n ts ≠ none by have h9 := HF.out; rw [htk] at h9; exact h9)
      have HU2 := Lib.hid (show U = setK PTE.n n ⟨n, t⟩ ts by rw [HU.out, htk])
      clear htk HF HU
      have HPW := Lib.hid (keep HB.out HP.out)
      cases f with
      | true =>
        have HPT : Hid (U = putT n t ts) := Lib.hid (by unfold putT; rw [if_neg (HF2.out.1 rfl)]; exact HU2.out)
        go_wp2_with (first | (refine wpList_field10 rfl 26 _ _ rfl pb 0 rfl (.slice aL U.length cL) rfl 29 [.slice a1 L c1, .slice a2 hs.length c2] HPW.out (by simp) (by kernel_rfl) rfl ?_; intro w10 h10 k10; have H10 := Lib.hid h10; have K10 := Lib.hid k10; clear h10 k10; go_frame) | fail)
        refine bodyPost_ret (v := .tuple #[]) (by simp [results, Try.results37, go_sem]) rfl ?_
        rw [← HPT.out]
        exact HA.out.newT HN.out HB.out (HOW.out.lower KT.out.size) HO2.out H10.out K10.out (by rw [HPT.out, putT_len]; have h9 := HTN.out; have h8 := HL.out; split <;> omega) ⟨_, HPW.out⟩ (by rw [HPT.out]; exact HI.out) _
      | false =>
        have HPT : Hid (U ++ [⟨n, t⟩] = putT n t ts) := Lib.hid (by
          have h9 : lookT n ts = none := by
            cases h8 : lookT n ts with
            | none => rfl
            | some y => have h7 := HF2.out.2 (by rw [h8]; simp); cases h7
          have h6 : setK PTE.n n (⟨n, t⟩ : PTE) ts = ts := by
            unfold setK
            have h5 : ts.map (fun x => if x.n = n then (⟨n, t⟩ : PTE) else x) = ts.map id := List.map_congr_left (fun x hx => by rw [if_neg (lookK_none.1 h9 x hx)]; rfl)
            rw [h5, List.map_id]
          unfold putT
          rw [if_pos h9, HU2.out, h6])
        have HT6 := Lib.hid (keep HTB.out HTT.out)
        have J6 := Lib.hid (Below.refl wr.heap.size wr)
        go_wp2_with (first | (refine wpList_loadw (by rfl) 67 _ rfl gt 0 rfl t.cells _ (range_of HT6.out) Try.underlying67 rfl (tow_size HT.out.root) ?_; go_frame) | (refine wpList_buildw (by rfl) rfl (vs := [(0, .int .i64 n), (1, .agg t.cells.toArray)]) (by rfl) (build_te HT.out.root) ?_; go_frame) | (refine wpList_lit10 Try.teAt rfl _ rfl ⟨n, t⟩ rfl (PTE.len (x := ⟨n, t⟩) HT.out.root) ?_; intro g8 w8 n8 h8 k8; have H8 := Lib.hid h8; have J8 := Lib.hid (bthen J6.out k8); have HO8 := Lib.hid (HOW.out.below (bthen J6.out k8)); have K8 := Lib.hid (bthen HTB.out (bthen J6.out k8)); clear h8 k8 n8; go_frame) | (at_builtin; refine wpList_append10 Try.teAt rfl _ _ rfl rfl wt.heap.size (.slice aL U.length cL) U rfl HO8.out g8 ⟨n, t⟩ rfl H8.out (PTE.len (x := ⟨n, t⟩) HT.out.root) (by omega) K8.out.size ?_; intro a9 c9 w9 ho9 hg9; have HO9 := Lib.hid ho9; have K9 := Lib.hid (K8.out.trans (HO8.out.grows hg9 K8.out.size)); have HP9 := Lib.hid (keep (KT.out.trans ((K8.out.trans (HO8.out.grows hg9 K8.out.size)).mono KT.out.size)) HP.out); clear ho9 hg9; go_frame) | (refine wpList_field10 rfl 26 _ _ rfl pb 0 rfl (.slice a9 (U.length + 1) c9) rfl 29 [.slice a1 L c1, .slice a2 hs.length c2] HP9.out (by simp) (by kernel_rfl) rfl ?_; intro w10 h10 k10; have H10 := Lib.hid h10; have K10 := Lib.hid k10; clear h10 k10; go_frame) | fail)
        refine bodyPost_ret (v := .tuple #[]) (by simp [results, Try.results37, go_sem]) rfl ?_
        rw [← HPT.out]
        exact HA.out.newT HN.out (KT.out.trans (K9.out.mono KT.out.size)) (HO9.out.lower KT.out.size) HO2.out H10.out K10.out (by rw [HPT.out, putT_len]; have h9 := HTN.out; have h8 := HL.out; split <;> omega) ⟨_, HP9.out⟩ (by rw [HPT.out]; exact HI.out) _
set_option linter.unusedSimpArgs false in
set_option maxRecDepth 100000 in
set_option maxHeartbeats 12800000 in
theorem drop_raw {B : Nat} {w : World} {p : Value} {pb N : Nat} {ts : List PTE} {hs : List PHE} (h : PlainRaw B w p pb N ts hs) (hN : N + 1 ≤ 100) {j0 : Nat} (hj0 : j0 < hs.length) {v : PHold} (hv : HoldIn v) {kp : Bool} (hi : RawInv ts (dropL j0 kp ⟨(hs.getD j0 heK.dflt).n, v⟩ hs)) : Calls Try.prog 39 #[p, .int .i64 (j0 : Nat), .agg v.cells.toArray, .bool kp] w fun e w' => RawOut B w p pb N (.tuple #[]) ts (dropL j0 kp ⟨(hs.getD j0 heK.dflt).n, v⟩ hs) e w' := by
  obtain ⟨a1, c1, a2, c2, hp, s1, s2, o1, o2⟩ := h.read
  have hpis := h.is
  subst hpis
  have HA := Lib.hid h
  have HP := Lib.hid hp
  have HO1 := Lib.hid o1
  have HO2 := Lib.hid o2
  have HS1 := Lib.hid s2
  have hn63 := s2.len63
  have hnc : (hs.length : Int) ≤ (c2 : Int) := by have h2 := s2.2.1; omega
  have hc63 : (c2 : Int) ≤ 9223372036854775807 := by have h2 := s2.2.2.1; unfold maxLen at h2; omega
  have HN := Lib.hid hN
  have HT := Lib.hid hv
  have HI := Lib.hid hi
  have htn := h.hn
  have hfew := h.few
  obtain ⟨L, hL⟩ : ∃ L, L = hs.length := ⟨_, rfl⟩
  have C0 : Hid (∀ W : World, Below w.heap.size w W → W.cell? ⟨pb, 1, none⟩ = some (.slice a2 L c2)) := Lib.hid (fun W hW => by rw [hL]; exact cell_of_row W pb 1 _ _ _ (keep hW hp))
  rw [← hL] at hn63 hnc HS1 htn HP hj0
  have HL := Lib.hid hL
  have HTN : Hid (L ≤ N) := Lib.hid htn
  have hL100 : L ≤ 100 := by omega
  obtain ⟨yn, hyn⟩ : ∃ z, z = (hs.getD j0 heK.dflt).n := ⟨_, rfl⟩
  have HYN := Lib.hid hyn
  rw [← hyn] at HI ⊢
  clear h hp s1 s2 o1 o2 hv hi hL hN htn hfew hyn
  go_enter Try.func39, Try.ntmps39
  go_upto_region 3 with (first | (refine wpList_box10 rfl 53 _ rfl v.cells.toArray rfl ?_; intro gt wt nt hht kt; have HTT := Lib.hid hht; have KT := Lib.hid kt; clear hht kt nt; go_frame) | fail)
  go_loopw [8, 9] (fun ov i wr => ∃ (j : Nat) (U : List PHE), j ≤ L ∧ i = .int .i64 j ∧ U = dropL j0 kp ⟨yn, v⟩ (hs.take j) ∧ OwnOf heK 73 wr wt.heap.size ov U ∧ Below wt.heap.size wt wr) (fun _ i _ => L - (intOf i).toNat)
  case atStart => exact ⟨0, [], Nat.zero_le _, rfl, by unfold dropL; split <;> simp, OwnOf.nil _ _ _ _, Below.refl _ _⟩
  case round =>
    obtain ⟨j, U, hjL, rfl, hU, hown, hbr⟩ := hrel
    obtain ⟨aL, cL, rfl, _⟩ := hown.shape
    have HOW := Lib.hid hown
    have HTB := Lib.hid hbr
    have HB := Lib.hid (bthen KT.out hbr)
    have HU := Lib.hid hU
    have hUl : U.length ≤ 100 := by have h9 := dropL_len (j0 := j0) (kp := kp) (y := ⟨yn, v⟩) (xs := hs.take j); rw [← hU, List.length_take] at h9; omega
    have c0 := C0.out wr HB.out
    clear hown hbr hU
    by_cases hj : j < L
    · have f1 : (j : Int) < (L : Int) := by omega
      have f0 : (0 : Int) ≤ (j : Int) := by omega
      have ft : ((j : Int)).toNat = j := by omega
      have hnx := take_getD (d := heK.dflt) (xs := hs) (j := j) (by rw [← HL.out]; exact hj)
      have hlen : (hs.take j).length = j := by rw [List.length_take, ← HL.out]; omega
      obtain ⟨b9, o9, e9, hlt, hcc⟩ := HS1.out.2.2.2.2.2 (by omega)
      have rx : wr.rangeAt b9 (o9 + j * 75) _ := rangeAt_below (hcc j hj) hlt HB.out
      have ix := HS1.out.get hj
      subst e9
      revert rx ix
      generalize hx9 : hs.getD j heK.dflt = x
      intro rx ix
      rw [hx9] at hnx
      have hnext := dropL_end (j0 := j0) (kp := kp) (y := ⟨yn, v⟩) (x := x) (xs := hs.take j)
      rw [← hnx, hlen, ← HU.out] at hnext
      have HNX := Lib.hid hnext
      have HYX : Hid (j = j0 → yn = x.n) := Lib.hid (fun e => by rw [HYN.out, ← e, hx9])
      have RX := Lib.hid rx
      have HX : Hid (HEIn x) := Lib.hid ix
      clear hcc rx ix hx9 hnx hlt hnext hlen
      by_cases hjj : j = j0
      · have HE1 := Lib.hid (HYX.out hjj)
        have HN2 := Lib.hid (HNX.out.trans (by rw [if_pos hjj]))
        subst hjj
        clear HYX HNX
        cases kp with
        | true =>
          go_wp2_with (first | (refine wpList_loadw (by rfl) 73 _ rfl b9 (o9 + j * 75) rfl x.cells _ RX.out Try.underlying73 rfl (he_size HX.out.h) ?_; go_frame) | (refine wpList_var rfl rfl 73 rfl _ _ rfl (PHE.cells ⟨0, noHold⟩).toArray Try.zeroHE rfl x.cells (fun _ => rfl) (fun _ => rfl) (PHE.len HX.out.h) x.one ?_; intro g6 w6 n6 h6 k6; have H6 := Lib.hid h6; have J6 := Lib.hid k6; have N6 := Lib.hid n6; have HT6 := Lib.hid (keep (bthen HTB.out k6) HTT.out); clear h6 k6 n6; go_frame) | (refine wpList_loadw (by rfl) 53 _ rfl gt 0 rfl v.cells _ (range_of HT6.out) Try.underlying53 rfl (hold_size HT.out) ?_; go_frame) | (refine wpList_part10 rfl 53 _ _ rfl g6 1 rfl v.cells rfl 73 [.int .i64 x.n] x.h.cells [] (by have h9 := H6.out; rw [show x.cells = [.int .i64 x.n] ++ (x.h.cells ++ []) by simp [PHE.cells]] at h9; exact h9) rfl (by rw [PHold.len HX.out.h, PHold.len HT.out]) (hold_size HT.out) v.one ?_; intro w7 h7 k7; have H7 : Hid (w7.heap[g6]? = some (.cells (PHE.cells ⟨x.n, v⟩).toArray 73 (0, 0))) := Lib.hid (by rw [show PHE.cells ⟨x.n, v⟩ = [.int .i64 x.n] ++ (v.cells ++ []) by simp [PHE.cells]]; exact h7); have J7 := Lib.hid (But.in J6.out k7 N6.out); clear h7 k7; go_frame) | (refine wpList_loadw (by rfl) 73 _ rfl g6 0 rfl (PHE.cells ⟨x.n, v⟩) _ (range_of H7.out) Try.underlying73 rfl (he_size (x := ⟨x.n, v⟩) HT.out) ?_; go_frame) | (refine wpList_lit10 Try.heAt rfl _ rfl ⟨x.n, v⟩ rfl (PHE.len (x := ⟨x.n, v⟩) HT.out) ?_; intro g8 w8 n8 h8 k8; have H8 := Lib.hid h8; have J8 := Lib.hid (bthen J7.out k8); have HO8 := Lib.hid (HOW.out.below (bthen J7.out k8)); have K8 := Lib.hid (bthen HTB.out (bthen J7.out k8)); clear h8 k8 n8; go_frame) | (at_builtin; refine wpList_append10 Try.heAt rfl _ _ rfl rfl wt.heap.size (.slice aL U.length cL) U rfl HO8.out g8 ⟨x.n, v⟩ rfl H8.out (PHE.len (x := ⟨x.n, v⟩) HT.out) (by omega) K8.out.size ?_; intro a9 c9 w9 ho9 hg9; have HO9 := Lib.hid ho9; have K9 := Lib.hid (K8.out.trans (HO8.out.grows hg9 K8.out.size)); have HP9 := Lib.hid (keep (KT.out.trans ((K8.out.trans (HO8.out.grows hg9 K8.out.size)).mono KT.out.size)) HP.out); clear ho9 hg9; go_frame) | fail)
          go_roundw
          case rel => exact ⟨j + 1, _, by omega, by go_num, by rw [HN2.out, HE1.out], by simpa using HO9.out, K9.out⟩
          case measure => simp [intOf]; omega
        | false =>
          go_wp2_with (first | (refine wpList_loadw (by rfl) 73 _ rfl b9 (o9 + j * 75) rfl x.cells _ RX.out Try.underlying73 rfl (he_size HX.out.h) ?_; go_frame) | (refine wpList_var rfl rfl 73 rfl _ _ rfl (PHE.cells ⟨0, noHold⟩).toArray Try.zeroHE rfl x.cells (fun _ => rfl) (fun _ => rfl) (PHE.len HX.out.h) x.one ?_; intro g6 w6 n6 h6 k6; have H6 := Lib.hid h6; have J6 := Lib.hid k6; have N6 := Lib.hid n6; have HT6 := Lib.hid (keep (bthen HTB.out k6) HTT.out); clear h6 k6 n6; go_frame) | (refine wpList_loadw (by rfl) 53 _ rfl gt 0 rfl v.cells _ (range_of HT6.out) Try.underlying53 rfl (hold_size HT.out) ?_; go_frame) | (refine wpList_part10 rfl 53 _ _ rfl g6 1 rfl v.cells rfl 73 [.int .i64 x.n] x.h.cells [] (by have h9 := H6.out; rw [show x.cells = [.int .i64 x.n] ++ (x.h.cells ++ []) by simp [PHE.cells]] at h9; exact h9) rfl (by rw [PHold.len HX.out.h, PHold.len HT.out]) (hold_size HT.out) v.one ?_; intro w7 h7 k7; have H7 : Hid (w7.heap[g6]? = some (.cells (PHE.cells ⟨x.n, v⟩).toArray 73 (0, 0))) := Lib.hid (by rw [show PHE.cells ⟨x.n, v⟩ = [.int .i64 x.n] ++ (v.cells ++ []) by simp [PHE.cells]]; exact h7); have J7 := Lib.hid (But.in J6.out k7 N6.out); clear h7 k7; go_frame) | fail)
          go_roundw
          case rel => exact ⟨j + 1, U, by omega, by go_num, HN2.out.symm, HOW.out.below J7.out, HTB.out.trans (J7.out.mono HTB.out.size)⟩
          case measure => simp [intOf]; omega
      · have fj : ¬ ((j : Int) = (j0 : Int)) := by omega
        have HN2 := Lib.hid (HNX.out.trans (by rw [if_neg hjj]))
        clear HYX HNX
        go_wp2_with (first | (refine wpList_loadw (by rfl) 73 _ rfl b9 (o9 + j * 75) rfl x.cells _ RX.out Try.underlying73 rfl (he_size HX.out.h) ?_; go_frame) | (refine wpList_var rfl rfl 73 rfl _ _ rfl (PHE.cells ⟨0, noHold⟩).toArray Try.zeroHE rfl x.cells (fun _ => rfl) (fun _ => rfl) (PHE.len HX.out.h) x.one ?_; intro g6 w6 n6 h6 k6; have H6 := Lib.hid h6; have J6 := Lib.hid k6; have N6 := Lib.hid n6; have HT6 := Lib.hid (keep (bthen HTB.out k6) HTT.out); clear h6 k6 n6; go_frame) | (refine wpList_loadw (by rfl) 73 _ rfl g6 0 rfl x.cells _ (range_of H6.out) Try.underlying73 rfl (he_size (x := x) HX.out.h) ?_; go_frame) | (refine wpList_lit10 Try.heAt rfl _ rfl x rfl (PHE.len HX.out.h) ?_; intro g8 w8 n8 h8 k8; have H8 := Lib.hid h8; have J8 := Lib.hid (bthen J6.out k8); have HO8 := Lib.hid (HOW.out.below (bthen J6.out k8)); have K8 := Lib.hid (bthen HTB.out (bthen J6.out k8)); clear h8 k8 n8; go_frame) | (at_builtin; refine wpList_append10 Try.heAt rfl _ _ rfl rfl wt.heap.size (.slice aL U.length cL) U rfl HO8.out g8 x rfl H8.out (PHE.len HX.out.h) (by omega) K8.out.size ?_; intro a9 c9 w9 ho9 hg9; have HO9 := Lib.hid ho9; have K9 := Lib.hid (K8.out.trans (HO8.out.grows hg9 K8.out.size)); have HP9 := Lib.hid (keep (KT.out.trans ((K8.out.trans (HO8.out.grows hg9 K8.out.size)).mono KT.out.size)) HP.out); clear ho9 hg9; go_frame) | fail)
        go_roundw
        case rel => exact ⟨j + 1, _, by omega, by go_num, HN2.out.symm, by simpa using HO9.out, K9.out⟩
        case measure => simp [intOf]; omega
    · have f1 : ¬ ((j : Int) < (L : Int)) := by omega
      have htk : hs.take j = hs := List.take_of_length_le (by rw [← HL.out]; omega)
      have HU2 := Lib.hid (show U = dropL j0 kp ⟨yn, v⟩ hs by rw [HU.out, htk])
      clear htk HU
      have HPW := Lib.hid (keep HB.out HP.out)
      go_wp2_with (first | (refine wpList_field10 rfl 27 _ _ rfl pb 1 rfl (.slice aL U.length cL) rfl 29 [.slice a1 ts.length c1, .slice a2 L c2] HPW.out (by simp) (by kernel_rfl) rfl ?_; intro w10 h10 k10; have H10 := Lib.hid h10; have K10 := Lib.hid k10; clear h10 k10; go_frame) | fail)
      refine bodyPost_ret (v := .tuple #[]) (by simp [results, Try.results39, go_sem]) rfl ?_
      rw [← HU2.out]
      exact HA.out.newH HN.out HB.out (HOW.out.lower KT.out.size) HO1.out H10.out K10.out (by rw [HU2.out]; have h9 := dropL_len (j0 := j0) (kp := kp) (y := ⟨yn, v⟩) (xs := hs); have h8 := HTN.out; rw [← HL.out] at h9; omega) ⟨_, HPW.out⟩ (by rw [HU2.out]; exact HI.out) _
end Go.Proofs.Ytijanllppbambaa
