/- What package proof's Get comes to: bytes are read as the proof whose bytes they are, or as none. -/
import Derived.Test.YtcmdpmialehjgaaGreatDoorPrfRead
import Derived.Test.YtcmdpmialehjgaaGreatDoorWhyPlain
import Derived.Test.YtcmdpmialehjgaaGreatDoorRecRead
import Derived.Test.YtcmdpmialehjgaaGreatDoorBytes17
namespace Go.Proofs.YtcmdpmialehjgaaGreatDoor
open Go.RowKit

theorem eye_cells17 {w : World} {yb : Nat} {l : List UInt8} {e : Int} (h : EyeAt w yb l e) : ∃ cs, w.heap[yb]? = some (.cells cs 95 (0, 0)) := by
  obtain ⟨a, N, c, hh, _⟩ := h
  exact ⟨_, hh⟩
/-- How all stands while a proof is read: g5 is the variable, g2 the result. -/
structure FSt (w0 : World) (yb g2 g5 : Nat) (x : PPrf) (s : List UInt8 × Int) (w : World) : Prop where
  res : w.heap[g2]? = some (.cells noPrf.cells.toArray 28 (0, 0))
  var : w.heap[g5]? = some (.cells x.cells.toArray 28 (0, 0))
  eye : EyeAt w yb s.1 s.2
  below : Below w0.heap.size w0 w
theorem FSt.read {w0 w w' : World} {yb g2 g5 : Nat} {x : PPrf} {s s' : List UInt8 × Int} (h : FSt w0 yb g2 g5 x s w) (hy : w0.heap.size ≤ yb) (he : EyeAt w' yb s'.1 s'.2) (hb : But w.heap.size yb w w') : FSt w0 yb g2 g5 x s' w' := by
  obtain ⟨ce, hce⟩ := eye_cells17 h.eye
  refine ⟨hb.heap h.res (lt_of_block h.res) (fun e => ?_), hb.heap h.var (lt_of_block h.var) (fun e => ?_), he, But.in h.below hb hy⟩
  · have h9 := h.res
    rw [e, hce] at h9
    simp at h9
  · have h9 := h.var
    rw [e, hce] at h9
    simp at h9
theorem FSt.put {w0 w w' : World} {yb g2 g5 : Nat} {x x' : PPrf} {s : List UInt8 × Int} (h : FSt w0 yb g2 g5 x s w) (hg : w0.heap.size ≤ g5) (hne : g2 ≠ g5) (hv : w'.heap[g5]? = some (.cells x'.cells.toArray 28 (0, 0))) (hb : But w.heap.size g5 w w') : FSt w0 yb g2 g5 x' s w' := by
  obtain ⟨ce, hce⟩ := eye_cells17 h.eye
  refine ⟨hb.heap h.res (lt_of_block h.res) hne, hv, h.eye.typed hb h.var (by decide) (fun e => ?_), But.in h.below hb hg⟩
  have h9 := h.var
  rw [← e, hce] at h9
  simp at h9
theorem FSt.more {w0 w w' : World} {yb g2 g5 : Nat} {x : PPrf} {s : List UInt8 × Int} (h : FSt w0 yb g2 g5 x s w) (hb : Below w.heap.size w w') : FSt w0 yb g2 g5 x s w' :=
  ⟨keep hb h.res, keep hb h.var, h.eye.below hb, bthen h.below hb⟩
theorem prf_set67 {x : PPrf} (hr : RecIn x.r) (a : Option Addr) (n c : Nat) (q : List UInt8) : x.cells.set 67 (.slice a n c) = (PPrf.mk x.r a n c q x.ba x.bn x.bc x.blob x.commit).cells := by
  unfold PPrf.cells PPrf.tail
  rw [List.set_append_right _ _ (by rw [PRec.len hr]; omega), PRec.len hr]
  rfl
theorem prf_set68 {x : PPrf} (hr : RecIn x.r) (a : Option Addr) (n c : Nat) (q : List UInt8) : x.cells.set 68 (.slice a n c) = (PPrf.mk x.r x.sa x.sn x.sc x.sig a n c q x.commit).cells := by
  unfold PPrf.cells PPrf.tail
  rw [List.set_append_right _ _ (by rw [PRec.len hr]; omega), PRec.len hr]
  rfl
set_option linter.unusedSimpArgs false in
set_option maxRecDepth 100000 in
set_option maxHeartbeats 12800000 in
theorem get17_any {w : World} {a : Option Addr} {n c : Nat} {b : List UInt8} (h : Row w a n c b) (hn : n ≤ 1000000) :
    Calls Tryz.prog 13 #[.slice a n c] w (PrfOut w b) := by
  have hbl : b.length ≤ 1000000 := by rw [h.1]; exact hn
  obtain ⟨l1, l2, l3, l4⟩ := prf_les b
  obtain ⟨m1, m2, m3, n4⟩ := prf_lens b
  obtain ⟨TT, eTT⟩ : ∃ r, (prfT b).1 = r := ⟨_, rfl⟩
  obtain ⟨s1, es1⟩ : ∃ r, (prfT b).2 = r := ⟨_, rfl⟩
  obtain ⟨SS, eSS⟩ : ∃ r, (prfS b).1 = r := ⟨_, rfl⟩
  obtain ⟨s2, es2⟩ : ∃ r, (prfS b).2 = r := ⟨_, rfl⟩
  obtain ⟨LL, eLL⟩ : ∃ r, (prfL b).1 = r := ⟨_, rfl⟩
  obtain ⟨s3, es3⟩ : ∃ r, (prfL b).2 = r := ⟨_, rfl⟩
  obtain ⟨CC, eCC⟩ : ∃ r, (prfC b).1 = r := ⟨_, rfl⟩
  obtain ⟨s4, es4⟩ : ∃ r, (prfC b).2 = r := ⟨_, rfl⟩
  obtain ⟨D, eD⟩ : ∃ D, prfD b = D := ⟨_, rfl⟩
  obtain ⟨E, eE⟩ : ∃ E, prfE b = E := ⟨_, rfl⟩
  obtain ⟨F, eF⟩ : ∃ F, readE TT = F := ⟨_, rfl⟩
  obtain ⟨Z, eZ⟩ : ∃ Z, readX TT = Z := ⟨_, rfl⟩
  have HLK : Hid (∀ W : World, Below w.heap.size w W → Calls Tryz.prog 22 #[.slice a n c] W fun r w' => ∃ yb, r = .returned (.pointer (some ⟨yb, 0, none⟩)) ∧ W.heap.size ≤ yb ∧ EyeAt w' yb b 0 ∧ Below W.heap.size W w') := Lib.hid fun W hb => look_any (h.below hb) (by omega)
  have HU1 : Hid (∀ (W : World) (yb : Nat), EyeAt W yb b 0 → Calls Tryz.prog 23 #[.pointer (some ⟨yb, 0, none⟩), .int .i64 65536] W (TellsT yb TT s1.1 s1.2 W)) := Lib.hid fun W yb he => by
    have h9 := text_st (s := (b, 0)) W 65536 he (by show b.length ≤ _; omega)
    rw [← eTT, ← es1]
    exact h9
  have HU2 : Hid (∀ (W : World) (yb : Nat), EyeAt W yb s1.1 s1.2 → Calls Tryz.prog 23 #[.pointer (some ⟨yb, 0, none⟩), .int .i64 65536] W (TellsT yb SS s2.1 s2.2 W)) := Lib.hid fun W yb he => by
    have h9 := text_st (s := s1) W 65536 he (by rw [← es1]; omega)
    rw [← eSS, ← es2]
    unfold prfS
    rw [es1]
    exact h9
  have HU3 : Hid (∀ (W : World) (yb : Nat), EyeAt W yb s2.1 s2.2 → Calls Tryz.prog 23 #[.pointer (some ⟨yb, 0, none⟩), .int .i64 65536] W (TellsT yb LL s3.1 s3.2 W)) := Lib.hid fun W yb he => by
    have h9 := text_st (s := s2) W 65536 he (by rw [← es2]; omega)
    rw [← eLL, ← es3]
    unfold prfL
    rw [es2]
    exact h9
  have HU4 : Hid (∀ (W : World) (yb : Nat), EyeAt W yb s3.1 s3.2 → Calls Tryz.prog 24 #[.pointer (some ⟨yb, 0, none⟩)] W fun r w' => r = .returned (.agg (cellsOf CC).toArray) ∧ EyeAt w' yb s4.1 s4.2 ∧ But W.heap.size yb W w') := Lib.hid fun W yb he => by
    have h9 := sum_st (s := s3) W he (by rw [← es3]; omega)
    rw [← eCC, ← es4]
    unfold prfC
    rw [es3]
    exact h9
  have HU5 : Hid (∀ (W : World) (yb : Nat), EyeAt W yb s4.1 s4.2 → Calls Tryz.prog 25 #[.pointer (some ⟨yb, 0, none⟩)] W fun r w' => r = .returned (.int .i64 D) ∧ (∃ s' : List UInt8 × Int, EyeAt w' yb s'.1 s'.2) ∧ But W.heap.size yb W w') := Lib.hid fun W yb he => by
    have h9 := done_st (s := s4) W he
    rw [← eD]
    unfold prfD
    rw [es4]
    exact h9
  have HRD : Hid (∀ (W : World) (a' : Option Addr) (n' c' : Nat), Row W a' n' c' TT → Calls Tryz.prog 26 #[.slice a' n' c'] W fun e w' => e = .returned (.tuple #[.agg Z.cells.toArray, .int .i64 F]) ∧ Below W.heap.size W w') := Lib.hid fun W a' n' c' hr => by
    rw [← eZ, ← eF]
    exact read_any hr (by rw [← hr.1, ← eTT]; omega)
  have hZ : RecIn Z := by rw [← eZ]; exact readX_in TT
  have N4 : Hid (CC.length = 32) := Lib.hid (by rw [← eCC]; exact n4)
  have K1 : Hid (65536 < n → E = 3) := Lib.hid fun q => by rw [← eE]; unfold prfE; rw [if_pos (by rw [h.1]; exact q)]
  have K2 : Hid (n ≤ 65536 → D ≠ 0 → E = D) := Lib.hid fun q q2 => by rw [← eE]; unfold prfE; rw [if_neg (by rw [h.1]; omega), eD, if_neg q2]
  have K3 : Hid (n ≤ 65536 → D = 0 → E = F) := Lib.hid fun q q2 => by rw [← eE]; unfold prfE; rw [if_neg (by rw [h.1]; omega), eD, if_pos q2, eTT, eF]
  have GOY : Hid (E = 0 → ∀ (w' : World) sa sn sc ba bn bc, PrfIn w' ⟨Z, sa, sn, sc, SS, ba, bn, bc, LL, CC⟩ → Below w.heap.size w w' → PrfOut w b (.returned (.tuple #[.agg (PPrf.cells ⟨Z, sa, sn, sc, SS, ba, bn, bc, LL, CC⟩).toArray, .int .i64 0])) w') := Lib.hid fun q w' sa sn sc ba bn bc q1 q2 => by
    refine ⟨sa, sn, sc, ba, bn, bc, ?_, ?_, q2⟩
    · rw [prfX_ok (by rw [eE]; exact q), eTT, eZ, eSS, eLL, eCC, eE, q]
    · rw [prfX_ok (by rw [eE]; exact q), eTT, eZ, eSS, eLL, eCC]
      exact q1
  have GON : Hid (∀ G : Int, E = G → G ≠ 0 → ∀ w' : World, Below w.heap.size w w' → PrfOut w b (.returned (.tuple #[.agg noPrf.cells.toArray, .int .i64 G])) w') := Lib.hid fun G q q1 w' q2 => by
    subst q
    refine ⟨none, 0, 0, none, 0, 0, ?_, ?_, q2⟩
    · rw [prfX_no (by rw [eE]; exact q1), eE]
    · rw [prfX_no (by rw [eE]; exact q1)]
      exact noPrf_in _
  have SZ0 : Hid ((Tryz.prog.info? 28).map (·.size) = some noPrf.cells.length) := Lib.hid (prf_size (noPrf_in w))
  have SCC := Lib.hid (sumLen17 N4.out)
  have SZZ := Lib.hid (rec_size hZ)
  have SZZA := Lib.hid (rec_sizeA hZ)
  have ZL := Lib.hid (PRec.len hZ)
  have HZI := Lib.hid hZ
  have n63 : (n : Int) ≤ 1000000 := by omega
  clear h hn hbl l1 l2 l3 l4 m1 m2 m3 n4 eTT es1 eSS es2 eLL es3 eCC es4 eD eE eF eZ hZ
  go_enter Tryz.func13, Tryz.ntmps13
  go_upto_region 1 with (first | (refine wpList_new rfl 28 rfl noPrf.cells.toArray Tryz.infoPrf ?_; intro g2 w1 hg2 h1 b1; go_frame) | fail)
  have hB2 : w.heap.size ≤ g2 := by omega
  have HB1 := Lib.hid b1
  have H1 := Lib.hid h1
  clear b1 h1 hg2
  by_cases d1 : 65536 < (n : Int)
  · have KE := Lib.hid (K1.out (by omega))
    clear K1 K2 K3 GOY
    go_wp2_with (first | (refine wpList_build10 rfl rfl (vs := []) (by rfl) build_prf0 ?_) | (refine wpList_row10 rfl 28 _ _ rfl g2 noPrf.cells (by rfl) (by rfl) 28 noPrf.cells H1.out SZ0.out rfl (PPrf.one _) ?_; intro w9 hh9 hb9) | fail)
    refine bodyPost_ret (results_cell_then rfl _ _ g2 28 noPrf.cells.toArray (0, 0) _ (.int .i64 3) rfl rfl hh9 Tryz.underlying28 rfl (by rw [List.size_toArray]; exact SZ0.out)) rfl (GON.out 3 KE.out (by decide) _ (But.in HB1.out hb9 hB2))
  have K4 := Lib.hid (K2.out (by omega))
  have K5 := Lib.hid (K3.out (by omega))
  clear K1 K2 K3
  go_upto_region 3 with (fail)
  go_wp2_with fail
  refine (HLK.out _ HB1.out).mono ?_
  rintro e w2 ⟨yb, rfl, hyb1, he2, hb2⟩
  have hyb : w.heap.size ≤ yb := Nat.le_trans HB1.out.size hyb1
  have HE2 := Lib.hid he2
  have H2 := Lib.hid (keep hb2 H1.out)
  have HB2 := Lib.hid (bthen HB1.out hb2)
  clear he2 hb2 hyb1 HLK HB1 H1
  go_wp2_with fail
  refine (HU1.out _ _ HE2.out).mono ?_
  rintro e w3 ⟨ta, tn, tc, rfl, hr, hf, he, hb, htg⟩
  have HT := Lib.hid hr
  have HE3 := Lib.hid he
  have HYN : Hid (g2 ≠ yb) := Lib.hid (fun e => by
    obtain ⟨ce, hce⟩ := eye_cells17 HE2.out
    have h9 := H2.out
    rw [e, hce] at h9
    simp at h9)
  have H3 := Lib.hid (hb.heap H2.out (lt_of_block H2.out) HYN.out)
  have HB3 := Lib.hid (But.in HB2.out hb hyb)
  clear hr hf he hb htg HU1 HE2 H2 HB2 HYN
  go_upto_region 6 with (first | (refine wpList_new rfl 28 rfl noPrf.cells.toArray Tryz.infoPrf ?_; intro g5 wx hg5 h5 b5; go_frame) | fail)
  have hne : g2 ≠ g5 := by have := lt_of_block H3.out; omega
  have hB5 : w.heap.size ≤ g5 := by have := HB3.out.size; omega
  have HTN := Lib.hid (Off.of_lt HT.out hg5)
  have HT := Lib.hid (HT.out.below b5)
  have RS : Hid (FSt w yb g2 g5 noPrf s1 wx) := Lib.hid ⟨keep b5 H3.out, h5, HE3.out.below b5, bthen HB3.out b5⟩
  clear b5 h5 hg5 HE3 H3 HB3
  go_wp2_with fail
  have HL2S := Lib.hid (lt_of_block RS.out.res)
  have HL5S := Lib.hid (lt_of_block RS.out.var)
  have HNB := Lib.hid RS.out.eye.noBytes
  refine (HU2.out _ _ RS.out.eye).mono ?_
  rintro e w4 ⟨Sa, Sn, Sc, rfl, hr, hf, he, hb, htg⟩
  have HT := Lib.hid (HT.out.butN hb HNB.out)
  have RS := Lib.hid (RS.out.read (s' := s2) hyb he hb)
  have HS := Lib.hid hr
  have HS2 : Hid (∀ y, Sa = some y → y.block ≠ g2) := Lib.hid fun y e => by
    have h9 := hf y e
    have h8 := HL2S.out
    omega
  have HS5 : Hid (∀ y, Sa = some y → y.block ≠ g5) := Lib.hid fun y e => by
    have h9 := hf y e
    have h8 := HL5S.out
    omega
  clear hr hf he hb htg HU2 HL2S HL5S HNB
  go_upto_region 7 with (first | (refine wpList_field10 rfl 26 _ _ rfl g5 67 rfl (.slice Sa Sn Sc) rfl 28 _ RS.out.var (by rw [PPrf.len noRec_in rfl]; decide) (by kernel_rfl) rfl ?_; intro w5 hv hb) | fail)
  rw [prf_set67 (x := noPrf) noRec_in Sa Sn Sc SS] at hv
  have RS := Lib.hid (RS.out.put (x' := ⟨noRec, Sa, Sn, Sc, SS, none, 0, 0, [], zero32⟩) hB5 hne hv hb)
  have HT := Lib.hid (HT.out.but hb HTN.out)
  have HS := Lib.hid (HS.out.but hb (fun h0 b off e => HS5.out _ e))
  clear hv hb
  go_wp2_with fail
  have HL2L := Lib.hid (lt_of_block RS.out.res)
  have HL5L := Lib.hid (lt_of_block RS.out.var)
  have HNB := Lib.hid RS.out.eye.noBytes
  refine (HU3.out _ _ RS.out.eye).mono ?_
  rintro e w4 ⟨La, Ln, Lc, rfl, hr, hf, he, hb, htg⟩
  have HT := Lib.hid (HT.out.butN hb HNB.out)
  have HS := Lib.hid (HS.out.butN hb HNB.out)
  have RS := Lib.hid (RS.out.read (s' := s3) hyb he hb)
  have HL := Lib.hid hr
  have HL2 : Hid (∀ y, La = some y → y.block ≠ g2) := Lib.hid fun y e => by
    have h9 := hf y e
    have h8 := HL2L.out
    omega
  have HL5 : Hid (∀ y, La = some y → y.block ≠ g5) := Lib.hid fun y e => by
    have h9 := hf y e
    have h8 := HL5L.out
    omega
  clear hr hf he hb htg HU3 HL2L HL5L HNB
  go_upto_region 8 with (first | (refine wpList_field10 rfl 26 _ _ rfl g5 68 rfl (.slice La Ln Lc) rfl 28 _ RS.out.var (by rw [PPrf.len noRec_in rfl]; decide) (by kernel_rfl) rfl ?_; intro w5 hv hb) | fail)
  rw [prf_set68 (x := ⟨noRec, Sa, Sn, Sc, SS, none, 0, 0, [], zero32⟩) noRec_in La Ln Lc LL] at hv
  have RS := Lib.hid (RS.out.put (x' := ⟨noRec, Sa, Sn, Sc, SS, La, Ln, Lc, LL, zero32⟩) hB5 hne hv hb)
  have HT := Lib.hid (HT.out.but hb HTN.out)
  have HS := Lib.hid (HS.out.but hb (fun h0 b off e => HS5.out _ e))
  have HL := Lib.hid (HL.out.but hb (fun h0 b off e => HL5.out _ e))
  clear hv hb
  go_wp2_with fail
  have HNB := Lib.hid RS.out.eye.noBytes
  refine (HU4.out _ _ RS.out.eye).mono ?_
  rintro e w4 ⟨rfl, he, hb⟩
  have HT := Lib.hid (HT.out.butN hb HNB.out)
  have HS := Lib.hid (HS.out.butN hb HNB.out)
  have HL := Lib.hid (HL.out.butN hb HNB.out)
  have RS := Lib.hid (RS.out.read (s' := s4) hyb he hb)
  clear he hb HU4 HNB
  have vr : w4.heap[g5]? = some (.cells ((noRec.cells ++ ([.slice Sa Sn Sc, .slice La Ln Lc] : List Value)) ++ (cellsOf zero32 ++ [])).toArray 28 (0, 0)) := by have h9 := RS.out.var; rw [show PPrf.cells ⟨noRec, Sa, Sn, Sc, SS, La, Ln, Lc, LL, zero32⟩ = (noRec.cells ++ ([.slice Sa Sn Sc, .slice La Ln Lc] : List Value)) ++ (cellsOf zero32 ++ []) by simp [PPrf.cells, PPrf.tail]] at h9; exact h9
  have VR := Lib.hid vr
  clear vr
  go_upto_region 9 with (first | (refine wpList_part10 rfl 23 _ _ rfl g5 69 rfl (cellsOf CC) rfl 28 (noRec.cells ++ ([.slice Sa Sn Sc, .slice La Ln Lc] : List Value)) (cellsOf zero32) [] VR.out (by rw [List.length_append, PRec.len noRec_in]; rfl) (by rw [cellsOf_len, cellsOf_len, N4.out]; rfl) SCC.out (cellsOf_one CC) ?_; intro w5 hv hb) | fail)
  rw [show (noRec.cells ++ ([.slice Sa Sn Sc, .slice La Ln Lc] : List Value)) ++ (cellsOf CC ++ []) = PPrf.cells ⟨noRec, Sa, Sn, Sc, SS, La, Ln, Lc, LL, CC⟩ by simp [PPrf.cells, PPrf.tail]] at hv
  have RS := Lib.hid (RS.out.put (x' := ⟨noRec, Sa, Sn, Sc, SS, La, Ln, Lc, LL, CC⟩) hB5 hne hv hb)
  have HT := Lib.hid (HT.out.but hb HTN.out)
  have HS := Lib.hid (HS.out.but hb (fun h0 b off e => HS5.out _ e))
  have HL := Lib.hid (HL.out.but hb (fun h0 b off e => HL5.out _ e))
  clear hv hb VR
  go_wp2_with fail
  have HNB := Lib.hid RS.out.eye.noBytes
  refine (HU5.out _ _ RS.out.eye).mono ?_
  rintro e wd ⟨rfl, ⟨sd, he⟩, hb⟩
  have HT := Lib.hid (HT.out.butN hb HNB.out)
  have HS := Lib.hid (HS.out.butN hb HNB.out)
  have HL := Lib.hid (HL.out.butN hb HNB.out)
  have RS := Lib.hid (RS.out.read (s' := sd) hyb he hb)
  clear he hb HU5 HNB
  by_cases h0 : D = 0
  rotate_left
  · have hb : (D != 0) = true := by simpa using h0
    have GO := Lib.hid (GON.out D (K4.out h0) h0)
    clear K4 K5 GOY GON
    go_wp2_with (first | (refine wpList_build10 rfl rfl (vs := []) (by rfl) build_prf0 ?_) | (refine wpList_row10 rfl 28 _ _ rfl g2 noPrf.cells (by rfl) (by rfl) 28 noPrf.cells RS.out.res SZ0.out rfl (PPrf.one _) ?_; intro w9 hh9 hb9) | fail)
    refine bodyPost_ret (results_cell_then rfl _ _ g2 28 noPrf.cells.toArray (0, 0) _ (.int .i64 D) rfl rfl hh9 Tryz.underlying28 rfl (by rw [List.size_toArray]; exact SZ0.out)) rfl (GO.out _ (But.in RS.out.below hb9 hB2))
  · have K6 := Lib.hid (K5.out h0)
    subst h0
    have hb : ((0 : Int) != 0) = false := by decide
    clear K4 K5
    go_wp2_with fail
    refine (HRD.out _ _ _ _ HT.out).mono ?_
    rintro e w6 ⟨rfl, hb6⟩
    have RS := Lib.hid (RS.out.more hb6)
    have HS := Lib.hid (HS.out.below hb6)
    have HL := Lib.hid (HL.out.below hb6)
    clear hb6 HRD HT HTN
    go_upto_region 13 with (first | (refine wpList_var rfl rfl 25 rfl _ _ rfl noRec.cells.toArray Tryz.infoRec rfl Z.cells (fun _ => rfl) (fun _ => rfl) ZL.out (PRec.one _) ?_; intro g8 w7 hq hh hb; go_frame; have RS := Lib.hid (RS.out.more hb); have HS := Lib.hid (HS.out.below hb); have HL := Lib.hid (HL.out.below hb); have H8 := Lib.hid hh; clear hq hh hb) | fail)
    by_cases h3 : F = 0
    rotate_left
    · have hb2 : (F != 0) = true := by simpa using h3
      have GO := Lib.hid (GON.out F K6.out h3)
      clear K6 GOY GON
      go_wp2_with (first | (refine wpList_build10 rfl rfl (vs := []) (by rfl) build_prf0 ?_) | (refine wpList_row10 rfl 28 _ _ rfl g2 noPrf.cells (by rfl) (by rfl) 28 noPrf.cells RS.out.res SZ0.out rfl (PPrf.one _) ?_; intro w9 hh9 hb9) | fail)
      refine bodyPost_ret (results_cell_then rfl _ _ g2 28 noPrf.cells.toArray (0, 0) _ (.int .i64 F) rfl rfl hh9 Tryz.underlying28 rfl (by rw [List.size_toArray]; exact SZ0.out)) rfl (GO.out _ (But.in RS.out.below hb9 hB2))
    · have GO := Lib.hid (GOY.out (by rw [K6.out, h3]))
      subst h3
      have hb2 : ((0 : Int) != 0) = false := by decide
      clear K6 GOY GON
      have HN58 : Hid (g5 ≠ g8) := Lib.hid (fun e => by
        have h9 := RS.out.var
        rw [e, H8.out] at h9
        simp at h9)
      go_upto_region 16 with (first | (refine wpList_load_row rfl 25 _ rfl g8 rfl 25 Z.cells.toArray (0, 0) _ H8.out Tryz.underlying25 rfl SZZA.out ?_) | (refine wpList_part10 rfl 25 _ _ rfl g5 0 rfl Z.cells rfl 28 [] noRec.cells (PPrf.tail ⟨noRec, Sa, Sn, Sc, SS, La, Ln, Lc, LL, CC⟩) RS.out.var rfl (by rw [PRec.len noRec_in, ZL.out]) SZZ.out (PRec.one _) ?_; intro w8 hv hb) | fail)
      have RS := Lib.hid (RS.out.put (x' := ⟨Z, Sa, Sn, Sc, SS, La, Ln, Lc, LL, CC⟩) hB5 hne hv hb)
      have HS := Lib.hid (HS.out.but hb (fun h0 b off e => HS5.out _ e))
      have HL := Lib.hid (HL.out.but hb (fun h0 b off e => HL5.out _ e))
      clear hv hb H8
      obtain ⟨X, hX⟩ : ∃ X : PPrf, X = ⟨Z, Sa, Sn, Sc, SS, La, Ln, Lc, LL, CC⟩ := ⟨_, rfl⟩
      have XL : Hid (X.cells.length = noPrf.cells.length) := Lib.hid (by rw [hX, PPrf.len (x := ⟨Z, Sa, Sn, Sc, SS, La, Ln, Lc, LL, CC⟩) HZI.out N4.out]; rfl)
      have RV := Lib.hid (range_of RS.out.var)
      rw [← hX] at RV
      have SLX : Hid ((Tryz.prog.info? 28).map (·.size) = some X.cells.length) := Lib.hid (by rw [XL.out]; exact SZ0.out)
      have GO2 := Lib.hid (fun w9 q1 q2 => GO.out w9 Sa Sn Sc La Ln Lc q1 q2)
      rw [← hX] at GO2
      have HXE := Lib.hid hX
      clear hX GO
      go_wp2_with (first | (refine wpList_load_mid rfl 28 _ rfl g5 0 rfl X.cells _ RV.out Tryz.underlying28 rfl SLX.out ?_) | (refine wpList_row10 rfl 28 _ _ rfl g2 X.cells rfl rfl 28 noPrf.cells RS.out.res SLX.out XL.out.symm (PPrf.one _) ?_; intro w9 hh9 hb9) | fail)
      refine bodyPost_ret (results_cell_then rfl _ _ g2 28 X.cells.toArray (0, 0) _ (.int .i64 0) rfl rfl hh9 Tryz.underlying28 rfl (by rw [List.size_toArray]; exact SLX.out)) rfl (GO2.out _ ?_ (But.in RS.out.below hb9 hB2))
      rw [HXE.out]
      exact ⟨HZI.out, HS.out.but hb9 (fun h0 b off e => HS2.out _ e), HL.out.but hb9 (fun h0 b off e => HL2.out _ e), N4.out⟩
end Go.Proofs.YtcmdpmialehjgaaGreatDoor
