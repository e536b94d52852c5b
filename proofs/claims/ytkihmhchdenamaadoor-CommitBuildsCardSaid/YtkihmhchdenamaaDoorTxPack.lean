/- What tx.Sum, tx.Bytes, tx.Same and tx.Keys come to. -/
import Derived.Test.YtkihmhchdenamaaDoorPutFront
import Derived.Test.YtkihmhchdenamaaDoorSha
import Derived.Test.YtkihmhchdenamaaDoorMemory
namespace Go.Proofs.YtkihmhchdenamaaDoor
open Go.RowKit

def signB (x : PSign) : List UInt8 := numB x.key ++ x.sum
def signsB : List PSign → List UInt8
  | [] => []
  | x :: xs => signB x ++ signsB xs
theorem signsB_append : ∀ u v : List PSign, signsB (u ++ v) = signsB u ++ signsB v
  | [], _ => rfl
  | x :: u, v => by simp [signsB, signsB_append u v]
theorem signsB_take {xs : List PSign} {k : Nat} (h : k < xs.length) : signsB (xs.take (k + 1)) = signsB (xs.take k) ++ signB (xs.getD k noSign) := by
  rw [take_getD (d := noSign) h, signsB_append]
  simp [signsB]
/-- A transaction's bytes. -/
def txB (x : PTx) : List UInt8 := frontB true x ++ (numB (x.signs.length : Nat) ++ signsB x.signs)
def packB (x : PTx) : List UInt8 := if txOk x = true then txB x else []
def packE (x : PTx) : Int := if txOk x = true then 0 else 1
/-- A transaction's sum. -/
def txSum (x : PTx) : List UInt8 := sumOf (partsOf 41 [frontB false x])
theorem txSum_len (x : PTx) : (txSum x).length = 32 := by unfold txSum; exact sumOf_len _

/-! ### Sizes -/
theorem numB_le (z : Int) : (numB z).length ≤ 9 := (numB_len z).2
theorem insB_size (sh : Bool) {M : Nat} : ∀ {xs : List PIn}, (∀ y ∈ xs, y.tx.length = 32 ∧ y.pre.length ≤ M) → (insB sh xs).length ≤ xs.length * (59 + M)
  | [], _ => by simp [insB]
  | x :: xs, h => by
    have ih := insB_size sh (xs := xs) (fun y hy => h y (by simp [hy]))
    obtain ⟨h1, h2⟩ := h x (by simp)
    have n1 := numB_le x.place
    have n2 := numB_le x.way
    have n3 := numB_le (x.pre.length : Nat)
    simp only [insB, inB, List.length_append, List.length_cons, Nat.add_mul, h1]
    split <;> simp only [List.length_append, List.length_nil] <;> omega
theorem outsB_size {W K : Nat} : ∀ {xs : List POut}, (∀ y ∈ xs, y.ws.length ≤ W ∧ ∀ z ∈ y.ws, z.h.length = 32 ∧ z.ks.length ≤ K) → (outsB xs).length ≤ xs.length * (18 + W * (59 + 9 * K))
  | [], _ => by simp [outsB]
  | x :: xs, h => by
    have ih := outsB_size (xs := xs) (fun y hy => h y (by simp [hy]))
    obtain ⟨h1, h2⟩ := h x (by simp)
    have n1 := numB_le x.m
    have n2 := numB_le (x.ws.length : Nat)
    have n3 := waysB_len h2
    have n4 : x.ws.length * (59 + 9 * K) ≤ W * (59 + 9 * K) := Nat.mul_le_mul_right _ h1
    have key : (outB x.m x.ws).length ≤ 18 + W * (59 + 9 * K) := by
      simp only [outB, numsB, List.length_append, List.length_nil]
      omega
    revert key ih
    generalize 18 + W * (59 + 9 * K) = D
    intro ih key
    rw [outsB, List.length_append, List.length_cons, Nat.succ_mul]
    omega
theorem opB_size {x : POp} (h : x.root.length = 32) : (opB x).length ≤ 77 + x.data.length := by
  have n1 := numB_le x.kind
  have n2 := numB_le x.tower
  have n3 := numB_le x.channel
  have n4 := numB_le x.amount
  have n5 := numB_le (x.data.length : Nat)
  simp only [opB, List.length_append, h]
  omega
theorem frontFew {w : World} {x : PTx} (sh : Bool) (h : TxIn w x) (hi : x.inn ≤ 20) (ho : x.on ≤ 20) (hp : ∀ y ∈ x.ins, y.n ≤ 100) (hw : ∀ y ∈ x.outs, y.ws.length ≤ 20 ∧ ∀ z ∈ y.ws, z.ks.length ≤ 20) (hd : x.op.n ≤ 65536) : FrontFew sh x := by
  have hpre : ∀ y ∈ x.ins, y.tx.length = 32 ∧ y.pre.length ≤ 100 := fun y hy => by
    have h9 : InIn w y := h.ins.2.2.2.2.1 y hy
    exact ⟨h9.tx, by rw [h9.pre.1]; exact hp y hy⟩
  have hout : ∀ y ∈ x.outs, y.ws.length ≤ 20 ∧ ∀ z ∈ y.ws, z.h.length = 32 ∧ z.ks.length ≤ 20 := fun y hy => by
    have h9 : OutIn w y := h.outs.2.2.2.2.1 y hy
    exact ⟨(hw y hy).1, fun z hz => ⟨(h9.ws.2.2.2.2.1 z hz).sum, (hw y hy).2 z hz⟩⟩
  have hdl : x.op.data.length ≤ 65536 := by rw [h.op.data.1]; exact hd
  refine ⟨by omega, by omega, fun y hy => by have := (hpre y hy).2; omega, fun y hy => ⟨by have := (hout y hy).1; omega, fun z hz => by have := ((hout y hy).2 z hz).2; omega⟩, by omega, ?_⟩
  have n1 := insB_size sh hpre
  have n2 := outsB_size hout
  have n3 := opB_size h.op.root
  have n4 := numB_le (x.ins.length : Nat)
  have n5 := numB_le (x.outs.length : Nat)
  have l1 := h.ins.1
  have l2 := h.outs.1
  have m1 : x.ins.length * (59 + 100) ≤ 20 * (59 + 100) := Nat.mul_le_mul_right _ (by omega)
  have m2 : x.outs.length * (18 + 20 * (59 + 9 * 20)) ≤ 20 * (18 + 20 * (59 + 9 * 20)) := Nat.mul_le_mul_right _ (by omega)
  simp only [frontB, List.length_append]
  omega
theorem txOk_parts {x : PTx} (h : txOk x = true) : x.inn ≤ 16 ∧ x.on ≤ 16 ∧ x.sn ≤ 16 ∧ (x.inn ≠ 0 ∨ x.op.kind ≠ 0) ∧ opOk x.op = true ∧ insOk [] x.ins = true ∧ outsOk x.outs = true ∧ rises 0 (keysOf x.signs) = true := by
  unfold txOk at h
  simp only [Bool.and_eq_true, decide_eq_true_eq] at h
  obtain ⟨⟨h1, h2, h3⟩, h4, h5, h6, h7, h8⟩ := h
  exact ⟨h1, h2, h3, h4, h5, h6, h7, h8⟩
theorem insOk_each : ∀ {xs pre : List PIn}, insOk pre xs = true → ∀ y ∈ xs, inOk y = true
  | [], _, _, y, hy => by cases hy
  | x :: xs, pre, h, y, hy => by
    simp only [insOk, Bool.and_eq_true] at h
    rcases List.mem_cons.1 hy with rfl | hy
    · exact h.1
    · exact insOk_each h.2.2 y hy
theorem opOk_data {x : POp} (h : opOk x = true) : x.n ≤ 65536 := by
  by_cases hk : x.kind = 0
  · rw [opOk_none hk] at h
    simp only [Bool.and_eq_true, decide_eq_true_eq] at h
    omega
  · rw [opOk_upto hk] at h
    simp only [Bool.and_eq_true, decide_eq_true_eq] at h
    omega
theorem frontOk {w : World} {x : PTx} (sh : Bool) (h : TxIn w x) (hk : txOk x = true) : FrontFew sh x := by
  obtain ⟨h1, h2, _, _, h5, h6, h7, _⟩ := txOk_parts hk
  refine frontFew sh h (by omega) (by omega) (fun y hy => ?_) (fun y hy => ?_) (opOk_data h5)
  · have h9 := insOk_each h6 y hy
    unfold inOk at h9
    simp only [Bool.and_eq_true, decide_eq_true_eq] at h9
    omega
  · unfold outsOk at h7
    rw [List.all_eq_true] at h7
    obtain ⟨_, _, _, h9, h8⟩ := outOk_parts (h7 y hy)
    refine ⟨by omega, fun z hz => ?_⟩
    have h10 := h8 z hz
    unfold wayOk at h10
    simp only [Bool.and_eq_true, decide_eq_true_eq] at h10
    omega

/-! ### Sum -/
set_option linter.unusedSimpArgs false in
set_option maxRecDepth 100000 in
set_option maxHeartbeats 25600000 in
theorem txSum_any {w : World} {x : PTx} (h : TxIn w x) (hk : KsAt w) (hf : FrontFew false x) : Calls Tryd.prog 16 #[.agg x.cells.toArray] w fun e w' => e = .returned (.agg (cellsOf (txSum x)).toArray) ∧ Below w.heap.size w w' := by
  obtain ⟨F, hF⟩ : ∃ F, F = frontB false x := ⟨_, rfl⟩
  have hlen : (partsOf 41 [F]).length ≤ 1125899906842624 := by
    have := hf.len
    rw [hF]
    unfold partsOf partOf
    simp only [List.flatMap_cons, List.flatMap_nil, List.length_cons, List.length_append, four_len, List.length_nil]
    omega
  have hFl : F.length ≤ 140737488355328 := by have := hf.len; rw [hF]; omega
  have e : txSum x = sumOf (partsOf 41 [F]) := by unfold txSum; rw [hF]
  obtain ⟨s, hs, hsl, hj⟩ : ∃ s, sumOf (partsOf 41 [F]) = s ∧ s.length = 32 ∧ ∀ (W : World) (a : Option Addr) (n c : Nat), Rows2 W a n c [F] → KsAt W → Calls Tryd.prog 30 #[.int .u8 41, .slice a n c] W fun e w' => e = .returned (.agg (cellsOf s).toArray) ∧ Below W.heap.size W w' := ⟨_, rfl, sumOf_len _, fun W a n c hr hK => join_any 41 41 rfl hr hK hlen⟩
  rw [e, hs]
  have HF := Lib.hid hf
  have HFE := Lib.hid hF
  have HFL := Lib.hid hFl
  have HK := Lib.hid hk
  have HJ := Lib.hid hj
  have HSL := Lib.hid hsl
  have AX := Lib.hid (tx_sizeA h.op.root)
  have H := Lib.hid h
  clear h hk hf hF hs e hlen hj hsl hFl
  go_enter Tryd.func16, Tryd.ntmps16
  go_upto_region 1 with (fail)
  rw [← zero32_is]
  have b2 : Below w.heap.size w ((w.alloc (.cells x.cells.toArray 38)).alloc (.cells (cellsOf zero32).toArray 23)) := ((Below.refl _ _).alloc (Nat.le_refl _) _).alloc (by simp) _
  have h1 : ((w.alloc (.cells x.cells.toArray 38)).alloc (.cells (cellsOf zero32).toArray 23)).heap[w.heap.size]? = some (.cells x.cells.toArray 38 (0, 0)) := by
    rw [heap_alloc_old _ _ (by simp), heap_alloc_new]
  have h2 : ((w.alloc (.cells x.cells.toArray 38)).alloc (.cells (cellsOf zero32).toArray 23)).heap[w.heap.size + 1]? = some (.cells (cellsOf zero32).toArray 23 (0, 0)) := heap_alloc_at _ _ _ (by simp)
  have h3 : ((w.alloc (.cells x.cells.toArray 38)).alloc (.cells (cellsOf zero32).toArray 23)).heap.size = w.heap.size + 1 + 1 := by simp
  revert b2 h1 h2 h3
  generalize ((w.alloc (.cells x.cells.toArray 38)).alloc (.cells (cellsOf zero32).toArray 23)) = w2
  obtain ⟨g, hg⟩ : ∃ g, g = w.heap.size := ⟨_, rfl⟩
  rw [← hg]
  intro b2 h1 h2 h3
  rw [hg] at b2
  have HG := Lib.hid hg
  have HB2 := Lib.hid b2
  have H2 := Lib.hid (H.out.below b2)
  have H1 := Lib.hid h1
  have HS := Lib.hid h2
  have H3 := Lib.hid h3
  clear b2 h1 h2 h3 hg H
  go_upto_region 2 with (fail)
  have b3 : Below w2.heap.size w2 (w2.alloc (.cells #[.pointer none, .int .i64 0] 76)) := (Below.refl _ _).alloc (Nat.le_refl _) _
  have h4 := heap_alloc_new w2 (.cells #[.pointer none, .int .i64 0] 76)
  revert b3 h4
  generalize (w2.alloc (.cells #[.pointer none, .int .i64 0] 76)) = w3
  obtain ⟨pb, hpb⟩ : ∃ pb, pb = w2.heap.size := ⟨_, rfl⟩
  rw [← hpb]
  intro b3 h4
  have HPBE := Lib.hid hpb
  have HB3 := Lib.hid b3
  have HT3 := Lib.hid ((b3.block g (by rw [HPBE.out, H3.out]; omega)).trans H1.out)
  have HPF := Lib.hid (putFront_at (sh := false) H2.out hpb.symm b3 (.inl ⟨h4, rfl⟩) HF.out)
  clear hpb b3 h4
  go_wp2_with (first | (refine wpList_load_row rfl 38 _ rfl g rfl 38 x.cells.toArray (0, 0) _ HT3.out Tryd.underlying38 rfl AX.out ?_) | fail)
  refine HPF.out.mono ?_
  rintro e w4 ⟨rfl, hp4, hs4⟩
  rw [← HFE.out] at hp4
  have HP4 := Lib.hid hp4
  have HB4 : Hid (Below pb w2 w4) := Lib.hid (HB3.out.trans (hs4.1.below (Nat.le_refl _)))
  have hz4 : pb ≤ w4.heap.size := Nat.le_of_lt hp4.lt
  clear hp4 hs4 HPF HT3
  go_wp2_with fail
  refine (bytes_any HP4.out HFL.out).mono ?_
  rintro e w5 ⟨a5, n5, c5, rfl, hr5, _, hb5⟩
  have HR5 := Lib.hid hr5
  have HB5 : Hid (Below pb w2 w5) := Lib.hid (HB4.out.trans (hb5.mono hz4))
  clear hr5 hb5
  go_wp2_with fail
  have b6 : Below w5.heap.size w5 (w5.alloc (.cells #[.slice a5 n5 c5] 33)) := (Below.refl _ _).alloc (Nat.le_refl _) _
  have hk6 : KsAt (w5.alloc (.cells #[.slice a5 n5 c5] 33)) := (((HK.out.below HB2.out).below (by rw [← HPBE.out]; exact HB5.out))).below b6
  refine (HJ.out _ _ _ _ (rows2_one (heap_alloc_new _ _) (HR5.out.below b6)) hk6).mono ?_
  rintro e w7 ⟨rfl, hb7⟩
  have hb57 : Below w5.heap.size w5 w7 := b6.trans (hb7.mono b6.size)
  have HB7 : Hid (Below pb w2 w7) := Lib.hid (HB5.out.trans (hb57.mono (by have h8 := HB5.out.size; rw [← HPBE.out] at h8; exact h8)))
  have HT1 := Lib.hid ((HB7.out.block (g + 1) (by rw [HPBE.out, H3.out]; omega)).trans HS.out)
  have SS := Lib.hid (size_of HSL.out)
  have SZ : Hid ((cellsOf zero32).toArray.size = (cellsOf s).toArray.size) := Lib.hid (by rw [List.size_toArray, List.size_toArray, cellsOf_len, cellsOf_len, HSL.out]; exact zero32_len)
  clear b6 hk6 hb7 hb57
  go_wp2_with (refine wpList_store_row rfl 23 _ _ rfl (g + 1) (cellsOf s).toArray rfl rfl 23 (cellsOf zero32).toArray HT1.out SS.out SZ.out (all_oneCell_toArray (cellsOf_one s)) ?_)
  refine bodyPost_ret (results_cell_row rfl _ _ (g + 1) 23 (cellsOf s).toArray (0, 0) _ rfl (setRow_heap w7 (g + 1) _ _ 23 _ HT1.out) Tryd.underlying23 rfl SS.out) rfl ⟨rfl, ?_⟩
  have b7 : Below w.heap.size w w7 := HB2.out.trans (HB7.out.mono (by rw [HPBE.out]; exact HB2.out.size))
  exact b7.trans (((but_setRow _ (g + 1) _).mono b7.size).below (by rw [HG.out]; omega))

/-! ### Bytes -/
theorem kept_sign {w w' : World} {g : Nat} {cs : Array Value} {fr : Nat × Nat} (hk : Keeps w w') (h : w.heap[g]? = some (.cells cs 86 fr)) : w'.heap[g]? = some (.cells cs 86 fr) := (hk g _ _ _ h (by decide) (by decide) (by decide)).trans h
theorem signsB_size : ∀ {xs : List PSign}, (∀ y ∈ xs, y.sum.length = 32) → (signsB xs).length ≤ xs.length * 41
  | [], _ => by simp [signsB]
  | x :: xs, h => by
    have ih := signsB_size (xs := xs) (fun y hy => h y (by simp [hy]))
    have n1 := numB_le x.key
    simp only [signsB, signB, List.length_append, List.length_cons, Nat.add_mul, h x (by simp)]
    omega
theorem signsB_le {xs : List PSign} {k : Nat} : (signsB (xs.take k)).length ≤ (signsB xs).length := by
  have e : signsB xs = signsB (xs.take k) ++ signsB (xs.drop k) := by rw [← signsB_append, List.take_append_drop]
  rw [e, List.length_append]
  omega
set_option linter.unusedSimpArgs false in
set_option maxRecDepth 100000 in
set_option maxHeartbeats 25600000 in
theorem txBytes_any {w : World} {x : PTx} (h : TxIn w x) : Calls Tryd.prog 26 #[.agg x.cells.toArray] w fun e w' => ∃ (a : Option Addr) (n c : Nat), e = .returned (.tuple #[.slice a n c, .int .i64 (packE x)]) ∧ Row w' a n c (packB x) ∧ Below w.heap.size w w' := by
  have b1 : Below w.heap.size w (w.alloc (.cells x.cells.toArray 38)) := (Below.refl _ _).alloc (Nat.le_refl _) _
  have h1 := heap_alloc_new w (.cells x.cells.toArray 38)
  have AX := Lib.hid (tx_sizeA h.op.root)
  have HRO := Lib.hid h.op.root
  obtain ⟨PB, hPB⟩ : ∃ r, packB x = r := ⟨_, rfl⟩
  obtain ⟨PE, hPE⟩ : ∃ r, packE x = r := ⟨_, rfl⟩
  rw [hPB, hPE]
  have HPB := Lib.hid hPB
  have HPE := Lib.hid hPE
  have H := Lib.hid h
  clear h hPB hPE
  go_enter Tryd.func26, Tryd.ntmps26
  go_upto_region 1 with (fail)
  revert b1 h1
  generalize (w.alloc (.cells x.cells.toArray 38)) = w1
  obtain ⟨g, hg⟩ : ∃ g, g = w.heap.size := ⟨_, rfl⟩
  rw [← hg]
  intro b1 h1
  rw [hg] at b1
  have H1 := Lib.hid (H.out.below b1)
  have HB1 := Lib.hid b1
  have HG := Lib.hid h1
  have hlt := lt_of_block h1
  have HRI := Lib.hid (txRight_any H1.out)
  clear h1 b1 hg H
  by_cases hok : txOk x = true
  rotate_left
  · have hok' : txOk x = false := by simpa using hok
    rw [hok'] at HRI
    have e1 : PB = [] := by rw [← HPB.out]; unfold packB; rw [if_neg hok]
    have e2 : PE = 1 := by rw [← HPE.out]; unfold packE; rw [if_neg hok]
    subst e1 e2
    clear hok hok' HPB HPE
    go_wp2_with (first | (refine wpList_load_row rfl 38 _ rfl g rfl 38 x.cells.toArray (0, 0) _ HG.out Tryd.underlying38 rfl AX.out ?_) | fail)
    refine HRI.out.mono ?_
    rintro e w2 ⟨rfl, hb2⟩
    have HB2 := Lib.hid (HB1.out.trans (hb2.mono HB1.out.size))
    clear hb2
    go_wp2_with fail
    go_ret2
    exact ⟨none, 0, 0, rfl, Row.nil _, HB2.out⟩
  · have e1 : PB = txB x := by rw [← HPB.out]; unfold packB; rw [if_pos hok]
    have e2 : PE = 0 := by rw [← HPE.out]; unfold packE; rw [if_pos hok]
    subst e2
    have HOK := Lib.hid hok
    rw [hok] at HRI
    have HF := Lib.hid (frontOk true H1.out hok)
    have hsn : x.sn ≤ 16 := (txOk_parts hok).2.2.1
    have HTB := Lib.hid e1
    clear hok HPB HPE e1
    go_wp2_with (first | (refine wpList_load_row rfl 38 _ rfl g rfl 38 x.cells.toArray (0, 0) _ HG.out Tryd.underlying38 rfl AX.out ?_) | fail)
    refine HRI.out.mono ?_
    rintro e w2 ⟨rfl, hb2⟩
    have HB2 := Lib.hid (HB1.out.trans (hb2.mono HB1.out.size))
    have HB12 := Lib.hid hb2
    have H2 := Lib.hid (H1.out.below hb2)
    have HG2 := Lib.hid ((hb2.block g hlt).trans HG.out)
    have hlt2 : g < w2.heap.size := Nat.lt_of_lt_of_le hlt hb2.size
    clear hb2 HRI HG hlt
    go_upto_region 4 with (fail)
    have b3 : Below w2.heap.size w2 (w2.alloc (.cells #[.pointer none, .int .i64 0] 76)) := (Below.refl _ _).alloc (Nat.le_refl _) _
    have h4 := heap_alloc_new w2 (.cells #[.pointer none, .int .i64 0] 76)
    revert b3 h4
    generalize (w2.alloc (.cells #[.pointer none, .int .i64 0] 76)) = w3
    obtain ⟨pb, hpb⟩ : ∃ pb, pb = w2.heap.size := ⟨_, rfl⟩
    rw [← hpb]
    intro b3 h4
    have HPBE := Lib.hid hpb
    have HB3 := Lib.hid b3
    have HGW : Hid (∀ W : World, Below pb w2 W → W.heap[g]? = some (.cells x.cells.toArray 38 (0, 0))) := Lib.hid (fun W hW => (hW.block g (by rw [hpb]; exact hlt2)).trans HG2.out)
    have HT3 := Lib.hid (HGW.out _ b3)
    have HPF := Lib.hid (putFront_at (sh := true) H2.out hpb.symm b3 (.inl ⟨h4, rfl⟩) HF.out)
    clear hpb b3 h4 HG2 hlt2
    go_wp2_with (first | (refine wpList_load_row rfl 38 _ rfl g rfl 38 x.cells.toArray (0, 0) _ HT3.out Tryd.underlying38 rfl AX.out ?_) | fail)
    refine HPF.out.mono ?_
    rintro e w4 ⟨rfl, hp4, hs4⟩
    obtain ⟨F, hF⟩ : ∃ F, F = frontB true x := ⟨_, rfl⟩
    rw [← hF] at hp4
    have HFL : Hid (F.length ≤ 900000) := Lib.hid (by rw [hF]; exact HF.out.len)
    have HFE := Lib.hid hF
    have HP4 := Lib.hid hp4
    have HB4 : Hid (Below pb w2 w4) := Lib.hid (HB3.out.trans (hs4.1.below (Nat.le_refl _)))
    have hz4 : pb ≤ w4.heap.size := Nat.le_of_lt hp4.lt
    have HC : Hid (∀ W : World, Below pb w2 W → W.cell? ⟨g, 39, none⟩ = some (.slice x.sa x.sn x.sc)) := Lib.hid (fun W hW => by have h9 := tx_signs HRO.out (range_of (HGW.out W hW)); rw [Nat.zero_add] at h9; exact h9)
    obtain ⟨A, hA⟩ : ∃ A, A = x.sa := ⟨_, rfl⟩
    have HA := Lib.hid hA
    have c39 : w4.cell? ⟨g, 39, none⟩ = some (.slice A x.sn x.sc) := by rw [hA]; exact HC.out _ HB4.out
    have hs63 : (x.sn : Int) ≤ 9223372036854775807 := by omega
    have HL4 : Hid (F.length + 9 ≤ 140737488355328) := Lib.hid (by have := HFL.out; omega)
    clear hp4 hs4 HPF HT3 hF hA
    go_wp2_with fail
    refine (pnum_typed (x.sn : Int) HP4.out hz4 HL4.out hs63).mono ?_
    rintro e w5 ⟨rfl, hp5, hb5, _⟩
    have HP5 := Lib.hid hp5
    have HB5 : Hid (Below pb w2 w5) := Lib.hid (HB4.out.trans (hb5.below (Nat.le_refl _)))
    replace c39 : w5.cell? ⟨g, 39, none⟩ = some (.slice A x.sn x.sc) := by rw [HA.out]; exact HC.out _ HB5.out
    clear hp5 hb5 HP4 HB4
    go_upto_region 7 with (fail)
    clear c39
    have HSZ : Hid ((signsB x.signs).length ≤ 16 * 41) := Lib.hid (by
      have h9 := signsB_size (xs := x.signs) (fun y hy => (show SignIn y from H2.out.signs.2.2.2.2.1 y hy).sum)
      have h8 : x.signs.length * 41 ≤ 16 * 41 := Nat.mul_le_mul_right _ (by rw [H2.out.signs.1]; exact hsn)
      omega)
    go_loopw [19] (fun i wr => ∃ k : Nat, k ≤ x.sn ∧ i = .int .i64 k ∧ PenAt wr pb pb (F ++ numB (x.sn : Int) ++ signsB (x.signs.take k)) ∧ Below pb w2 wr) (fun i _ => x.sn - (intOf i).toNat)
    case atStart => exact ⟨0, Nat.zero_le _, rfl, by have h9 := HP5.out; simpa [signsB] using h9, HB5.out⟩
    case round =>
      obtain ⟨k, hk, rfl, hpk, hbk⟩ := hrel
      have HPK := Lib.hid hpk
      have HBK := Lib.hid hbk
      have hbzr : pb ≤ wr.heap.size := Nat.le_of_lt hpk.lt
      clear hpk hbk HP5 HB5
      by_cases hkn : k < x.sn
      · have f1 : (k : Int) < (x.sn : Int) := by omega
        have f0 : (0 : Int) ≤ (k : Int) := by omega
        have ft : ((k : Int)).toNat = k := by omega
        have hkl : k < x.signs.length := by rw [H2.out.signs.1]; exact hkn
        have hsg := H2.out.signs.below (show Below w2.heap.size w2 wr by rw [← HPBE.out]; exact HBK.out)
        obtain ⟨b1, o1, e1, hltb, hc1⟩ := hsg.2.2.2.2.2 (by omega)
        have hrx : wr.rangeAt b1 (o1 + k * 33) (x.signs.getD k noSign).cells := hc1 k hkn
        have hy1 : SignIn (x.signs.getD k noSign) := hsg.get hkn
        have hnx := signsB_take hkl
        have hll := signsB_le (xs := x.signs) (k := k + 1)
        rw [hnx] at hll
        revert hrx hy1 hnx hll
        generalize x.signs.getD k noSign = y
        intro hrx hy1 hnx hll
        obtain ⟨P, hP⟩ : ∃ P, P = F ++ numB (x.sn : Int) ++ signsB (x.signs.take k) := ⟨_, rfl⟩
        have HNX : Hid (F ++ numB (x.sn : Int) ++ signsB (x.signs.take (k + 1)) = P ++ signB y) := Lib.hid (by rw [hnx, hP]; simp only [List.append_assoc])
        have HLW : Hid (P.length + 100 ≤ 1000000) := Lib.hid (by
          have h9 := HFL.out
          have h8 := numB_le (x.sn : Int)
          have h7 := HSZ.out
          rw [hP]
          simp only [List.length_append] at hll ⊢
          omega)
        rw [← hP] at HPK
        have RY := Lib.hid hrx
        have SSM := Lib.hid (sumLen hy1.sum)
        have HSM := Lib.hid hy1.sum
        have SY := Lib.hid (sign_size hy1.sum)
        have AY := Lib.hid (sign_sizeA hy1.sum)
        have ZY : Hid (noSign.cells.toArray.size = y.cells.toArray.size) := Lib.hid (by rw [List.size_toArray, List.size_toArray, PSign.len hy1.sum]; rfl)
        have HFK : Hid (y.key ≤ 9223372036854775807) := Lib.hid hy1.key.2
        rw [← HA.out] at e1
        subst e1
        clear hc1 hrx hy1 hnx hll hP hkl hsg
        go_upto_region 9 with (first | (refine wpList_load_mid rfl 86 _ rfl b1 (o1 + k * 33) rfl y.cells _ RY.out Tryd.underlying86 rfl SY.out ?_) | (refine wpList_store_row rfl 86 _ _ rfl wr.heap.size y.cells.toArray rfl rfl 86 noSign.cells.toArray (heap_alloc_new _ _) AY.out ZY.out (all_oneCell_toArray y.one) ?_) | fail)
        rw [← noSign_is, layT_is]
        have h5 := layT_heap 86 noSign.cells wr y.cells
        have b5 := layT_self 86 noSign.cells wr y.cells
        revert h5 b5
        generalize layT 86 noSign.cells wr y.cells = w5
        obtain ⟨g5, hg5⟩ : ∃ g5, g5 = wr.heap.size := ⟨_, rfl⟩
        rw [← hg5]
        intro h5 b5
        rw [hg5] at b5
        have H5 := Lib.hid h5
        have hbz5 : pb ≤ w5.heap.size := Nat.le_trans hbzr b5.size
        have HPEN0 : Hid (PenAt w5.drew pb pb P) := Lib.hid ((HPK.out.below hbzr b5).below hbz5 (below_drew (Below.refl _ _)))
        have HBW : Hid (Below pb w2 w5) := Lib.hid (HBK.out.trans (b5.mono hbzr))
        clear h5 b5 hg5 HPK RY
        try simp only [Act.put]
        refine wp_region_held_drew (S := fun w' => PStep pb pb w5 w') (by kernel_rfl) (⟨But.of (below_drew (Below.refl _ _)), fun _ _ _ _ _ _ _ _ => rfl⟩) (fun hHeld => ?_)
        refine take_at (i := 0) (v := ?_) rfl rfl (by kernel_rfl) (by kernel_rfl) (by kernel_rfl) (fun _ _ _ h => h) (Or.inl ⟨by rfl, ?_⟩) (by assumption) ?_
        rotate_left
        · intro w0 hSw; (try dsimp only at hSw); first | (go_simp; done) | (go_simp; with_reducible rfl)
        simp only [List.setIfInBounds_toArray, List.set_cons_zero, List.set_cons_succ]
        refine take_at (i := 1) rfl rfl (by kernel_rfl) (by kernel_rfl) (by kernel_rfl) (fun _ _ _ h => h) (yields_cell (by rfl) rfl rfl (b := g5) (o := 0) (fun w0 hSw => sign_key (range_of (kept_sign hSw.2 H5.out))) Tryd.isAgg3) (by assumption) ?_
        simp only [List.setIfInBounds_toArray, List.set_cons_zero, List.set_cons_succ]
        refine take_at (i := 3) (v := ?_) rfl rfl (by kernel_rfl) (by kernel_rfl) (by kernel_rfl) (fun _ _ _ h => h) (Or.inl ⟨by rfl, ?_⟩) (by assumption) ?_
        rotate_left
        · intro w0 hSw; (try dsimp only at hSw); first | (go_simp; done) | (go_simp; with_reducible rfl)
        simp only [List.setIfInBounds_toArray, List.set_cons_zero, List.set_cons_succ]
        refine take_at (i := 4) rfl rfl (by kernel_rfl) (by kernel_rfl) (by kernel_rfl) (fun _ _ _ h => h) (yieldsIf_load_mid (by rfl) _ _ rfl g5 1 rfl (cellsOf y.sum) _ (fun w0 hSw => (by have h8 := sign_sum (range_of (kept_sign hSw.2 H5.out)); rw [Nat.zero_add] at h8; exact h8)) Tryd.underlying23 rfl SSM.out) (by assumption) ?_
        simp only [List.setIfInBounds_toArray, List.set_cons_zero, List.set_cons_succ]
        refine wpAnyH_ready (rs := [2]) (by kernel_rfl) (by simp) ?_
        refine AllReadyH.cons rfl (fun K hK => ?_) ?_
        · have HZw5drew : Hid (pb ≤ (w5.drew).heap.size) := Lib.hid (Nat.le_trans hbz5 hHeld.1.size)
          have hHbw5drew : Hid (But pb pb w5 (w5.drew)) := Lib.hid hHeld.1
          go_simp
          go_wp2_with ((go_at_call 34; (with_reducible refine (pnum_typed y.key HPEN0.out HZw5drew.out (by have := HLW.out; omega) HFK.out).mono ?_); rintro e y2 ⟨rfl, hp, hb, hk⟩; have HPy2 := Lib.hid hp; have HSy2 : Hid (PStep pb pb _ y2) := Lib.hid ⟨hb, hk⟩; clear hp hb hk))
          refine hK.out _ _ (by (try dsimp only); exact ⟨hHeld.1.trans HSy2.out.1, hHeld.2.trans HSy2.out.2⟩) (fun hHeld => ?_)
          clear hK K
          refine wpAnyH_ready (rs := [5]) (by kernel_rfl) (by simp) ?_
          refine AllReadyH.cons rfl (fun K hK => ?_) ?_
          · have HZy2 : Hid (pb ≤ (y2).heap.size) := Lib.hid (Nat.le_trans hbz5 hHeld.1.size)
            have hHby2 : Hid (But pb pb w5 (y2)) := Lib.hid hHeld.1
            go_simp
            go_wp2_with ((go_at_call 35; (with_reducible refine (psum_typed _ HSM.out HPy2.out HZy2.out (by have h0 := HLW.out; have h1 := numB_le y.key; rw [List.length_append]; omega)).mono ?_); rintro e y5 ⟨rfl, hp, hb, hk⟩; have HPy5 := Lib.hid hp; have HSy5 : Hid (PStep pb pb _ y5) := Lib.hid ⟨hb, hk⟩; clear hp hb hk))
            refine hK.out _ _ (by (try dsimp only); exact ⟨hHeld.1.trans HSy5.out.1, hHeld.2.trans HSy5.out.2⟩) (fun hHeld => ?_)
            clear hK K
            refine wpAnyH_done (by kernel_rfl) ?_ _
            have HST := Lib.hid (show PStep pb pb w5 y5 from hHeld)
            clear hHeld
            have HBY := Lib.hid (HBW.out.trans (HST.out.1.below (Nat.le_refl _)))
            have HPE : Hid (PenAt y5 pb pb (F ++ numB (x.sn : Int) ++ signsB (x.signs.take (k + 1)))) := Lib.hid (by have h9 := HPy5.out; rw [HNX.out]; unfold signB; simpa using h9)
            go_wp2_with fail
            go_roundw
            case rel => exact ⟨k + 1, by omega, by go_num, HPE.out, HBY.out⟩
            case measure => simp [intOf]; omega
          exact AllReadyH.nil
        exact AllReadyH.nil
      · obtain rfl : k = x.sn := by omega
        have f1 : ¬ ((x.sn : Int) < (x.sn : Int)) := by omega
        have htk : x.signs.take x.sn = x.signs := List.take_of_length_le (by rw [H2.out.signs.1]; exact Nat.le_refl _)
        rw [htk] at HPK
        have HPT : Hid (PenAt wr pb pb (txB x)) := Lib.hid (by have h9 := HPK.out; unfold txB; rw [H2.out.signs.1, ← HFE.out]; simpa using h9)
        have HTL : Hid ((txB x).length ≤ 140737488355328) := Lib.hid (by
          have h9 := HFL.out
          have h8 := numB_le (x.signs.length : Nat)
          have h7 := HSZ.out
          unfold txB
          rw [← HFE.out]
          simp only [List.length_append]
          omega)
        clear htk HPK
        go_wp2_with fail
        refine (bytes_any HPT.out HTL.out).mono ?_
        rintro e w8 ⟨a8, n8, c8, rfl, hr, _, hb8⟩
        rw [← HTB.out] at hr
        have HR8 := Lib.hid hr
        have HB8 := Lib.hid (HB2.out.trans ((HBK.out.trans (hb8.mono hbzr)).mono (by rw [HPBE.out]; exact HB2.out.size)))
        clear hr hb8
        go_wp2_with fail
        go_ret2
        exact ⟨a8, n8, c8, rfl, HR8.out, HB8.out⟩

/-! ### Same -/
theorem nums_back (l : List UInt8) : (l.map fun b => ((b.toNat : Nat) : Int)).map (fun n => UInt8.ofNat n.toNat) = l := by
  rw [List.map_map]
  conv => rhs; rw [← List.map_id l]
  apply List.map_congr_left
  intro b _
  simp
theorem bytesEq_any {w : World} {a b : Option Addr} {n c m d : Nat} {l q : List UInt8} (h : Row w a n c l) (k : Row w b m d q) :
    Calls Tryd.prog 27 #[.slice a n c, .slice b m d] w fun e w' => e = .returned (.bool (decide (l = q))) ∧ w = w' := by
  have e : ∀ l : List UInt8, strOfNums (l.map fun b => ((b.toNat : Nat) : Int)) = ⟨l.toArray⟩ := fun l => by unfold strOfNums; rw [nums_back]
  refine (Tryd.bytes_Equal (.slice a n c) (.slice b m d) (l.map fun b => ((b.toNat : Nat) : Int)) (q.map fun b => ((b.toNat : Nat) : Int)) w (by rw [e]; exact conv_row h) (by rw [e]; exact conv_row k)).mono ?_
  rintro e w' ⟨rfl, rfl⟩
  refine ⟨?_, rfl⟩
  unfold Lib.bytesOf
  rw [nums_back, nums_back]
  congr 2
  rw [Bool.eq_iff_iff]
  simp
set_option linter.unusedSimpArgs false in
set_option maxRecDepth 100000 in
set_option maxHeartbeats 25600000 in
theorem txSame_any {w : World} {x y : PTx} (h : TxIn w x) (k : TxIn w y) : Calls Tryd.prog 12 #[.agg x.cells.toArray, .agg y.cells.toArray] w fun e w' => e = .returned (.bool (txOk x && (txOk y && decide (txB x = txB y)))) ∧ Below w.heap.size w w' := by
  have b1 : Below w.heap.size w ((w.alloc (.cells x.cells.toArray 38)).alloc (.cells y.cells.toArray 38)) := ((Below.refl _ _).alloc (Nat.le_refl _) _).alloc (by simp) _
  have h1 : ((w.alloc (.cells x.cells.toArray 38)).alloc (.cells y.cells.toArray 38)).heap[w.heap.size]? = some (.cells x.cells.toArray 38 (0, 0)) := by
    rw [heap_alloc_old _ _ (by simp), heap_alloc_new]
  have h2 : ((w.alloc (.cells x.cells.toArray 38)).alloc (.cells y.cells.toArray 38)).heap[w.heap.size + 1]? = some (.cells y.cells.toArray 38 (0, 0)) := heap_alloc_at _ _ _ (by simp)
  have AX := Lib.hid (tx_sizeA h.op.root)
  have AY := Lib.hid (tx_sizeA k.op.root)
  have H := Lib.hid h
  have K := Lib.hid k
  obtain ⟨r1, hr1⟩ : ∃ r, txOk x = r := ⟨_, rfl⟩
  obtain ⟨r2, hr2⟩ : ∃ r, txOk y = r := ⟨_, rfl⟩
  obtain ⟨LX, hLX⟩ : ∃ r, txB x = r := ⟨_, rfl⟩
  obtain ⟨LY, hLY⟩ : ∃ r, txB y = r := ⟨_, rfl⟩
  have e1 : packE x = if r1 = true then 0 else 1 := by unfold packE; rw [hr1]
  have e2 : packE y = if r2 = true then 0 else 1 := by unfold packE; rw [hr2]
  have e3 : packB x = if r1 = true then LX else [] := by unfold packB; rw [hr1, hLX]
  have e4 : packB y = if r2 = true then LY else [] := by unfold packB; rw [hr2, hLY]
  rw [hr1, hr2, hLX, hLY]
  have HC1 : Hid (∀ W : World, Below w.heap.size w W → Calls Tryd.prog 26 #[.agg x.cells.toArray] W fun e w' => ∃ (a : Option Addr) (n c : Nat), e = .returned (.tuple #[.slice a n c, .int .i64 (if r1 = true then 0 else 1)]) ∧ Row w' a n c (if r1 = true then LX else []) ∧ Below W.heap.size W w') := Lib.hid (fun W hW => by rw [← e1, ← e3]; exact txBytes_any (h.below hW))
  have HC2 : Hid (∀ W : World, Below w.heap.size w W → Calls Tryd.prog 26 #[.agg y.cells.toArray] W fun e w' => ∃ (a : Option Addr) (n c : Nat), e = .returned (.tuple #[.slice a n c, .int .i64 (if r2 = true then 0 else 1)]) ∧ Row w' a n c (if r2 = true then LY else []) ∧ Below W.heap.size W w') := Lib.hid (fun W hW => by rw [← e2, ← e4]; exact txBytes_any (k.below hW))
  clear h k e1 e2 e3 e4 hr1 hr2 hLX hLY
  go_enter Tryd.func12, Tryd.ntmps12
  go_upto_region 1 with (fail)
  revert b1 h1 h2
  generalize ((w.alloc (.cells x.cells.toArray 38)).alloc (.cells y.cells.toArray 38)) = w2
  obtain ⟨g, hg⟩ : ∃ g, g = w.heap.size := ⟨_, rfl⟩
  rw [← hg]
  intro b1 h1 h2
  rw [hg] at b1
  have HB := Lib.hid b1
  have HX := Lib.hid h1
  have HY := Lib.hid h2
  have hlt := lt_of_block h2
  clear b1 h1 h2 hg
  go_wp2_with (first | (refine wpList_load_row rfl 38 _ rfl g rfl 38 x.cells.toArray (0, 0) _ HX.out Tryd.underlying38 rfl AX.out ?_) | fail)
  refine (HC1.out _ HB.out).mono ?_
  rintro e w3 ⟨a1, n1, c1, rfl, hr1, hb3⟩
  have HB3 := Lib.hid (HB.out.trans (hb3.mono HB.out.size))
  have HR1 := Lib.hid hr1
  have HY3 := Lib.hid ((hb3.block _ hlt).trans HY.out)
  clear hb3 hr1
  cases r1
  · go_wp2_with fail
    go_ret
    exact ⟨rfl, HB3.out⟩
  · simp only [if_true] at HR1 ⊢
    go_wp2_with (first | (refine wpList_load_row rfl 38 _ rfl (g + 1) rfl 38 y.cells.toArray (0, 0) _ HY3.out Tryd.underlying38 rfl AY.out ?_) | fail)
    refine (HC2.out _ HB3.out).mono ?_
    rintro e w4 ⟨a2, n2, c2, rfl, hr2, hb4⟩
    have HB4 := Lib.hid (HB3.out.trans (hb4.mono HB3.out.size))
    have HR1' := Lib.hid (HR1.out.below hb4)
    have HR2 := Lib.hid hr2
    clear hb4 hr2
    cases r2
    · go_wp2_with fail
      go_ret
      exact ⟨by simp, HB4.out⟩
    · simp only [if_true] at HR2 ⊢
      go_wp2_with (first | (go_at_call 27; (with_reducible refine (bytesEq_any HR1'.out HR2.out).mono ?_); rintro e w9 ⟨rfl, rfl⟩) | fail)
      go_ret
      exact ⟨by simp, HB4.out⟩
end Go.Proofs.YtkihmhchdenamaaDoor
