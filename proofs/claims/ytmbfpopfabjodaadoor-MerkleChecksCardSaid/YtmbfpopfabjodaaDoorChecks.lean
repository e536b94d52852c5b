/- The walk of MerkleChecks. -/
import Derived.Test.YtmbfpopfabjodaaDoorAwake3
namespace Go.Proofs.YtmbfpopfabjodaaDoor
open Go.RowKit

theorem way_len (row : List (List UInt8)) : ∀ (k i : Nat), (way pairSum k i row).length ≤ k := by
  intro k
  induction k generalizing row with
  | zero => intro i; exact Nat.le_refl _
  | succ k ih =>
    intro i
    show (row[beside i]?.toList ++ way pairSum k (i / 2) (up pairSum row)).length ≤ k + 1
    rw [List.length_append]
    have h1 := ih (up pairSum row) (i / 2)
    have h2 : row[beside i]?.toList.length ≤ 1 := by cases row[beside i]? <;> simp
    omega
/-- What holds of the path of a place. -/
theorem path_facts {ls : List (List UInt8)} {n i : Nat} (hn : ls.length = n) (hi : i < n) (h40 : n ≤ 40) :
    ∃ P : List (List UInt8), pathOf pairSum i (ls.map leafSum) = P ∧ P.length ≤ 6 ∧ ascend pairSum 12 (leafSum (ls.getD i [])) i n P = some (rootSum ls) ∧
      (∀ q : List (List UInt8), q.length ≠ P.length → ascend pairSum 12 (leafSum (ls.getD i [])) i n q = none) := by
  have hml : (ls.map leafSum).length = n := by rw [List.length_map, hn]
  have e6 := way_path pairSum (ls.map leafSum) i 6 (by rw [hml]; exact hi) (by rw [hml]; omega)
  have e12 := way_path pairSum (ls.map leafSum) i 12 (by rw [hml]; exact hi) (by rw [hml]; omega)
  have ha := ascend_way pairSum 12 (ls.map leafSum) i (by rw [hml]; exact hi) (by rw [hml]; omega)
  have hg : (ls.map leafSum).getD i default = leafSum (ls.getD i []) := by
    have : i < ls.length := by omega
    simp [List.getD, this]
  have hr : rootSum ls = top pairSum (ls.map leafSum) := by
    unfold rootSum
    rw [if_neg]
    intro h1
    rw [List.isEmpty_iff] at h1
    subst h1
    simp at hn
    omega
  rw [hg, hml, e12, ← hr] at ha
  refine ⟨_, rfl, ?_, ha, fun q hq => ascend_other pairSum ha q hq _⟩
  rw [← e6]
  exact way_len _ 6 i
theorem wpList_append_to {ops : Array Oper} {rest : List Oper} {o : Oper} {a : Act} {w : World} {Q : Exit → Act → World → Prop} (hg : o.guard = none) (x y : Operand)
    (ho : o.op = .call { callee := .builtin .append, args := #[x, y], argTypes := #[22, 22] }) (hty : o.type = 22) (B : Nat) (v : Value) (ls : List (List UInt8)) (n : Nat) (hn : ls.length = n) (hx : a.eval x = v) (h : OwnS w B v ls) (ad : Option Addr) (m c : Nat) (q : List (List UInt8)) (hy : a.eval y = .slice ad m c) (hq : Sums w ad m c q) (N : Nat) (hN : n + m = N) (hb : N ≤ 1000000) (hbase : B ≤ w.heap.size)
    (hk : ∀ a' c' w', OwnS w' B (.slice a' N c') (ls ++ q) → w.grownBy w' v.ownBlock → wpList Tryd.prog ops Q rest (a.put o.dst (.slice a' N c')) w') : wpList Tryd.prog ops Q (o :: rest) a w := by
  subst hN
  exact wpList_append_sums hg x y ho hty B v ls n hn hx h ad m c q hy hq hb hbase hk
/-- The rounds of MerkleChecks: the world at a place. -/
def Round (w3 : World) (n : Nat) (x : Value) (wr : World) : Prop := ∃ i : Nat, i ≤ n ∧ x = .int .i64 i ∧ Below w3.heap.size w3 wr
set_option linter.unusedSimpArgs false in
set_option maxRecDepth 100000 in
set_option maxHeartbeats 6400000 in
theorem checks_walk {w : World} {a : Option Addr} {n0 c : Nat} {l0 : List (List UInt8)} (h : Sums w a n0 c l0) (hk : KsAt w) :
    Calls Tryd.prog 4 #[.slice a n0 c] w fun e w' => e = .returned (.bool true) ∧ Below w.heap.size w w' := by
  have hf := few_any h
  have haw : ∀ (W : World), KsAt W → Calls Tryd.prog 12 #[] W fun e w' => e = .returned (.bool true) ∧ Below W.heap.size W w' := fun W hW => awake3_any hW
  obtain ⟨n, hn⟩ : ∃ n, n = min n0 40 := ⟨_, rfl⟩
  obtain ⟨ls, hls⟩ : ∃ ls, ls = l0.take 40 := ⟨_, rfl⟩
  rw [← hn, ← hls] at hf
  have h40 : n ≤ 40 := by omega
  have HF := Lib.hid hf
  have HAW := Lib.hid haw
  have HK := Lib.hid hk
  clear h hk hf haw hn hls
  go_enter Tryd.func4, Tryd.ntmps4
  go_wp2_with (first | (go_at_call 6; (with_reducible refine (HF.out).mono ?_); rintro e w' ⟨rfl, hs1, rfl⟩; have HS := Lib.hid hs1; clear hs1) | fail)
  obtain ⟨r, hr', hrl⟩ : ∃ r, rootSum ls = r ∧ r.length = 32 := ⟨_, rfl, rootSum_len ls⟩
  have hroot := root_any HS.out HK.out (by omega)
  rw [hr'] at hroot
  have szr : (Tryd.prog.info? 24).map (·.size) = some (cellsOf r).toArray.size := by rw [List.size_toArray, cellsOf_len, hrl]; exact Tryd.size24
  have hz : (cellsOf zero32).toArray.size = (cellsOf r).toArray.size := by rw [List.size_toArray, List.size_toArray, cellsOf_len, cellsOf_len, hrl]; rfl
  have HRT := Lib.hid hroot
  have HRR := Lib.hid hr'
  have HRL := Lib.hid hrl
  have SZR := Lib.hid szr
  have HZ := Lib.hid hz
  clear hroot hr' hrl szr hz
  refine HRT.out.mono ?_
  rintro e w2 ⟨rfl, hb2⟩
  have HB2 := Lib.hid hb2
  clear hb2
  go_wp2_with (refine wpList_store_row rfl 24 _ _ rfl w2.heap.size (cellsOf r).toArray rfl rfl 24 (cellsOf zero32).toArray (heap_alloc_new _ _) SZR.out HZ.out (all_oneCell_toArray (cellsOf_one r)) ?_)
  rw [← zero32_is]
  have hg3 : ((w2.alloc (.cells (cellsOf zero32).toArray 24)).setRow w2.heap.size (cellsOf r).toArray).heap[w2.heap.size]? = some (.cells (cellsOf r).toArray 24 (0, 0)) := setRow_heap _ _ _ _ _ _ (heap_alloc_new _ _)
  have hb3 : Below w.heap.size w ((w2.alloc (.cells (cellsOf zero32).toArray 24)).setRow w2.heap.size (cellsOf r).toArray) := by
    have b : Below w.heap.size w (w2.alloc (.cells (cellsOf zero32).toArray 24)) := HB2.out.alloc HB2.out.size _
    exact b.trans (((but_setRow _ w2.heap.size _).mono b.size).below HB2.out.size)
  revert hg3 hb3
  generalize ((w2.alloc (.cells (cellsOf zero32).toArray 24)).setRow w2.heap.size (cellsOf r).toArray) = w3
  generalize w2.heap.size = g
  intro hg3 hb3
  have HG3 := Lib.hid hg3
  have HB3 := Lib.hid hb3
  clear hg3 hb3
  go_loopw [4] (fun x wr => Round w3 n x wr) (fun x _ => n - (intOf x).toNat)
  case atStart => exact ⟨0, Nat.zero_le _, rfl, Below.refl _ _⟩
  case round =>
    obtain ⟨i, hin, rfl, hb⟩ := hrel
    have HB := Lib.hid hb
    have HKR := Lib.hid ((HK.out.below HB3.out).below hb)
    have HSR := Lib.hid ((HS.out.below HB3.out).below (hb.mono (Nat.le_refl _)))
    have HGR := Lib.hid ((hb.block _ (lt_of_block HG3.out)).trans HG3.out)
    clear hb
    by_cases hi : i < n
    · obtain ⟨P, hP, hP6, hP1, hP2⟩ := path_facts HSR.out.len hi h40
      obtain ⟨s, hs'⟩ : ∃ s, ls.getD i [] = s := ⟨_, rfl⟩
      have hsl := HSR.out.each hi
      rw [hs'] at hP1 hP2 hsl
      rw [HRR.out] at hP1
      obtain ⟨b, off, rfl, hlt, hcells⟩ := HSR.out.2.2.2.2.2 (by omega)
      have hrs := hcells i hi
      rw [hs'] at hrs
      have hpath := path_in i hi (by omega) HSR.out HKR.out
      rw [hP] at hpath
      obtain ⟨np, hnp⟩ : ∃ np, np = P.length := ⟨_, rfl⟩
      have hck : ∀ (q : List (List UInt8)) (B : Bool), decide (ascend pairSum 12 (leafSum s) i n q = some r) = B → ∀ (W : World) (a : Option Addr) (m c : Nat), Sums W a m c q → KsAt W → Calls Tryd.prog 15 #[.agg (cellsOf r).toArray, .agg (cellsOf s).toArray, .int .i64 (i : Int), .int .i64 (n : Int), .slice a m c] W fun e w' => e = .returned (.bool B) ∧ Below W.heap.size W w' := fun q B hB W a m c hS hW => by rw [← hB]; exact check_in i n hi (by omega) HRL.out hsl hS hW
      have hc1 := hck P true (by rw [hP1]; simp)
      have hc2 := hck (P ++ [r]) false (by rw [hP2 _ (by simp)]; rfl)
      have hc3 : 0 < np → _ := fun h0 => hck (P.drop 1) false (by rw [hP2 _ (by rw [List.length_drop]; omega)]; rfl)
      have szs : (Tryd.prog.info? 24).map (·.size) = some (cellsOf s).length := by rw [cellsOf_len, hsl]; exact Tryd.size24
      have HPT := Lib.hid hpath
      have HC1 := Lib.hid hc1
      have HC2 := Lib.hid hc2
      have HC3 := Lib.hid hc3
      have HRS := Lib.hid hrs
      have SZS := Lib.hid szs
      have HNP := Lib.hid hnp
      have np6 : np ≤ 6 := by omega
      clear hP hP6 hP1 hP2 hs' hsl hcells hrs hpath hck hc1 hc2 hc3 szs hnp
      go_wp2_with fail
      refine HPT.out.mono ?_
      rintro e w4 ⟨a4, c4, rfl, hs4, hb4⟩
      rw [← HNP.out] at hs4 ⊢
      have HS4 := Lib.hid hs4
      have HB4 := Lib.hid hb4
      have HK4 := Lib.hid (HKR.out.below hb4)
      have HG4 := Lib.hid ((hb4.block _ (lt_of_block HGR.out)).trans HGR.out)
      have HRG4 := Lib.hid (range_of ((hb4.block _ (lt_of_block HGR.out)).trans HGR.out))
      have HRS4 := Lib.hid (rangeAt_below HRS.out hlt hb4)
      have hlt4 : b < w4.heap.size := Nat.lt_of_lt_of_le hlt hb4.size
      have glt4 : g < w4.heap.size := lt_of_block ((hb4.block _ (lt_of_block HGR.out)).trans HGR.out)
      clear hs4 hb4 hlt
      go_wp2_with fail
      refine wp_region_held_drew (S := fun w' => Below w4.heap.size w4 w') (by kernel_rfl) (below_drew (Below.refl _ _)) (fun hHeld => ?_)
      refine take_at (i := 0) (v := ?_) rfl rfl (by kernel_rfl) (by kernel_rfl) (by kernel_rfl) (fun _ _ _ h => h) (Or.inl ⟨by rfl, ?_⟩) (by assumption) ?_
      rotate_left
      · intro w0 hSw; (try dsimp only at hSw); first | (go_simp; done) | (go_simp; with_reducible rfl)
      simp only [List.setIfInBounds_toArray, List.set_cons_zero, List.set_cons_succ]
      refine take_at (i := 1) (v := ?_) rfl rfl (by kernel_rfl) (by kernel_rfl) (by kernel_rfl) (fun _ _ _ h => h) (Or.inl ⟨by rfl, ?_⟩) (by assumption) ?_
      rotate_left
      · intro w0 hSw; (try dsimp only at hSw); first | (go_simp; done) | (go_simp; with_reducible rfl)
      simp only [List.setIfInBounds_toArray, List.set_cons_zero, List.set_cons_succ]
      refine take_at (i := 2) (v := ?_) rfl rfl (by kernel_rfl) (by kernel_rfl) (by kernel_rfl) (fun _ _ _ h => h) (Or.inl ⟨by rfl, ?_⟩) (by assumption) ?_
      rotate_left
      · intro w0 hSw; (try dsimp only at hSw); first | (go_simp; done) | (go_simp; with_reducible rfl)
      simp only [List.setIfInBounds_toArray, List.set_cons_zero, List.set_cons_succ]
      refine take_at (i := 3) rfl rfl (by kernel_rfl) (by kernel_rfl) (by kernel_rfl) (fun _ _ _ h => h) (yieldsIf_load_mid (by rfl) _ _ rfl g 0 rfl (cellsOf r) _ (fun w0 hSw => rangeAt_below HRG4.out glt4 hSw) Tryd.underlying24 rfl SZR.out) (by assumption) ?_
      simp only [List.setIfInBounds_toArray, List.set_cons_zero, List.set_cons_succ]
      refine take_at (i := 4) (v := ?_) rfl rfl (by kernel_rfl) (by kernel_rfl) (by kernel_rfl) (fun _ _ _ h => h) (Or.inl ⟨by rfl, ?_⟩) (by assumption) ?_
      rotate_left
      · intro w0 hSw; (try dsimp only at hSw); first | (go_simp; done) | (go_simp; with_reducible rfl)
      simp only [List.setIfInBounds_toArray, List.set_cons_zero, List.set_cons_succ]
      refine take_at (i := 5) (v := ?_) rfl rfl (by kernel_rfl) (by kernel_rfl) (by kernel_rfl) (fun _ _ _ h => h) (Or.inl ⟨by rfl, ?_⟩) (by assumption) ?_
      rotate_left
      · intro w0 hSw; (try dsimp only at hSw); first | (go_simp; done) | (go_simp; with_reducible rfl)
      simp only [List.setIfInBounds_toArray, List.set_cons_zero, List.set_cons_succ]
      refine take_at (i := 6) (v := ?_) rfl rfl (by kernel_rfl) (by kernel_rfl) (by kernel_rfl) (fun _ _ _ h => h) (Or.inl ⟨by rfl, ?_⟩) (by assumption) ?_
      rotate_left
      · intro w0 hSw; (try dsimp only at hSw); first | (go_simp; done) | (go_simp; with_reducible rfl)
      simp only [List.setIfInBounds_toArray, List.set_cons_zero, List.set_cons_succ]
      refine take_at (i := 7) rfl rfl (by kernel_rfl) (by kernel_rfl) (by kernel_rfl) (fun _ _ _ h => h) (yieldsIf_load_mid (by rfl) _ _ rfl b (off + i * 32) rfl (cellsOf s) _ (fun w0 hSw => rangeAt_below HRS4.out hlt4 hSw) Tryd.underlying24 rfl SZS.out) (by assumption) ?_
      simp only [List.setIfInBounds_toArray, List.set_cons_zero, List.set_cons_succ]
      refine take_at (i := 8) (v := ?_) rfl rfl (by kernel_rfl) (by kernel_rfl) (by kernel_rfl) (fun _ _ _ h => h) (Or.inl ⟨by rfl, ?_⟩) (by assumption) ?_
      rotate_left
      · intro w0 hSw; (try dsimp only at hSw); first | (go_simp; done) | (go_simp; with_reducible rfl)
      simp only [List.setIfInBounds_toArray, List.set_cons_zero, List.set_cons_succ]
      refine take_at (i := 9) (v := ?_) rfl rfl (by kernel_rfl) (by kernel_rfl) (by kernel_rfl) (fun _ _ _ h => h) (Or.inl ⟨by rfl, ?_⟩) (by assumption) ?_
      rotate_left
      · intro w0 hSw; (try dsimp only at hSw); first | (go_simp; done) | (go_simp; with_reducible rfl)
      simp only [List.setIfInBounds_toArray, List.set_cons_zero, List.set_cons_succ]
      refine take_at (i := 10) (v := ?_) rfl rfl (by kernel_rfl) (by kernel_rfl) (by kernel_rfl) (fun _ _ _ h => h) (Or.inl ⟨by rfl, ?_⟩) (by assumption) ?_
      rotate_left
      · intro w0 hSw; (try dsimp only at hSw); first | (go_simp; done) | (go_simp; with_reducible rfl)
      simp only [List.setIfInBounds_toArray, List.set_cons_zero, List.set_cons_succ]
      refine take_at (i := 11) (v := ?_) rfl rfl (by kernel_rfl) (by kernel_rfl) (by kernel_rfl) (fun _ _ _ h => h) (Or.inl ⟨by rfl, ?_⟩) (by assumption) ?_
      rotate_left
      · intro w0 hSw; (try dsimp only at hSw); first | (go_simp; done) | (go_simp; with_reducible rfl)
      simp only [List.setIfInBounds_toArray, List.set_cons_zero, List.set_cons_succ]
      refine wpAnyH_ready (rs := [12]) (by kernel_rfl) (by simp) ?_
      refine AllReadyH.cons rfl (fun K hK => ?_) ?_
      · go_simp
        go_wp2_with ((go_at_call 15; (with_reducible refine (HC1.out _ _ _ _ (HS4.out.below hHeld) (HK4.out.below hHeld)).mono ?_); rintro e x12 ⟨rfl, hb12⟩; have HX12 := Lib.hid hb12; clear hb12))
        refine hK.out _ _ (by (try dsimp only); exact Below.trans hHeld (HX12.out.mono (Below.size hHeld))) (fun hHeld => ?_)
        clear hK K
        refine take_at (i := 13) (v := ?_) rfl rfl (by kernel_rfl) (by kernel_rfl) (by kernel_rfl) (fun _ _ _ h => h) (Or.inl ⟨by rfl, ?_⟩) (by assumption) ?_
        rotate_left
        · intro w0 hSw; (try dsimp only at hSw); first | (go_simp; done) | (go_simp; with_reducible rfl)
        simp only [List.setIfInBounds_toArray, List.set_cons_zero, List.set_cons_succ]
        refine take_at (i := 14) (v := ?_) rfl rfl (by kernel_rfl) (by kernel_rfl) (by kernel_rfl) (fun _ _ _ h => h) (Or.inl ⟨by rfl, ?_⟩) (by assumption) ?_
        rotate_left
        · intro w0 hSw; (try dsimp only at hSw); first | (go_simp; done) | (go_simp; with_reducible rfl)
        simp only [List.setIfInBounds_toArray, List.set_cons_zero, List.set_cons_succ]
        refine wpAnyH_done (by kernel_rfl) ?_ _
        have HB5 := Lib.hid (show Below w4.heap.size w4 x12 from hHeld)
        have HS5 := Lib.hid (HS4.out.below HB5.out)
        have HK5 := Lib.hid (HK4.out.below HB5.out)
        have HG5 := Lib.hid ((HB5.out.block _ (lt_of_block HG4.out)).trans HG4.out)
        clear hHeld
        have b6 : Below x12.heap.size x12 (x12.alloc (.cells #[] 24)) := (Below.refl _ _).alloc (Nat.le_refl _) _
        have HB6 := Lib.hid b6
        have HO6 := Lib.hid (own_lit (w := x12) (B := x12.heap.size) [] (by simp) (Nat.le_refl _) 0 rfl (by omega))
        have HS6 := Lib.hid (HS5.out.below b6)
        clear b6
        go_upto_region 10 with (first | (at_builtin; refine wpList_append_to rfl _ _ rfl rfl x12.heap.size (.slice (some ⟨x12.heap.size, 0, none⟩) 0 0) [] 0 rfl rfl HO6.out _ np c4 P rfl HS6.out np (by omega) (by omega) HB6.out.size ?_; intro a7 c7 w7 ho7 hg7) | fail)
        rw [List.nil_append] at ho7
        have b7 : Below x12.heap.size x12 w7 := HB6.out.trans ((HO6.out.grows hg7 HB6.out.size).mono (Nat.le_refl _))
        have HO7 := Lib.hid ho7
        have HB7 := Lib.hid b7
        have HG7 := Lib.hid ((b7.block _ (lt_of_block HG5.out)).trans HG5.out)
        have b8 : Below w7.heap.size w7 (w7.alloc (.cells (cellsOf r).toArray 24)) := (Below.refl _ _).alloc (Nat.le_refl _) _
        have hl8 := own_lit (w := w7) (B := 0) [r] (by simp [HRL.out]) (Nat.zero_le _) 1 rfl (by omega)
        rw [seqCells_single] at hl8
        have HL8 := Lib.hid hl8.sums
        have HO8 := Lib.hid (ho7.below b8)
        have HB8 := Lib.hid b8
        have hz8 : x12.heap.size ≤ (w7.alloc (.cells (cellsOf r).toArray 24)).heap.size := Nat.le_trans b7.size b8.size
        have HZ8 := Lib.hid hz8
        have HNP' := Lib.hid HNP.out.symm
        clear ho7 hg7 b7 b8 hl8 hz8
        go_upto_region 11 with (first | (refine wpList_load_row rfl 24 _ rfl g rfl 24 (cellsOf r).toArray (0, 0) _ HG7.out Tryd.underlying24 rfl SZR.out ?_) | (refine wpList_build1 rfl _ rfl rfl HRL.out ?_) | (at_builtin; refine wpList_append_to rfl _ _ rfl rfl x12.heap.size (.slice a7 np c7) P np HNP'.out rfl HO8.out _ 1 1 [r] rfl HL8.out (np + 1) rfl (by omega) HZ8.out ?_; intro a8 c8 w8 ho8 hg8) | fail)
        have b8 : Below x12.heap.size x12 w8 := (HB7.out.trans (HB8.out.mono HB7.out.size)).trans (HO8.out.grows hg8 HZ8.out)
        have b9 : Below w4.heap.size w4 w8 := HB5.out.trans (b8.mono HB5.out.size)
        have HB9 := Lib.hid b9
        have HS9 := Lib.hid ho8.sums
        have HSP9 := Lib.hid (HS4.out.below b9)
        have HK9 := Lib.hid (HK4.out.below b9)
        have HG9 := (b9.block _ (lt_of_block HG4.out)).trans HG4.out
        have glt8 : g < w8.heap.size := lt_of_block HG9
        have hlt8 : b < w8.heap.size := Nat.lt_of_lt_of_le hlt4 b9.size
        have HRG8 := Lib.hid (range_of HG9)
        have HRS8 := Lib.hid (rangeAt_below HRS4.out hlt4 b9)
        have hbw : Below w3.heap.size w3 w8 := HB.out.trans ((HB4.out.mono HB.out.size).trans (b9.mono (Nat.le_trans HB.out.size HB4.out.size)))
        have HBW := Lib.hid hbw
        clear b8 b9 HG9 hbw ho8 hg8
        try simp only [Act.put]
        by_cases hnp0 : 0 < np
        · obtain ⟨a9, ha9⟩ : ∃ a9, (if c4 = 1 then a4 else a4.map (·.add (1 * 32))) = a9 := ⟨_, rfl⟩
          have hd9 := HSP9.out.from (A := 1) hnp0
          rw [ha9] at hd9
          have HA9 := Lib.hid ha9
          have HD9 := Lib.hid hd9
          clear ha9 hd9
          refine wp_region_held_drew (S := fun w' => Below w8.heap.size w8 w') (by kernel_rfl) (below_drew (Below.refl _ _)) (fun hHeld => ?_)
          refine take_at (i := 0) rfl rfl (by kernel_rfl) (by kernel_rfl) (by kernel_rfl) (fun _ _ _ h => h) (yieldsIf_load_mid (by rfl) _ _ rfl g 0 rfl (cellsOf r) _ (fun w0 hSw => rangeAt_below HRG8.out glt8 hSw) Tryd.underlying24 rfl SZR.out) (by assumption) ?_
          simp only [List.setIfInBounds_toArray, List.set_cons_zero, List.set_cons_succ]
          refine take_at (i := 1) (v := ?_) rfl rfl (by kernel_rfl) (by kernel_rfl) (by kernel_rfl) (fun _ _ _ h => h) (Or.inl ⟨by rfl, ?_⟩) (by assumption) ?_
          rotate_left
          · intro w0 hSw; (try dsimp only at hSw); first | (go_simp; done) | (go_simp; with_reducible rfl)
          simp only [List.setIfInBounds_toArray, List.set_cons_zero, List.set_cons_succ]
          refine take_at (i := 2) (v := ?_) rfl rfl (by kernel_rfl) (by kernel_rfl) (by kernel_rfl) (fun _ _ _ h => h) (Or.inl ⟨by rfl, ?_⟩) (by assumption) ?_
          rotate_left
          · intro w0 hSw; (try dsimp only at hSw); first | (go_simp; done) | (go_simp; with_reducible rfl)
          simp only [List.setIfInBounds_toArray, List.set_cons_zero, List.set_cons_succ]
          refine take_at (i := 3) (v := ?_) rfl rfl (by kernel_rfl) (by kernel_rfl) (by kernel_rfl) (fun _ _ _ h => h) (Or.inl ⟨by rfl, ?_⟩) (by assumption) ?_
          rotate_left
          · intro w0 hSw; (try dsimp only at hSw); first | (go_simp; done) | (go_simp; with_reducible rfl)
          simp only [List.setIfInBounds_toArray, List.set_cons_zero, List.set_cons_succ]
          refine take_at (i := 4) rfl rfl (by kernel_rfl) (by kernel_rfl) (by kernel_rfl) (fun _ _ _ h => h) (yieldsIf_load_mid (by rfl) _ _ rfl b (off + i * 32) rfl (cellsOf s) _ (fun w0 hSw => rangeAt_below HRS8.out hlt8 hSw) Tryd.underlying24 rfl SZS.out) (by assumption) ?_
          simp only [List.setIfInBounds_toArray, List.set_cons_zero, List.set_cons_succ]
          refine take_at (i := 5) (v := ?_) rfl rfl (by kernel_rfl) (by kernel_rfl) (by kernel_rfl) (fun _ _ _ h => h) (Or.inl ⟨by rfl, ?_⟩) (by assumption) ?_
          rotate_left
          · intro w0 hSw; (try dsimp only at hSw); first | (go_simp; done) | (go_simp; with_reducible rfl)
          simp only [List.setIfInBounds_toArray, List.set_cons_zero, List.set_cons_succ]
          refine take_at (i := 6) (v := ?_) rfl rfl (by kernel_rfl) (by kernel_rfl) (by kernel_rfl) (fun _ _ _ h => h) (Or.inl ⟨by rfl, ?_⟩) (by assumption) ?_
          rotate_left
          · intro w0 hSw; (try dsimp only at hSw); first | (go_simp; done) | (go_simp; with_reducible rfl)
          simp only [List.setIfInBounds_toArray, List.set_cons_zero, List.set_cons_succ]
          refine take_at (i := 7) (v := ?_) rfl rfl (by kernel_rfl) (by kernel_rfl) (by kernel_rfl) (fun _ _ _ h => h) (Or.inl ⟨by rfl, ?_⟩) (by assumption) ?_
          rotate_left
          · intro w0 hSw; (try dsimp only at hSw); first | (go_simp; done) | (go_simp; with_reducible rfl)
          simp only [List.setIfInBounds_toArray, List.set_cons_zero, List.set_cons_succ]
          refine take_at (i := 8) (v := ?_) rfl rfl (by kernel_rfl) (by kernel_rfl) (by kernel_rfl) (fun _ _ _ h => h) (Or.inl ⟨by rfl, ?_⟩) (by assumption) ?_
          rotate_left
          · intro w0 hSw; (try dsimp only at hSw); first | (go_simp; done) | (go_simp; with_reducible rfl)
          simp only [List.setIfInBounds_toArray, List.set_cons_zero, List.set_cons_succ]
          refine wpAnyH_ready (rs := [9]) (by kernel_rfl) (by simp) ?_
          refine AllReadyH.cons rfl (fun K hK => ?_) ?_
          · go_simp
            go_wp2_with ((go_at_call 15; (with_reducible refine (HC2.out _ _ _ _ (HS9.out.below hHeld) (HK9.out.below hHeld)).mono ?_); rintro e x9 ⟨rfl, hb9⟩; have HX9 := Lib.hid hb9; clear hb9))
            refine hK.out _ _ (by (try dsimp only); exact Below.trans hHeld (HX9.out.mono (Below.size hHeld))) (fun hHeld => ?_)
            clear hK K
            refine take_at (i := 10) (v := ?_) rfl rfl (by kernel_rfl) (by kernel_rfl) (by kernel_rfl) (fun _ _ _ h => h) (Or.inl ⟨by rfl, ?_⟩) (by assumption) ?_
            rotate_left
            · intro w0 hSw; (try dsimp only at hSw); first | (go_simp; done) | (go_simp; with_reducible rfl)
            simp only [List.setIfInBounds_toArray, List.set_cons_zero, List.set_cons_succ]
            refine take_at (i := 11) (v := ?_) rfl rfl (by kernel_rfl) (by kernel_rfl) (by kernel_rfl) (fun _ _ _ h => h) (Or.inl ⟨by rfl, ?_⟩) (by assumption) ?_
            rotate_left
            · intro w0 hSw; (try dsimp only at hSw); first | (go_simp; done) | (go_simp; with_reducible rfl)
            simp only [List.setIfInBounds_toArray, List.set_cons_zero, List.set_cons_succ]
            refine take_at (i := 12) (v := ?_) rfl rfl (by kernel_rfl) (by kernel_rfl) (by kernel_rfl) (fun _ _ _ h => h) (Or.inl ⟨by rfl, ?_⟩) (by assumption) ?_
            rotate_left
            · intro w0 hSw; (try dsimp only at hSw); first | (go_simp; done) | (go_simp; with_reducible rfl)
            simp only [List.setIfInBounds_toArray, List.set_cons_zero, List.set_cons_succ]
            refine take_at (i := 13) (v := ?_) rfl rfl (by kernel_rfl) (by kernel_rfl) (by kernel_rfl) (fun _ _ _ h => h) (Or.inl ⟨by rfl, ?_⟩) (by assumption) ?_
            rotate_left
            · intro w0 hSw; (try dsimp only at hSw); first | (go_simp; done) | (go_simp; with_reducible rfl)
            simp only [List.setIfInBounds_toArray, List.set_cons_zero, List.set_cons_succ]
            refine take_at (i := 14) (v := ?_) rfl rfl (by kernel_rfl) (by kernel_rfl) (by kernel_rfl) (fun _ _ _ h => h) (Or.inl ⟨by rfl, ?_⟩) (by assumption) ?_
            rotate_left
            · intro w0 hSw; (try dsimp only at hSw); first | (go_simp; done) | (go_simp; with_reducible rfl)
            simp only [List.setIfInBounds_toArray, List.set_cons_zero, List.set_cons_succ]
            refine take_at (i := 15) rfl rfl (by kernel_rfl) (by kernel_rfl) (by kernel_rfl) (fun _ _ _ h => h) (yieldsIf_load_mid (by rfl) _ _ rfl g 0 rfl (cellsOf r) _ (fun w0 hSw => rangeAt_below HRG8.out glt8 hSw) Tryd.underlying24 rfl SZR.out) (by assumption) ?_
            simp only [List.setIfInBounds_toArray, List.set_cons_zero, List.set_cons_succ]
            refine take_at (i := 16) (v := ?_) rfl rfl (by kernel_rfl) (by kernel_rfl) (by kernel_rfl) (fun _ _ _ h => h) (Or.inl ⟨by rfl, ?_⟩) (by assumption) ?_
            rotate_left
            · intro w0 hSw; (try dsimp only at hSw); first | (go_simp; done) | (go_simp; with_reducible rfl)
            simp only [List.setIfInBounds_toArray, List.set_cons_zero, List.set_cons_succ]
            refine take_at (i := 17) (v := ?_) rfl rfl (by kernel_rfl) (by kernel_rfl) (by kernel_rfl) (fun _ _ _ h => h) (Or.inl ⟨by rfl, ?_⟩) (by assumption) ?_
            rotate_left
            · intro w0 hSw; (try dsimp only at hSw); first | (go_simp; done) | (go_simp; with_reducible rfl)
            simp only [List.setIfInBounds_toArray, List.set_cons_zero, List.set_cons_succ]
            refine take_at (i := 18) (v := ?_) rfl rfl (by kernel_rfl) (by kernel_rfl) (by kernel_rfl) (fun _ _ _ h => h) (Or.inl ⟨by rfl, ?_⟩) (by assumption) ?_
            rotate_left
            · intro w0 hSw; (try dsimp only at hSw); first | (go_simp; done) | (go_simp; with_reducible rfl)
            simp only [List.setIfInBounds_toArray, List.set_cons_zero, List.set_cons_succ]
            refine take_at (i := 19) rfl rfl (by kernel_rfl) (by kernel_rfl) (by kernel_rfl) (fun _ _ _ h => h) (yieldsIf_load_mid (by rfl) _ _ rfl b (off + i * 32) rfl (cellsOf s) _ (fun w0 hSw => rangeAt_below HRS8.out hlt8 hSw) Tryd.underlying24 rfl SZS.out) (by assumption) ?_
            simp only [List.setIfInBounds_toArray, List.set_cons_zero, List.set_cons_succ]
            refine take_at (i := 20) (v := ?_) rfl rfl (by kernel_rfl) (by kernel_rfl) (by kernel_rfl) (fun _ _ _ h => h) (Or.inl ⟨by rfl, ?_⟩) (by assumption) ?_
            rotate_left
            · intro w0 hSw; (try dsimp only at hSw); first | (go_simp; done) | (go_simp; with_reducible rfl)
            simp only [List.setIfInBounds_toArray, List.set_cons_zero, List.set_cons_succ]
            refine take_at (i := 21) (v := ?_) rfl rfl (by kernel_rfl) (by kernel_rfl) (by kernel_rfl) (fun _ _ _ h => h) (Or.inl ⟨by rfl, ?_⟩) (by assumption) ?_
            rotate_left
            · intro w0 hSw; (try dsimp only at hSw); first | (go_simp; done) | (go_simp; with_reducible rfl)
            simp only [List.setIfInBounds_toArray, List.set_cons_zero, List.set_cons_succ]
            refine take_at (i := 22) (v := ?_) rfl rfl (by kernel_rfl) (by kernel_rfl) (by kernel_rfl) (fun _ _ _ h => h) (Or.inl ⟨by rfl, ?_⟩) (by assumption) ?_
            rotate_left
            · intro w0 hSw; (try dsimp only at hSw); first | (go_simp; done) | (go_simp; with_reducible rfl)
            simp only [List.setIfInBounds_toArray, List.set_cons_zero, List.set_cons_succ]
            refine take_at (i := 23) (v := ?_) rfl rfl (by kernel_rfl) (by kernel_rfl) (by kernel_rfl) (fun _ _ _ h => h) (Or.inl ⟨by rfl, ?_⟩) (by assumption) ?_
            rotate_left
            · intro w0 hSw; (try dsimp only at hSw); first | (go_simp; done) | (go_simp; with_reducible rfl)
            simp only [List.setIfInBounds_toArray, List.set_cons_zero, List.set_cons_succ]
            refine take_at (i := 24) (v := .slice a9 (np - 1) (c4 - 1)) rfl rfl (by kernel_rfl) (by kernel_rfl) (by kernel_rfl) (fun _ _ _ h => h) (by rw [← HA9.out]; exact yields_from (A := 1) (by rfl) rfl rfl rfl hnp0) (by assumption) ?_
            simp only [List.setIfInBounds_toArray, List.set_cons_zero, List.set_cons_succ]
            refine wpAnyH_ready (rs := [25]) (by kernel_rfl) (by simp) ?_
            refine AllReadyH.cons rfl (fun K hK => ?_) ?_
            · go_simp
              go_wp2_with ((go_at_call 15; (with_reducible refine (HC3.out hnp0 _ _ _ _ (HD9.out.below hHeld) (HK9.out.below hHeld)).mono ?_); rintro e x25 ⟨rfl, hb25⟩; have HX25 := Lib.hid hb25; clear hb25))
              refine hK.out _ _ (by (try dsimp only); exact Below.trans hHeld (HX25.out.mono (Below.size hHeld))) (fun hHeld => ?_)
              clear hK K
              refine take_at (i := 26) (v := ?_) rfl rfl (by kernel_rfl) (by kernel_rfl) (by kernel_rfl) (fun _ _ _ h => h) (Or.inl ⟨by rfl, ?_⟩) (by assumption) ?_
              rotate_left
              · intro w0 hSw; (try dsimp only at hSw); first | (go_simp; done) | (go_simp; with_reducible rfl)
              simp only [List.setIfInBounds_toArray, List.set_cons_zero, List.set_cons_succ]
              refine take_at (i := 27) (v := ?_) rfl rfl (by kernel_rfl) (by kernel_rfl) (by kernel_rfl) (fun _ _ _ h => h) (Or.inl ⟨by rfl, ?_⟩) (by assumption) ?_
              rotate_left
              · intro w0 hSw; (try dsimp only at hSw); first | (go_simp; done) | (go_simp; with_reducible rfl)
              simp only [List.setIfInBounds_toArray, List.set_cons_zero, List.set_cons_succ]
              refine wpAnyH_done (by kernel_rfl) ?_ _
              have HE := Lib.hid (show Below w8.heap.size w8 x25 from hHeld)
              clear hHeld
              go_wp2_with fail
              go_roundw
              case rel => exact ⟨i + 1, by omega, by go_num, HBW.out.trans (HE.out.mono HBW.out.size)⟩
              case measure => simp [intOf]; omega
            exact AllReadyH.nil
          exact AllReadyH.nil
        · have hnp1 : ¬ ((np : Int) > 0) := by omega
          refine wp_region_held_drew (S := fun w' => Below w8.heap.size w8 w') (by kernel_rfl) (below_drew (Below.refl _ _)) (fun hHeld => ?_)
          refine take_at (i := 0) rfl rfl (by kernel_rfl) (by kernel_rfl) (by kernel_rfl) (fun _ _ _ h => h) (yieldsIf_load_mid (by rfl) _ _ rfl g 0 rfl (cellsOf r) _ (fun w0 hSw => rangeAt_below HRG8.out glt8 hSw) Tryd.underlying24 rfl SZR.out) (by assumption) ?_
          simp only [List.setIfInBounds_toArray, List.set_cons_zero, List.set_cons_succ]
          refine take_at (i := 1) (v := ?_) rfl rfl (by kernel_rfl) (by kernel_rfl) (by kernel_rfl) (fun _ _ _ h => h) (Or.inl ⟨by rfl, ?_⟩) (by assumption) ?_
          rotate_left
          · intro w0 hSw; (try dsimp only at hSw); first | (go_simp; done) | (go_simp; with_reducible rfl)
          simp only [List.setIfInBounds_toArray, List.set_cons_zero, List.set_cons_succ]
          refine take_at (i := 2) (v := ?_) rfl rfl (by kernel_rfl) (by kernel_rfl) (by kernel_rfl) (fun _ _ _ h => h) (Or.inl ⟨by rfl, ?_⟩) (by assumption) ?_
          rotate_left
          · intro w0 hSw; (try dsimp only at hSw); first | (go_simp; done) | (go_simp; with_reducible rfl)
          simp only [List.setIfInBounds_toArray, List.set_cons_zero, List.set_cons_succ]
          refine take_at (i := 3) (v := ?_) rfl rfl (by kernel_rfl) (by kernel_rfl) (by kernel_rfl) (fun _ _ _ h => h) (Or.inl ⟨by rfl, ?_⟩) (by assumption) ?_
          rotate_left
          · intro w0 hSw; (try dsimp only at hSw); first | (go_simp; done) | (go_simp; with_reducible rfl)
          simp only [List.setIfInBounds_toArray, List.set_cons_zero, List.set_cons_succ]
          refine take_at (i := 4) rfl rfl (by kernel_rfl) (by kernel_rfl) (by kernel_rfl) (fun _ _ _ h => h) (yieldsIf_load_mid (by rfl) _ _ rfl b (off + i * 32) rfl (cellsOf s) _ (fun w0 hSw => rangeAt_below HRS8.out hlt8 hSw) Tryd.underlying24 rfl SZS.out) (by assumption) ?_
          simp only [List.setIfInBounds_toArray, List.set_cons_zero, List.set_cons_succ]
          refine take_at (i := 5) (v := ?_) rfl rfl (by kernel_rfl) (by kernel_rfl) (by kernel_rfl) (fun _ _ _ h => h) (Or.inl ⟨by rfl, ?_⟩) (by assumption) ?_
          rotate_left
          · intro w0 hSw; (try dsimp only at hSw); first | (go_simp; done) | (go_simp; with_reducible rfl)
          simp only [List.setIfInBounds_toArray, List.set_cons_zero, List.set_cons_succ]
          refine take_at (i := 6) (v := ?_) rfl rfl (by kernel_rfl) (by kernel_rfl) (by kernel_rfl) (fun _ _ _ h => h) (Or.inl ⟨by rfl, ?_⟩) (by assumption) ?_
          rotate_left
          · intro w0 hSw; (try dsimp only at hSw); first | (go_simp; done) | (go_simp; with_reducible rfl)
          simp only [List.setIfInBounds_toArray, List.set_cons_zero, List.set_cons_succ]
          refine take_at (i := 7) (v := ?_) rfl rfl (by kernel_rfl) (by kernel_rfl) (by kernel_rfl) (fun _ _ _ h => h) (Or.inl ⟨by rfl, ?_⟩) (by assumption) ?_
          rotate_left
          · intro w0 hSw; (try dsimp only at hSw); first | (go_simp; done) | (go_simp; with_reducible rfl)
          simp only [List.setIfInBounds_toArray, List.set_cons_zero, List.set_cons_succ]
          refine take_at (i := 8) (v := ?_) rfl rfl (by kernel_rfl) (by kernel_rfl) (by kernel_rfl) (fun _ _ _ h => h) (Or.inl ⟨by rfl, ?_⟩) (by assumption) ?_
          rotate_left
          · intro w0 hSw; (try dsimp only at hSw); first | (go_simp; done) | (go_simp; with_reducible rfl)
          simp only [List.setIfInBounds_toArray, List.set_cons_zero, List.set_cons_succ]
          refine wpAnyH_ready (rs := [9]) (by kernel_rfl) (by simp) ?_
          refine AllReadyH.cons rfl (fun K hK => ?_) ?_
          · go_simp
            go_wp2_with ((go_at_call 15; (with_reducible refine (HC2.out _ _ _ _ (HS9.out.below hHeld) (HK9.out.below hHeld)).mono ?_); rintro e x9 ⟨rfl, hb9⟩; have HX9 := Lib.hid hb9; clear hb9))
            refine hK.out _ _ (by (try dsimp only); exact Below.trans hHeld (HX9.out.mono (Below.size hHeld))) (fun hHeld => ?_)
            clear hK K
            refine take_at (i := 10) (v := ?_) rfl rfl (by kernel_rfl) (by kernel_rfl) (by kernel_rfl) (fun _ _ _ h => h) (Or.inl ⟨by rfl, ?_⟩) (by assumption) ?_
            rotate_left
            · intro w0 hSw; (try dsimp only at hSw); first | (go_simp; done) | (go_simp; with_reducible rfl)
            simp only [List.setIfInBounds_toArray, List.set_cons_zero, List.set_cons_succ]
            refine take_at (i := 11) (v := ?_) rfl rfl (by kernel_rfl) (by kernel_rfl) (by kernel_rfl) (fun _ _ _ h => h) (Or.inl ⟨by rfl, ?_⟩) (by assumption) ?_
            rotate_left
            · intro w0 hSw; (try dsimp only at hSw); first | (go_simp; done) | (go_simp; with_reducible rfl)
            simp only [List.setIfInBounds_toArray, List.set_cons_zero, List.set_cons_succ]
            refine take_at (i := 12) (v := ?_) rfl rfl (by kernel_rfl) (by kernel_rfl) (by kernel_rfl) (fun _ _ _ h => h) (Or.inl ⟨by rfl, ?_⟩) (by assumption) ?_
            rotate_left
            · intro w0 hSw; (try dsimp only at hSw); first | (go_simp; done) | (go_simp; with_reducible rfl)
            simp only [List.setIfInBounds_toArray, List.set_cons_zero, List.set_cons_succ]
            refine take_at (i := 13) (v := ?_) rfl rfl (by kernel_rfl) (by kernel_rfl) (by kernel_rfl) (fun _ _ _ h => h) (Or.inl ⟨by rfl, ?_⟩) (by assumption) ?_
            rotate_left
            · intro w0 hSw; (try dsimp only at hSw); first | (go_simp; done) | (go_simp; with_reducible rfl)
            simp only [List.setIfInBounds_toArray, List.set_cons_zero, List.set_cons_succ]
            refine take_at (i := 14) (v := ?_) rfl rfl (by kernel_rfl) (by kernel_rfl) (by kernel_rfl) (fun _ _ _ h => h) (Or.inl ⟨by rfl, ?_⟩) (by assumption) ?_
            rotate_left
            · intro w0 hSw; (try dsimp only at hSw); first | (go_simp; done) | (go_simp; with_reducible rfl)
            simp only [List.setIfInBounds_toArray, List.set_cons_zero, List.set_cons_succ]
            refine take_at (i := 15) (v := undef) rfl rfl (by kernel_rfl) (by kernel_rfl) (by kernel_rfl) (fun _ _ _ h => h) (Or.inr ⟨by rfl, rfl⟩) (by assumption) ?_
            simp only [List.setIfInBounds_toArray, List.set_cons_zero, List.set_cons_succ]
            refine take_at (i := 16) (v := undef) rfl rfl (by kernel_rfl) (by kernel_rfl) (by kernel_rfl) (fun _ _ _ h => h) (Or.inr ⟨by rfl, rfl⟩) (by assumption) ?_
            simp only [List.setIfInBounds_toArray, List.set_cons_zero, List.set_cons_succ]
            refine take_at (i := 17) (v := undef) rfl rfl (by kernel_rfl) (by kernel_rfl) (by kernel_rfl) (fun _ _ _ h => h) (Or.inr ⟨by rfl, rfl⟩) (by assumption) ?_
            simp only [List.setIfInBounds_toArray, List.set_cons_zero, List.set_cons_succ]
            refine take_at (i := 18) (v := undef) rfl rfl (by kernel_rfl) (by kernel_rfl) (by kernel_rfl) (fun _ _ _ h => h) (Or.inr ⟨by rfl, rfl⟩) (by assumption) ?_
            simp only [List.setIfInBounds_toArray, List.set_cons_zero, List.set_cons_succ]
            refine take_at (i := 19) (v := undef) rfl rfl (by kernel_rfl) (by kernel_rfl) (by kernel_rfl) (fun _ _ _ h => h) (Or.inr ⟨by rfl, rfl⟩) (by assumption) ?_
            simp only [List.setIfInBounds_toArray, List.set_cons_zero, List.set_cons_succ]
            refine take_at (i := 20) (v := undef) rfl rfl (by kernel_rfl) (by kernel_rfl) (by kernel_rfl) (fun _ _ _ h => h) (Or.inr ⟨by rfl, rfl⟩) (by assumption) ?_
            simp only [List.setIfInBounds_toArray, List.set_cons_zero, List.set_cons_succ]
            refine take_at (i := 21) (v := undef) rfl rfl (by kernel_rfl) (by kernel_rfl) (by kernel_rfl) (fun _ _ _ h => h) (Or.inr ⟨by rfl, rfl⟩) (by assumption) ?_
            simp only [List.setIfInBounds_toArray, List.set_cons_zero, List.set_cons_succ]
            refine take_at (i := 22) (v := undef) rfl rfl (by kernel_rfl) (by kernel_rfl) (by kernel_rfl) (fun _ _ _ h => h) (Or.inr ⟨by rfl, rfl⟩) (by assumption) ?_
            simp only [List.setIfInBounds_toArray, List.set_cons_zero, List.set_cons_succ]
            refine take_at (i := 23) (v := undef) rfl rfl (by kernel_rfl) (by kernel_rfl) (by kernel_rfl) (fun _ _ _ h => h) (Or.inr ⟨by rfl, rfl⟩) (by assumption) ?_
            simp only [List.setIfInBounds_toArray, List.set_cons_zero, List.set_cons_succ]
            refine take_at (i := 24) (v := undef) rfl rfl (by kernel_rfl) (by kernel_rfl) (by kernel_rfl) (fun _ _ _ h => h) (Or.inr ⟨by rfl, rfl⟩) (by assumption) ?_
            simp only [List.setIfInBounds_toArray, List.set_cons_zero, List.set_cons_succ]
            refine take_at (i := 25) (v := undef) rfl rfl (by kernel_rfl) (by kernel_rfl) (by kernel_rfl) (fun _ _ _ h => h) (Or.inr ⟨by rfl, rfl⟩) (by assumption) ?_
            simp only [List.setIfInBounds_toArray, List.set_cons_zero, List.set_cons_succ]
            refine take_at (i := 26) (v := ?_) rfl rfl (by kernel_rfl) (by kernel_rfl) (by kernel_rfl) (fun _ _ _ h => h) (Or.inl ⟨by rfl, ?_⟩) (by assumption) ?_
            rotate_left
            · intro w0 hSw; (try dsimp only at hSw); first | (go_simp; done) | (go_simp; with_reducible rfl)
            simp only [List.setIfInBounds_toArray, List.set_cons_zero, List.set_cons_succ]
            refine take_at (i := 27) (v := ?_) rfl rfl (by kernel_rfl) (by kernel_rfl) (by kernel_rfl) (fun _ _ _ h => h) (Or.inl ⟨by rfl, ?_⟩) (by assumption) ?_
            rotate_left
            · intro w0 hSw; (try dsimp only at hSw); first | (go_simp; done) | (go_simp; with_reducible rfl)
            simp only [List.setIfInBounds_toArray, List.set_cons_zero, List.set_cons_succ]
            refine wpAnyH_done (by kernel_rfl) ?_ _
            have HE := Lib.hid (show Below w8.heap.size w8 x9 from hHeld)
            clear hHeld
            go_wp2_with fail
            go_roundw
            case rel => exact ⟨i + 1, by omega, by go_num, HBW.out.trans (HE.out.mono HBW.out.size)⟩
            case measure => simp [intOf]; omega
          exact AllReadyH.nil
      exact AllReadyH.nil
    · have hi' : i = n := by omega
      subst hi'
      go_wp2_with fail
      refine (HAW.out _ HKR.out).mono ?_
      rintro e w6 ⟨rfl, hb7⟩
      have HB7 := Lib.hid hb7
      clear hb7
      go_wp2_with fail
      go_ret
      have b2 := HB3.out.trans (HB.out.mono HB3.out.size)
      exact ⟨rfl, b2.trans (HB7.out.mono b2.size)⟩
end Go.Proofs.YtmbfpopfabjodaaDoor
