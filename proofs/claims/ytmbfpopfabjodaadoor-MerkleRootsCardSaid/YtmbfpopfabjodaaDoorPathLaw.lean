/- What the document's own 'path' comes to: the path by halves. -/
import Derived.Test.YtmbfpopfabjodaaDoorRootLaw
namespace Go.Proofs.YtmbfpopfabjodaaDoor
open Go.RowKit

/-- What it tells: a slice of its own that reads as the path. -/
def PathOwn (w : World) (q : List (List UInt8)) (e : Ending) (w' : World) : Prop :=
  ∃ (a : Option Addr) (c : Nat), e = .returned (.slice a q.length c) ∧ OwnS w' w.heap.size (.slice a q.length c) q ∧ Below w.heap.size w w'
def PathLaw (n : Nat) : Prop := ∀ (w : World) (a : Option Addr) (c i : Nat) (ls : List (List UInt8)), i < n → Sums w a n c ls → KsAt w →
    Calls Tryd.prog 14 #[.slice a n c, .int .i64 (i : Int)] w fun e w' => PathOwn w (pathOf pairSum i (ls.map leafSum)) e w'
theorem step_build_at {ops : Array Oper} {o : Oper} {tmps : Array Value} {ds : List Deferred} {w : World} {K : Act → World → Prop} {Q : Exit → Act → World → Prop} {E : Prop} {s : List UInt8} {d : Nat} (hd : o.dst = some d) (x : Operand) (hw : Region.wanted o (yielded ops tmps) = true)
    (ho : o.op = .buildSlice 22 1 #[(0, x)]) (hx : ({ tmps := tmps, defers := ds } : Act).eval x = .agg (cellsOf s).toArray) (hs : s.length = 32)
    (h : K { tmps := tmps.setIfInBounds d (.slice (some ⟨w.heap.size, 0, none⟩) 1 1), defers := ds } (w.alloc (.cells (cellsOf s).toArray 24))) :
    if Region.wanted o (yielded ops tmps) = true then Oper.wp Tryd.prog o { tmps := tmps, defers := ds } w K Q else E :=
  step_build1 x hw ho hx hs (by rw [hd]; exact h)
theorem step_append_at {ops : Array Oper} {o : Oper} {tmps : Array Value} {ds : List Deferred} {w : World} {K : Act → World → Prop} {Q : Exit → Act → World → Prop} {E : Prop} {d : Nat} (hd : o.dst = some d) (hw : Region.wanted o (yielded ops tmps) = true) (x y : Operand)
    (ho : o.op = .call { callee := .builtin .append, args := #[x, y], argTypes := #[22, 22] }) (hty : o.type = 22) (B : Nat) (v : Value) (ls : List (List UInt8)) (n : Nat) (hn : ls.length = n) (hx : ({ tmps := tmps, defers := ds } : Act).eval x = v) (h : OwnS w B v ls) (ad : Option Addr) (m c : Nat) (q : List (List UInt8)) (hy : ({ tmps := tmps, defers := ds } : Act).eval y = .slice ad m c) (hq : Sums w ad m c q) (hb : n + m ≤ 1000000) (hbase : B ≤ w.heap.size)
    (hk : ∀ a' c' w', OwnS w' B (.slice a' (n + m) c') (ls ++ q) → w.grownBy w' v.ownBlock → K { tmps := tmps.setIfInBounds d (.slice a' (n + m) c'), defers := ds } w') :
    if Region.wanted o (yielded ops tmps) = true then Oper.wp Tryd.prog o { tmps := tmps, defers := ds } w K Q else E :=
  step_append_sums hw x y ho hty B v ls n hn hx h ad m c q hy hq hb hbase (fun a' c' w' h1 h2 => by
    have := hk a' c' w' h1 h2
    rw [hd]
    exact this)
theorem pathLaw_one : PathLaw 1 := by
  intro w a c i ls hi h hk
  obtain ⟨s, rfl⟩ := List.length_eq_one_iff.1 h.len
  obtain rfl : i = 0 := by omega
  have e : pathOf pairSum 0 ([s].map leafSum) = [] := path_one pairSum (leafSum s)
  rw [e]
  clear e h hk hi
  go_enter Tryd.func14, Tryd.ntmps14
  go_wp2
  go_ret
  exact ⟨none, 0, rfl, OwnS.nil _ _, Below.refl _ _⟩
theorem path_lo {ls : List (List UInt8)} {i k : Nat} (h1 : 2 ^ k < ls.length) (h2 : ls.length ≤ 2 ^ (k + 1)) (hi : i < 2 ^ k) : pathOf pairSum i (ls.map leafSum) = pathOf pairSum i ((ls.take (2 ^ k)).map leafSum) ++ [rootSum (ls.drop (2 ^ k))] := by
  rw [path_left pairSum (ls.map leafSum) i k (by rw [List.length_map]; exact h1) (by rw [List.length_map]; exact h2) hi, rootSum_some (ls := ls.drop (2 ^ k)) (by rw [List.length_drop]; omega), List.map_take, List.map_drop]
theorem path_hi {ls : List (List UInt8)} {i k : Nat} (h1 : 2 ^ k < ls.length) (h2 : ls.length ≤ 2 ^ (k + 1)) (hi : 2 ^ k ≤ i) (hn : i < ls.length) : pathOf pairSum i (ls.map leafSum) = pathOf pairSum (i - 2 ^ k) ((ls.drop (2 ^ k)).map leafSum) ++ [rootSum (ls.take (2 ^ k))] := by
  have hp : 0 < 2 ^ k := Nat.two_pow_pos k
  rw [path_right pairSum (ls.map leafSum) i k (by rw [List.length_map]; exact h1) (by rw [List.length_map]; exact h2) hi (by rw [List.length_map]; exact hn), rootSum_some (ls := ls.take (2 ^ k)) (by rw [List.length_take]; omega), List.map_take, List.map_drop]
theorem path_short {ls : List (List UInt8)} {i n : Nat} (hn : ls.length = n) (hi : i < n) (h40 : n ≤ 40) : (pathOf pairSum i (ls.map leafSum)).length ≤ 6 := by
  have hml : (ls.map leafSum).length = n := by rw [List.length_map, hn]
  rw [← way_path pairSum (ls.map leafSum) i 6 (by rw [hml]; exact hi) (by rw [hml]; omega)]
  have key : ∀ (k i : Nat) (row : List (List UInt8)), (way pairSum k i row).length ≤ k := by
    intro k
    induction k with
    | zero => intro i row; exact Nat.le_refl _
    | succ k ih =>
      intro i row
      show (row[beside i]?.toList ++ way pairSum k (i / 2) (up pairSum row)).length ≤ k + 1
      rw [List.length_append]
      have h1 := ih (i / 2) (up pairSum row)
      have h2 : row[beside i]?.toList.length ≤ 1 := by cases row[beside i]? <;> simp
      omega
  exact key 6 i _
set_option linter.unusedSimpArgs false in
set_option maxRecDepth 100000 in
set_option maxHeartbeats 3200000 in
theorem pathLaw_more (n : Nat) (h2 : 2 ≤ n) (h40 : n ≤ 40) (ih : ∀ m, m < n → PathLaw m) : PathLaw n := by
  intro w a c i ls hi h hk
  obtain ⟨R, hR⟩ : ∃ R, pathOf pairSum i (ls.map leafSum) = R := ⟨_, rfl⟩
  rw [hR]
  have hnc := h.2.1
  have H := Lib.hid h
  have HK := Lib.hid hk
  have HR := Lib.hid hR
  have HIH := Lib.hid ih
  have HRT := Lib.hid (fun m (hm : m < n) => rootLaw_any m (by omega))
  have e0 : ¬ ((n : Int) < 2) := by omega
  have i9 : (i : Int) < (n : Int) := by omega
  have i8 : (0 : Int) ≤ (i : Int) := by omega
  clear h hk hR ih
  go_enter Tryd.func14, Tryd.ntmps14
  go_wp2_with fail
  go_loop [5] (fun x => Half n x) (fun x => n - (intOf x).toNat)
  case atStart => exact ⟨0, rfl, by omega⟩
  case round =>
    obtain ⟨k, rfl, hkn⟩ := hrel
    obtain ⟨P, hP⟩ : ∃ P, P = 2 ^ k := ⟨_, rfl⟩
    rw [← hP] at hkn ⊢
    have hp0 : 0 < P := by rw [hP]; exact Nat.two_pow_pos k
    have HPK := Lib.hid hP
    clear hP
    have p1 : (P : Int) ≤ 40 := by omega
    by_cases hlt2 : P * 2 < n
    · have f1 : (P : Int) * 2 < (n : Int) := by omega
      have hh : Half n (.int .i64 ((P : Int) * 2)) := ⟨k + 1, by rw [Nat.pow_succ, ← HPK.out]; simp, by rw [Nat.pow_succ, ← HPK.out]; exact hlt2⟩
      have HH := Lib.hid hh
      clear hh
      go_wp2_with fail
      go_round
      case rel => exact HH.out
      case measure => simp [intOf]; omega
    · have f1 : ¬ ((P : Int) * 2 < (n : Int)) := by omega
      have hl1 : 2 ^ k < ls.length := by rw [H.out.len, ← HPK.out]; exact hkn
      have hl2 : ls.length ≤ 2 ^ (k + 1) := by rw [H.out.len, Nat.pow_succ, ← HPK.out]; omega
      have hst := H.out.take (k := P) (by omega)
      have hsf := H.out.from (A := P) (by omega)
      obtain ⟨a9, ha9⟩ : ∃ a9, (if c = P then a else a.map (·.add (P * 32))) = a9 := ⟨_, rfl⟩
      rw [ha9] at hsf
      have hPc : P ≤ c := by omega
      have hPn : P ≤ n := by omega
      have HA9 := Lib.hid ha9
      have HST := Lib.hid hst
      have HSF := Lib.hid hsf
      by_cases hip : i < P
      · have g1 : (i : Int) < (P : Int) := by omega
        have hcut := path_lo (i := i) hl1 hl2 (by rw [← HPK.out]; exact hip)
        rw [← HPK.out, HR.out] at hcut
        have hq6 := path_short (ls := ls.take P) (i := i) (n := P) hst.len hip (by omega)
        obtain ⟨q, hq⟩ : ∃ q, pathOf pairSum i ((ls.take P).map leafSum) = q := ⟨_, rfl⟩
        obtain ⟨t, ht, htl⟩ : ∃ t, rootSum (ls.drop P) = t ∧ t.length = 32 := ⟨_, rfl, rootSum_len _⟩
        have hx : ∀ (W : World), Below w.heap.size w W → Calls Tryd.prog 14 #[.slice a P c, .int .i64 (i : Int)] W fun e w' => PathOwn W q e w' := fun W hW => by rw [← hq]; exact HIH.out P hkn W a c i _ hip (HST.out.below hW) (HK.out.below hW)
        have hy : ∀ (W : World), Below w.heap.size w W → Calls Tryd.prog 9 #[.slice a9 (n - P) (c - P)] W fun e w' => e = .returned (.agg (cellsOf t).toArray) ∧ Below W.heap.size W w' := fun W hW => by rw [← ht]; exact HRT.out (n - P) (by omega) W a9 _ _ (HSF.out.below hW) (HK.out.below hW)
        rw [hq, ht] at hcut
        rw [hq] at hq6
        have HX := Lib.hid hx
        have HY := Lib.hid hy
        have HTL := Lib.hid htl
        have HCUT := Lib.hid hcut
        obtain ⟨nq, hnq⟩ : ∃ nq, q.length = nq := ⟨_, rfl⟩
        rw [hnq] at hq6
        have HNQ := Lib.hid hnq
        clear hcut hq ht htl hx hy hst hsf ha9 hl1 hl2 hlt2 hnq hip hi
        go_wp2_with fail
        refine wp_region_held_drew (S := fun w' => Below w.heap.size w w') (by kernel_rfl) (below_drew (Below.refl _ _)) (fun hHeld => ?_)
        refine take_at (i := 0) (v := ?_) rfl rfl (by kernel_rfl) (by kernel_rfl) (by kernel_rfl) (fun _ _ _ h => h) (Or.inl ⟨by rfl, ?_⟩) (by assumption) ?_
        rotate_left
        · intro w0 hSw; (try dsimp only at hSw); first | (go_simp; done) | (go_simp; with_reducible rfl)
        simp only [List.setIfInBounds_toArray, List.set_cons_zero, List.set_cons_succ]
        refine take_at (i := 1) (v := ?_) rfl rfl (by kernel_rfl) (by kernel_rfl) (by kernel_rfl) (fun _ _ _ h => h) (Or.inl ⟨by rfl, ?_⟩) (by assumption) ?_
        rotate_left
        · intro w0 hSw; (try dsimp only at hSw); first | (go_simp; done) | (go_simp; with_reducible rfl)
        simp only [List.setIfInBounds_toArray, List.set_cons_zero, List.set_cons_succ]
        refine take_at (i := 2) rfl rfl (by kernel_rfl) (by kernel_rfl) (by kernel_rfl) (fun _ _ _ h => h) (yields_to (A := P) (by rfl) rfl rfl rfl hPc) (by assumption) ?_
        simp only [List.setIfInBounds_toArray, List.set_cons_zero, List.set_cons_succ]
        refine take_at (i := 3) (v := ?_) rfl rfl (by kernel_rfl) (by kernel_rfl) (by kernel_rfl) (fun _ _ _ h => h) (Or.inl ⟨by rfl, ?_⟩) (by assumption) ?_
        rotate_left
        · intro w0 hSw; (try dsimp only at hSw); first | (go_simp; done) | (go_simp; with_reducible rfl)
        simp only [List.setIfInBounds_toArray, List.set_cons_zero, List.set_cons_succ]
        refine take_at (i := 5) (v := ?_) rfl rfl (by kernel_rfl) (by kernel_rfl) (by kernel_rfl) (fun _ _ _ h => h) (Or.inl ⟨by rfl, ?_⟩) (by assumption) ?_
        rotate_left
        · intro w0 hSw; (try dsimp only at hSw); first | (go_simp; done) | (go_simp; with_reducible rfl)
        simp only [List.setIfInBounds_toArray, List.set_cons_zero, List.set_cons_succ]
        refine take_at (i := 6) (v := ?_) rfl rfl (by kernel_rfl) (by kernel_rfl) (by kernel_rfl) (fun _ _ _ h => h) (Or.inl ⟨by rfl, ?_⟩) (by assumption) ?_
        rotate_left
        · intro w0 hSw; (try dsimp only at hSw); first | (go_simp; done) | (go_simp; with_reducible rfl)
        simp only [List.setIfInBounds_toArray, List.set_cons_zero, List.set_cons_succ]
        refine take_at (i := 7) (v := .slice a9 (n - P) (c - P)) rfl rfl (by kernel_rfl) (by kernel_rfl) (by kernel_rfl) (fun _ _ _ h => h) (by rw [← HA9.out]; exact yields_from (A := P) (by rfl) rfl rfl rfl hPn) (by assumption) ?_
        simp only [List.setIfInBounds_toArray, List.set_cons_zero, List.set_cons_succ]
        refine wpAnyH_ready (rs := [4]) (by kernel_rfl) (by simp) ?_
        refine AllReadyH.cons rfl (fun K hK => ?_) ?_
        · go_simp
          go_wp2_with ((go_at_call 14; (with_reducible refine (HX.out _ hHeld).mono ?_); rintro e x1 ⟨a1, c1, rfl, ho1, hb1⟩; rw [HNQ.out] at ho1; rw [HNQ.out]; have HX1 := Lib.hid hb1; have HO1 := Lib.hid (ho1.base (B' := w.heap.size) (Nat.le_of_eq rfl)); clear hb1 ho1))
          refine hK.out _ _ (by (try dsimp only); exact Below.trans hHeld (HX1.out.mono (Below.size hHeld))) (fun hHeld => ?_)
          clear hK K
          refine wpAnyH_ready (rs := [8]) (by kernel_rfl) (by simp) ?_
          refine AllReadyH.cons rfl (fun K hK => ?_) ?_
          · go_simp
            go_wp2_with ((go_at_call 9; (with_reducible refine (HY.out _ hHeld).mono ?_); rintro e x2 ⟨rfl, hb2⟩; have HX2 := Lib.hid hb2; clear hb2))
            refine hK.out _ _ (by (try dsimp only); exact Below.trans hHeld (HX2.out.mono (Below.size hHeld))) (fun hHeld => ?_)
            clear hK K
            refine wpAnyH_ready (rs := [9]) (by kernel_rfl) (by simp) ?_
            refine AllReadyH.cons rfl (fun K hK => ?_) ?_
            · have b3 : Below x2.heap.size x2 (x2.alloc (.cells (cellsOf t).toArray 24)) := (Below.refl _ _).alloc (Nat.le_refl _) _
              have hl3 := own_lit (w := x2) (B := 0) [t] (by simp [HTL.out]) (Nat.zero_le _) 1 rfl (by omega)
              rw [seqCells_single] at hl3
              have HL3 := Lib.hid hl3.sums
              have HO3 := Lib.hid ((HO1.out.below HX2.out).below b3)
              clear b3 hl3
              refine step_build_at rfl _ (by rfl) rfl rfl HTL.out ?_
              simp only [List.setIfInBounds_toArray, List.set_cons_zero, List.set_cons_succ]
              refine hK.out _ _ (by (try dsimp only); exact Below.alloc hHeld (Below.size hHeld) _) (fun hHeld => ?_)
              clear hK K
              refine wpAnyH_ready (rs := [10]) (by kernel_rfl) (by simp) ?_
              refine AllReadyH.cons rfl (fun K hK => ?_) ?_
              · have hsz : w.heap.size ≤ (x2.alloc (.cells (cellsOf t).toArray 24)).heap.size := Below.size hHeld
                refine step_append_at rfl (by rfl) _ _ rfl rfl w.heap.size (.slice a1 nq c1) q nq HNQ.out rfl HO3.out _ 1 1 [t] rfl HL3.out (by omega) hsz ?_
                intro a4 c4 x4 ho4 hg4
                have HB4 := Lib.hid (Below.trans hHeld (HO3.out.grows hg4 hsz))
                have HO4 := Lib.hid ho4
                clear ho4 hg4
                simp only [List.setIfInBounds_toArray, List.set_cons_zero, List.set_cons_succ]
                refine hK.out _ _ (by (try dsimp only); exact HB4.out) (fun hHeld => ?_)
                clear hK K
                refine take_at (i := 11) (v := ?_) rfl rfl (by kernel_rfl) (by kernel_rfl) (by kernel_rfl) (fun _ _ _ h => h) (Or.inl ⟨by rfl, ?_⟩) (by assumption) ?_
                rotate_left
                · intro w0 hSw; (try dsimp only at hSw); first | (go_simp; done) | (go_simp; with_reducible rfl)
                simp only [List.setIfInBounds_toArray, List.set_cons_zero, List.set_cons_succ]
                refine wpAnyH_done (by kernel_rfl) ?_ _
                go_wp2_with fail
                go_ret
                have hlen : (q ++ [t]).length = nq + 1 := by rw [List.length_append, HNQ.out]; rfl
                rw [HCUT.out]
                exact ⟨a4, c4, by rw [hlen]; rfl, by rw [hlen]; exact HO4.out, HB4.out⟩
              exact AllReadyH.nil
            exact AllReadyH.nil
          exact AllReadyH.nil
        exact AllReadyH.nil
      · have g1 : ¬ ((i : Int) < (P : Int)) := by omega
        have g2 : ((i - P : Nat) : Int) = (i : Int) - (P : Int) := by omega
        have hcut := path_hi (i := i) hl1 hl2 (by rw [← HPK.out]; omega) (by rw [H.out.len]; exact hi)
        rw [← HPK.out, HR.out] at hcut
        have hq6 := path_short (ls := ls.drop P) (i := i - P) (n := n - P) hsf.len (by omega) (by omega)
        obtain ⟨q, hq⟩ : ∃ q, pathOf pairSum (i - P) ((ls.drop P).map leafSum) = q := ⟨_, rfl⟩
        obtain ⟨t, ht, htl⟩ : ∃ t, rootSum (ls.take P) = t ∧ t.length = 32 := ⟨_, rfl, rootSum_len _⟩
        have hx : ∀ (W : World), Below w.heap.size w W → Calls Tryd.prog 14 #[.slice a9 (n - P) (c - P), .int .i64 ((i : Int) - (P : Int))] W fun e w' => PathOwn W q e w' := fun W hW => by rw [← hq, ← g2]; exact HIH.out (n - P) (by omega) W a9 _ (i - P) _ (by omega) (HSF.out.below hW) (HK.out.below hW)
        have hy : ∀ (W : World), Below w.heap.size w W → Calls Tryd.prog 9 #[.slice a P c] W fun e w' => e = .returned (.agg (cellsOf t).toArray) ∧ Below W.heap.size W w' := fun W hW => by rw [← ht]; exact HRT.out P hkn W a _ _ (HST.out.below hW) (HK.out.below hW)
        clear g2
        have ew := IntWalk.i64_in (n := (i : Int) - (P : Int)) (by omega)
        rw [hq, ht] at hcut
        rw [hq] at hq6
        have HX := Lib.hid hx
        have HY := Lib.hid hy
        have HTL := Lib.hid htl
        have HCUT := Lib.hid hcut
        obtain ⟨nq, hnq⟩ : ∃ nq, q.length = nq := ⟨_, rfl⟩
        rw [hnq] at hq6
        have HNQ := Lib.hid hnq
        clear hcut hq ht htl hx hy hst hsf ha9 hl1 hl2 hlt2 hnq hip hi
        go_wp2_with fail
        refine wp_region_held_drew (S := fun w' => Below w.heap.size w w') (by kernel_rfl) (below_drew (Below.refl _ _)) (fun hHeld => ?_)
        refine take_at (i := 0) (v := ?_) rfl rfl (by kernel_rfl) (by kernel_rfl) (by kernel_rfl) (fun _ _ _ h => h) (Or.inl ⟨by rfl, ?_⟩) (by assumption) ?_
        rotate_left
        · intro w0 hSw; (try dsimp only at hSw); first | (go_simp; done) | (go_simp; with_reducible rfl)
        simp only [List.setIfInBounds_toArray, List.set_cons_zero, List.set_cons_succ]
        refine take_at (i := 1) (v := ?_) rfl rfl (by kernel_rfl) (by kernel_rfl) (by kernel_rfl) (fun _ _ _ h => h) (Or.inl ⟨by rfl, ?_⟩) (by assumption) ?_
        rotate_left
        · intro w0 hSw; (try dsimp only at hSw); first | (go_simp; done) | (go_simp; with_reducible rfl)
        simp only [List.setIfInBounds_toArray, List.set_cons_zero, List.set_cons_succ]
        refine take_at (i := 2) (v := .slice a9 (n - P) (c - P)) rfl rfl (by kernel_rfl) (by kernel_rfl) (by kernel_rfl) (fun _ _ _ h => h) (by rw [← HA9.out]; exact yields_from (A := P) (by rfl) rfl rfl rfl hPn) (by assumption) ?_
        simp only [List.setIfInBounds_toArray, List.set_cons_zero, List.set_cons_succ]
        refine take_at (i := 3) (v := ?_) rfl rfl (by kernel_rfl) (by kernel_rfl) (by kernel_rfl) (fun _ _ _ h => h) (Or.inl ⟨by rfl, ?_⟩) (by assumption) ?_
        rotate_left
        · intro w0 hSw; (try dsimp only at hSw); first | (go_simp; done) | (go_simp; with_reducible rfl)
        simp only [List.setIfInBounds_toArray, List.set_cons_zero, List.set_cons_succ]
        refine take_at (i := 4) (v := ?_) rfl rfl (by kernel_rfl) (by kernel_rfl) (by kernel_rfl) (fun _ _ _ h => h) (Or.inl ⟨by rfl, ?_⟩) (by assumption) ?_
        rotate_left
        · intro w0 hSw; (try dsimp only at hSw); first | (go_simp; done) | (go_simp; with_reducible rfl)
        simp only [List.setIfInBounds_toArray, List.set_cons_zero, List.set_cons_succ]
        refine take_at (i := 5) (v := ?_) rfl rfl (by kernel_rfl) (by kernel_rfl) (by kernel_rfl) (fun _ _ _ h => h) (Or.inl ⟨by rfl, ?_⟩) (by assumption) ?_
        rotate_left
        · intro w0 hSw; (try dsimp only at hSw); first | (go_simp; done) | (go_simp; with_reducible rfl)
        simp only [List.setIfInBounds_toArray, List.set_cons_zero, List.set_cons_succ]
        refine take_at (i := 7) (v := ?_) rfl rfl (by kernel_rfl) (by kernel_rfl) (by kernel_rfl) (fun _ _ _ h => h) (Or.inl ⟨by rfl, ?_⟩) (by assumption) ?_
        rotate_left
        · intro w0 hSw; (try dsimp only at hSw); first | (go_simp; done) | (go_simp; with_reducible rfl)
        simp only [List.setIfInBounds_toArray, List.set_cons_zero, List.set_cons_succ]
        refine take_at (i := 8) (v := ?_) rfl rfl (by kernel_rfl) (by kernel_rfl) (by kernel_rfl) (fun _ _ _ h => h) (Or.inl ⟨by rfl, ?_⟩) (by assumption) ?_
        rotate_left
        · intro w0 hSw; (try dsimp only at hSw); first | (go_simp; done) | (go_simp; with_reducible rfl)
        simp only [List.setIfInBounds_toArray, List.set_cons_zero, List.set_cons_succ]
        refine take_at (i := 9) rfl rfl (by kernel_rfl) (by kernel_rfl) (by kernel_rfl) (fun _ _ _ h => h) (yields_to (A := P) (by rfl) rfl rfl rfl hPc) (by assumption) ?_
        simp only [List.setIfInBounds_toArray, List.set_cons_zero, List.set_cons_succ]
        refine wpAnyH_ready (rs := [6]) (by kernel_rfl) (by simp) ?_
        refine AllReadyH.cons rfl (fun K hK => ?_) ?_
        · go_simp
          go_wp2_with ((go_at_call 14; (with_reducible refine (HX.out _ hHeld).mono ?_); rintro e x1 ⟨a1, c1, rfl, ho1, hb1⟩; rw [HNQ.out] at ho1; rw [HNQ.out]; have HX1 := Lib.hid hb1; have HO1 := Lib.hid (ho1.base (B' := w.heap.size) (Nat.le_of_eq rfl)); clear hb1 ho1))
          refine hK.out _ _ (by (try dsimp only); exact Below.trans hHeld (HX1.out.mono (Below.size hHeld))) (fun hHeld => ?_)
          clear hK K
          refine wpAnyH_ready (rs := [10]) (by kernel_rfl) (by simp) ?_
          refine AllReadyH.cons rfl (fun K hK => ?_) ?_
          · go_simp
            go_wp2_with ((go_at_call 9; (with_reducible refine (HY.out _ hHeld).mono ?_); rintro e x2 ⟨rfl, hb2⟩; have HX2 := Lib.hid hb2; clear hb2))
            refine hK.out _ _ (by (try dsimp only); exact Below.trans hHeld (HX2.out.mono (Below.size hHeld))) (fun hHeld => ?_)
            clear hK K
            refine wpAnyH_ready (rs := [11]) (by kernel_rfl) (by simp) ?_
            refine AllReadyH.cons rfl (fun K hK => ?_) ?_
            · have b3 : Below x2.heap.size x2 (x2.alloc (.cells (cellsOf t).toArray 24)) := (Below.refl _ _).alloc (Nat.le_refl _) _
              have hl3 := own_lit (w := x2) (B := 0) [t] (by simp [HTL.out]) (Nat.zero_le _) 1 rfl (by omega)
              rw [seqCells_single] at hl3
              have HL3 := Lib.hid hl3.sums
              have HO3 := Lib.hid ((HO1.out.below HX2.out).below b3)
              clear b3 hl3
              refine step_build_at rfl _ (by rfl) rfl rfl HTL.out ?_
              simp only [List.setIfInBounds_toArray, List.set_cons_zero, List.set_cons_succ]
              refine hK.out _ _ (by (try dsimp only); exact Below.alloc hHeld (Below.size hHeld) _) (fun hHeld => ?_)
              clear hK K
              refine wpAnyH_ready (rs := [12]) (by kernel_rfl) (by simp) ?_
              refine AllReadyH.cons rfl (fun K hK => ?_) ?_
              · have hsz : w.heap.size ≤ (x2.alloc (.cells (cellsOf t).toArray 24)).heap.size := Below.size hHeld
                refine step_append_at rfl (by rfl) _ _ rfl rfl w.heap.size (.slice a1 nq c1) q nq HNQ.out rfl HO3.out _ 1 1 [t] rfl HL3.out (by omega) hsz ?_
                intro a4 c4 x4 ho4 hg4
                have HB4 := Lib.hid (Below.trans hHeld (HO3.out.grows hg4 hsz))
                have HO4 := Lib.hid ho4
                clear ho4 hg4
                simp only [List.setIfInBounds_toArray, List.set_cons_zero, List.set_cons_succ]
                refine hK.out _ _ (by (try dsimp only); exact HB4.out) (fun hHeld => ?_)
                clear hK K
                refine take_at (i := 13) (v := ?_) rfl rfl (by kernel_rfl) (by kernel_rfl) (by kernel_rfl) (fun _ _ _ h => h) (Or.inl ⟨by rfl, ?_⟩) (by assumption) ?_
                rotate_left
                · intro w0 hSw; (try dsimp only at hSw); first | (go_simp; done) | (go_simp; with_reducible rfl)
                simp only [List.setIfInBounds_toArray, List.set_cons_zero, List.set_cons_succ]
                refine wpAnyH_done (by kernel_rfl) ?_ _
                go_wp2_with fail
                go_ret
                have hlen : (q ++ [t]).length = nq + 1 := by rw [List.length_append, HNQ.out]; rfl
                rw [HCUT.out]
                exact ⟨a4, c4, by rw [hlen]; rfl, by rw [hlen]; exact HO4.out, HB4.out⟩
              exact AllReadyH.nil
            exact AllReadyH.nil
          exact AllReadyH.nil
        exact AllReadyH.nil
theorem pathLaw_any : ∀ n : Nat, 1 ≤ n → n ≤ 40 → PathLaw n := by
  intro n
  induction n using Nat.strongRecOn with
  | ind n ih =>
    intro h1 h40
    by_cases h : n = 1
    · subst h; exact pathLaw_one
    · refine pathLaw_more n (by omega) h40 (fun m hm => ?_)
      by_cases h0 : m = 0
      · subst h0
        intro w a c i ls hi
        exact absurd hi (by omega)
      · exact ih m hm (by omega) (by omega)
end Go.Proofs.YtmbfpopfabjodaaDoor
