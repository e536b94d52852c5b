/- What add leaves. -/
import Derived.Test.YthpkafjonelanaaDoorShelfOf
namespace Go.Proofs.YthpkafjonelanaaDoor
open Go.RowKit

theorem OwnS.typed {w : World} {B : Nat} {v : Value} {ls : List (List UInt8)} (h : OwnS w B v ls) : ∀ k, v.ownBlock = some k → ∃ cur, w.heap[k]? = some (.cells cur 23 (0, 0)) := by
  intro k e
  rcases h.1.2 with ⟨rfl, _⟩ | ⟨g, cap, cur, rfl, hB, hh, _⟩
  · cases e
  · cases e
    exact ⟨cur, hh⟩
theorem Bar.mono {S T : Nat → Option Obj → Prop} {w w' : World} (h : Bar S w w') (hS : ∀ k o, S k o → T k o) : Bar T w w' := ⟨h.os, h.tape, h.output, h.size, fun k hk hn => h.block k hk (fun hs => hn (hS _ _ hs))⟩
theorem Bar.one {S : Nat → Option Obj → Prop} {B p : Nat} {w w' : World} (h : Bar S w w') (hB : B ≤ w.heap.size) (hS : ∀ k o, k < B → k ≠ p → ¬ S k o) : But B p w w' := ⟨h.os, h.tape, h.output, h.size, fun k hk hn => h.block k (Nat.lt_of_lt_of_le hk hB) (hS k _ hk hn)⟩
theorem own_new {o o' : Option Nat} {n m k : Nat} (h : o' = o ∨ o' = some n) (hm : m ≤ n) (e : o' = some k) : o = some k ∨ m ≤ k := by
  rcases h with h | h
  · exact .inl (h ▸ e)
  · rw [h] at e
    cases e
    exact .inr hm
theorem shelf_ne_rack {w : World} {ps r : Nat} {p q v : Value} (h : w.heap[ps]? = some (.cells #[p, q] 34 (0, 0))) (h2 : w.heap[r]? = some (.cells #[v] 60 (0, 0))) : ps ≠ r := by
  rintro rfl
  rw [h] at h2
  simp at h2
theorem own_ne {w : World} {B k g : Nat} {v : Value} {cs : Array Value} {t : TypeId} {ls : List (List UInt8)} (h : OwnS w B v ls) (e : v.ownBlock = some k) (hg : w.heap[g]? = some (.cells cs t (0, 0))) (ht : t ≠ 23) : k ≠ g := by
  rintro rfl
  obtain ⟨cur, hh⟩ := h.typed k e
  rw [hh] at hg
  simp at hg
  exact ht hg.2.symm
set_option linter.unusedSimpArgs false in
set_option maxRecDepth 100000 in
set_option maxHeartbeats 6400000 in
theorem add_no13 {w : World} {B ps : Nat} {x : List UInt8} (h : ShelfNo w ps) (hx : x.length = 32) (hB : B ≤ w.heap.size) :
    Calls Tryd.prog 22 #[.pointer (some ⟨ps, 0, none⟩), .agg (cellsOf x).toArray] w fun e w' => e = .returned (.tuple #[]) ∧ ∃ r a c, ShelfIs w' B ps r (.slice a 1 c) [x] ∧ w.heap.size ≤ r ∧ (∀ k, (Value.slice a 1 c).ownBlock = some k → w.heap.size ≤ k) ∧ But w.heap.size ps w w' := by
  have H := Lib.hid h
  have HXL := Lib.hid hx
  have SZX := Lib.hid (sumLen13 hx)
  have HBW0 := Lib.hid hB
  obtain ⟨ls, hls⟩ : ∃ ls : List (List UInt8), ls = [] := ⟨_, rfl⟩
  have HLS := Lib.hid hls
  have HLEN : Hid (ls.length = 0) := Lib.hid (by rw [hls]; rfl)
  clear h hx hB hls
  go_enter Tryd.func22, Tryd.ntmps22
  go_upto_region 1 with (fail)
  have b1 : Below w.heap.size w (w.alloc (.cells (cellsOf x).toArray 23)) := (Below.refl _ _).alloc (Nat.le_refl _) _
  have h1 := heap_alloc_new w (.cells (cellsOf x).toArray 23)
  revert b1 h1
  generalize (w.alloc (.cells (cellsOf x).toArray 23)) = w1
  obtain ⟨g, hg⟩ : ∃ g, g = w.heap.size := ⟨_, rfl⟩
  rw [← hg]
  intro b1 h1
  rw [hg] at b1
  have HB1 := Lib.hid b1
  have H1 := Lib.hid h1
  have HG := Lib.hid hg
  clear b1 h1 hg
  have HC1 := Lib.hid (H.out.below HB1.out)
  refine wp_region_held_drew (S := fun w' => Below w1.heap.size w1 w') (by kernel_rfl) (below_drew (Below.refl _ _)) (fun hHeld => ?_)
  refine take_at (i := 0) (v := ?_) rfl rfl (by kernel_rfl) (by kernel_rfl) (by kernel_rfl) (fun _ _ _ h => h) (Or.inl ⟨by rfl, ?_⟩) (by assumption) ?_
  rotate_left
  · intro w0 hSw; (try dsimp only at hSw); first | (go_simp; done) | (go_simp; with_reducible rfl)
  simp only [List.setIfInBounds_toArray, List.set_cons_zero, List.set_cons_succ]
  refine take_at (i := 1) (v := ?_) rfl rfl (by kernel_rfl) (by kernel_rfl) (by kernel_rfl) (fun _ _ _ h => h) (Or.inl ⟨by rfl, ?_⟩) (by assumption) ?_
  rotate_left
  · intro w0 hSw; (try dsimp only at hSw); first | (go_simp; done) | (go_simp; with_reducible rfl)
  simp only [List.setIfInBounds_toArray, List.set_cons_zero, List.set_cons_succ]
  refine take_at (i := 2) (v := ?_) rfl rfl (by kernel_rfl) (by kernel_rfl) (by kernel_rfl) (fun _ _ _ h => h) (Or.inl ⟨by rfl, ?_⟩) (by assumption) ?_
  rotate_left
  · intro w0 hSw; (try dsimp only at hSw); first | (go_simp; done) | (go_simp; with_reducible rfl)
  simp only [List.setIfInBounds_toArray, List.set_cons_zero, List.set_cons_succ]
  refine take_at (i := 3) rfl rfl (by kernel_rfl) (by kernel_rfl) (by kernel_rfl) (fun _ _ _ h => h) (yields_cell (by rfl) rfl rfl (b := ps) (o := 0) (fun w0 hSw => (shelf_cell (keep hSw HC1.out)).1) agShelfP) (by assumption) ?_
  simp only [List.setIfInBounds_toArray, List.set_cons_zero, List.set_cons_succ]
  refine take_at (i := 4) (v := ?_) rfl rfl (by kernel_rfl) (by kernel_rfl) (by kernel_rfl) (fun _ _ _ h => h) (Or.inl ⟨by rfl, ?_⟩) (by assumption) ?_
  rotate_left
  · intro w0 hSw; (try dsimp only at hSw); first | (go_simp; done) | (go_simp; with_reducible rfl)
  simp only [List.setIfInBounds_toArray, List.set_cons_zero, List.set_cons_succ]
  refine take_at (i := 5) (v := ?_) rfl rfl (by kernel_rfl) (by kernel_rfl) (by kernel_rfl) (fun _ _ _ h => h) (Or.inl ⟨by rfl, ?_⟩) (by assumption) ?_
  rotate_left
  · intro w0 hSw; (try dsimp only at hSw); first | (go_simp; done) | (go_simp; with_reducible rfl)
  simp only [List.setIfInBounds_toArray, List.set_cons_zero, List.set_cons_succ]
  refine take_at (i := 6) (v := undef) rfl rfl (by kernel_rfl) (by kernel_rfl) (by kernel_rfl) (fun _ _ _ h => h) (Or.inr ⟨by rfl, rfl⟩) (by assumption) ?_
  simp only [List.setIfInBounds_toArray, List.set_cons_zero, List.set_cons_succ]
  refine take_at (i := 7) (v := undef) rfl rfl (by kernel_rfl) (by kernel_rfl) (by kernel_rfl) (fun _ _ _ h => h) (Or.inr ⟨by rfl, rfl⟩) (by assumption) ?_
  simp only [List.setIfInBounds_toArray, List.set_cons_zero, List.set_cons_succ]
  refine take_at (i := 8) (v := undef) rfl rfl (by kernel_rfl) (by kernel_rfl) (by kernel_rfl) (fun _ _ _ h => h) (Or.inr ⟨by rfl, rfl⟩) (by assumption) ?_
  simp only [List.setIfInBounds_toArray, List.set_cons_zero, List.set_cons_succ]
  refine take_at (i := 9) (v := undef) rfl rfl (by kernel_rfl) (by kernel_rfl) (by kernel_rfl) (fun _ _ _ h => h) (Or.inr ⟨by rfl, rfl⟩) (by assumption) ?_
  simp only [List.setIfInBounds_toArray, List.set_cons_zero, List.set_cons_succ]
  refine take_at (i := 10) (v := undef) rfl rfl (by kernel_rfl) (by kernel_rfl) (by kernel_rfl) (fun _ _ _ h => h) (Or.inr ⟨by rfl, rfl⟩) (by assumption) ?_
  simp only [List.setIfInBounds_toArray, List.set_cons_zero, List.set_cons_succ]
  refine take_at (i := 11) (v := undef) rfl rfl (by kernel_rfl) (by kernel_rfl) (by kernel_rfl) (fun _ _ _ h => h) (Or.inr ⟨by rfl, rfl⟩) (by assumption) ?_
  simp only [List.setIfInBounds_toArray, List.set_cons_zero, List.set_cons_succ]
  refine take_at (i := 12) (v := undef) rfl rfl (by kernel_rfl) (by kernel_rfl) (by kernel_rfl) (fun _ _ _ h => h) (Or.inr ⟨by rfl, rfl⟩) (by assumption) ?_
  simp only [List.setIfInBounds_toArray, List.set_cons_zero, List.set_cons_succ]
  refine take_at (i := 13) (v := undef) rfl rfl (by kernel_rfl) (by kernel_rfl) (by kernel_rfl) (fun _ _ _ h => h) (Or.inr ⟨by rfl, rfl⟩) (by assumption) ?_
  simp only [List.setIfInBounds_toArray, List.set_cons_zero, List.set_cons_succ]
  refine take_at (i := 14) (v := undef) rfl rfl (by kernel_rfl) (by kernel_rfl) (by kernel_rfl) (fun _ _ _ h => h) (Or.inr ⟨by rfl, rfl⟩) (by assumption) ?_
  simp only [List.setIfInBounds_toArray, List.set_cons_zero, List.set_cons_succ]
  refine take_at (i := 15) (v := undef) rfl rfl (by kernel_rfl) (by kernel_rfl) (by kernel_rfl) (fun _ _ _ h => h) (Or.inr ⟨by rfl, rfl⟩) (by assumption) ?_
  simp only [List.setIfInBounds_toArray, List.set_cons_zero, List.set_cons_succ]
  refine take_at (i := 16) (v := undef) rfl rfl (by kernel_rfl) (by kernel_rfl) (by kernel_rfl) (fun _ _ _ h => h) (Or.inr ⟨by rfl, rfl⟩) (by assumption) ?_
  simp only [List.setIfInBounds_toArray, List.set_cons_zero, List.set_cons_succ]
  refine take_at (i := 17) (v := undef) rfl rfl (by kernel_rfl) (by kernel_rfl) (by kernel_rfl) (fun _ _ _ h => h) (Or.inr ⟨by rfl, rfl⟩) (by assumption) ?_
  simp only [List.setIfInBounds_toArray, List.set_cons_zero, List.set_cons_succ]
  refine take_at (i := 18) (v := undef) rfl rfl (by kernel_rfl) (by kernel_rfl) (by kernel_rfl) (fun _ _ _ h => h) (Or.inr ⟨by rfl, rfl⟩) (by assumption) ?_
  simp only [List.setIfInBounds_toArray, List.set_cons_zero, List.set_cons_succ]
  refine take_at (i := 19) (v := ?_) rfl rfl (by kernel_rfl) (by kernel_rfl) (by kernel_rfl) (fun _ _ _ h => h) (Or.inl ⟨by rfl, ?_⟩) (by assumption) ?_
  rotate_left
  · intro w0 hSw; (try dsimp only at hSw); first | (go_simp; done) | (go_simp; with_reducible rfl)
  simp only [List.setIfInBounds_toArray, List.set_cons_zero, List.set_cons_succ]
  refine wpAnyH_done (by kernel_rfl) ?_ _
  have HC2 := Lib.hid (keep hHeld HC1.out)
  have H2 := Lib.hid (keep hHeld H1.out)
  have HB2 := Lib.hid (bthen HB1.out hHeld)
  have HAC := Lib.hid (all_no13 (show ShelfNo w1.drew ps from HC2.out))
  clear hHeld
  go_upto_region 3 with (first | (go_at_call 13; (with_reducible refine (HAC.out).mono ?_); rintro e w2 ⟨rfl, rfl⟩) | (refine wpList_box10 rfl 60 _ rfl #[.slice none 0 0] rfl ?_; intro r w2 hr hh hb; go_frame; have HR2 := Lib.hid hh; have HP2 := Lib.hid hr; have HB22 := Lib.hid hb; have HC22 := Lib.hid (keep hb HC2.out); clear hr hh hb) | (refine wpList_field10 rfl 32 _ _ rfl ps 0 rfl (.pointer (some ⟨r, 0, none⟩)) rfl 34 [.pointer none, .int .i64 0] HC22.out (by simp) (by kernel_rfl) rfl ?_; intro w3 hh3 hb3) | fail)
  have HC : Hid (w3.heap[ps]? = some (.cells #[.pointer (some ⟨r, 0, none⟩), .int .i64 0] 34 (0, 0))) := Lib.hid hh3
  have HPR := Lib.hid (shelf_ne_rack HC22.out HR2.out)
  have HR3 : Hid (w3.drew.heap[r]? = some (.cells #[.slice none 0 0] 60 (0, 0))) := Lib.hid ((hb3.block r (lt_of_block HR2.out) HPR.out.symm).trans HR2.out)
  have HGP : Hid (g ≠ ps) := Lib.hid (by have := lt_of_block H.out; have := HG.out; omega)
  have HX : Hid (w3.heap[g]? = some (.cells (cellsOf x).toArray 23 (0, 0))) := Lib.hid ((hb3.block g (lt_of_block (keep HB22.out H2.out)) HGP.out).trans (keep HB22.out H2.out))
  have HGR : Hid (g ≠ r) := Lib.hid (by have := lt_of_block H2.out; have := HP2.out; omega)
  have HPT : Hid (¬ (ps = r ∨ (Value.slice none 0 0).ownBlock = some ps)) := Lib.hid (by rintro (e | e); exact HPR.out e; cases e)
  have HGT : Hid (¬ (g = r ∨ (Value.slice none 0 0).ownBlock = some g)) := Lib.hid (by rintro (e | e); exact HGR.out e; cases e)
  have HRO : Hid ((Value.slice none 0 0).ownBlock ≠ some r) := Lib.hid (by intro e; cases e)
  have HBB := Lib.hid (HB2.out.trans (HB22.out.mono HB2.out.size))
  have HB3 := Lib.hid hb3
  have HBW : Hid (B ≤ w3.heap.size) := Lib.hid (Nat.le_trans HBW0.out (Nat.le_trans HBB.out.size (hb3.size)))
  have HO3 : Hid (OwnS w3.drew B (.slice none 0 0) ls) := Lib.hid (by rw [HLS.out]; exact OwnS.nil _ _)
  clear hh3 hb3 HC2 HC22 H2 HR2
  refine wp_region_held_drew (S := fun w' => Bar (fun k _ => k = r ∨ (Value.slice none 0 0).ownBlock = some k) w3 w') (by kernel_rfl) (Bar.of (below_drew (Below.refl _ _))) (fun hHeld => ?_)
  refine take_at (i := 0) (v := ?_) rfl rfl (by kernel_rfl) (by kernel_rfl) (by kernel_rfl) (fun _ _ _ h => h) (Or.inl ⟨by rfl, ?_⟩) (by assumption) ?_
  rotate_left
  · intro w0 hSw; (try dsimp only at hSw); first | (go_simp; done) | (go_simp; with_reducible rfl)
  simp only [List.setIfInBounds_toArray, List.set_cons_zero, List.set_cons_succ]
  refine take_at (i := 1) (v := ?_) rfl rfl (by kernel_rfl) (by kernel_rfl) (by kernel_rfl) (fun _ _ _ h => h) (Or.inl ⟨by rfl, ?_⟩) (by assumption) ?_
  rotate_left
  · intro w0 hSw; (try dsimp only at hSw); first | (go_simp; done) | (go_simp; with_reducible rfl)
  simp only [List.setIfInBounds_toArray, List.set_cons_zero, List.set_cons_succ]
  refine take_at (i := 2) (v := ?_) rfl rfl (by kernel_rfl) (by kernel_rfl) (by kernel_rfl) (fun _ _ _ h => h) (Or.inl ⟨by rfl, ?_⟩) (by assumption) ?_
  rotate_left
  · intro w0 hSw; (try dsimp only at hSw); first | (go_simp; done) | (go_simp; with_reducible rfl)
  simp only [List.setIfInBounds_toArray, List.set_cons_zero, List.set_cons_succ]
  refine take_at (i := 3) rfl rfl (by kernel_rfl) (by kernel_rfl) (by kernel_rfl) (fun _ _ _ h => h) (yields_cell (by rfl) rfl rfl (b := ps) (o := 0) (fun w0 hSw => (shelf_cell (hSw.keep HC.out HPT.out)).1) agShelfP) (by assumption) ?_
  simp only [List.setIfInBounds_toArray, List.set_cons_zero, List.set_cons_succ]
  refine take_at (i := 4) (v := ?_) rfl rfl (by kernel_rfl) (by kernel_rfl) (by kernel_rfl) (fun _ _ _ h => h) (Or.inl ⟨by rfl, ?_⟩) (by assumption) ?_
  rotate_left
  · intro w0 hSw; (try dsimp only at hSw); first | (go_simp; done) | (go_simp; with_reducible rfl)
  simp only [List.setIfInBounds_toArray, List.set_cons_zero, List.set_cons_succ]
  refine take_at (i := 5) (v := ?_) rfl rfl (by kernel_rfl) (by kernel_rfl) (by kernel_rfl) (fun _ _ _ h => h) (Or.inl ⟨by rfl, ?_⟩) (by assumption) ?_
  rotate_left
  · intro w0 hSw; (try dsimp only at hSw); first | (go_simp; done) | (go_simp; with_reducible rfl)
  simp only [List.setIfInBounds_toArray, List.set_cons_zero, List.set_cons_succ]
  refine take_at (i := 6) (v := ?_) rfl rfl (by kernel_rfl) (by kernel_rfl) (by kernel_rfl) (fun _ _ _ h => h) (Or.inl ⟨by rfl, ?_⟩) (by assumption) ?_
  rotate_left
  · intro w0 hSw; (try dsimp only at hSw); first | (go_simp; done) | (go_simp; with_reducible rfl)
  simp only [List.setIfInBounds_toArray, List.set_cons_zero, List.set_cons_succ]
  refine take_at (i := 7) rfl rfl (by kernel_rfl) (by kernel_rfl) (by kernel_rfl) (fun _ _ _ h => h) (yields_cell (by rfl) rfl rfl (b := ps) (o := 0) (fun w0 hSw => (shelf_cell (hSw.keep HC.out HPT.out)).1) agShelfP) (by assumption) ?_
  simp only [List.setIfInBounds_toArray, List.set_cons_zero, List.set_cons_succ]
  refine take_at (i := 8) (v := ?_) rfl rfl (by kernel_rfl) (by kernel_rfl) (by kernel_rfl) (fun _ _ _ h => h) (Or.inl ⟨by rfl, ?_⟩) (by assumption) ?_
  rotate_left
  · intro w0 hSw; (try dsimp only at hSw); first | (go_simp; done) | (go_simp; with_reducible rfl)
  simp only [List.setIfInBounds_toArray, List.set_cons_zero, List.set_cons_succ]
  refine take_at (i := 9) (v := ?_) rfl rfl (by kernel_rfl) (by kernel_rfl) (by kernel_rfl) (fun _ _ _ h => h) (Or.inl ⟨by rfl, ?_⟩) (by assumption) ?_
  rotate_left
  · intro w0 hSw; (try dsimp only at hSw); first | (go_simp; done) | (go_simp; with_reducible rfl)
  simp only [List.setIfInBounds_toArray, List.set_cons_zero, List.set_cons_succ]
  refine take_at (i := 11) rfl rfl (by kernel_rfl) (by kernel_rfl) (by kernel_rfl) (fun _ _ _ h => h) (yieldsIf_load_mid (by rfl) _ _ rfl g 0 rfl (cellsOf x) _ (fun w0 hSw => range_of (hSw.keep HX.out HGT.out)) Tryd.underlying23 rfl SZX.out) (by assumption) ?_
  simp only [List.setIfInBounds_toArray, List.set_cons_zero, List.set_cons_succ]
  refine wpAnyH_ready (rs := [10, 12]) (by kernel_rfl) (by simp) ?_
  refine AllReadyH.cons rfl (fun K hK => ?_) ?_
  · refine step_cell (d := 41) rfl (by rfl) 35 _ rfl r 0 rfl (.slice none 0 0) (rack_cell (show w3.drew.heap[r]? = _ from HR3.out)) (agRow13 _) ?_
    refine hK.out _ _ (by (try dsimp only); exact hHeld) (fun hHeld => ?_)
    clear hK K
    refine wpAnyH_ready (rs := [12]) (by kernel_rfl) (by simp) ?_
    refine AllReadyH.cons rfl (fun K hK => ?_) ?_
    · refine step_one13 (d := 43) (s := x) rfl (by rfl) rfl (by rfl) HXL.out (fun p y4 hp hl hb => ?_)
      have HLT := Lib.hid hl
      have HY := Lib.hid hb
      have HO4 := Lib.hid (HO3.out.below hb)
      have HR4 := Lib.hid (keep hb HR3.out)
      clear hp hl hb
      refine hK.out _ _ (by (try dsimp only); exact hHeld.trans (Bar.of HY.out)) (fun hHeld => ?_)
      clear hK K
      refine wpAnyH_ready (rs := [13]) (by kernel_rfl) (by simp) ?_
      refine AllReadyH.cons rfl (fun K hK => ?_) ?_
      · refine step_append_at13 (d := 44) rfl (by rfl) _ _ rfl rfl B (.slice none 0 0) ls 0 HLEN.out rfl HO4.out ⟨p, 0, none⟩ 1 1 [x] rfl HLT.out (by omega) (Nat.le_trans HBW.out (Nat.le_trans (Nat.le_refl w3.drew.heap.size) HY.out.size)) (fun a5 c5 y5 ho hg hown => ?_)
        have HO5 := Lib.hid ho
        have HG5 := Lib.hid hg
        have HW5 := Lib.hid hown
        have HR5 := Lib.hid ((hg.block r (lt_of_block HR4.out) (fun e => HRO.out e.symm)).trans HR4.out)
        clear ho hg hown
        refine hK.out _ _ (by (try dsimp only); exact hHeld.trans (Bar.grown HG5.out (fun k e => .inr e))) (fun hHeld => ?_)
        clear hK K
        refine take_at (i := 14) (v := ?_) rfl rfl (by kernel_rfl) (by kernel_rfl) (by kernel_rfl) (fun _ _ _ h => h) (Or.inl ⟨by rfl, ?_⟩) (by assumption) ?_
        rotate_left
        · intro w0 hSw; (try dsimp only at hSw); first | (go_simp; done) | (go_simp; with_reducible rfl)
        simp only [List.setIfInBounds_toArray, List.set_cons_zero, List.set_cons_succ]
        refine take_at (i := 15) (v := ?_) rfl rfl (by kernel_rfl) (by kernel_rfl) (by kernel_rfl) (fun _ _ _ h => h) (Or.inl ⟨by rfl, ?_⟩) (by assumption) ?_
        rotate_left
        · intro w0 hSw; (try dsimp only at hSw); first | (go_simp; done) | (go_simp; with_reducible rfl)
        simp only [List.setIfInBounds_toArray, List.set_cons_zero, List.set_cons_succ]
        refine wpAnyH_ready (rs := [16]) (by kernel_rfl) (by simp) ?_
        refine AllReadyH.cons rfl (fun K hK => ?_) ?_
        · refine step_field10 (by rfl) 35 _ _ rfl r 0 (by rfl) (.slice a5 (0 + 1) c5) (by rfl) 60 [.slice none 0 0] HR5.out (by simp) (by kernel_rfl) rfl (fun y6 hh6 hb => ?_)
          have HR6 := Lib.hid hh6
          have HB6 := Lib.hid hb
          have HN5 : Hid (∀ k, (Value.slice a5 (0 + 1) c5).ownBlock = some k → k ≠ r) := Lib.hid (fun k e => own_ne HO5.out e HR5.out (by decide))
          have HO6 := Lib.hid (HO5.out.stay (fun k e => hb.block k (HO5.out.lt k e).2 (HN5.out k e)))
          clear hh6 hb
          refine hK.out _ _ (by (try dsimp only); exact hHeld.trans (Bar.but HB6.out (fun _ => .inl rfl))) (fun hHeld => ?_)
          clear hK K
          refine wpAnyH_done (by kernel_rfl) ?_ _
          have HBAR := Lib.hid (show Bar (fun k _ => k = r ∨ (Value.slice none 0 0).ownBlock = some k) w3 y6 from hHeld)
          have HSZ := Lib.hid (show w3.heap.size ≤ y4.heap.size from HY.out.size)
          have HNW : Hid (∀ k, (Value.slice a5 (0 + 1) c5).ownBlock = some k → (Value.slice none 0 0).ownBlock = some k ∨ w3.heap.size ≤ k) := Lib.hid (fun k e => own_new HW5.out HSZ.out e)
          have HC6 := Lib.hid (HBAR.out.keep HC.out HPT.out)
          have c6 := (shelf_cell HC6.out).2
          clear hHeld
          go_wp2_with (first | (refine wpList_field10 rfl 3 _ _ rfl ps 1 rfl (.int .i64 1) rfl 34 [.pointer (some ⟨r, 0, none⟩), .int .i64 0] HC6.out (by simp) (by kernel_rfl) rfl ?_; intro y7 hh7 hb7; have HC7 := Lib.hid hh7; have HB7 := Lib.hid hb7; clear hh7 hb7) | fail)
          have HP7 := Lib.hid (lt_of_block HC6.out)
          have HR7 := Lib.hid ((HB7.out.block r (lt_of_block HR6.out) HPR.out.symm).trans HR6.out)
          have HO7 := Lib.hid (HO6.out.stay (fun k e => HB7.out.block k (HO6.out.lt k e).2 (own_ne HO6.out e HC6.out (by decide))))
          have HWR : Hid (w.heap.size ≤ r) := Lib.hid (Nat.le_trans HB2.out.size HP2.out)
          have HFIN : Hid (But w.heap.size ps w y7) := Lib.hid ((((But.of HBB.out).trans (HB3.out.mono HBB.out.size)).trans (HBAR.out.one (Nat.le_trans HBB.out.size HB3.out.size) (fun k o hk _ hs => by rcases hs with e | e; exact absurd (e ▸ hk) (Nat.not_lt_of_le HWR.out); cases e))).trans (HB7.out.mono (Nat.le_trans (Nat.le_trans HBB.out.size HB3.out.size) HBAR.out.size)))
          have HW3 : Hid (w.heap.size ≤ w3.heap.size) := Lib.hid (Nat.le_trans HBB.out.size HB3.out.size)
          have HSH : Hid (ShelfIs y7 B ps r (.slice a5 1 c5) [x]) := Lib.hid ⟨by rw [HC7.out]; rfl, HR7.out, by have h9 := HO7.out; rw [HLS.out] at h9; exact h9, by simp, Nat.le_trans HBW0.out HWR.out⟩
          refine bodyPost_end (results_none rfl _ _ _) rfl ?_
          exact ⟨rfl, r, a5, c5, HSH.out, HWR.out, fun k e => by rcases HNW.out k e with h | h; cases h; exact Nat.le_trans HW3.out h, HFIN.out⟩
        exact AllReadyH.nil
      exact AllReadyH.nil
    exact AllReadyH.nil
  refine AllReadyH.cons rfl (fun K hK => ?_) ?_
  · refine step_one13 (d := 43) (s := x) rfl (by rfl) rfl (by rfl) HXL.out (fun p y4 hp hl hb => ?_)
    have HLT := Lib.hid hl
    have HY := Lib.hid hb
    have HO4 := Lib.hid (HO3.out.below hb)
    have HR4 := Lib.hid (keep hb HR3.out)
    clear hp hl hb
    refine hK.out _ _ (by (try dsimp only); exact hHeld.trans (Bar.of HY.out)) (fun hHeld => ?_)
    clear hK K
    refine wpAnyH_ready (rs := [10]) (by kernel_rfl) (by simp) ?_
    refine AllReadyH.cons rfl (fun K hK => ?_) ?_
    · refine step_cell (d := 41) rfl (by rfl) 35 _ rfl r 0 rfl (.slice none 0 0) (rack_cell HR4.out) (agRow13 _) ?_
      refine hK.out _ _ (by (try dsimp only); exact hHeld) (fun hHeld => ?_)
      clear hK K
      refine wpAnyH_ready (rs := [13]) (by kernel_rfl) (by simp) ?_
      refine AllReadyH.cons rfl (fun K hK => ?_) ?_
      · refine step_append_at13 (d := 44) rfl (by rfl) _ _ rfl rfl B (.slice none 0 0) ls 0 HLEN.out rfl HO4.out ⟨p, 0, none⟩ 1 1 [x] rfl HLT.out (by omega) (Nat.le_trans HBW.out (Nat.le_trans (Nat.le_refl w3.drew.heap.size) HY.out.size)) (fun a5 c5 y5 ho hg hown => ?_)
        have HO5 := Lib.hid ho
        have HG5 := Lib.hid hg
        have HW5 := Lib.hid hown
        have HR5 := Lib.hid ((hg.block r (lt_of_block HR4.out) (fun e => HRO.out e.symm)).trans HR4.out)
        clear ho hg hown
        refine hK.out _ _ (by (try dsimp only); exact hHeld.trans (Bar.grown HG5.out (fun k e => .inr e))) (fun hHeld => ?_)
        clear hK K
        refine take_at (i := 14) (v := ?_) rfl rfl (by kernel_rfl) (by kernel_rfl) (by kernel_rfl) (fun _ _ _ h => h) (Or.inl ⟨by rfl, ?_⟩) (by assumption) ?_
        rotate_left
        · intro w0 hSw; (try dsimp only at hSw); first | (go_simp; done) | (go_simp; with_reducible rfl)
        simp only [List.setIfInBounds_toArray, List.set_cons_zero, List.set_cons_succ]
        refine take_at (i := 15) (v := ?_) rfl rfl (by kernel_rfl) (by kernel_rfl) (by kernel_rfl) (fun _ _ _ h => h) (Or.inl ⟨by rfl, ?_⟩) (by assumption) ?_
        rotate_left
        · intro w0 hSw; (try dsimp only at hSw); first | (go_simp; done) | (go_simp; with_reducible rfl)
        simp only [List.setIfInBounds_toArray, List.set_cons_zero, List.set_cons_succ]
        refine wpAnyH_ready (rs := [16]) (by kernel_rfl) (by simp) ?_
        refine AllReadyH.cons rfl (fun K hK => ?_) ?_
        · refine step_field10 (by rfl) 35 _ _ rfl r 0 (by rfl) (.slice a5 (0 + 1) c5) (by rfl) 60 [.slice none 0 0] HR5.out (by simp) (by kernel_rfl) rfl (fun y6 hh6 hb => ?_)
          have HR6 := Lib.hid hh6
          have HB6 := Lib.hid hb
          have HN5 : Hid (∀ k, (Value.slice a5 (0 + 1) c5).ownBlock = some k → k ≠ r) := Lib.hid (fun k e => own_ne HO5.out e HR5.out (by decide))
          have HO6 := Lib.hid (HO5.out.stay (fun k e => hb.block k (HO5.out.lt k e).2 (HN5.out k e)))
          clear hh6 hb
          refine hK.out _ _ (by (try dsimp only); exact hHeld.trans (Bar.but HB6.out (fun _ => .inl rfl))) (fun hHeld => ?_)
          clear hK K
          refine wpAnyH_done (by kernel_rfl) ?_ _
          have HBAR := Lib.hid (show Bar (fun k _ => k = r ∨ (Value.slice none 0 0).ownBlock = some k) w3 y6 from hHeld)
          have HSZ := Lib.hid (show w3.heap.size ≤ y4.heap.size from HY.out.size)
          have HNW : Hid (∀ k, (Value.slice a5 (0 + 1) c5).ownBlock = some k → (Value.slice none 0 0).ownBlock = some k ∨ w3.heap.size ≤ k) := Lib.hid (fun k e => own_new HW5.out HSZ.out e)
          have HC6 := Lib.hid (HBAR.out.keep HC.out HPT.out)
          have c6 := (shelf_cell HC6.out).2
          clear hHeld
          go_wp2_with (first | (refine wpList_field10 rfl 3 _ _ rfl ps 1 rfl (.int .i64 1) rfl 34 [.pointer (some ⟨r, 0, none⟩), .int .i64 0] HC6.out (by simp) (by kernel_rfl) rfl ?_; intro y7 hh7 hb7; have HC7 := Lib.hid hh7; have HB7 := Lib.hid hb7; clear hh7 hb7) | fail)
          have HP7 := Lib.hid (lt_of_block HC6.out)
          have HR7 := Lib.hid ((HB7.out.block r (lt_of_block HR6.out) HPR.out.symm).trans HR6.out)
          have HO7 := Lib.hid (HO6.out.stay (fun k e => HB7.out.block k (HO6.out.lt k e).2 (own_ne HO6.out e HC6.out (by decide))))
          have HWR : Hid (w.heap.size ≤ r) := Lib.hid (Nat.le_trans HB2.out.size HP2.out)
          have HFIN : Hid (But w.heap.size ps w y7) := Lib.hid ((((But.of HBB.out).trans (HB3.out.mono HBB.out.size)).trans (HBAR.out.one (Nat.le_trans HBB.out.size HB3.out.size) (fun k o hk _ hs => by rcases hs with e | e; exact absurd (e ▸ hk) (Nat.not_lt_of_le HWR.out); cases e))).trans (HB7.out.mono (Nat.le_trans (Nat.le_trans HBB.out.size HB3.out.size) HBAR.out.size)))
          have HW3 : Hid (w.heap.size ≤ w3.heap.size) := Lib.hid (Nat.le_trans HBB.out.size HB3.out.size)
          have HSH : Hid (ShelfIs y7 B ps r (.slice a5 1 c5) [x]) := Lib.hid ⟨by rw [HC7.out]; rfl, HR7.out, by have h9 := HO7.out; rw [HLS.out] at h9; exact h9, by simp, Nat.le_trans HBW0.out HWR.out⟩
          refine bodyPost_end (results_none rfl _ _ _) rfl ?_
          exact ⟨rfl, r, a5, c5, HSH.out, HWR.out, fun k e => by rcases HNW.out k e with h | h; cases h; exact Nat.le_trans HW3.out h, HFIN.out⟩
        exact AllReadyH.nil
      exact AllReadyH.nil
    exact AllReadyH.nil
  exact AllReadyH.nil
set_option linter.unusedSimpArgs false in
set_option maxRecDepth 100000 in
set_option maxHeartbeats 6400000 in
theorem add_is13 {w : World} {B ps r n c : Nat} {a : Option Addr} {x : List UInt8} {ls : List (List UInt8)} (h : ShelfIs w B ps r (.slice a n c) ls) (hn : ls.length = n) (hx : x.length = 32) (hm : n ≤ 2000000) (hB : B ≤ w.heap.size) :
    Calls Tryd.prog 22 #[.pointer (some ⟨ps, 0, none⟩), .agg (cellsOf x).toArray] w fun e w' => e = .returned (.tuple #[]) ∧ ∃ a' c', ShelfIs w' B ps r (.slice a' (n + 1) c') (ls ++ [x]) ∧ (∀ k, (Value.slice a' (n + 1) c').ownBlock = some k → (Value.slice a n c).ownBlock = some k ∨ w.heap.size ≤ k) ∧ Bar (fun k _ => k = ps ∨ k = r ∨ (Value.slice a n c).ownBlock = some k) w w' := by
  have HI := Lib.hid h
  have HXL := Lib.hid hx
  have SZX := Lib.hid (sumLen13 hx)
  have HBW0 := Lib.hid hB
  have HLEN := Lib.hid hn
  have HBR := Lib.hid h.base
  have hc0 := h.cell
  rw [hn] at hc0
  have H := Lib.hid hc0
  clear h hx hB hn hc0
  go_enter Tryd.func22, Tryd.ntmps22
  go_upto_region 1 with (fail)
  have b1 : Below w.heap.size w (w.alloc (.cells (cellsOf x).toArray 23)) := (Below.refl _ _).alloc (Nat.le_refl _) _
  have h1 := heap_alloc_new w (.cells (cellsOf x).toArray 23)
  revert b1 h1
  generalize (w.alloc (.cells (cellsOf x).toArray 23)) = w1
  obtain ⟨g, hg⟩ : ∃ g, g = w.heap.size := ⟨_, rfl⟩
  rw [← hg]
  intro b1 h1
  rw [hg] at b1
  have HB1 := Lib.hid b1
  have H1 := Lib.hid h1
  have HG := Lib.hid hg
  clear b1 h1 hg
  have HC1 := Lib.hid (keep HB1.out H.out)
  have HR1 := Lib.hid (keep HB1.out HI.out.rack)
  refine wp_region_held_drew (S := fun w' => Below w1.heap.size w1 w') (by kernel_rfl) (below_drew (Below.refl _ _)) (fun hHeld => ?_)
  refine take_at (i := 0) (v := ?_) rfl rfl (by kernel_rfl) (by kernel_rfl) (by kernel_rfl) (fun _ _ _ h => h) (Or.inl ⟨by rfl, ?_⟩) (by assumption) ?_
  rotate_left
  · intro w0 hSw; (try dsimp only at hSw); first | (go_simp; done) | (go_simp; with_reducible rfl)
  simp only [List.setIfInBounds_toArray, List.set_cons_zero, List.set_cons_succ]
  refine take_at (i := 1) (v := ?_) rfl rfl (by kernel_rfl) (by kernel_rfl) (by kernel_rfl) (fun _ _ _ h => h) (Or.inl ⟨by rfl, ?_⟩) (by assumption) ?_
  rotate_left
  · intro w0 hSw; (try dsimp only at hSw); first | (go_simp; done) | (go_simp; with_reducible rfl)
  simp only [List.setIfInBounds_toArray, List.set_cons_zero, List.set_cons_succ]
  refine take_at (i := 2) (v := ?_) rfl rfl (by kernel_rfl) (by kernel_rfl) (by kernel_rfl) (fun _ _ _ h => h) (Or.inl ⟨by rfl, ?_⟩) (by assumption) ?_
  rotate_left
  · intro w0 hSw; (try dsimp only at hSw); first | (go_simp; done) | (go_simp; with_reducible rfl)
  simp only [List.setIfInBounds_toArray, List.set_cons_zero, List.set_cons_succ]
  refine take_at (i := 3) rfl rfl (by kernel_rfl) (by kernel_rfl) (by kernel_rfl) (fun _ _ _ h => h) (yields_cell (by rfl) rfl rfl (b := ps) (o := 0) (fun w0 hSw => (shelf_cell (keep hSw HC1.out)).1) agShelfP) (by assumption) ?_
  simp only [List.setIfInBounds_toArray, List.set_cons_zero, List.set_cons_succ]
  refine take_at (i := 4) (v := ?_) rfl rfl (by kernel_rfl) (by kernel_rfl) (by kernel_rfl) (fun _ _ _ h => h) (Or.inl ⟨by rfl, ?_⟩) (by assumption) ?_
  rotate_left
  · intro w0 hSw; (try dsimp only at hSw); first | (go_simp; done) | (go_simp; with_reducible rfl)
  simp only [List.setIfInBounds_toArray, List.set_cons_zero, List.set_cons_succ]
  refine take_at (i := 5) (v := ?_) rfl rfl (by kernel_rfl) (by kernel_rfl) (by kernel_rfl) (fun _ _ _ h => h) (Or.inl ⟨by rfl, ?_⟩) (by assumption) ?_
  rotate_left
  · intro w0 hSw; (try dsimp only at hSw); first | (go_simp; done) | (go_simp; with_reducible rfl)
  simp only [List.setIfInBounds_toArray, List.set_cons_zero, List.set_cons_succ]
  refine take_at (i := 6) (v := ?_) rfl rfl (by kernel_rfl) (by kernel_rfl) (by kernel_rfl) (fun _ _ _ h => h) (Or.inl ⟨by rfl, ?_⟩) (by assumption) ?_
  rotate_left
  · intro w0 hSw; (try dsimp only at hSw); first | (go_simp; done) | (go_simp; with_reducible rfl)
  simp only [List.setIfInBounds_toArray, List.set_cons_zero, List.set_cons_succ]
  refine take_at (i := 7) (v := ?_) rfl rfl (by kernel_rfl) (by kernel_rfl) (by kernel_rfl) (fun _ _ _ h => h) (Or.inl ⟨by rfl, ?_⟩) (by assumption) ?_
  rotate_left
  · intro w0 hSw; (try dsimp only at hSw); first | (go_simp; done) | (go_simp; with_reducible rfl)
  simp only [List.setIfInBounds_toArray, List.set_cons_zero, List.set_cons_succ]
  refine take_at (i := 8) (v := ?_) rfl rfl (by kernel_rfl) (by kernel_rfl) (by kernel_rfl) (fun _ _ _ h => h) (Or.inl ⟨by rfl, ?_⟩) (by assumption) ?_
  rotate_left
  · intro w0 hSw; (try dsimp only at hSw); first | (go_simp; done) | (go_simp; with_reducible rfl)
  simp only [List.setIfInBounds_toArray, List.set_cons_zero, List.set_cons_succ]
  refine take_at (i := 9) rfl rfl (by kernel_rfl) (by kernel_rfl) (by kernel_rfl) (fun _ _ _ h => h) (yields_cell (by rfl) rfl rfl (b := ps) (o := 1) (fun w0 hSw => (shelf_cell (keep hSw HC1.out)).2) agInt13) (by assumption) ?_
  simp only [List.setIfInBounds_toArray, List.set_cons_zero, List.set_cons_succ]
  refine take_at (i := 10) (v := ?_) rfl rfl (by kernel_rfl) (by kernel_rfl) (by kernel_rfl) (fun _ _ _ h => h) (Or.inl ⟨by rfl, ?_⟩) (by assumption) ?_
  rotate_left
  · intro w0 hSw; (try dsimp only at hSw); first | (go_simp; done) | (go_simp; with_reducible rfl)
  simp only [List.setIfInBounds_toArray, List.set_cons_zero, List.set_cons_succ]
  refine take_at (i := 11) (v := ?_) rfl rfl (by kernel_rfl) (by kernel_rfl) (by kernel_rfl) (fun _ _ _ h => h) (Or.inl ⟨by rfl, ?_⟩) (by assumption) ?_
  rotate_left
  · intro w0 hSw; (try dsimp only at hSw); first | (go_simp; done) | (go_simp; with_reducible rfl)
  simp only [List.setIfInBounds_toArray, List.set_cons_zero, List.set_cons_succ]
  refine take_at (i := 12) (v := ?_) rfl rfl (by kernel_rfl) (by kernel_rfl) (by kernel_rfl) (fun _ _ _ h => h) (Or.inl ⟨by rfl, ?_⟩) (by assumption) ?_
  rotate_left
  · intro w0 hSw; (try dsimp only at hSw); first | (go_simp; done) | (go_simp; with_reducible rfl)
  simp only [List.setIfInBounds_toArray, List.set_cons_zero, List.set_cons_succ]
  refine take_at (i := 13) rfl rfl (by kernel_rfl) (by kernel_rfl) (by kernel_rfl) (fun _ _ _ h => h) (yields_cell (by rfl) rfl rfl (b := ps) (o := 0) (fun w0 hSw => (shelf_cell (keep hSw HC1.out)).1) agShelfP) (by assumption) ?_
  simp only [List.setIfInBounds_toArray, List.set_cons_zero, List.set_cons_succ]
  refine take_at (i := 14) (v := ?_) rfl rfl (by kernel_rfl) (by kernel_rfl) (by kernel_rfl) (fun _ _ _ h => h) (Or.inl ⟨by rfl, ?_⟩) (by assumption) ?_
  rotate_left
  · intro w0 hSw; (try dsimp only at hSw); first | (go_simp; done) | (go_simp; with_reducible rfl)
  simp only [List.setIfInBounds_toArray, List.set_cons_zero, List.set_cons_succ]
  refine take_at (i := 15) (v := ?_) rfl rfl (by kernel_rfl) (by kernel_rfl) (by kernel_rfl) (fun _ _ _ h => h) (Or.inl ⟨by rfl, ?_⟩) (by assumption) ?_
  rotate_left
  · intro w0 hSw; (try dsimp only at hSw); first | (go_simp; done) | (go_simp; with_reducible rfl)
  simp only [List.setIfInBounds_toArray, List.set_cons_zero, List.set_cons_succ]
  refine take_at (i := 16) rfl rfl (by kernel_rfl) (by kernel_rfl) (by kernel_rfl) (fun _ _ _ h => h) (yields_cell (by rfl) rfl rfl (b := r) (o := 0) (fun w0 hSw => rack_cell (keep hSw HR1.out)) agRow13) (by assumption) ?_
  simp only [List.setIfInBounds_toArray, List.set_cons_zero, List.set_cons_succ]
  refine take_at (i := 17) (v := ?_) rfl rfl (by kernel_rfl) (by kernel_rfl) (by kernel_rfl) (fun _ _ _ h => h) (Or.inl ⟨by rfl, ?_⟩) (by assumption) ?_
  rotate_left
  · intro w0 hSw; (try dsimp only at hSw); first | (go_simp; done) | (go_simp; with_reducible rfl)
  simp only [List.setIfInBounds_toArray, List.set_cons_zero, List.set_cons_succ]
  refine take_at (i := 18) (v := .bool false) rfl rfl (by kernel_rfl) (by kernel_rfl) (by kernel_rfl) (fun _ _ _ h => h) (Or.inl ⟨by rfl, ?_⟩) (by assumption) ?_
  · intro w0 hSw; (try dsimp only at hSw); first | (go_simp; done) | (go_simp; with_reducible rfl) | (go_simp; omega)
  simp only [List.setIfInBounds_toArray, List.set_cons_zero, List.set_cons_succ]
  refine take_at (i := 19) (v := ?_) rfl rfl (by kernel_rfl) (by kernel_rfl) (by kernel_rfl) (fun _ _ _ h => h) (Or.inl ⟨by rfl, ?_⟩) (by assumption) ?_
  rotate_left
  · intro w0 hSw; (try dsimp only at hSw); first | (go_simp; done) | (go_simp; with_reducible rfl)
  simp only [List.setIfInBounds_toArray, List.set_cons_zero, List.set_cons_succ]
  refine wpAnyH_done (by kernel_rfl) ?_ _
  obtain ⟨w3, hw3⟩ : ∃ w3, w3 = w1.drew := ⟨_, rfl⟩
  rw [← hw3] at hHeld ⊢
  have HB2 := Lib.hid (bthen HB1.out hHeld)
  have HC := Lib.hid (keep hHeld HC1.out)
  have HX := Lib.hid (keep hHeld H1.out)
  have hr3 := keep hHeld HR1.out
  have HR3 : Hid (w3.drew.heap[r]? = some (.cells #[.slice a n c] 60 (0, 0))) := Lib.hid hr3
  have ho3 : OwnS w3 B (.slice a n c) ls := HI.out.own.below HB2.out
  have HO3 : Hid (OwnS w3.drew B (.slice a n c) ls) := Lib.hid (ho3.below (below_drew (Below.refl _ _)))
  have HPR := Lib.hid (shelf_ne_rack HC.out hr3)
  have HGW : Hid (∀ k, k < w.heap.size → g ≠ k) := Lib.hid (fun k hk => by have := HG.out; omega)
  have HPT : Hid (¬ (ps = r ∨ (Value.slice a n c).ownBlock = some ps)) := Lib.hid (by rintro (e | e); exact HPR.out e; exact own_ne ho3 e HC.out (by decide) rfl)
  have HGT : Hid (¬ (g = r ∨ (Value.slice a n c).ownBlock = some g)) := Lib.hid (by rintro (e | e); exact HGW.out r (lt_of_block HI.out.rack) e; exact HGW.out g (HI.out.own.lt g e).2 rfl)
  have HRO : Hid ((Value.slice a n c).ownBlock ≠ some r) := Lib.hid (fun e => own_ne ho3 e hr3 (by decide) rfl)
  have HBW : Hid (B ≤ w3.heap.size) := Lib.hid (Nat.le_trans HBW0.out HB2.out.size)
  clear hHeld hr3 ho3 hw3
  go_upto_region 3 with (fail)
  refine wp_region_held_drew (S := fun w' => Bar (fun k _ => k = r ∨ (Value.slice a n c).ownBlock = some k) w3 w') (by kernel_rfl) (Bar.of (below_drew (Below.refl _ _))) (fun hHeld => ?_)
  refine take_at (i := 0) (v := ?_) rfl rfl (by kernel_rfl) (by kernel_rfl) (by kernel_rfl) (fun _ _ _ h => h) (Or.inl ⟨by rfl, ?_⟩) (by assumption) ?_
  rotate_left
  · intro w0 hSw; (try dsimp only at hSw); first | (go_simp; done) | (go_simp; with_reducible rfl)
  simp only [List.setIfInBounds_toArray, List.set_cons_zero, List.set_cons_succ]
  refine take_at (i := 1) (v := ?_) rfl rfl (by kernel_rfl) (by kernel_rfl) (by kernel_rfl) (fun _ _ _ h => h) (Or.inl ⟨by rfl, ?_⟩) (by assumption) ?_
  rotate_left
  · intro w0 hSw; (try dsimp only at hSw); first | (go_simp; done) | (go_simp; with_reducible rfl)
  simp only [List.setIfInBounds_toArray, List.set_cons_zero, List.set_cons_succ]
  refine take_at (i := 2) (v := ?_) rfl rfl (by kernel_rfl) (by kernel_rfl) (by kernel_rfl) (fun _ _ _ h => h) (Or.inl ⟨by rfl, ?_⟩) (by assumption) ?_
  rotate_left
  · intro w0 hSw; (try dsimp only at hSw); first | (go_simp; done) | (go_simp; with_reducible rfl)
  simp only [List.setIfInBounds_toArray, List.set_cons_zero, List.set_cons_succ]
  refine take_at (i := 3) rfl rfl (by kernel_rfl) (by kernel_rfl) (by kernel_rfl) (fun _ _ _ h => h) (yields_cell (by rfl) rfl rfl (b := ps) (o := 0) (fun w0 hSw => (shelf_cell (hSw.keep HC.out HPT.out)).1) agShelfP) (by assumption) ?_
  simp only [List.setIfInBounds_toArray, List.set_cons_zero, List.set_cons_succ]
  refine take_at (i := 4) (v := ?_) rfl rfl (by kernel_rfl) (by kernel_rfl) (by kernel_rfl) (fun _ _ _ h => h) (Or.inl ⟨by rfl, ?_⟩) (by assumption) ?_
  rotate_left
  · intro w0 hSw; (try dsimp only at hSw); first | (go_simp; done) | (go_simp; with_reducible rfl)
  simp only [List.setIfInBounds_toArray, List.set_cons_zero, List.set_cons_succ]
  refine take_at (i := 5) (v := ?_) rfl rfl (by kernel_rfl) (by kernel_rfl) (by kernel_rfl) (fun _ _ _ h => h) (Or.inl ⟨by rfl, ?_⟩) (by assumption) ?_
  rotate_left
  · intro w0 hSw; (try dsimp only at hSw); first | (go_simp; done) | (go_simp; with_reducible rfl)
  simp only [List.setIfInBounds_toArray, List.set_cons_zero, List.set_cons_succ]
  refine take_at (i := 6) (v := ?_) rfl rfl (by kernel_rfl) (by kernel_rfl) (by kernel_rfl) (fun _ _ _ h => h) (Or.inl ⟨by rfl, ?_⟩) (by assumption) ?_
  rotate_left
  · intro w0 hSw; (try dsimp only at hSw); first | (go_simp; done) | (go_simp; with_reducible rfl)
  simp only [List.setIfInBounds_toArray, List.set_cons_zero, List.set_cons_succ]
  refine take_at (i := 7) rfl rfl (by kernel_rfl) (by kernel_rfl) (by kernel_rfl) (fun _ _ _ h => h) (yields_cell (by rfl) rfl rfl (b := ps) (o := 0) (fun w0 hSw => (shelf_cell (hSw.keep HC.out HPT.out)).1) agShelfP) (by assumption) ?_
  simp only [List.setIfInBounds_toArray, List.set_cons_zero, List.set_cons_succ]
  refine take_at (i := 8) (v := ?_) rfl rfl (by kernel_rfl) (by kernel_rfl) (by kernel_rfl) (fun _ _ _ h => h) (Or.inl ⟨by rfl, ?_⟩) (by assumption) ?_
  rotate_left
  · intro w0 hSw; (try dsimp only at hSw); first | (go_simp; done) | (go_simp; with_reducible rfl)
  simp only [List.setIfInBounds_toArray, List.set_cons_zero, List.set_cons_succ]
  refine take_at (i := 9) (v := ?_) rfl rfl (by kernel_rfl) (by kernel_rfl) (by kernel_rfl) (fun _ _ _ h => h) (Or.inl ⟨by rfl, ?_⟩) (by assumption) ?_
  rotate_left
  · intro w0 hSw; (try dsimp only at hSw); first | (go_simp; done) | (go_simp; with_reducible rfl)
  simp only [List.setIfInBounds_toArray, List.set_cons_zero, List.set_cons_succ]
  refine take_at (i := 11) rfl rfl (by kernel_rfl) (by kernel_rfl) (by kernel_rfl) (fun _ _ _ h => h) (yieldsIf_load_mid (by rfl) _ _ rfl g 0 rfl (cellsOf x) _ (fun w0 hSw => range_of (hSw.keep HX.out HGT.out)) Tryd.underlying23 rfl SZX.out) (by assumption) ?_
  simp only [List.setIfInBounds_toArray, List.set_cons_zero, List.set_cons_succ]
  refine wpAnyH_ready (rs := [10, 12]) (by kernel_rfl) (by simp) ?_
  refine AllReadyH.cons rfl (fun K hK => ?_) ?_
  · refine step_cell (d := 41) rfl (by rfl) 35 _ rfl r 0 rfl (.slice a n c) (rack_cell (show w3.drew.heap[r]? = _ from HR3.out)) (agRow13 _) ?_
    refine hK.out _ _ (by (try dsimp only); exact hHeld) (fun hHeld => ?_)
    clear hK K
    refine wpAnyH_ready (rs := [12]) (by kernel_rfl) (by simp) ?_
    refine AllReadyH.cons rfl (fun K hK => ?_) ?_
    · refine step_one13 (d := 43) (s := x) rfl (by rfl) rfl (by rfl) HXL.out (fun p y4 hp hl hb => ?_)
      have HLT := Lib.hid hl
      have HY := Lib.hid hb
      have HO4 := Lib.hid (HO3.out.below hb)
      have HR4 := Lib.hid (keep hb HR3.out)
      clear hp hl hb
      refine hK.out _ _ (by (try dsimp only); exact hHeld.trans (Bar.of HY.out)) (fun hHeld => ?_)
      clear hK K
      refine wpAnyH_ready (rs := [13]) (by kernel_rfl) (by simp) ?_
      refine AllReadyH.cons rfl (fun K hK => ?_) ?_
      · refine step_append_at13 (d := 44) rfl (by rfl) _ _ rfl rfl B (.slice a n c) ls n HLEN.out rfl HO4.out ⟨p, 0, none⟩ 1 1 [x] rfl HLT.out (by omega) (Nat.le_trans HBW.out (Nat.le_trans (Nat.le_refl w3.drew.heap.size) HY.out.size)) (fun a5 c5 y5 ho hg hown => ?_)
        have HO5 := Lib.hid ho
        have HG5 := Lib.hid hg
        have HW5 := Lib.hid hown
        have HR5 := Lib.hid ((hg.block r (lt_of_block HR4.out) (fun e => HRO.out e.symm)).trans HR4.out)
        clear ho hg hown
        refine hK.out _ _ (by (try dsimp only); exact hHeld.trans (Bar.grown HG5.out (fun k e => .inr e))) (fun hHeld => ?_)
        clear hK K
        refine take_at (i := 14) (v := ?_) rfl rfl (by kernel_rfl) (by kernel_rfl) (by kernel_rfl) (fun _ _ _ h => h) (Or.inl ⟨by rfl, ?_⟩) (by assumption) ?_
        rotate_left
        · intro w0 hSw; (try dsimp only at hSw); first | (go_simp; done) | (go_simp; with_reducible rfl)
        simp only [List.setIfInBounds_toArray, List.set_cons_zero, List.set_cons_succ]
        refine take_at (i := 15) (v := ?_) rfl rfl (by kernel_rfl) (by kernel_rfl) (by kernel_rfl) (fun _ _ _ h => h) (Or.inl ⟨by rfl, ?_⟩) (by assumption) ?_
        rotate_left
        · intro w0 hSw; (try dsimp only at hSw); first | (go_simp; done) | (go_simp; with_reducible rfl)
        simp only [List.setIfInBounds_toArray, List.set_cons_zero, List.set_cons_succ]
        refine wpAnyH_ready (rs := [16]) (by kernel_rfl) (by simp) ?_
        refine AllReadyH.cons rfl (fun K hK => ?_) ?_
        · refine step_field10 (by rfl) 35 _ _ rfl r 0 (by rfl) (.slice a5 (n + 1) c5) (by rfl) 60 [.slice a n c] HR5.out (by simp) (by kernel_rfl) rfl (fun y6 hh6 hb => ?_)
          have HR6 := Lib.hid hh6
          have HB6 := Lib.hid hb
          have HN5 : Hid (∀ k, (Value.slice a5 (n + 1) c5).ownBlock = some k → k ≠ r) := Lib.hid (fun k e => own_ne HO5.out e HR5.out (by decide))
          have HO6 := Lib.hid (HO5.out.stay (fun k e => hb.block k (HO5.out.lt k e).2 (HN5.out k e)))
          clear hh6 hb
          refine hK.out _ _ (by (try dsimp only); exact hHeld.trans (Bar.but HB6.out (fun _ => .inl rfl))) (fun hHeld => ?_)
          clear hK K
          refine wpAnyH_done (by kernel_rfl) ?_ _
          have HBAR := Lib.hid (show Bar (fun k _ => k = r ∨ (Value.slice a n c).ownBlock = some k) w3 y6 from hHeld)
          have HSZ := Lib.hid (show w3.heap.size ≤ y4.heap.size from HY.out.size)
          have HNW : Hid (∀ k, (Value.slice a5 (n + 1) c5).ownBlock = some k → (Value.slice a n c).ownBlock = some k ∨ w3.heap.size ≤ k) := Lib.hid (fun k e => own_new HW5.out HSZ.out e)
          have HC6 := Lib.hid (HBAR.out.keep HC.out HPT.out)
          have c6 := (shelf_cell HC6.out).2
          clear hHeld
          go_wp2_with (first | (refine wpList_field10 rfl 3 _ _ rfl ps 1 rfl (.int .i64 ((n : Int) + 1)) rfl 34 [.pointer (some ⟨r, 0, none⟩), .int .i64 (n : Int)] HC6.out (by simp) (by kernel_rfl) rfl ?_; intro y7 hh7 hb7; have HC7 := Lib.hid hh7; have HB7 := Lib.hid hb7; clear hh7 hb7) | fail)
          have HP7 := Lib.hid (lt_of_block HC6.out)
          have HR7 := Lib.hid ((HB7.out.block r (lt_of_block HR6.out) HPR.out.symm).trans HR6.out)
          have HO7 := Lib.hid (HO6.out.stay (fun k e => HB7.out.block k (HO6.out.lt k e).2 (own_ne HO6.out e HC6.out (by decide))))
          have HFIN : Hid (Bar (fun k _ => k = ps ∨ k = r ∨ (Value.slice a n c).ownBlock = some k) w y7) := Lib.hid (((Bar.of HB2.out).trans (HBAR.out.mono (fun k o h => .inr h))).trans (Bar.but HB7.out (fun _ => .inl rfl)))
          have HSH : Hid (ShelfIs y7 B ps r (.slice a5 (n + 1) c5) (ls ++ [x])) := Lib.hid ⟨by rw [HC7.out, List.length_append, HLEN.out]; rfl, HR7.out, HO7.out, by simp, HBR.out⟩
          refine bodyPost_end (results_none rfl _ _ _) rfl ?_
          exact ⟨rfl, a5, c5, HSH.out, fun k e => by rcases HNW.out k e with h | h; exact .inl h; exact .inr (Nat.le_trans HB2.out.size h), HFIN.out⟩
        exact AllReadyH.nil
      exact AllReadyH.nil
    exact AllReadyH.nil
  refine AllReadyH.cons rfl (fun K hK => ?_) ?_
  · refine step_one13 (d := 43) (s := x) rfl (by rfl) rfl (by rfl) HXL.out (fun p y4 hp hl hb => ?_)
    have HLT := Lib.hid hl
    have HY := Lib.hid hb
    have HO4 := Lib.hid (HO3.out.below hb)
    have HR4 := Lib.hid (keep hb HR3.out)
    clear hp hl hb
    refine hK.out _ _ (by (try dsimp only); exact hHeld.trans (Bar.of HY.out)) (fun hHeld => ?_)
    clear hK K
    refine wpAnyH_ready (rs := [10]) (by kernel_rfl) (by simp) ?_
    refine AllReadyH.cons rfl (fun K hK => ?_) ?_
    · refine step_cell (d := 41) rfl (by rfl) 35 _ rfl r 0 rfl (.slice a n c) (rack_cell HR4.out) (agRow13 _) ?_
      refine hK.out _ _ (by (try dsimp only); exact hHeld) (fun hHeld => ?_)
      clear hK K
      refine wpAnyH_ready (rs := [13]) (by kernel_rfl) (by simp) ?_
      refine AllReadyH.cons rfl (fun K hK => ?_) ?_
      · refine step_append_at13 (d := 44) rfl (by rfl) _ _ rfl rfl B (.slice a n c) ls n HLEN.out rfl HO4.out ⟨p, 0, none⟩ 1 1 [x] rfl HLT.out (by omega) (Nat.le_trans HBW.out (Nat.le_trans (Nat.le_refl w3.drew.heap.size) HY.out.size)) (fun a5 c5 y5 ho hg hown => ?_)
        have HO5 := Lib.hid ho
        have HG5 := Lib.hid hg
        have HW5 := Lib.hid hown
        have HR5 := Lib.hid ((hg.block r (lt_of_block HR4.out) (fun e => HRO.out e.symm)).trans HR4.out)
        clear ho hg hown
        refine hK.out _ _ (by (try dsimp only); exact hHeld.trans (Bar.grown HG5.out (fun k e => .inr e))) (fun hHeld => ?_)
        clear hK K
        refine take_at (i := 14) (v := ?_) rfl rfl (by kernel_rfl) (by kernel_rfl) (by kernel_rfl) (fun _ _ _ h => h) (Or.inl ⟨by rfl, ?_⟩) (by assumption) ?_
        rotate_left
        · intro w0 hSw; (try dsimp only at hSw); first | (go_simp; done) | (go_simp; with_reducible rfl)
        simp only [List.setIfInBounds_toArray, List.set_cons_zero, List.set_cons_succ]
        refine take_at (i := 15) (v := ?_) rfl rfl (by kernel_rfl) (by kernel_rfl) (by kernel_rfl) (fun _ _ _ h => h) (Or.inl ⟨by rfl, ?_⟩) (by assumption) ?_
        rotate_left
        · intro w0 hSw; (try dsimp only at hSw); first | (go_simp; done) | (go_simp; with_reducible rfl)
        simp only [List.setIfInBounds_toArray, List.set_cons_zero, List.set_cons_succ]
        refine wpAnyH_ready (rs := [16]) (by kernel_rfl) (by simp) ?_
        refine AllReadyH.cons rfl (fun K hK => ?_) ?_
        · refine step_field10 (by rfl) 35 _ _ rfl r 0 (by rfl) (.slice a5 (n + 1) c5) (by rfl) 60 [.slice a n c] HR5.out (by simp) (by kernel_rfl) rfl (fun y6 hh6 hb => ?_)
          have HR6 := Lib.hid hh6
          have HB6 := Lib.hid hb
          have HN5 : Hid (∀ k, (Value.slice a5 (n + 1) c5).ownBlock = some k → k ≠ r) := Lib.hid (fun k e => own_ne HO5.out e HR5.out (by decide))
          have HO6 := Lib.hid (HO5.out.stay (fun k e => hb.block k (HO5.out.lt k e).2 (HN5.out k e)))
          clear hh6 hb
          refine hK.out _ _ (by (try dsimp only); exact hHeld.trans (Bar.but HB6.out (fun _ => .inl rfl))) (fun hHeld => ?_)
          clear hK K
          refine wpAnyH_done (by kernel_rfl) ?_ _
          have HBAR := Lib.hid (show Bar (fun k _ => k = r ∨ (Value.slice a n c).ownBlock = some k) w3 y6 from hHeld)
          have HSZ := Lib.hid (show w3.heap.size ≤ y4.heap.size from HY.out.size)
          have HNW : Hid (∀ k, (Value.slice a5 (n + 1) c5).ownBlock = some k → (Value.slice a n c).ownBlock = some k ∨ w3.heap.size ≤ k) := Lib.hid (fun k e => own_new HW5.out HSZ.out e)
          have HC6 := Lib.hid (HBAR.out.keep HC.out HPT.out)
          have c6 := (shelf_cell HC6.out).2
          clear hHeld
          go_wp2_with (first | (refine wpList_field10 rfl 3 _ _ rfl ps 1 rfl (.int .i64 ((n : Int) + 1)) rfl 34 [.pointer (some ⟨r, 0, none⟩), .int .i64 (n : Int)] HC6.out (by simp) (by kernel_rfl) rfl ?_; intro y7 hh7 hb7; have HC7 := Lib.hid hh7; have HB7 := Lib.hid hb7; clear hh7 hb7) | fail)
          have HP7 := Lib.hid (lt_of_block HC6.out)
          have HR7 := Lib.hid ((HB7.out.block r (lt_of_block HR6.out) HPR.out.symm).trans HR6.out)
          have HO7 := Lib.hid (HO6.out.stay (fun k e => HB7.out.block k (HO6.out.lt k e).2 (own_ne HO6.out e HC6.out (by decide))))
          have HFIN : Hid (Bar (fun k _ => k = ps ∨ k = r ∨ (Value.slice a n c).ownBlock = some k) w y7) := Lib.hid (((Bar.of HB2.out).trans (HBAR.out.mono (fun k o h => .inr h))).trans (Bar.but HB7.out (fun _ => .inl rfl)))
          have HSH : Hid (ShelfIs y7 B ps r (.slice a5 (n + 1) c5) (ls ++ [x])) := Lib.hid ⟨by rw [HC7.out, List.length_append, HLEN.out]; rfl, HR7.out, HO7.out, by simp, HBR.out⟩
          refine bodyPost_end (results_none rfl _ _ _) rfl ?_
          exact ⟨rfl, a5, c5, HSH.out, fun k e => by rcases HNW.out k e with h | h; exact .inl h; exact .inr (Nat.le_trans HB2.out.size h), HFIN.out⟩
        exact AllReadyH.nil
      exact AllReadyH.nil
    exact AllReadyH.nil
  exact AllReadyH.nil
end Go.Proofs.YthpkafjonelanaaDoor
