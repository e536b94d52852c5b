/- The law's own board in memory: its two slices; at, hold, free, total. -/
import Derived.Test.YtijanllppbambaaBondSpec
import Derived.Test.YtijanllppbambaaBondLaws
namespace Go.Proofs.Ytijanllppbambaa
open Go.RowKit Go.Maps

/-- How the law's board stands: two slices of its own, not below B, of no more than N things. -/
structure PlainAt (B : Nat) (w : World) (p : Value) (pb N : Nat) (ts : List PTE) (hs : List PHE) : Prop where
  is : p = .pointer (some ⟨pb, 0, none⟩)
  base : B ≤ pb
  parts : ∃ v1 v2, w.heap[pb]? = some (.cells #[v1, v2] 29 (0, 0)) ∧ OwnOf teK 71 w B v1 ts ∧ OwnOf heK 73 w B v2 hs
  few : N ≤ 100
  tn : ts.length ≤ N
  hn : hs.length ≤ N
  inv : Inv ts hs
/-- What may be written by a call of it. -/
def plainOf (pb : Nat) : Nat → Option Obj → Prop := fun k o => k = pb ∨ (∃ cs fr, o = some (.cells cs 71 fr)) ∨ (∃ cs fr, o = some (.cells cs 73 fr))
theorem OwnOf.lower {α : Type} {K : Sort8 α} {t : TypeId} {w : World} {B B' : Nat} {v : Value} {xs : List α} (h : OwnOf K t w B v xs) (hB : B' ≤ B) : OwnOf K t w B' v xs := by
  refine ⟨⟨h.1.1, ?_⟩, h.2⟩
  rcases h.1.2 with h0 | ⟨g, cap, cur, hv, hb, r⟩
  · exact .inl h0
  · exact .inr ⟨g, cap, cur, hv, Nat.le_trans hB hb, r⟩
theorem OwnOf.bar {α : Type} {K : Sort8 α} {t : TypeId} {w w' : World} {B : Nat} {v : Value} {xs : List α} {S : Nat → Option Obj → Prop} (h : OwnOf K t w B v xs) (k : Bar S w w') (hS : ∀ i cs fr, ¬ S i (some (.cells cs t fr))) : OwnOf K t w' B v xs := by
  refine ⟨⟨h.1.1, ?_⟩, h.2⟩
  rcases h.1.2 with h0 | ⟨g, cap, cur, hv, hb, hh, r⟩
  · exact .inl h0
  · exact .inr ⟨g, cap, cur, hv, hb, k.keep hh (hS _ _ _), r⟩
section
variable {B : Nat} {w : World} {p : Value} {pb N : Nat} {ts : List PTE} {hs : List PHE} {w' : World}
theorem PlainAt.below (h : PlainAt B w p pb N ts hs) (k : Below w.heap.size w w') : PlainAt B w' p pb N ts hs := by
  obtain ⟨v1, v2, h1, h2, h3⟩ := h.parts
  exact ⟨h.is, h.base, ⟨v1, v2, keep k h1, h2.below k, h3.below k⟩, h.few, h.tn, h.hn, h.inv⟩
theorem PlainAt.more (h : PlainAt B w p pb N ts hs) (hN : N + 1 ≤ 100) : PlainAt B w p pb (N + 1) ts hs := ⟨h.is, h.base, h.parts, hN, by have := h.tn; omega, by have := h.hn; omega, h.inv⟩
theorem PlainAt.lower {B' : Nat} (h : PlainAt B w p pb N ts hs) (hB : B' ≤ B) : PlainAt B' w p pb N ts hs := by
  obtain ⟨v1, v2, h1, h2, h3⟩ := h.parts
  exact ⟨h.is, Nat.le_trans hB h.base, ⟨v1, v2, h1, h2.lower hB, h3.lower hB⟩, h.few, h.tn, h.hn, h.inv⟩
/-- Where maps alone are written. -/
theorem PlainAt.bar {S : Nat → Option Obj → Prop} (h : PlainAt B w p pb N ts hs) (k : Bar S w w') (hS : ∀ i cs t fr, w.heap[i]? = some (.cells cs t fr) → ¬ S i (some (.cells cs t fr))) : PlainAt B w' p pb N ts hs := by
  obtain ⟨v1, v2, h1, h2, h3⟩ := h.parts
  have own : ∀ {α : Type} {K : Sort8 α} {t : TypeId} {v : Value} {xs : List α}, OwnOf K t w B v xs → OwnOf K t w' B v xs := fun {α K t v xs} h => by
    refine ⟨⟨h.1.1, ?_⟩, h.2⟩
    rcases h.1.2 with h0 | ⟨g, cap, cur, hv, hb, hh, r⟩
    · exact .inl h0
    · exact .inr ⟨g, cap, cur, hv, hb, k.keep hh (hS _ _ _ _ hh), r⟩
  exact ⟨h.is, h.base, ⟨v1, v2, k.keep h1 (hS _ _ _ _ h1), own h2, own h3⟩, h.few, h.tn, h.hn, h.inv⟩
theorem PlainAt.size (h : PlainAt B w p pb N ts hs) : B ≤ w.heap.size := by
  obtain ⟨v1, v2, h1, _⟩ := h.parts
  have h2 := lt_of_block h1
  have h3 := h.base
  omega
/-- As the walks read it. -/
theorem PlainAt.read (h : PlainAt B w p pb N ts hs) : ∃ a1 c1 a2 c2, w.heap[pb]? = some (.cells #[.slice a1 ts.length c1, .slice a2 hs.length c2] 29 (0, 0)) ∧ SliceOf teK w a1 ts.length c1 ts ∧ SliceOf heK w a2 hs.length c2 hs ∧ OwnOf teK 71 w B (.slice a1 ts.length c1) ts ∧ OwnOf heK 73 w B (.slice a2 hs.length c2) hs := by
  obtain ⟨v1, v2, h1, h2, h3⟩ := h.parts
  obtain ⟨a1, c1, rfl, _⟩ := h2.shape
  obtain ⟨a2, c2, rfl, _⟩ := h3.shape
  exact ⟨a1, c1, a2, c2, h1, h2.slice (fun x hx => h.inv.teIn hx), h3.slice (fun x hx => h.inv.hin x hx), h2, h3⟩
end
theorem heldH_take (n : Int) {hs : List PHE} (h : ∀ x ∈ hs, 1 ≤ x.h.amount) (j : Nat) : 0 ≤ heldH n (hs.take j) ∧ heldH n (hs.take j) ≤ heldH n hs := by
  have h1 := heldH_nonneg n (hs.take j) (fun x hx => h x (List.mem_of_mem_take hx))
  have h2 := heldH_nonneg n (hs.drop j) (fun x hx => h x (List.mem_of_mem_drop hx))
  have h3 := heldH_append n (hs.take j) (hs.drop j)
  rw [List.take_append_drop] at h3
  omega
theorem totT_take {ts : List PTE} (h : ∀ x ∈ ts, 0 ≤ x.t.locked) (j : Nat) : 0 ≤ totT (ts.take j) ∧ totT (ts.take j) ≤ totT ts := by
  have h1 := totT_nonneg (xs := ts.take j) (fun x hx => h x (List.mem_of_mem_take hx))
  have h2 := totT_nonneg (xs := ts.drop j) (fun x hx => h x (List.mem_of_mem_drop hx))
  have h3 := totT_append (ts.take j) (ts.drop j)
  rw [List.take_append_drop] at h3
  omega
def lessOf (n : Int) (ts : List PTE) : Int := match lookT n ts with | some x => x.t.locked - x.t.asked | none => 0
theorem lessOf_end {n : Int} {xs : List PTE} {x : PTE} (h : ((xs ++ [x]).map PTE.n).Nodup) : lessOf n (xs ++ [x]) = if x.n = n then x.t.locked - x.t.asked else lessOf n xs := by
  unfold lessOf lookT
  rw [lookK_end]
  by_cases e : x.n = n
  · rw [if_pos e]
    cases hl : lookK PTE.n n xs with
    | none => simp [e]
    | some y =>
      obtain ⟨h1, h2⟩ := lookK_mem hl
      rw [List.map_append, List.nodup_append] at h
      exact absurd (h.2.2 y.n (List.mem_map.2 ⟨y, h1, rfl⟩) x.n (by simp) (by rw [h2, e])) (by simp)
  · rw [if_neg e]
    cases hl : lookK PTE.n n xs with
    | none => simp [e]
    | some y => rw [if_neg e]
theorem take_nodup {ts : List PTE} (h : (ts.map PTE.n).Nodup) (j : Nat) : ((ts.take j).map PTE.n).Nodup := by
  rw [List.map_take]
  exact h.sublist (List.take_sublist _ _)
set_option linter.unusedSimpArgs false in
set_option maxRecDepth 100000 in
set_option maxHeartbeats 12800000 in
theorem at_any {B : Nat} {w : World} {p : Value} {pb N : Nat} {ts : List PTE} {hs : List PHE} (h : PlainAt B w p pb N ts hs) (n : Int) : Calls Try.prog 36 #[p, .int .i64 n] w fun e w' => e = .returned (.int .i64 (ixK PTE.n n ts 0)) ∧ w = w' := by
  obtain ⟨a1, c1, a2, c2, hp, s1, s2, _, _⟩ := h.read
  have hpis := h.is
  subst hpis
  have c0 := cell_of_row w pb 0 _ _ _ hp
  have c01 := cell_of_row w pb 1 _ _ _ hp
  have HI := Lib.hid h.inv
  obtain ⟨R, hR⟩ : ∃ R, R = ixK PTE.n n ts 0 := ⟨_, rfl⟩
  rw [← hR]
  have HS1 := Lib.hid s1
  have hn63 := s1.len63
  have hnc : (ts.length : Int) ≤ (c1 : Int) := by have h2 := s1.2.1; omega
  have hc63 : (c1 : Int) ≤ 9223372036854775807 := by have h2 := s1.2.2.1; unfold maxLen at h2; omega
  have HR := Lib.hid hR
  obtain ⟨L, hL⟩ : ∃ L, L = ts.length := ⟨_, rfl⟩
  rw [← hL] at c0 hn63 hnc HS1
  have HL := Lib.hid hL
  clear h hp s1 s2 c01 hR hL
  go_enter Try.func36, Try.ntmps36
  go_wp2
  go_loop [5] (fun i => ∃ j : Nat, j ≤ L ∧ i = .int .i64 j ∧ R = ixK PTE.n n (ts.drop j) j) (fun i => L - (intOf i).toNat)
  case atStart => exact ⟨0, Nat.zero_le _, rfl, HR.out⟩
  case round =>
    obtain ⟨j, hj0, rfl, hRj⟩ := hrel
    by_cases hj : j < L
    · have f1 : (j : Int) < (L : Int) := by omega
      have f0 : (0 : Int) ≤ (j : Int) := by omega
      have ft : ((j : Int)).toNat = j := by omega
      rw [drop_getD (d := teK.dflt) (by rw [← HL.out]; exact hj)] at hRj
      obtain ⟨b9, o9, e9, _, hcc⟩ := HS1.out.2.2.2.2.2 (by omega)
      have rx := hcc j hj
      have ix := HS1.out.get hj
      subst e9
      revert rx ix
      generalize hx9 : ts.getD j teK.dflt = x
      intro rx ix
      rw [hx9] at hRj
      have cx : w.cell? ⟨b9, o9 + j * 36, none⟩ = some (.int .i64 x.n) := (range_cons rx).1
      have HRJ := Lib.hid hRj
      obtain ⟨xn, hxn⟩ : ∃ z, z = x.n := ⟨_, rfl⟩
      rw [← hxn] at cx
      have HXN := Lib.hid hxn
      clear hcc rx ix hRj hx9 hxn HR
      by_cases hxx : xn = n
      · have hRR : R = (j : Int) := by have h9 := HRJ.out; unfold ixK at h9; rw [if_pos (by rw [← HXN.out]; exact hxx)] at h9; exact h9
        subst hxx hRR
        go_wp2
        go_ret
        exact ⟨rfl, rfl⟩
      · have hRR : Hid (R = ixK PTE.n n (ts.drop (j + 1)) (j + 1)) := Lib.hid (by have h9 := HRJ.out; unfold ixK at h9; rw [if_neg (by rw [← HXN.out]; exact hxx)] at h9; exact h9)
        go_wp2
        go_round
        case rel => exact ⟨j + 1, by omega, by go_num, hRR.out⟩
        case measure => simp [intOf]; omega
    · have f1 : ¬ ((j : Int) < (L : Int)) := by omega
      have hRR : R = -1 := by rw [hRj, List.drop_of_length_le (by rw [← HL.out]; omega)]; rfl
      clear HR hRj
      subst hRR
      go_wp2
      go_ret
      exact ⟨rfl, rfl⟩
set_option linter.unusedSimpArgs false in
set_option maxRecDepth 100000 in
set_option maxHeartbeats 12800000 in
theorem lhold_any {B : Nat} {w : World} {p : Value} {pb N : Nat} {ts : List PTE} {hs : List PHE} (h : PlainAt B w p pb N ts hs) (n id : Int) : Calls Try.prog 38 #[p, .int .i64 n, .int .i64 id] w fun e w' => e = .returned (.int .i64 (ixK hkey (n, id) hs 0)) ∧ w = w' := by
  obtain ⟨a1, c1, a2, c2, hp, s1, s2, _, _⟩ := h.read
  have hpis := h.is
  subst hpis
  have c0 := cell_of_row w pb 0 _ _ _ hp
  have c01 := cell_of_row w pb 1 _ _ _ hp
  have HI := Lib.hid h.inv
  obtain ⟨R, hR⟩ : ∃ R, R = ixK hkey (n, id) hs 0 := ⟨_, rfl⟩
  rw [← hR]
  have HS1 := Lib.hid s2
  have hn63 := s2.len63
  have hnc : (hs.length : Int) ≤ (c2 : Int) := by have h2 := s2.2.1; omega
  have hc63 : (c2 : Int) ≤ 9223372036854775807 := by have h2 := s2.2.2.1; unfold maxLen at h2; omega
  have HR := Lib.hid hR
  obtain ⟨L, hL⟩ : ∃ L, L = hs.length := ⟨_, rfl⟩
  rw [← hL] at c01 hn63 hnc HS1
  have HL := Lib.hid hL
  clear h hp s1 s2 c0 hR hL
  go_enter Try.func38, Try.ntmps38
  go_wp2
  go_loop [7] (fun i => ∃ j : Nat, j ≤ L ∧ i = .int .i64 j ∧ R = ixK hkey (n, id) (hs.drop j) j) (fun i => L - (intOf i).toNat)
  case atStart => exact ⟨0, Nat.zero_le _, rfl, HR.out⟩
  case round =>
    obtain ⟨j, hj0, rfl, hRj⟩ := hrel
    by_cases hj : j < L
    · have f1 : (j : Int) < (L : Int) := by omega
      have f0 : (0 : Int) ≤ (j : Int) := by omega
      have ft : ((j : Int)).toNat = j := by omega
      rw [drop_getD (d := heK.dflt) (by rw [← HL.out]; exact hj)] at hRj
      obtain ⟨b9, o9, e9, _, hcc⟩ := HS1.out.2.2.2.2.2 (by omega)
      have rx := hcc j hj
      have ix := HS1.out.get hj
      subst e9
      revert rx ix
      generalize hx9 : hs.getD j heK.dflt = x
      intro rx ix
      rw [hx9] at hRj
      have cx : w.cell? ⟨b9, o9 + j * 75, none⟩ = some (.int .i64 x.n) := (range_cons rx).1
      have cy : w.cell? ⟨b9, o9 + j * 75 + 1, none⟩ = some (.int .i64 x.h.ch.id) := (hold_at ix.h (range_cons rx).2).id
      have HRJ := Lib.hid hRj
      obtain ⟨xn, hxn⟩ : ∃ z, z = x.n := ⟨_, rfl⟩
      obtain ⟨xi, hxi⟩ : ∃ z, z = x.h.ch.id := ⟨_, rfl⟩
      rw [← hxn] at cx
      rw [← hxi] at cy
      have HXN : Hid (hkey x = (xn, xi)) := Lib.hid (by unfold hkey; rw [hxn, hxi])
      clear hcc rx ix hRj hx9 hxn hxi HR
      by_cases hxx : xn = n ∧ xi = id
      · have hRR : R = (j : Int) := by have h9 := HRJ.out; unfold ixK at h9; rw [if_pos (by rw [HXN.out, hxx.1, hxx.2])] at h9; exact h9
        obtain ⟨e1, e2⟩ := hxx
        subst e1 e2 hRR
        go_wp2
        go_ret
        exact ⟨rfl, rfl⟩
      · have hRR : Hid (R = ixK hkey (n, id) (hs.drop (j + 1)) (j + 1)) := Lib.hid (by have h9 := HRJ.out; unfold ixK at h9; rw [if_neg (by rw [HXN.out]; exact fun e => hxx ⟨congrArg Prod.fst e, congrArg Prod.snd e⟩)] at h9; exact h9)
        by_cases hx1 : xn = n
        · have hx2 : ¬ xi = id := fun e => hxx ⟨hx1, e⟩
          clear hxx
          subst hx1
          go_wp2
          go_round
          case rel => exact ⟨j + 1, by omega, by go_num, hRR.out⟩
          case measure => simp [intOf]; omega
        · clear hxx
          go_wp2
          go_round
          case rel => exact ⟨j + 1, by omega, by go_num, hRR.out⟩
          case measure => simp [intOf]; omega
    · have f1 : ¬ ((j : Int) < (L : Int)) := by omega
      have hRR : R = -1 := by rw [hRj, List.drop_of_length_le (by rw [← HL.out]; omega)]; rfl
      clear HR hRj
      subst hRR
      go_wp2
      go_ret
      exact ⟨rfl, rfl⟩
set_option linter.unusedSimpArgs false in
set_option maxRecDepth 100000 in
set_option maxHeartbeats 12800000 in
theorem ltotal_any {B : Nat} {w : World} {p : Value} {pb N : Nat} {ts : List PTE} {hs : List PHE} (h : PlainAt B w p pb N ts hs) : Calls Try.prog 27 #[p] w fun e w' => e = .returned (.int .i64 (totT ts)) ∧ w = w' := by
  obtain ⟨a1, c1, a2, c2, hp, s1, s2, _, _⟩ := h.read
  have hpis := h.is
  subst hpis
  have c0 := cell_of_row w pb 0 _ _ _ hp
  have c01 := cell_of_row w pb 1 _ _ _ hp
  have HI := Lib.hid h.inv
  obtain ⟨R, hR⟩ : ∃ R, R = totT ts := ⟨_, rfl⟩
  rw [← hR]
  have HS1 := Lib.hid s1
  have hn63 := s1.len63
  have hnc : (ts.length : Int) ≤ (c1 : Int) := by have h2 := s1.2.1; omega
  have hc63 : (c1 : Int) ≤ 9223372036854775807 := by have h2 := s1.2.2.1; unfold maxLen at h2; omega
  have HR := Lib.hid hR
  have HBD : Hid (∀ j, 0 ≤ totT (ts.take j) ∧ totT (ts.take j) ≤ 1125899906842624) := Lib.hid (fun j => by have h9 := totT_take (ts := ts) (fun x hx => HI.out.locked0 hx) j; have h8 := HI.out.tot; omega)
  obtain ⟨L, hL⟩ : ∃ L, L = ts.length := ⟨_, rfl⟩
  rw [← hL] at c0 hn63 hnc HS1
  have HL := Lib.hid hL
  clear h hp s1 s2 c01 hR hL
  go_enter Try.func27, Try.ntmps27
  go_wp2
  go_loop [3, 4] (fun s i => ∃ (j : Nat) (S : Int), j ≤ L ∧ i = .int .i64 j ∧ s = .int .i64 S ∧ S = totT (ts.take j)) (fun _ i => L - (intOf i).toNat)
  case atStart => exact ⟨0, 0, Nat.zero_le _, rfl, rfl, rfl⟩
  case round =>
    obtain ⟨j, S, hj0, rfl, rfl, hS⟩ := hrel
    by_cases hj : j < L
    · have f1 : (j : Int) < (L : Int) := by omega
      have f0 : (0 : Int) ≤ (j : Int) := by omega
      have ft : ((j : Int)).toNat = j := by omega
      have hnx := take_getD (d := teK.dflt) (xs := ts) (j := j) (by rw [← HL.out]; exact hj)
      obtain ⟨b9, o9, e9, _, hcc⟩ := HS1.out.2.2.2.2.2 (by omega)
      have rx := hcc j hj
      have ix := HS1.out.get hj
      subst e9
      revert rx ix
      generalize hx9 : ts.getD j teK.dflt = x
      intro rx ix
      rw [hx9] at hnx
      have cx : w.cell? ⟨b9, o9 + j * 36 + 33, none⟩ = some (.int .i64 x.t.locked) := (tow_at ix.t.root (range_cons rx).2).locked
      obtain ⟨m, hm⟩ : ∃ z, z = x.t.locked := ⟨_, rfl⟩
      rw [← hm] at cx
      have HN : Hid (S + m = totT (ts.take (j + 1))) := Lib.hid (by rw [hnx, totT_append, ← hS, hm]; simp [totT])
      have hb := HBD.out (j + 1)
      rw [← HN.out] at hb
      have iw : IntKind.i64.wrap (S + m) = S + m := IntWalk.i64_in _ (by omega)
      clear hcc rx ix hx9 hm hnx hS hb HR
      go_wp2
      go_round
      case rel => exact ⟨j + 1, S + m, by omega, by go_num, rfl, HN.out⟩
      case measure => simp [intOf]; omega
    · have f1 : ¬ ((j : Int) < (L : Int)) := by omega
      have hRR : S = R := by rw [hS, HR.out, List.take_of_length_le (by rw [← HL.out]; omega)]
      clear HR hS
      subst hRR
      go_wp2
      go_ret
      exact ⟨rfl, rfl⟩
theorem below_drewN10 {B : Nat} {w w' : World} (h : Below B w w') (n : Nat) : Below B w (w'.drewN n) := ⟨h.os, h.tape, h.output, h.size, h.block⟩
set_option linter.unusedSimpArgs false in
set_option maxRecDepth 100000 in
set_option maxHeartbeats 12800000 in
theorem lfree_any {B : Nat} {w : World} {p : Value} {pb N : Nat} {ts : List PTE} {hs : List PHE} (h : PlainAt B w p pb N ts hs) (n : Int) : Calls Try.prog 29 #[p, .int .i64 n] w fun e w' => e = .returned (.int .i64 (freeB n ts hs)) ∧ Below w.heap.size w w' := by
  obtain ⟨a1, c1, a2, c2, hp, s1, s2, _, _⟩ := h.read
  have hpis := h.is
  subst hpis
  have c0 := cell_of_row w pb 0 _ _ _ hp
  have c01 := cell_of_row w pb 1 _ _ _ hp
  have HI := Lib.hid h.inv
  obtain ⟨R, hR⟩ : ∃ R, R = freeB n ts hs := ⟨_, rfl⟩
  rw [← hR]
  have HP := Lib.hid hp
  have HS1 := Lib.hid s1
  have HS2 := Lib.hid s2
  have hn63 := s1.len63
  have hnc : (ts.length : Int) ≤ (c1 : Int) := by have h2 := s1.2.1; omega
  have hc63 : (c1 : Int) ≤ 9223372036854775807 := by have h2 := s1.2.2.1; unfold maxLen at h2; omega
  have hn632 := s2.len63
  have hnc2 : (hs.length : Int) ≤ (c2 : Int) := by have h2 := s2.2.1; omega
  have hc632 : (c2 : Int) ≤ 9223372036854775807 := by have h2 := s2.2.2.1; unfold maxLen at h2; omega
  have HR := Lib.hid (show R = lessOf n ts - heldH n hs from hR)
  have HBD : Hid (∀ j, 0 ≤ heldH n (hs.take j) ∧ heldH n (hs.take j) ≤ 1125899906842624) := Lib.hid (fun j => by have h9 := heldH_take n (hs := hs) (fun x hx => (HI.out.ha x hx).1) j; have h8 := HI.out.heldMax n; omega)
  have HLB : Hid (∀ x ∈ ts, 0 ≤ x.t.locked - x.t.asked ∧ x.t.locked - x.t.asked ≤ 1125899906842624 ∧ 0 ≤ x.t.asked ∧ x.t.locked ≤ 1125899906842624) := Lib.hid (fun x hx => by have k1 := HI.out.tl x hx; have k2 := HI.out.held0 x.n; have k3 := HI.out.lockedMax hx; have k4 := HI.out.ta x hx; omega)
  obtain ⟨L, hL⟩ : ∃ L, L = ts.length := ⟨_, rfl⟩
  obtain ⟨M, hM⟩ : ∃ M, M = hs.length := ⟨_, rfl⟩
  rw [← hL] at c0 hn63 hnc HS1 HP
  rw [← hM] at c01 hn632 hnc2 HS2 HP
  have C0 : Hid (∀ W : World, Below w.heap.size w W → W.cell? ⟨pb, 0, none⟩ = some (.slice a1 L c1)) := Lib.hid (fun W hW => cell_of_row W pb 0 _ _ _ (keep hW HP.out))
  have C1 : Hid (∀ W : World, Below w.heap.size w W → W.cell? ⟨pb, 1, none⟩ = some (.slice a2 M c2)) := Lib.hid (fun W hW => cell_of_row W pb 1 _ _ _ (keep hW HP.out))
  have HL := Lib.hid hL
  have HM := Lib.hid hM
  have HTK := Lib.hid HI.out.tk
  clear h hp s1 s2 hR hL hM c0 c01
  go_enter Try.func29, Try.ntmps29
  go_wp2
  go_loopw [5, 6] (fun s i wr => ∃ (j : Nat) (S : Int), j ≤ L ∧ i = .int .i64 j ∧ s = .int .i64 S ∧ S = lessOf n (ts.take j) ∧ 0 ≤ S ∧ S ≤ 1125899906842624 ∧ Below w.heap.size w wr) (fun _ i _ => L - (intOf i).toNat)
  case atStart => exact ⟨0, 0, Nat.zero_le _, rfl, rfl, rfl, by omega, by omega, Below.refl _ _⟩
  case round =>
    obtain ⟨j, S, hj0, rfl, rfl, hS, hS0, hS1, hB⟩ := hrel
    have HB := Lib.hid hB
    have c0 := C0.out wr hB
    clear hB
    by_cases hj : j < L
    · have f1 : (j : Int) < (L : Int) := by omega
      have f0 : (0 : Int) ≤ (j : Int) := by omega
      have ft : ((j : Int)).toNat = j := by omega
      have hnx := take_getD (d := teK.dflt) (xs := ts) (j := j) (by rw [← HL.out]; exact hj)
      have hmem := HS1.out.mem hj
      obtain ⟨b9, o9, e9, hlt, hcc⟩ := HS1.out.2.2.2.2.2 (by omega)
      have rx : wr.rangeAt b9 (o9 + j * 36) _ := rangeAt_below (hcc j hj) hlt HB.out
      have ix := HS1.out.get hj
      subst e9
      revert rx ix
      generalize hx9 : ts.getD j teK.dflt = x
      intro rx ix
      rw [hx9] at hnx hmem
      have cx : wr.cell? ⟨b9, o9 + j * 36, none⟩ = some (.int .i64 x.n) := (range_cons rx).1
      have cl : wr.cell? ⟨b9, o9 + j * 36 + 33, none⟩ = some (.int .i64 x.t.locked) := (tow_at ix.t.root (range_cons rx).2).locked
      have ca : wr.cell? ⟨b9, o9 + j * 36 + 34, none⟩ = some (.int .i64 x.t.asked) := (tow_at ix.t.root (range_cons rx).2).asked
      have hlb := HLB.out x hmem
      have hend : lessOf n (ts.take (j + 1)) = if x.n = n then x.t.locked - x.t.asked else lessOf n (ts.take j) := by rw [hnx]; exact lessOf_end (by rw [← hnx]; exact take_nodup HTK.out _)
      obtain ⟨xn, hxn⟩ : ∃ z, z = x.n := ⟨_, rfl⟩
      obtain ⟨m, hm⟩ : ∃ z, z = x.t.locked := ⟨_, rfl⟩
      obtain ⟨q, hq⟩ : ∃ z, z = x.t.asked := ⟨_, rfl⟩
      rw [← hxn] at cx hend
      rw [← hm] at cl hlb hend
      rw [← hq] at ca hlb hend
      rw [← hS] at hend
      have HE := Lib.hid hend
      have iw : IntKind.i64.wrap (m - q) = m - q := IntWalk.i64_in _ (by omega)
      clear hcc rx ix hx9 hm hq hxn hnx hS hmem hend HR hlt
      by_cases hxx : xn = n
      · have HN : Hid (m - q = lessOf n (ts.take (j + 1)) ∧ 0 ≤ m - q ∧ m - q ≤ 1125899906842624) := Lib.hid ⟨by rw [HE.out, if_pos hxx], hlb.1, hlb.2.1⟩
        subst hxx
        clear hlb
        go_upto_region 6 with (fail)
        go_quiet (fail)
        go_wp2
        go_roundw
        case rel => exact ⟨j + 1, m - q, by omega, by go_num, rfl, HN.out.1, HN.out.2.1, HN.out.2.2, below_drewN10 HB.out _⟩
        case measure => simp [intOf]; omega
      · have HN : Hid (S = lessOf n (ts.take (j + 1))) := Lib.hid (by rw [HE.out, if_neg hxx])
        clear hlb ca cl
        go_wp2
        go_roundw
        case rel => exact ⟨j + 1, S, by omega, by go_num, rfl, HN.out, hS0, hS1, HB.out⟩
        case measure => simp [intOf]; omega
    · have f1 : ¬ ((j : Int) < (L : Int)) := by omega
      have hRR : R = S - heldH n hs := by rw [HR.out, hS, List.take_of_length_le (by rw [← HL.out]; omega)]
      have HR2 := Lib.hid hRR
      clear HR hS hRR
      go_wp2
      go_loopw [5, 7] (fun s i wr2 => ∃ (k : Nat) (U : Int), k ≤ M ∧ i = .int .i64 k ∧ s = .int .i64 U ∧ U = S - heldH n (hs.take k) ∧ Below w.heap.size w wr2) (fun _ i _ => M - (intOf i).toNat)
      case atStart => exact ⟨0, S, Nat.zero_le _, rfl, rfl, by simp [heldH], HB.out⟩
      case round =>
        obtain ⟨k, U, hk0, rfl, rfl, hU, hB2⟩ := hrel
        have HB2 := Lib.hid hB2
        have c0 := C1.out _ hB2
        clear hB2
        have hbk := HBD.out k
        by_cases hk : k < M
        · have g1 : (k : Int) < (M : Int) := by omega
          have g0 : (0 : Int) ≤ (k : Int) := by omega
          have gt : ((k : Int)).toNat = k := by omega
          have hnx := take_getD (d := heK.dflt) (xs := hs) (j := k) (by rw [← HM.out]; exact hk)
          have hbk2 := HBD.out (k + 1)
          obtain ⟨b9, o9, e9, hlt, hcc⟩ := HS2.out.2.2.2.2.2 (by omega)
          have rx := rangeAt_below (hcc k hk) hlt HB2.out
          have ix := HS2.out.get hk
          subst e9
          revert rx ix
          generalize hx9 : hs.getD k heK.dflt = x
          intro rx ix
          rw [hx9] at hnx
          have cx := (range_cons rx).1
          have cm := (hold_at ix.h (range_cons rx).2).amount
          obtain ⟨xn, hxn⟩ : ∃ z, z = x.n := ⟨_, rfl⟩
          obtain ⟨m, hm⟩ : ∃ z, z = x.h.amount := ⟨_, rfl⟩
          have hE : heldH n (hs.take (k + 1)) = heldH n (hs.take k) + if xn = n then m else 0 := by rw [hnx, heldH_append, hxn, hm]; simp [heldH]
          rw [← hxn] at cx
          rw [← hm] at cm
          rw [show o9 + k * heK.size = o9 + k * 75 from rfl] at cx cm
          rw [show o9 + k * 75 + 1 + 39 = o9 + k * 75 + 40 from rfl] at cm
          have HE := Lib.hid hE
          have HU := Lib.hid hU
          clear hcc rx ix hx9 hxn hnx hm hlt hU
          by_cases hxx : xn = n
          · have iw : IntKind.i64.wrap (U - m) = U - m := IntWalk.i64_in _ (by have e1 := HE.out; have e2 := HU.out; rw [if_pos hxx] at e1; omega)
            have HN : Hid (U - m = S - heldH n (hs.take (k + 1))) := Lib.hid (by have e1 := HE.out; have e2 := HU.out; rw [if_pos hxx] at e1; omega)
            subst hxx
            clear hE hbk hbk2
            go_wp2
            go_roundw
            case rel => exact ⟨k + 1, U - m, by omega, by go_num, rfl, HN.out, HB2.out⟩
            case measure => simp [intOf]; omega
          · have HN : Hid (U = S - heldH n (hs.take (k + 1))) := Lib.hid (by have e1 := HE.out; have e2 := HU.out; rw [if_neg hxx] at e1; omega)
            clear hE hbk hbk2 cm
            go_wp2
            go_roundw
            case rel => exact ⟨k + 1, U, by omega, by go_num, rfl, HN.out, HB2.out⟩
            case measure => simp [intOf]; omega
        · have g1 : ¬ ((k : Int) < (M : Int)) := by omega
          have hUU : U = R := by rw [HR2.out, hU, List.take_of_length_le (by rw [← HM.out]; omega)]
          clear hU hbk HR2
          subst hUU
          go_wp2
          go_ret
          exact ⟨rfl, HB2.out⟩
end Go.Proofs.Ytijanllppbambaa
