/- What the code's shareOuts of package justice comes to: a part in shares. -/
import Derived.Test.YtnjnomebcggccaaGreatDoorJustCode
import Derived.Test.YtnjnomebcggccaaGreatDoorCommit
import Derived.Test.YtnjnomebcggccaaGreatDoorSign
import Derived.Test.YtnjnomebcggccaaGreatDoorTake15
namespace Go.Proofs.YtnjnomebcggccaaGreatDoor
open Go.RowKit

/-- A literal of one out is a row of the call's own. -/
theorem own_lit15 {w : World} {B g : Nat} {X : POut} (hB : B ≤ g) (h : w.heap[g]? = some (.cells ([X].flatMap outK.cells).toArray 46 (0, 0))) : OwnOf outK 46 w B (.slice (some ⟨g, 0, none⟩) 1 1) [X] :=
  ⟨⟨rfl, .inr ⟨g, 1, _, rfl, hB, h, Nat.le_refl _, by unfold maxLen; omega, rfl, rfl⟩⟩, fun x hx => by simp at hx; subst hx; rfl⟩
theorem HerAt.out {B p q : Nat} {w : World} {key m : Int} (h : HerAt B w p q key) (hk : Fits key) (hm : Fits m) : OutIn w (herP (some ⟨q, 0, none⟩) (some ⟨p, 0, none⟩) key m) := ⟨hm, h.ways hk⟩
/-- It stays where a row is written that is none of it. -/
theorem HerAt.grown {B p q : Nat} {w w' : World} {key : Int} {g : Nat} (h : HerAt B w p q key) (hg : w.grownBy w' (some g)) (hp : p ≠ g) (hq : q ≠ g) : HerAt B w' p q key :=
  ⟨⟨h.ks.new, (hg.block p (lt_of_block h.ks.is) (fun e => hp (Option.some.inj e))).trans h.ks.is⟩, ⟨h.ws.new, (hg.block q (lt_of_block h.ws.is) (fun e => hq (Option.some.inj e))).trans h.ws.is⟩⟩
/-- The outs of shares: the victim's, and the tower's, if there is one. -/
def sharedP (key z n r f : Int) : List POut := if z = -1 then [herP none none key (n - feeP n f - rewP n r f)] else [herP none none key (n - feeP n f - rewP n r f), herP none none (100 + z) (rewP n r f)]
/-- The thousandths asked for: none without a tower. -/
def askP (z r : Int) : Int := if z = -1 then 0 else r
set_option linter.unusedSimpArgs false in
set_option maxRecDepth 100000 in
set_option maxHeartbeats 6400000 in
theorem shareOuts_bad {w : World} {n key z r f : Int} (hn : Fits n) (hr : Fits r) (hf : Fits f) (hz : -1 ≤ z) (hq : n < 0 ∨ 1125899906842624 < n ∨ f < 0 ∨ 1125899906842624 < f ∨ askP z r < 0 ∨ 1000 < askP z r) :
    Calls Tryz.prog 16 #[.int .i64 n, .int .i64 key, .int .i64 z, .agg #[.int .i64 r, .int .i64 f]] w fun e w' => e = .returned (.tuple #[.slice none 0 0, .int .i64 1]) ∧ Below w.heap.size w w' := by
  by_cases e : z = -1
  · subst e
    rw [show askP (-1) r = 0 from rfl] at hq
    have HS : Hid (∀ W : World, Calls Tryz.prog 9 #[.int .i64 n, .agg #[.int .i64 0, .int .i64 f]] W fun e w' => e = .returned (.tuple #[.int .i64 0, .int .i64 0, .int .i64 0, .int .i64 1]) ∧ Below W.heap.size W w') := Lib.hid fun W => by rw [← sharesV_bad (by omega)]; exact shares_code W n 0 f hn (by first | exact hr | (constructor <;> decide)) hf
    clear hn hr hf hz hq
    go_enter Tryz.func16, Tryz.ntmps16
    go_upto_region 1 with (fail)
    have b1 : Below w.heap.size w (w.alloc (.cells #[.int .i64 r, .int .i64 f] 37)) := (Below.refl _ _).alloc (Nat.le_refl _) _
    have h1 := heap_alloc_new w (.cells #[.int .i64 r, .int .i64 f] 37)
    revert b1 h1
    generalize (w.alloc (.cells #[.int .i64 r, .int .i64 f] 37)) = w1
    obtain ⟨g, hg⟩ : ∃ g, g = w.heap.size := ⟨_, rfl⟩
    rw [← hg]
    intro b1 h1
    rw [hg] at b1
    have HB1 := Lib.hid b1
    have H1 : Hid (w1.heap[g]? = some (.cells ([.int .i64 r, .int .i64 f] : List Value).toArray 37 (0, 0))) := Lib.hid h1
    have HG : Hid (w.heap.size ≤ g) := Lib.hid (by omega)
    clear b1 h1 hg
    go_upto_region 3 with (first | (refine wpList_field10 rfl 3 _ _ rfl g 0 rfl (.int .i64 0) rfl 37 [.int .i64 r, .int .i64 f] H1.out (by simp) (by kernel_rfl) rfl ?_; intro w2 hh hb; have HB2 := Lib.hid (But.in HB1.out hb HG.out); have H2 : Hid (w2.heap[g]? = some (.cells ([.int .i64 0, .int .i64 f] : List Value).toArray 37 (0, 0))) := Lib.hid hh; clear hh hb) | fail)
    go_wp2_with (first | (refine wpList_load_row rfl 37 _ rfl g rfl 37 ([.int .i64 0, .int .i64 f] : List Value).toArray (0, 0) _ H2.out Tryz.underlying37 rfl (by kernel_rfl) ?_) | (go_at_call 9; (with_reducible refine (HS.out _).mono ?_); rintro e w3 ⟨rfl, hb⟩; have HB3 := Lib.hid (bthen HB2.out hb); clear hb) | fail)
    go_ret2
    exact ⟨rfl, HB3.out⟩
  · rw [show askP z r = r from if_neg e] at hq
    have ez : (z == -1) = false := by simp [e]
    have HS : Hid (∀ W : World, Calls Tryz.prog 9 #[.int .i64 n, .agg #[.int .i64 r, .int .i64 f]] W fun e w' => e = .returned (.tuple #[.int .i64 0, .int .i64 0, .int .i64 0, .int .i64 1]) ∧ Below W.heap.size W w') := Lib.hid fun W => by rw [← sharesV_bad (by omega)]; exact shares_code W n r f hn (by first | exact hr | (constructor <;> decide)) hf
    clear hn hr hf hz hq e
    go_enter Tryz.func16, Tryz.ntmps16
    go_upto_region 1 with (fail)
    have b1 : Below w.heap.size w (w.alloc (.cells #[.int .i64 r, .int .i64 f] 37)) := (Below.refl _ _).alloc (Nat.le_refl _) _
    have h1 := heap_alloc_new w (.cells #[.int .i64 r, .int .i64 f] 37)
    revert b1 h1
    generalize (w.alloc (.cells #[.int .i64 r, .int .i64 f] 37)) = w1
    obtain ⟨g, hg⟩ : ∃ g, g = w.heap.size := ⟨_, rfl⟩
    rw [← hg]
    intro b1 h1
    rw [hg] at b1
    have HB1 := Lib.hid b1
    have H1 : Hid (w1.heap[g]? = some (.cells ([.int .i64 r, .int .i64 f] : List Value).toArray 37 (0, 0))) := Lib.hid h1
    have HG : Hid (w.heap.size ≤ g) := Lib.hid (by omega)
    clear b1 h1 hg
    go_wp2_with (first | (refine wpList_load_row rfl 37 _ rfl g rfl 37 ([.int .i64 r, .int .i64 f] : List Value).toArray (0, 0) _ H1.out Tryz.underlying37 rfl (by kernel_rfl) ?_) | (go_at_call 9; (with_reducible refine (HS.out _).mono ?_); rintro e w3 ⟨rfl, hb⟩; have HB3 := Lib.hid (bthen HB1.out hb); clear hb) | fail)
    go_ret2
    exact ⟨rfl, HB3.out⟩
set_option linter.unusedSimpArgs false in
set_option maxRecDepth 100000 in
set_option maxHeartbeats 6400000 in
theorem shareOuts_one {w : World} {n key r f : Int} (hn : Fits n) (hf : Fits f) (hkey : Fits key) (hq : 0 ≤ n ∧ n ≤ 1125899906842624 ∧ 0 ≤ f ∧ f ≤ 1125899906842624) :
    Calls Tryz.prog 16 #[.int .i64 n, .int .i64 key, .int .i64 (-1), .agg #[.int .i64 r, .int .i64 f]] w fun e w' => ∃ a c a1 b1, e = .returned (.tuple #[.slice a 1 c, .int .i64 0]) ∧ SliceOf outK w' a 1 c [herP a1 b1 key (n - feeP n f - rewP n 0 f)] ∧ Below w.heap.size w w' := by
  have hb9 := share_bounds (n := n) (r := 0) (f := f) (by omega)
  have HS : Hid (∀ W : World, Calls Tryz.prog 9 #[.int .i64 n, .agg #[.int .i64 0, .int .i64 f]] W fun e w' => e = .returned (.tuple #[.int .i64 (n - feeP n f - rewP n 0 f), .int .i64 (rewP n 0 f), .int .i64 (feeP n f), .int .i64 0]) ∧ Below W.heap.size W w') := Lib.hid fun W => by rw [← sharesV_good (by omega)]; exact shares_code W n 0 f hn (by constructor <;> decide) hf
  obtain ⟨V, hV⟩ : ∃ V, n - feeP n f - rewP n 0 f = V := ⟨_, rfl⟩
  obtain ⟨RW, hRW⟩ : ∃ RW, rewP n 0 f = RW := ⟨_, rfl⟩
  obtain ⟨FE, hFE⟩ : ∃ FE, feeP n f = FE := ⟨_, rfl⟩
  have HVF : Hid (Fits V) := Lib.hid (by rw [← hV]; constructor <;> omega)
  rw [hV, hRW, hFE] at HS
  rw [hV]
  have HKEY := Lib.hid hkey
  clear hn hf hq hkey hb9 hV hRW hFE
  go_enter Tryz.func16, Tryz.ntmps16
  go_upto_region 1 with (fail)
  have b1 : Below w.heap.size w (w.alloc (.cells #[.int .i64 r, .int .i64 f] 37)) := (Below.refl _ _).alloc (Nat.le_refl _) _
  have h1 := heap_alloc_new w (.cells #[.int .i64 r, .int .i64 f] 37)
  revert b1 h1
  generalize (w.alloc (.cells #[.int .i64 r, .int .i64 f] 37)) = w1
  obtain ⟨g, hg⟩ : ∃ g, g = w.heap.size := ⟨_, rfl⟩
  rw [← hg]
  intro b1 h1
  rw [hg] at b1
  have HB1 := Lib.hid b1
  have H1 : Hid (w1.heap[g]? = some (.cells ([.int .i64 r, .int .i64 f] : List Value).toArray 37 (0, 0))) := Lib.hid h1
  have HG : Hid (w.heap.size ≤ g) := Lib.hid (by omega)
  clear b1 h1 hg
  go_upto_region 3 with (first | (refine wpList_field10 rfl 3 _ _ rfl g 0 rfl (.int .i64 0) rfl 37 [.int .i64 r, .int .i64 f] H1.out (by simp) (by kernel_rfl) rfl ?_; intro w2 hh hb; have HB2 := Lib.hid (But.in HB1.out hb HG.out); have H2 : Hid (w2.heap[g]? = some (.cells ([.int .i64 0, .int .i64 f] : List Value).toArray 37 (0, 0))) := Lib.hid hh; clear hh hb) | fail)
  go_wp2_with (first | (refine wpList_load_row rfl 37 _ rfl g rfl 37 ([.int .i64 0, .int .i64 f] : List Value).toArray (0, 0) _ H2.out Tryz.underlying37 rfl (by kernel_rfl) ?_) | (go_at_call 9; (with_reducible refine (HS.out _).mono ?_); rintro e w3 ⟨rfl, hb⟩; have HB3 := Lib.hid (bthen HB2.out hb); clear hb) | (go_at_call 11; (with_reducible refine (to_at14 key V _).mono ?_); rintro e w4 ⟨p1, q1, rfl, ha, hb⟩; have HA := Lib.hid ha; have HBw4 := Lib.hid (bthen HB3.out hb); clear ha hb) | (refine wpList_lits Tryz.outAt14 rfl rfl [(herP (some ⟨q1, 0, none⟩) (some ⟨p1, 0, none⟩) key V)] rfl (by decide) (by decide) (by intro x hx; simp at hx; subst hx; rfl) rfl ?_; intro g5 w5 hp hh hb; go_frame; have HBw5 := Lib.hid (bthen HBw4.out hb); have HL := Lib.hid hh; have HA5 := Lib.hid (HA.out.keep hb); clear hp hh hb) | fail)
  go_ret2
  exact ⟨_, _, _, _, rfl, slice_lits (K := outK) HL.out rfl (by omega) (by intro x hx; simp at hx; subst hx; exact HA5.out.out HKEY.out HVF.out), HBw5.out⟩
set_option linter.unusedSimpArgs false in
set_option maxRecDepth 100000 in
set_option maxHeartbeats 6400000 in
theorem shareOuts_two {w : World} {n key z r f : Int} (hn : Fits n) (hr : Fits r) (hf : Fits f) (hkey : Fits key) (h0 : 0 ≤ z) (h15 : z ≤ 15) (hq : 0 ≤ n ∧ n ≤ 1125899906842624 ∧ 0 ≤ f ∧ f ≤ 1125899906842624 ∧ 0 ≤ r ∧ r ≤ 1000) :
    Calls Tryz.prog 16 #[.int .i64 n, .int .i64 key, .int .i64 z, .agg #[.int .i64 r, .int .i64 f]] w fun e w' => ∃ a c a1 b1 a2 b2, e = .returned (.tuple #[.slice a 2 c, .int .i64 0]) ∧ SliceOf outK w' a 2 c [herP a1 b1 key (n - feeP n f - rewP n r f), herP a2 b2 (100 + z) (rewP n r f)] ∧ Below w.heap.size w w' := by
  have hb9 := share_bounds (n := n) (r := r) (f := f) (by omega)
  have HS : Hid (∀ W : World, Calls Tryz.prog 9 #[.int .i64 n, .agg #[.int .i64 r, .int .i64 f]] W fun e w' => e = .returned (.tuple #[.int .i64 (n - feeP n f - rewP n r f), .int .i64 (rewP n r f), .int .i64 (feeP n f), .int .i64 0]) ∧ Below W.heap.size W w') := Lib.hid fun W => by rw [← sharesV_good (by omega)]; exact shares_code W n r f hn (by first | exact hr | (constructor <;> decide)) hf
  obtain ⟨V, hV⟩ : ∃ V, n - feeP n f - rewP n r f = V := ⟨_, rfl⟩
  obtain ⟨RW, hRW⟩ : ∃ RW, rewP n r f = RW := ⟨_, rfl⟩
  obtain ⟨FE, hFE⟩ : ∃ FE, feeP n f = FE := ⟨_, rfl⟩
  have HVF : Hid (Fits V) := Lib.hid (by rw [← hV]; constructor <;> omega)
  have HRF : Hid (Fits RW) := Lib.hid (by rw [← hRW]; constructor <;> omega)
  rw [hV, hRW, hFE] at HS
  rw [hV, hRW]
  have HKEY := Lib.hid hkey
  obtain ⟨ZK, hZK⟩ : ∃ ZK, 100 + z = ZK := ⟨_, rfl⟩
  have HZF : Hid (Fits ZK) := Lib.hid (by constructor <;> omega)
  have HKC : Hid (∀ W : World, Calls Tryz.prog 15 #[.int .i64 z] W fun e w' => e = .returned (.int .i64 ZK) ∧ Below W.heap.size W w') := Lib.hid fun W => by rw [← hZK]; exact key_code W z h0 h15
  have ez : (z == -1) = false := by simp; omega
  have ez2 : (z != -1) = true := by simp; omega
  rw [hZK]
  clear hn hr hf hq hkey hb9 hV hRW hFE hZK h0 h15
  go_enter Tryz.func16, Tryz.ntmps16
  go_upto_region 1 with (fail)
  have b1 : Below w.heap.size w (w.alloc (.cells #[.int .i64 r, .int .i64 f] 37)) := (Below.refl _ _).alloc (Nat.le_refl _) _
  have h1 := heap_alloc_new w (.cells #[.int .i64 r, .int .i64 f] 37)
  revert b1 h1
  generalize (w.alloc (.cells #[.int .i64 r, .int .i64 f] 37)) = w1
  obtain ⟨g, hg⟩ : ∃ g, g = w.heap.size := ⟨_, rfl⟩
  rw [← hg]
  intro b1 h1
  rw [hg] at b1
  have HB1 := Lib.hid b1
  have H1 : Hid (w1.heap[g]? = some (.cells ([.int .i64 r, .int .i64 f] : List Value).toArray 37 (0, 0))) := Lib.hid h1
  have HG : Hid (w.heap.size ≤ g) := Lib.hid (by omega)
  clear b1 h1 hg
  go_upto_region 8 with (first | (refine wpList_load_row rfl 37 _ rfl g rfl 37 ([.int .i64 r, .int .i64 f] : List Value).toArray (0, 0) _ H1.out Tryz.underlying37 rfl (by kernel_rfl) ?_) | (go_at_call 9; (with_reducible refine (HS.out _).mono ?_); rintro e w3 ⟨rfl, hb⟩; have HB3 := Lib.hid (bthen HB1.out hb); clear hb) | (go_at_call 11; (with_reducible refine (to_at14 key V _).mono ?_); rintro e w4 ⟨p1, q1, rfl, ha, hb⟩; have HA := Lib.hid ha; have HBw4 := Lib.hid (bthen HB3.out hb); clear ha hb) | (refine wpList_lits Tryz.outAt14 rfl rfl [(herP (some ⟨q1, 0, none⟩) (some ⟨p1, 0, none⟩) key V)] rfl (by decide) (by decide) (by intro x hx; simp at hx; subst hx; rfl) rfl ?_; intro g5 w5 hp hh hb; go_frame; have HBw5 := Lib.hid (bthen HBw4.out hb); have HL := Lib.hid hh; have HA5 := Lib.hid (HA.out.keep hb); have HP1 : Hid (p1 ≠ g5 ∧ q1 ≠ g5) := Lib.hid (by have h8 := lt_of_block HA.out.ks.is; have h7 := lt_of_block HA.out.ws.is; exact ⟨by omega, by omega⟩); have HG5 : Hid (w.heap.size ≤ g5) := Lib.hid (Nat.le_trans HBw4.out.size hp); clear hp hh hb) | fail)
  go_wp2_with (first | (go_at_call 15; (with_reducible refine (HKC.out _).mono ?_); rintro e w6 ⟨rfl, hb⟩; have HB6 := Lib.hid (bthen HBw5.out hb); have HA6 := Lib.hid (HA5.out.keep hb); have HL6 := Lib.hid (keep hb HL.out); clear hb) | (go_at_call 11; (with_reducible refine (to_at14 ZK RW _).mono ?_); rintro e w7 ⟨p2, q2, rfl, ha, hb⟩; have HA2 := Lib.hid ha; have HBw7 := Lib.hid (bthen HB6.out hb); have HA7 := Lib.hid (HA6.out.keep hb); have HL7 := Lib.hid (keep hb HL6.out); have HP2 : Hid (p2 ≠ g5 ∧ q2 ≠ g5) := Lib.hid (by have h8 := ha.ks.new; have h7 := ha.ws.new; have h6 := lt_of_block HL6.out; exact ⟨by omega, by omega⟩); clear ha hb) | (refine wpList_lits Tryz.outAt14 rfl rfl [(herP (some ⟨q2, 0, none⟩) (some ⟨p2, 0, none⟩) ZK RW)] rfl (by decide) (by decide) (by intro x hx; simp at hx; subst hx; rfl) rfl ?_; intro g8 w8 hp hh hb; go_frame; have HBw8 := Lib.hid (bthen HBw7.out hb); have HL2 := Lib.hid hh; have HA8 := Lib.hid (HA7.out.keep hb); have HA28 := Lib.hid (HA2.out.keep hb); have HL8 := Lib.hid (keep hb HL7.out); clear hp hh hb) | (refine wpList_append_of Tryz.outAt14 rfl _ _ rfl rfl w.heap.size _ [(herP (some ⟨q1, 0, none⟩) (some ⟨p1, 0, none⟩) key V)] rfl (own_lit15 HG5.out HL8.out) g8 (herP (some ⟨q2, 0, none⟩) (some ⟨p2, 0, none⟩) ZK RW) rfl HL2.out rfl (by simp) HBw8.out.size ?_; intro a9 c9 w9 ho9 hg9; have HO9 := Lib.hid ho9; have HG9 := Lib.hid hg9; have HB9 := Lib.hid (HBw8.out.trans ((own_lit15 HG5.out HL8.out).grows hg9 HBw8.out.size)); clear ho9 hg9) | fail)
  go_ret2
  exact ⟨_, _, _, _, _, _, rfl, HO9.out.slice (by intro x hx; simp at hx; rcases hx with rfl | rfl; exact (HA8.out.grown HG9.out HP1.out.1 HP1.out.2).out HKEY.out HVF.out; exact (HA28.out.grown HG9.out HP2.out.1 HP2.out.2).out HZF.out HRF.out), HB9.out⟩
/-- Outs of one way each, of one key each. -/
structure FewOuts (n : Nat) (xs : List POut) : Prop where
  lo : 1 ≤ n
  hi : n ≤ 2
  each : ∀ y ∈ xs, y.n = 1 ∧ y.ws.length = 1 ∧ ∀ u ∈ y.ws, u.ks.length = 1
theorem shareOuts_ok {w : World} {n key z r f : Int} (hn : Fits n) (hr : Fits r) (hf : Fits f) (hkey : Fits key) (h0 : -1 ≤ z) (h15 : z ≤ 15) (hq : 0 ≤ n ∧ n ≤ 1125899906842624 ∧ 0 ≤ f ∧ f ≤ 1125899906842624 ∧ 0 ≤ askP z r ∧ askP z r ≤ 1000) :
    Calls Tryz.prog 16 #[.int .i64 n, .int .i64 key, .int .i64 z, .agg #[.int .i64 r, .int .i64 f]] w fun e w' => ∃ a m c xs, e = .returned (.tuple #[.slice a m c, .int .i64 0]) ∧ SliceOf outK w' a m c xs ∧ xs.map POut.strip = (sharedP key z n (askP z r) f).map POut.strip ∧ FewOuts m xs ∧ Below w.heap.size w w' := by
  by_cases e : z = -1
  · subst e
    refine (shareOuts_one (r := r) hn hf hkey ⟨hq.1, hq.2.1, hq.2.2.1, hq.2.2.2.1⟩).mono ?_
    rintro e2 w2 ⟨a, c, a1, b1, rfl, hs, hb⟩
    refine ⟨a, 1, c, _, rfl, hs, rfl, ⟨by omega, by omega, fun y hy => ?_⟩, hb⟩
    simp at hy
    subst hy
    exact ⟨rfl, rfl, fun u hu => by simp [herP] at hu; subst hu; rfl⟩
  · have ea : askP z r = r := if_neg e
    rw [ea] at hq ⊢
    refine (shareOuts_two (z := z) hn hr hf hkey (by omega) h15 hq).mono ?_
    rintro e2 w2 ⟨a, c, a1, b1, a2, b2, rfl, hs, hb⟩
    refine ⟨a, 2, c, _, rfl, hs, by unfold sharedP; rw [if_neg e]; rfl, ⟨by omega, by omega, fun y hy => ?_⟩, hb⟩
    simp at hy
    rcases hy with rfl | rfl
    · exact ⟨rfl, rfl, fun u hu => by simp [herP] at hu; subst hu; rfl⟩
    · exact ⟨rfl, rfl, fun u hu => by simp [herP] at hu; subst hu; rfl⟩
end Go.Proofs.YtnjnomebcggccaaGreatDoor
