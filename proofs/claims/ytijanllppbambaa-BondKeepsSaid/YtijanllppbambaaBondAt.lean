/- How a board stands: its two maps hold the towers and the holds of plain lists; boards that New did not give. bond.New, given. -/
import Derived.Test.YtijanllppbambaaBondSpec
import Derived.Test.YtijanllppbambaaBondBuild
import Derived.Test.YtijanllppbambaaMapK
import Derived.Shelf.SlMaps.Clone
namespace Go.Proofs.Ytijanllppbambaa
open Go.RowKit Go.Maps

def towF (ts : List PTE) : NumD → Option Value := fun x => (lookT x.z ts).map (fun e => .agg e.t.cells.toArray)
def holF (hs : List PHE) : TwoD → Option Value := fun x => (lookH x.y x.z hs).map (fun e => .agg e.h.cells.toArray)
/-- How a board stands: its maps lie at tb and hb, not below B; it was stored into no more than N times. -/
structure BoardAt (B : Nat) (w : World) (pv : Value) (tb hb N : Nat) (ts : List PTE) (hs : List PHE) : Prop where
  has : ∃ vb, pv = .pointer (some ⟨vb, 0, none⟩) ∧ w.heap[vb]? = some (.cells #[.map (some tb), .map (some hb)] 51 (0, 0))
  tB : B ≤ tb
  hB : B ≤ hb
  ne : tb ≠ hb
  few : N ≤ 100
  mt : ∃ n, n ≤ N ∧ MapK numK w tb n ts.length (towF ts)
  mh : ∃ n, n ≤ N ∧ MapK twoK w hb n hs.length (holF hs)
  inv : Inv ts hs
/-- A board that New did not give. -/
def BoardNone (w : World) (pv : Value) : Prop := pv = .pointer none ∨ ∃ vb, pv = .pointer (some ⟨vb, 0, none⟩) ∧ w.heap[vb]? = some (.cells #[.map none, .map none] 51 (0, 0))
theorem MapK.at {α : Type} {K : KeyKind α} {w w' : World} {b N n : Nat} {F : α → Option Value} (h : MapK K w b N n F) (hb : w'.heap[b]? = w.heap[b]?) : MapK K w' b N n F := by
  obtain ⟨D, ⟨es, cl, h1, Ft, h2, h3⟩, h4⟩ := h
  exact ⟨D, ⟨es, cl, hb.trans h1, Ft, h2, h3⟩, h4⟩
theorem BoardNone.below {w w' : World} {pv : Value} (h : BoardNone w pv) (hb : Below w.heap.size w w') : BoardNone w' pv := by
  rcases h with h | ⟨vb, h1, h2⟩
  · exact .inl h
  · exact .inr ⟨vb, h1, keep hb h2⟩
section
variable {B : Nat} {w w' : World} {pv : Value} {tb hb N : Nat} {ts : List PTE} {hs : List PHE}
theorem BoardAt.below (h : BoardAt B w pv tb hb N ts hs) (k : Below w.heap.size w w') : BoardAt B w' pv tb hb N ts hs := by
  obtain ⟨vb, h1, h2⟩ := h.has
  obtain ⟨n, h3, h4⟩ := h.mt
  obtain ⟨m, h5, h6⟩ := h.mh
  exact ⟨⟨vb, h1, keep k h2⟩, h.tB, h.hB, h.ne, h.few, ⟨n, h3, h4.below k⟩, ⟨m, h5, h6.below k⟩, h.inv⟩
theorem BoardAt.more (h : BoardAt B w pv tb hb N ts hs) (hN : N + 1 ≤ 100) : BoardAt B w pv tb hb (N + 1) ts hs := by
  obtain ⟨n, h3, h4⟩ := h.mt
  obtain ⟨m, h5, h6⟩ := h.mh
  exact ⟨h.has, h.tB, h.hB, h.ne, hN, ⟨n, by omega, h4⟩, ⟨m, by omega, h6⟩, h.inv⟩
theorem BoardAt.lower {B' : Nat} (h : BoardAt B w pv tb hb N ts hs) (hB : B' ≤ B) : BoardAt B' w pv tb hb N ts hs := ⟨h.has, Nat.le_trans hB h.tB, Nat.le_trans hB h.hB, h.ne, h.few, h.mt, h.mh, h.inv⟩
theorem BoardAt.tMap (h : BoardAt B w pv tb hb N ts hs) : ∃ es cl, w.heap[tb]? = some (.map es cl) := by
  obtain ⟨n, _, h4⟩ := h.mt
  exact h4.isMap
theorem BoardAt.hMap (h : BoardAt B w pv tb hb N ts hs) : ∃ es cl, w.heap[hb]? = some (.map es cl) := by
  obtain ⟨n, _, h4⟩ := h.mh
  exact h4.isMap
/-- Where blocks are written that are no maps, nor boards. -/
theorem BoardAt.bar {S : Nat → Option Obj → Prop} (h : BoardAt B w pv tb hb N ts hs) (k : Bar S w w') (hm : ∀ i es cl, ¬ S i (some (.map es cl))) (hb9 : ∀ i cs fr, ¬ S i (some (.cells cs 51 fr))) : BoardAt B w' pv tb hb N ts hs := by
  obtain ⟨vb, h1, h2⟩ := h.has
  obtain ⟨n, h3, h4⟩ := h.mt
  obtain ⟨m, h5, h6⟩ := h.mh
  obtain ⟨es, cl, h7⟩ := h4.isMap
  obtain ⟨es2, cl2, h8⟩ := h6.isMap
  exact ⟨⟨vb, h1, k.keep h2 (hb9 _ _ _)⟩, h.tB, h.hB, h.ne, h.few, ⟨n, h3, h4.at ((k.keep h7 (hm _ _ _)).trans h7.symm)⟩, ⟨m, h5, h6.at ((k.keep h8 (hm _ _ _)).trans h8.symm)⟩, h.inv⟩
/-- Where the towers' map was stored into. -/
theorem BoardAt.towers (h : BoardAt B w pv tb hb N ts hs) {n n' : Nat} {ts' : List PTE} {F : NumD → Option Value} (hn : n ≤ N) (hm : MapK numK w' tb (n + 1) n' F) (hg : w.grownBy w' (some tb)) (hl : n' = ts'.length) (hF : ∀ x, F x = towF ts' x) (hN : N + 1 ≤ 100) (hi : Inv ts' hs) : BoardAt B w' pv tb hb (N + 1) ts' hs := by
  obtain ⟨vb, h1, h2⟩ := h.has
  obtain ⟨m, h5, h6⟩ := h.mh
  obtain ⟨es, cl, h7⟩ := h.tMap
  have lv : vb < w.heap.size := lt_of_block h2
  refine ⟨⟨vb, h1, (hg.block vb lv (fun e => by cases e; rw [h7] at h2; cases h2)).trans h2⟩, h.tB, h.hB, h.ne, hN, ⟨n + 1, by omega, by rw [← hl]; exact hm.congr hF⟩, ⟨m, by omega, h6.at (hg.block hb h6.lt (fun e => h.ne (Option.some.inj e).symm))⟩, hi⟩
/-- Where the holds' map was stored into. -/
theorem BoardAt.holds (h : BoardAt B w pv tb hb N ts hs) {m n' : Nat} {hs' : List PHE} {F : TwoD → Option Value} (hn : m ≤ N + 1) (hm : MapK twoK w' hb m n' F) (hg : w.grownBy w' (some hb)) (hl : n' = hs'.length) (hF : ∀ x, F x = holF hs' x) (hN : N + 1 ≤ 100) (hi : Inv ts hs') : BoardAt B w' pv tb hb (N + 1) ts hs' := by
  obtain ⟨vb, h1, h2⟩ := h.has
  obtain ⟨n, h5, h6⟩ := h.mt
  obtain ⟨es, cl, h7⟩ := h.hMap
  have lv : vb < w.heap.size := lt_of_block h2
  refine ⟨⟨vb, h1, (hg.block vb lv (fun e => by cases e; rw [h7] at h2; cases h2)).trans h2⟩, h.tB, h.hB, h.ne, hN, ⟨n, by omega, h6.at (hg.block tb h6.lt (fun e => h.ne (Option.some.inj e)))⟩, ⟨m, hn, by rw [← hl]; exact hm.congr hF⟩, hi⟩
end
theorem run_neq_map_nil10 {P : Program} {t k e : TypeId} (w : World) (p : Option Nat) (h : P.underlying t = some (.map k e)) : (binOp .neq t (.map p) (.map none)).run P w = .ok (.bool (!p.isNone)) w := by
  simp only [binOp]
  simp [show Op.equal t (.map p) (.map none) = Op.equalIn (9999 + 1) t (.map p) (.map none) from rfl, run_equalIn_map_nil_sl w 9999 t k e p h]
/-- given tells r, in all later worlds. -/
def GivenIs (w : World) (pv : Value) (r : Bool) : Prop := ∀ W : World, Below w.heap.size w W → Calls Try.prog 30 #[pv] W fun e w' => e = .returned (.bool r) ∧ W = w'
theorem GivenIs.below {w w' : World} {pv : Value} {r : Bool} (h : GivenIs w pv r) (hb : Below w.heap.size w w') : GivenIs w' pv r := fun W hW => h W (bthen hb hW)
set_option linter.unusedSimpArgs false in
set_option maxRecDepth 100000 in
set_option maxHeartbeats 12800000 in
theorem given_yes {w : World} {vb tb hb : Nat} (h : w.heap[vb]? = some (.cells #[.map (some tb), .map (some hb)] 51 (0, 0))) : GivenIs w (.pointer (some ⟨vb, 0, none⟩)) true := fun W hW => by
  have h2 := keep hW h
  have c0 := cell_of_row W vb 0 _ _ _ h2
  have hq := run_neq_map_nil10 W (some tb) Try.underlying48
  clear h2 h
  go_enter Try.func30, Try.ntmps30
  go_wp2
  go_ret
  exact ⟨rfl, rfl⟩
set_option linter.unusedSimpArgs false in
set_option maxRecDepth 100000 in
set_option maxHeartbeats 12800000 in
theorem given_no {w : World} {pv : Value} (h : BoardNone w pv) : GivenIs w pv false := fun W hW => by
  rcases h with rfl | ⟨vb, rfl, h⟩
  · go_enter Try.func30, Try.ntmps30
    go_wp2
    go_ret
    exact ⟨rfl, rfl⟩
  · have h2 := keep hW h
    have c0 := cell_of_row W vb 0 _ _ _ h2
    have hq := run_neq_map_nil10 W none Try.underlying48
    clear h2 h
    go_enter Try.func30, Try.ntmps30
    go_wp2
    go_ret
    exact ⟨rfl, rfl⟩
theorem BoardAt.given {B : Nat} {w : World} {pv : Value} {tb hb N : Nat} {ts : List PTE} {hs : List PHE} (h : BoardAt B w pv tb hb N ts hs) : GivenIs w pv true := by
  obtain ⟨vb, rfl, h2⟩ := h.has
  exact given_yes h2
set_option linter.unusedSimpArgs false in
set_option maxRecDepth 100000 in
set_option maxHeartbeats 12800000 in
theorem new_any (w : World) : Calls Try.prog 6 #[] w fun e w' => ∃ (vb tb hb : Nat), e = .returned (.pointer (some ⟨vb, 0, none⟩)) ∧ BoardAt w.heap.size w' (.pointer (some ⟨vb, 0, none⟩)) tb hb 0 [] [] ∧ Below w.heap.size w w' := by
  have hmm := @run_makeMap Try.prog
  have h0 : MapK numK (w.alloc (.map #[] 0)) w.heap.size 0 0 (fun _ => none) := MapK.made _ _
  have h1 : MapK twoK ((w.alloc (.map #[] 0)).alloc (.map #[] 0)) (w.heap.size + 1) 0 0 (fun _ => none) := by
    have h9 := MapK.made twoK (w.alloc (.map #[] 0))
    simpa using h9
  have b1 : Below w.heap.size w (w.alloc (.map #[] 0)) := (Below.refl _ _).alloc (Nat.le_refl _) _
  have b2 : Below (w.alloc (.map #[] 0)).heap.size (w.alloc (.map #[] 0)) ((w.alloc (.map #[] 0)).alloc (.map #[] 0)) := (Below.refl _ _).alloc (Nat.le_refl _) _
  have HF : Hid (∀ (g : Nat) (W : World), W.heap[g]? = some (.cells #[.map (some w.heap.size), .map (some (w.heap.size + 1))] 51 (0, 0)) → Below ((w.alloc (.map #[] 0)).alloc (.map #[] 0)).heap.size ((w.alloc (.map #[] 0)).alloc (.map #[] 0)) W → BoardAt w.heap.size W (.pointer (some ⟨g, 0, none⟩)) w.heap.size (w.heap.size + 1) 0 [] [] ∧ Below w.heap.size w W) := Lib.hid (fun g W k1 k2 =>
    ⟨⟨⟨g, rfl, k1⟩, Nat.le_refl _, Nat.le_succ _, by omega, by omega, ⟨0, Nat.le_refl _, (h0.below b2).below k2⟩, ⟨0, Nat.le_refl _, h1.below k2⟩, Inv.nil⟩, bthen (bthen b1 b2) k2⟩)
  clear h0 h1 b1 b2
  go_enter Try.func6, Try.ntmps6
  go_wp2_with (first
    | (refine wpList_build10 rfl rfl (vs := [(0, .map (some w.heap.size)), (1, .map (some (w.heap.size + 1)))]) (by rfl) (build_board _ _) ?_; go_frame)
    | (refine wpList_box10 rfl 51 _ rfl #[.map (some w.heap.size), .map (some (w.heap.size + 1))] rfl ?_; intro g w9 _ h9 k9; have HG := Lib.hid (HF.out g w9 h9 k9); clear h9 k9; go_frame)
    | fail)
  go_ret
  exact ⟨g, _, _, rfl, HG.out.1, HG.out.2⟩
end Go.Proofs.Ytijanllppbambaa
