/- How a view stands: its map holds the coins of rows; what stays where another map, or a row of the call's own, is written. view.New, view.Len. -/
import Derived.Test.YtdeilkpcmgcbaaaCopied
import Derived.Test.YtdeilkpcmgcbaaaRowOrder
namespace Go.Proofs.Ytdeilkpcmgcbaaa
open Go.RowKit Go.Maps

def coinV (m : Int) (a : Option Addr) (n c : Nat) (h : Int) : Value := .agg #[.int .i64 m, .slice a n c, .int .i64 h]
/-- A row's coin, as the map holds it. -/
def CoinAt (w : World) (r : PRow) (v : Value) : Prop := ∃ a n c ys, v = coinV r.out.m a n c r.height ∧ Ways w a n c ys ∧ TypedW w a n ys ∧ ys.map PWay.strip = r.out.ws.map PWay.strip
/-- Block p is none of ways, nor of numbers. -/
def NoWays (w : World) (p : Nat) : Prop := ∀ cs fr, w.heap[p]? ≠ some (.cells cs 74 fr) ∧ w.heap[p]? ≠ some (.cells cs 3 fr)
theorem noWays_map {w : World} {p : Nat} {es : Array MapEntry} {cl : Nat} (h : w.heap[p]? = some (.map es cl)) : NoWays w p := fun cs fr => ⟨fun e => (by rw [h] at e; cases e), fun e => (by rw [h] at e; cases e)⟩
theorem noWays_cells {w : World} {p : Nat} {cs : Array Value} {t : TypeId} {fr : Nat × Nat} (h : w.heap[p]? = some (.cells cs t fr)) (h1 : t ≠ 74) (h2 : t ≠ 3) : NoWays w p := fun cs fr => ⟨fun e => (by rw [h] at e; cases e; exact h1 rfl), fun e => (by rw [h] at e; cases e; exact h2 rfl)⟩
theorem CoinAt.but {w w' : World} {r : PRow} {v : Value} {p : Nat} (h : CoinAt w r v) (hb : But w.heap.size p w w') (hp : NoWays w p) : CoinAt w' r v := by
  obtain ⟨a, n, c, ys, h1, h2, h3, h4⟩ := h
  obtain ⟨h5, h6⟩ := ways_typed h2 h3 hb hp
  exact ⟨a, n, c, ys, h1, h5, h6, h4⟩
theorem CoinAt.below {w w' : World} {r : PRow} {v : Value} (h : CoinAt w r v) (hb : Below w.heap.size w w') : CoinAt w' r v := by
  obtain ⟨a, n, c, ys, h1, h2, h3, h4⟩ := h
  exact ⟨a, n, c, ys, h1, h2.below hb, h3.below hb, h4⟩
/-- What each place has: the coins of rows. -/
def CoinsOf (w : World) (rows : List PRow) (F : List UInt8 → Int → Option Value) : Prop :=
  (∀ s p, (∀ r ∈ rows, ¬ (r.tx = s ∧ r.place = p)) → F s p = none) ∧ ∀ r ∈ rows, ∃ v, F r.tx r.place = some v ∧ CoinAt w r v
/-- A row that may stand in a view. -/
structure RowOk (r : PRow) : Prop where
  tx : r.tx.length = 32
  place : Fits r.place
  out : outOk r.out.m r.out.ws = true
  low : 0 ≤ r.height
  high : r.height ≤ 1073741824
/-- How a view stands. -/
structure ViewAt (w : World) (pv : Value) (b N : Nat) (rows : List PRow) : Prop where
  has : ∃ vb, pv = .pointer (some ⟨vb, 0, none⟩) ∧ w.heap[vb]? = some (.cells #[.map (some b)] 51 (0, 0))
  few : N ≤ 100
  map : ∃ F, MapRef w b N rows.length F ∧ CoinsOf w rows F
  rising : Rising rows
  ok : ∀ r ∈ rows, RowOk r
theorem MapRef.isMap {w : World} {b N n : Nat} {F : List UInt8 → Int → Option Value} (h : MapRef w b N n F) : ∃ es cl, w.heap[b]? = some (.map es cl) := by
  obtain ⟨D, ⟨es, cl, hb, _⟩, _⟩ := h
  exact ⟨es, cl, hb⟩
theorem ViewAt.isMap {w : World} {pv : Value} {b N : Nat} {rows : List PRow} (h : ViewAt w pv b N rows) : ∃ es cl, w.heap[b]? = some (.map es cl) := by
  obtain ⟨F, h1, _⟩ := h.map
  exact h1.isMap
theorem ViewAt.below {w w' : World} {pv : Value} {b N : Nat} {rows : List PRow} (h : ViewAt w pv b N rows) (hb : Below w.heap.size w w') : ViewAt w' pv b N rows := by
  obtain ⟨vb, h1, h2⟩ := h.has
  obtain ⟨F, h3, h4, h5⟩ := h.map
  exact ⟨⟨vb, h1, (hb.block _ (lt_of_block h2)).trans h2⟩, h.few, ⟨F, h3.below hb, h4, fun r hr => by
    obtain ⟨v, h6, h7⟩ := h5 r hr
    exact ⟨v, h6, h7.below hb⟩⟩, h.rising, h.ok⟩
/-- Where another block is written: one of no ways, nor of numbers, nor a view, nor its map. -/
theorem ViewAt.but {w w' : World} {pv : Value} {b N p : Nat} {rows : List PRow} (h : ViewAt w pv b N rows) (hb : But w.heap.size p w w') (hp : NoWays w p) (hv : ∀ cs fr, w.heap[p]? ≠ some (.cells cs 51 fr)) (hne : b ≠ p) : ViewAt w' pv b N rows := by
  obtain ⟨vb, h1, h2⟩ := h.has
  obtain ⟨F, h3, h4, h5⟩ := h.map
  have hg : w.grownBy w' (some p) := ⟨hb.os, hb.tape, hb.output, hb.size, fun k hk hn => hb.block k hk (fun e => hn (by rw [e]))⟩
  exact ⟨⟨vb, h1, hb.heap h2 (lt_of_block h2) (fun e => hv _ _ (by rw [← e]; exact h2))⟩, h.few, ⟨F, h3.kept hg (fun e => hne (Option.some.inj e)), h4, fun r hr => by
    obtain ⟨v, h6, h7⟩ := h5 r hr
    exact ⟨v, h6, h7.but hb hp⟩⟩, h.rising, h.ok⟩
theorem ViewAt.hasIt {w : World} {pv : Value} {b N : Nat} {rows : List PRow} (h : ViewAt w pv b N rows) : Has w pv (some b) := by
  obtain ⟨vb, h1, h2⟩ := h.has
  exact .inr ⟨vb, h1, lt_of_block h2, cell_of_row _ _ _ _ _ _ h2⟩
theorem ViewAt.mapOr {w : World} {pv : Value} {b N : Nat} {rows : List PRow} (h : ViewAt w pv b N rows) : ∃ F, MapOr w (some b) F ∧ CoinsOf w rows F := by
  obtain ⟨F, h3, h4⟩ := h.map
  exact ⟨F, .inr ⟨b, N, _, rfl, h3, by have := h.few; omega⟩, h4⟩
set_option linter.unusedSimpArgs false in
set_option maxRecDepth 100000 in
set_option maxHeartbeats 12800000 in
theorem new_any (w : World) : Calls Try.prog 6 #[] w fun e w' => ∃ (vb : Nat), e = .returned (.pointer (some ⟨vb, 0, none⟩)) ∧ ViewAt w' (.pointer (some ⟨vb, 0, none⟩)) w.heap.size 0 [] ∧ w.heap.size ≤ vb ∧ Below w.heap.size w w' := by
  have hmm := @run_makeMap Try.prog
  have h1 : ((w.alloc (.map #[] 0)).alloc (.cells #[.map (some w.heap.size)] 51)).heap[w.heap.size + 1]? = some (.cells #[.map (some w.heap.size)] 51 (0, 0)) := heap_alloc_at _ _ _ (by simp)
  have hm : MapRef ((w.alloc (.map #[] 0)).alloc (.cells #[.map (some w.heap.size)] 51)) w.heap.size 0 0 (fun _ _ => none) := (MapRef.made w).below ((Below.refl _ _).alloc (Nat.le_refl _) _)
  have HV : ViewAt ((w.alloc (.map #[] 0)).alloc (.cells #[.map (some w.heap.size)] 51)) (.pointer (some ⟨w.heap.size + 1, 0, none⟩)) w.heap.size 0 [] :=
    ⟨⟨w.heap.size + 1, rfl, h1⟩, by omega, ⟨_, hm, fun _ _ _ => rfl, fun r hr => by cases hr⟩, ⟨List.Pairwise.nil, fun x hx => by cases hx⟩, fun r hr => by cases hr⟩
  have HVH := Lib.hid HV
  clear h1 hm HV
  go_enter Try.func6, Try.ntmps6
  go_wp2
  go_ret
  exact ⟨_, rfl, HVH.out, by omega, ((Below.refl _ _).alloc (Nat.le_refl _) _).alloc (by simp) _⟩
set_option linter.unusedSimpArgs false in
set_option maxRecDepth 100000 in
set_option maxHeartbeats 12800000 in
theorem len_any {w : World} {pv : Value} {b N : Nat} {rows : List PRow} (h : ViewAt w pv b N rows) : Calls Try.prog 18 #[pv] w fun e w' => e = .returned (.int .i64 (rows.length : Nat)) ∧ w = w' := by
  have HH := Lib.hid h.hasIt
  obtain ⟨F, hm, _⟩ := h.map
  have hlen : ∀ ty, (Builtin.len_ #[49] ty #[.map (some b)]).run Try.prog w = .ok (.int .i64 (rows.length : Nat)) w := fun ty => hm.len Try.underlying49 ty
  clear h hm
  generalize (rows.length : Nat) = n at hlen ⊢
  go_enter Try.func18, Try.ntmps18
  go_wp2_with (first | (go_at_call 20; refine (has_any HH.out).mono ?_; rintro e w2 ⟨rfl, rfl⟩) | fail)
  go_ret
  exact ⟨rfl, rfl⟩
set_option linter.unusedSimpArgs false in
set_option maxRecDepth 100000 in
set_option maxHeartbeats 12800000 in
theorem len_nil9 {w : World} {pv : Value} (h : Has w pv none) : Calls Try.prog 18 #[pv] w fun e w' => e = .returned (.int .i64 0) ∧ w = w' := by
  have hlen : ∀ ty, (Builtin.len_ #[49] ty #[.map none]).run Try.prog w = .ok (.int .i64 0) w := fun ty => Maps.len_nil Try.underlying49 ty
  have HH := Lib.hid h
  clear h
  go_enter Try.func18, Try.ntmps18
  go_wp2_with (first | (go_at_call 20; refine (has_any HH.out).mono ?_; rintro e w2 ⟨rfl, rfl⟩) | fail)
  go_ret
  exact ⟨rfl, rfl⟩
end Go.Proofs.Ytdeilkpcmgcbaaa
