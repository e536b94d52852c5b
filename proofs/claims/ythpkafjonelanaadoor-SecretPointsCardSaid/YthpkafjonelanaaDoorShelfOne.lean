/- One word for a shelf, with or without secrets, and for the blocks that it has; what its calls answer and leave, in these words. -/
import Derived.Test.YthpkafjonelanaaDoorShelfPut
namespace Go.Proofs.YthpkafjonelanaaDoor
open Go.RowKit

/-- A shelf in block ps, that has the blocks T. -/
def Shelf13 (w : World) (B ps : Nat) (T : Nat → Prop) (ls : List (List UInt8)) : Prop :=
  B ≤ ps ∧ ((ls = [] ∧ ShelfNo w ps ∧ ∀ k, T k ↔ k = ps) ∨ ∃ r a c, ShelfIs w B ps r (.slice a ls.length c) ls ∧ ∀ k, T k ↔ (k = ps ∨ k = r ∨ (Value.slice a ls.length c).ownBlock = some k))
theorem Shelf13.cell {w : World} {B ps : Nat} {T : Nat → Prop} {ls : List (List UInt8)} (h : Shelf13 w B ps T ls) : ∃ p, w.heap[ps]? = some (.cells #[p, .int .i64 ((ls.length : Nat) : Int)] 34 (0, 0)) := by
  rcases h.2 with ⟨rfl, h1, _⟩ | ⟨r, a, c, h1, _⟩
  · exact ⟨_, h1⟩
  · exact ⟨_, h1.cell⟩
theorem Shelf13.lt {w : World} {B ps : Nat} {T : Nat → Prop} {ls : List (List UInt8)} (h : Shelf13 w B ps T ls) : ∀ k, T k → B ≤ k ∧ k < w.heap.size := by
  intro k hk
  rcases h.2 with ⟨rfl, h1, hT⟩ | ⟨r, a, c, h1, hT⟩
  · rw [(hT k).1 hk]
    exact ⟨h.1, lt_of_block h1⟩
  · rcases (hT k).1 hk with rfl | rfl | e
    · exact ⟨h.1, lt_of_block h1.cell⟩
    · exact ⟨h1.base, lt_of_block h1.rack⟩
    · exact h1.own.lt k e
theorem Shelf13.stay {w w' : World} {B ps : Nat} {T : Nat → Prop} {ls : List (List UInt8)} (h : Shelf13 w B ps T ls) (hk : ∀ k, T k → w'.heap[k]? = w.heap[k]?) : Shelf13 w' B ps T ls := by
  refine ⟨h.1, ?_⟩
  rcases h.2 with ⟨h0, h1, hT⟩ | ⟨r, a, c, h1, hT⟩
  · exact .inl ⟨h0, (hk ps ((hT ps).2 rfl)).trans h1, hT⟩
  · exact .inr ⟨r, a, c, ⟨(hk ps ((hT ps).2 (.inl rfl))).trans h1.cell, (hk r ((hT r).2 (.inr (.inl rfl)))).trans h1.rack, h1.own.stay (fun k e => hk k ((hT k).2 (.inr (.inr e)))), h1.full, h1.base⟩, hT⟩
theorem Shelf13.below {w w' : World} {B ps : Nat} {T : Nat → Prop} {ls : List (List UInt8)} (h : Shelf13 w B ps T ls) (hb : Below w.heap.size w w') : Shelf13 w' B ps T ls := h.stay (fun k hk => hb.block k (h.lt k hk).2)
theorem Shelf13.new {w : World} {B ps : Nat} (h : ShelfNo w ps) (hB : B ≤ ps) : Shelf13 w B ps (fun k => k = ps) [] := ⟨hB, .inl ⟨rfl, h, fun _ => Iff.rfl⟩⟩
theorem Shelf13.at {w : World} {B ps i : Nat} {T : Nat → Prop} {ls : List (List UInt8)} (h : Shelf13 w B ps T ls) (hi : i < ls.length) : ∃ r v, ShelfIs w B ps r v ls := by
  rcases h.2 with ⟨rfl, _⟩ | ⟨r, a, c, h1, _⟩
  · simp at hi
  · exact ⟨_, _, h1⟩
theorem len_one13 {w : World} {B ps : Nat} {T : Nat → Prop} {ls : List (List UInt8)} (h : Shelf13 w B ps T ls) :
    Calls Tryd.prog 14 #[.pointer (some ⟨ps, 0, none⟩)] w fun e w' => e = .returned (.int .i64 ((ls.length : Nat) : Int)) ∧ w = w' := by
  obtain ⟨p, hp⟩ := h.cell
  exact len_at13 hp
theorem get_one13 {w : World} {B ps i : Nat} {T : Nat → Prop} {ls : List (List UInt8)} (h : Shelf13 w B ps T ls) (hi : i < ls.length) :
    Calls Tryd.prog 15 #[.pointer (some ⟨ps, 0, none⟩), .int .i64 (i : Int)] w fun e w' => e = .returned (.tuple #[.agg (cellsOf (ls.getD i [])).toArray, .bool true]) ∧ Below w.heap.size w w' := by
  obtain ⟨r, v, h1⟩ := h.at hi
  exact get_at13 h1 hi
/-- Whether a state has a secret. -/
def hasState (z : Int) (n : Nat) : Bool := decide (0 ≤ z) && decide (z < (n : Int))
theorem get_any13 {w : World} {B ps : Nat} {T : Nat → Prop} {ls : List (List UInt8)} {z : Int} (h : Shelf13 w B ps T ls) (hl : ∀ s ∈ ls, s.length = 32) :
    Calls Tryd.prog 15 #[.pointer (some ⟨ps, 0, none⟩), .int .i64 z] w fun e w' => ∃ x : List UInt8, x.length = 32 ∧ e = .returned (.tuple #[.agg (cellsOf x).toArray, .bool (hasState z ls.length)]) ∧ Below w.heap.size w w' := by
  obtain ⟨p, hp⟩ := h.cell
  by_cases h0 : z < 0
  · refine (get_low13 h0).mono ?_
    rintro e w' ⟨rfl, hb⟩
    exact ⟨zero32, rfl, by rw [show hasState z ls.length = false by simp [hasState]; omega], hb⟩
  · by_cases h1 : ((ls.length : Nat) : Int) ≤ z
    · refine (get_high13 hp (by omega) h1).mono ?_
      rintro e w' ⟨rfl, hb⟩
      exact ⟨zero32, rfl, by rw [show hasState z ls.length = false by simp [hasState]; omega], hb⟩
    · obtain ⟨i, hi⟩ : ∃ i : Nat, z = (i : Int) := ⟨z.toNat, by omega⟩
      subst hi
      have hil : i < ls.length := by omega
      refine (get_one13 h hil).mono ?_
      rintro e w' ⟨rfl, hb⟩
      refine ⟨ls.getD i [], ?_, by rw [show hasState (i : Int) ls.length = true by simp [hasState]; omega], hb⟩
      rw [List.getD_eq_getElem?_getD, List.getElem?_eq_getElem hil]
      exact hl _ (List.getElem_mem hil)
theorem all_one13 {w : World} {B ps : Nat} {T : Nat → Prop} {ls : List (List UInt8)} (h : Shelf13 w B ps T ls) (hs : ls.length ≤ 2000000) :
    Calls Tryd.prog 13 #[.pointer (some ⟨ps, 0, none⟩)] w fun e w' => ∃ a' c', e = .returned (.slice a' ls.length c') ∧ OwnS w' w.heap.size (.slice a' ls.length c') ls ∧ Below w.heap.size w w' := by
  rcases h.2 with ⟨rfl, h1, _⟩ | ⟨r, a, c, h1, _⟩
  · refine (all_no13 h1).mono ?_
    rintro e w' ⟨rfl, rfl⟩
    exact ⟨none, 0, rfl, OwnS.nil _ _, Below.refl _ _⟩
  · exact all_is13 h1 hs
theorem clone_one13 {w : World} {B ps : Nat} {T : Nat → Prop} {ls : List (List UInt8)} (h : Shelf13 w B ps T ls) (hs : ls.length ≤ 2000000) :
    Calls Tryd.prog 11 #[.pointer (some ⟨ps, 0, none⟩)] w fun e w' => ∃ p, e = .returned (.agg #[.pointer p, .int .i64 ((ls.length : Nat) : Int)]) ∧ Below w.heap.size w w' := by
  rcases h.2 with ⟨rfl, h1, _⟩ | ⟨r, a, c, h1, _⟩
  · exact (clone_no13 h1).mono fun e w' ⟨h2, h3⟩ => ⟨none, h2, h3⟩
  · refine (clone_is13 h1 hs).mono ?_
    rintro e w' ⟨r', a', c', rfl, _, _, _, hb⟩
    exact ⟨_, rfl, hb⟩
theorem put_one13 {w : World} {B ps : Nat} {T : Nat → Prop} {ls : List (List UInt8)} {x h : List UInt8} (hsh : Shelf13 w B ps T ls) (hm : ls.length ≤ 1048576) (hx : x.length = 32) (he : shownSum x = h) (hk : KsAt w) (hB : B ≤ w.heap.size) :
    Calls Tryd.prog 12 #[.pointer (some ⟨ps, 0, none⟩), .agg (cellsOf x).toArray, .agg (cellsOf h).toArray] w fun e w' => e = .returned (.int .i64 0) ∧ ∃ T', Shelf13 w' B ps T' (ls ++ [x]) ∧ (∀ k, T' k → T k ∨ w.heap.size ≤ k) ∧ Bar (fun k _ => T k) w w' := by
  subst he
  rcases hsh.2 with ⟨rfl, h1, hT⟩ | ⟨r, a, c, h1, hT⟩
  · refine (put_no13 h1 hB hx hk).mono ?_
    rintro e w' ⟨rfl, r, a, c, h2, h3, h4, h5⟩
    refine ⟨rfl, fun k => k = ps ∨ k = r ∨ (Value.slice a 1 c).ownBlock = some k, ⟨hsh.1, .inr ⟨r, a, c, h2, fun k => Iff.rfl⟩⟩, ?_, Bar.but h5 (fun _ => (hT ps).2 rfl)⟩
    rintro k (rfl | rfl | e)
    · exact .inl ((hT _).2 rfl)
    · exact .inr h3
    · exact .inr (h4 k e)
  · refine (put_is13 h1 rfl hm hB hx hk).mono ?_
    rintro e w' ⟨rfl, a', c', h2, h4, h5⟩
    refine ⟨rfl, fun k => k = ps ∨ k = r ∨ (Value.slice a' (ls.length + 1) c').ownBlock = some k, ⟨hsh.1, .inr ⟨r, a', c', by rw [List.length_append]; exact h2, fun k => by rw [List.length_append]; exact Iff.rfl⟩⟩, ?_, h5.mono (fun k o h => (hT k).2 h)⟩
    rintro k (rfl | rfl | e)
    · exact .inl ((hT _).2 (.inl rfl))
    · exact .inl ((hT _).2 (.inr (.inl rfl)))
    · rcases h4 k e with h | h
      · exact .inl ((hT _).2 (.inr (.inr h)))
      · exact .inr h
end Go.Proofs.YthpkafjonelanaaDoor
