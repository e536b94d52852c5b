/- What a view gives at a place: its row's coin, or none. -/
import Derived.Test.YtdeilkpcmgcbaaaViewGet
namespace Go.Proofs.Ytdeilkpcmgcbaaa
open Go.RowKit Go.Maps

theorem outOk_few {m : Int} {xs : List PWay} (h : outOk m xs = true) : FewKeys xs ∧ 1 ≤ xs.length ∧ xs.length ≤ 16 := by
  unfold outOk at h
  simp only [Bool.and_eq_true, decide_eq_true_eq, List.all_eq_true] at h
  obtain ⟨_, ⟨h1, h2⟩, h3⟩ := h
  refine ⟨fun x hx => ?_, h1, h2⟩
  have h4 := h3 x hx
  unfold wayOk at h4
  simp only [Bool.and_eq_true, decide_eq_true_eq] at h4
  omega
theorem strip_len {xs ys : List PWay} (h : ys.map PWay.strip = xs.map PWay.strip) : ys.length = xs.length := by
  have h1 := congrArg List.length h
  simpa using h1
theorem look_row {w : World} {pv : Value} {b N : Nat} {rows : List PRow} {r : PRow} (h : ViewAt w pv b N rows) (hr : r ∈ rows) : ∃ a n c ys, LookRun w (some b) r.tx r.place (coinV r.out.m a n c r.height) true ∧ Ways w a n c ys ∧ ys.map PWay.strip = r.out.ws.map PWay.strip ∧ 1 ≤ n ∧ n ≤ 16 ∧ FewKeys ys := by
  obtain ⟨F, h3, _, h5⟩ := h.map
  obtain ⟨v, h6, a, n, c, ys, rfl, h8, _, h10⟩ := h5 r hr
  have ho := h.ok r hr
  obtain ⟨f1, f2, f3⟩ := outOk_few ho.out
  have hl := strip_len h10
  refine ⟨a, n, c, ys, fun W hW => ?_, h8, h10, by rw [← h8.1]; omega, by rw [← h8.1]; omega, fewKeys_strip h10 f1⟩
  exact (h3.below hW).look Try.underlying49 (z := .agg #[.int .i64 0, .slice none 0 0, .int .i64 0]) (Try.zeroValue41 W) ho.tx ho.place h6
theorem look_no {w : World} {mb : Option Nat} {F : List UInt8 → Int → Option Value} {s : List UInt8} {p : Int} (h : MapOr w mb F) (hs : s.length = 32) (hp : Fits p) (hF : F s p = none) : LookRun w mb s p (coinV 0 none 0 0 0) false := fun W hW => by
  rcases h with ⟨rfl, rfl⟩ | ⟨b, N, m, rfl, hm, _⟩
  · obtain ⟨l, hl⟩ := key_ref hs hp
    have h9 := Maps.look_nil (w := W) true Try.keyRef Try.underlying49 (Try.zeroValue41 W) hl
    exact h9
  · exact (hm.below hW).look_no Try.underlying49 (z := .agg #[.int .i64 0, .slice none 0 0, .int .i64 0]) (Try.zeroValue41 W) hs hp hF
theorem get_row {w : World} {pv : Value} {b N : Nat} {rows : List PRow} {r : PRow} (h : ViewAt w pv b N rows) (hr : r ∈ rows) :
    Calls Try.prog 15 #[pv, .agg (refCells r.tx r.place).toArray] w fun e w' => ∃ v, e = .returned (.tuple #[v, .bool true]) ∧ CoinAt w' r v ∧ Below w.heap.size w w' := by
  obtain ⟨a, n, c, ys, h1, h2, h3, h4, h5, h6⟩ := look_row h hr
  refine (get_any (h.ok r hr).tx h.hasIt h1 h2 (.inr h4) (by omega) h6).mono ?_
  rintro e w' ⟨a', c', zs, rfl, k1, k2, _, k3, k4⟩
  exact ⟨_, rfl, ⟨a', n, c', zs, rfl, k1, k3, k2.trans h3⟩, k4⟩
theorem get_no {w : World} {pv : Value} {mb : Option Nat} {F : List UInt8 → Int → Option Value} {s : List UInt8} {p : Int} (hv : Has w pv mb) (h : MapOr w mb F) (hs : s.length = 32) (hp : Fits p) (hF : F s p = none) :
    Calls Try.prog 15 #[pv, .agg (refCells s p).toArray] w fun e w' => e = .returned (.tuple #[coinV 0 none 0 0 0, .bool false]) ∧ Below w.heap.size w w' := by
  refine (get_any hs hv (look_no h hs hp hF) (Ways.nil w) (.inl rfl) (by omega) (fun x hx => by cases hx)).mono ?_
  rintro e w' ⟨a', c', zs, rfl, k1, _, k2, _, k4⟩
  have e1 : a' = none := k2.resolve_right (by omega)
  have e2 : c' = 0 := k1.2.2.2.1 e1
  subst e1 e2
  exact ⟨rfl, k4⟩
/-- No row of a view is at a place. -/
def NoRow (rows : List PRow) (s : List UInt8) (p : Int) : Prop := ∀ r ∈ rows, ¬ (r.tx = s ∧ r.place = p)
end Go.Proofs.Ytdeilkpcmgcbaaa
