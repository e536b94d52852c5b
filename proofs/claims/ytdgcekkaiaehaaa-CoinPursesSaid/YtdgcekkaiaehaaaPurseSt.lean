/- How the law's own purse and the purse stand, as one word; what each call of the walk of CoinPurses comes to in its words. -/
import Derived.Test.YtdgcekkaiaehaaaPayAt
import Derived.Test.YtdgcekkaiaehaaaRecs
import Derived.Test.YtdgcekkaiaehaaaSays6
import Derived.Deep.QuietTactic
import Derived.BigQuiet
namespace Go.Proofs.Ytdgcekkaiaehaaa
open Go.RowKit Go.Maps

/-- Every key's amount is an amount. -/
def Amounts (F : Int → Int) : Prop := ∀ k, 0 ≤ F k ∧ F k ≤ 1125899906842624
/-- The law's lists (F: what each key has by them) and the purse (G), with at most M keys each. -/
structure PSt (w0 : World) (M : Nat) (K L : Value) (F G : Int → Int) (W : World) : Prop where
  lists : ∃ ks vs, ks.length = vs.length ∧ ks.length ≤ M ∧ ks.Nodup ∧ hasOf ks vs = F ∧ OwnZ W 3 w0.heap.size K ks ∧ OwnZ W 2 w0.heap.size L vs
  amounts : Amounts G
  purse : PurseAt W w0.heap.size w0.heap.size M G
  below : Below w0.heap.size w0 W
theorem PSt.mono {w0 W : World} {M M' : Nat} {K L : Value} {F G : Int → Int} (h : PSt w0 M K L F G W) (hM : M ≤ M') : PSt w0 M' K L F G W := by
  obtain ⟨⟨ks, vs, h1, h2, h3, h4, h5, h6⟩, ha, hp, hb⟩ := h
  exact ⟨⟨ks, vs, h1, by omega, h3, h4, h5, h6⟩, ha, hp.more hM, hb⟩
theorem PSt.step {w0 W W' : World} {M : Nat} {K L : Value} {F G : Int → Int} (h : PSt w0 M K L F G W) (hb : Below W.heap.size W W') : PSt w0 M K L F G W' := by
  obtain ⟨⟨ks, vs, h1, h2, h3, h4, h5, h6⟩, ha, hp, hb0⟩ := h
  exact ⟨⟨ks, vs, h1, h2, h3, h4, h5.below hb, h6.below hb⟩, ha, hp.below hb, hb0.trans (hb.mono hb0.size)⟩
theorem PSt.start (w : World) : PSt w 0 (.slice none 0 0) (.slice none 0 0) (fun _ => 0) (fun _ => 0) (w.alloc (.cells #[.map none] 39)) :=
  ⟨⟨[], [], rfl, Nat.zero_le _, List.nodup_nil, rfl, OwnZ.nil _ _ _, OwnZ.nil _ _ _⟩, fun _ => by simp, ⟨Nat.le_refl _, .inl ⟨heap_alloc_new _ _, fun _ => rfl⟩⟩, (Below.refl _ _).alloc (Nat.le_refl _) _⟩
theorem drewN_below (W : World) (n : Nat) : Below W.heap.size W (W.drewN n) := ⟨rfl, rfl, rfl, Nat.le_refl _, fun _ _ => rfl⟩
theorem PSt.law_has {w0 W : World} {M : Nat} {K L : Value} {F G : Int → Int} (h : PSt w0 M K L F G W) (hM : M ≤ 900) (key : Int) :
    Calls Try.prog 15 #[K, L, .int .i64 key] W fun e w' => e = .returned (.int .i64 (F key)) ∧ W = w' := by
  obtain ⟨⟨ks, vs, h1, h2, h3, h4, h5, h6⟩, _⟩ := h
  obtain ⟨a, c, rfl, _⟩ := h5.shape
  obtain ⟨b, d, rfl, _⟩ := h6.shape
  rw [← h4]
  have h6' := h6.numbers
  rw [← h1] at h6' ⊢
  exact has_law key h5.numbers h6' (by omega)
theorem PSt.has {w0 W : World} {M : Nat} {K L : Value} {F G : Int → Int} (h : PSt w0 M K L F G W) (key : Int) (hk : Fits key) :
    Calls Try.prog 19 #[.pointer (some ⟨w0.heap.size, 0, none⟩), .int .i64 key] W fun e w' => e = .returned (.int .i64 (G key)) ∧ W = w' := purse_has key hk h.purse
theorem amounts_put {F : Int → Int} (h : Amounts F) (k n : Int) : Amounts (if (addFrom 0 [F k, n]).2 = 0 then upd F k (addFrom 0 [F k, n]).1 else F) := by
  by_cases e : (addFrom 0 [F k, n]).2 = 0
  · rw [if_pos e]
    intro j
    unfold upd
    split
    · exact addFrom_range _ 0 (Int.le_refl _) (by omega)
    · exact h j
  · rw [if_neg e]; exact h
theorem amounts_pay {F : Int → Int} (h : Amounts F) (f t n : Int) : Amounts (payOf F f t n).2 := by
  unfold payOf
  split
  · split
    · exact h
    · split
      · intro j
        show 0 ≤ upd (upd F t _) f _ j ∧ upd (upd F t _) f _ j ≤ _
        unfold upd
        split
        · exact subOf_range _ _
        · split
          · exact addFrom_range _ 0 (Int.le_refl _) (by omega)
          · exact h j
      · exact h
  · exact h
theorem PSt.turned {w0 W W' : World} {M N : Nat} {K L : Value} {F G G' : Int → Int} (h : PSt w0 M K L F G W) (hA : Amounts G') (hp : PurseAt W' w0.heap.size w0.heap.size N G') (ha : Apart 39 W W') (hb : Below w0.heap.size W W') (hN : M ≤ N) : PSt w0 N K L F G' W' := by
  obtain ⟨⟨ks, vs, h1, h2, h3, h4, h5, h6⟩, _, _, hb0⟩ := h
  exact ⟨⟨ks, vs, h1, by omega, h3, h4, h5.apart ha (by decide), h6.apart ha (by decide)⟩, hA, hp, hb0.trans hb⟩
/-- What a call of the purse leaves. -/
def Turned (w0 : World) (M : Nat) (K L : Value) (F G : Int → Int) (r : Int) (W : World) (e : Ending) (w' : World) : Prop :=
  e = .returned (.int .i64 r) ∧ PSt w0 M K L F G w' ∧ Apart 39 W w' ∧ Below w0.heap.size W w'
theorem PSt.put {w0 W : World} {M : Nat} {K L : Value} {F G : Int → Int} (h : PSt w0 M K L F G W) (hM : M ≤ 900) (key n : Int) (hk : Fits key) (hn : Fits n) :
    Calls Try.prog 16 #[.pointer (some ⟨w0.heap.size, 0, none⟩), .int .i64 key, .int .i64 n] W (Turned w0 (M + 1) K L F (if (addFrom 0 [G key, n]).2 = 0 then upd G key (addFrom 0 [G key, n]).1 else G) (addFrom 0 [G key, n]).2 W) :=
  (purse_put key n hk hn (h.amounts key) (by omega) h.below.size h.purse).mono fun _ _ ⟨he, hp, ha, hb⟩ => ⟨he, h.turned (amounts_put h.amounts key n) hp ha hb (by omega), ha, hb⟩
theorem PSt.pay {w0 W : World} {M : Nat} {K L : Value} {F G : Int → Int} (h : PSt w0 M K L F G W) (hM : M ≤ 900) (f t n : Int) (hf : Fits f) (ht : Fits t) (hn : Fits n) :
    Calls Try.prog 18 #[.pointer (some ⟨w0.heap.size, 0, none⟩), .int .i64 f, .int .i64 t, .int .i64 n] W (Turned w0 (M + 2) K L F (payOf G f t n).2 (payOf G f t n).1 W) :=
  (purse_pay f t n hf ht hn h.amounts hM h.below.size h.purse).mono fun _ _ ⟨he, hp, ha, hb⟩ => ⟨he, h.turned (amounts_pay h.amounts f t n) hp ha hb (by omega), ha, hb⟩
/-- What the law's put leaves. -/
def Listed (w0 : World) (M : Nat) (F G : Int → Int) (W : World) (e : Ending) (w' : World) : Prop :=
  ∃ K L, e = .returned (.tuple #[K, L]) ∧ PSt w0 M K L F G w' ∧ Below W.heap.size W w'
theorem PSt.law_put {w0 W : World} {M : Nat} {K L : Value} {F G : Int → Int} (h : PSt w0 M K L F G W) (hM : M ≤ 900) (key n : Int) (hk : Fits key) (hn : Fits n) :
    Calls Try.prog 17 #[K, L, .int .i64 key, .int .i64 n] W (Listed w0 (M + 1) (upd F key n) G W) := by
  obtain ⟨⟨ks, vs, h1, h2, h3, h4, h5, h6⟩, ha, hp, hb0⟩ := h
  obtain ⟨a, c, rfl, _⟩ := h5.shape
  obtain ⟨b, d, rfl, _⟩ := h6.shape
  have h6' := h6
  rw [← h1] at h6' ⊢
  refine (put_law key n hk hn hb0.size h5 h6' (by omega)).mono ?_
  rintro e w' ⟨a', b', c', d', rfl, g1, g2, g3⟩
  have hl := put_len ks vs key n
  exact ⟨_, _, rfl, ⟨⟨putK ks key, putL ks vs key n, hl.1, by omega, put_nodup ks key h3, by rw [has_put ks vs key n h1, h4], g1, g2⟩, ha, (hp.more (by omega)).below g3, hb0.trans (g3.mono hb0.size)⟩, g3⟩
/-- How they stand behind all operations. -/
structure PEnd (w0 : World) (M : Nat) (K L : Value) (ks vs : List Int) (W : World) : Prop where
  own : OwnZ W 3 w0.heap.size K ks
  own' : OwnZ W 2 w0.heap.size L vs
  purse : PurseAt W w0.heap.size w0.heap.size M (hasOf ks vs)
  below : Below w0.heap.size w0 W
theorem PEnd.step {w0 W W' : World} {M : Nat} {K L : Value} {ks vs : List Int} (h : PEnd w0 M K L ks vs W) (hb : Below W.heap.size W W') : PEnd w0 M K L ks vs W' :=
  ⟨h.own.below hb, h.own'.below hb, h.purse.below hb, h.below.trans (hb.mono h.below.size)⟩
theorem PSt.ends {w0 W : World} {M : Nat} {K L : Value} {F : Int → Int} (h : PSt w0 M K L F F W) :
    ∃ (n : Nat) (ks vs : List Int) (ka va : Option Addr) (kc vc : Nat), K = .slice ka n kc ∧ L = .slice va n vc ∧ ks.length = n ∧ vs.length = n ∧ n ≤ M ∧ ks.Nodup ∧ PEnd w0 M (.slice ka n kc) (.slice va n vc) ks vs W := by
  obtain ⟨⟨ks, vs, h1, h2, h3, h4, h5, h6⟩, _, hp, hb⟩ := h
  obtain ⟨a, c, rfl, _⟩ := h5.shape
  obtain ⟨b, d, rfl, _⟩ := h6.shape
  refine ⟨ks.length, ks, vs, a, b, c, d, rfl, by rw [h1], rfl, h1.symm, h2, h3, ⟨h5, ?_, by rw [h4]; exact hp, hb⟩⟩
  rw [h1]
  exact h6
/-- The operation at hand, in a block of its own. -/
def OpAt (W : World) (q : Nat) (kd fr tt z : Int) : Prop := W.heap[q]? = some (.cells #[.int .i64 kd, .int .i64 fr, .int .i64 tt, .int .i64 z] 42 (0, 0))
theorem OpAt.step {W W' : World} {q : Nat} {kd fr tt z : Int} (h : OpAt W q kd fr tt z) (hb : Below W.heap.size W W') : OpAt W' q kd fr tt z := (hb.block _ (lt_of_block h)).trans h
theorem OpAt.apart {W W' : World} {q : Nat} {kd fr tt z : Int} (h : OpAt W q kd fr tt z) (ha : Apart 39 W W') : OpAt W' q kd fr tt z := (ha.block _ _ _ _ h (by decide)).trans h
theorem OpAt.cells {W : World} {q : Nat} {kd fr tt z : Int} (h : OpAt W q kd fr tt z) :
    W.cell? ⟨q, 0, none⟩ = some (.int .i64 kd) ∧ W.cell? ⟨q, 1, none⟩ = some (.int .i64 fr) ∧ W.cell? ⟨q, 2, none⟩ = some (.int .i64 tt) ∧ W.cell? ⟨q, 3, none⟩ = some (.int .i64 z) := by
  refine ⟨?_, ?_, ?_, ?_⟩ <;> (rw [cell_of_row _ _ _ _ _ _ h]; rfl)
/-- Pay, case by case. -/
theorem pay_range {F : Int → Int} {f t n : Int} (h : n < 0 ∨ 1125899906842624 < n) (hf : 0 ≤ F f ∧ F f ≤ 1125899906842624) : payOf F f t n = (5, F) := by
  have e : subOf (F f) [n] = (0, 5) := by unfold subOf; rw [okAmount_yes hf.1 hf.2, addFrom_bad h]; rfl
  unfold payOf
  rw [e]
  rfl
theorem sub_amount {x n : Int} (h0 : 0 ≤ n) (h1 : n ≤ 1125899906842624) (hx : 0 ≤ x ∧ x ≤ 1125899906842624) : subOf x [n] = if x < n then (0, 14) else (x - n, 0) := by
  have e : addFrom 0 [n] = (n, 0) := by rw [addFrom_more h0 h1 (by omega), Int.zero_add]; rfl
  unfold subOf
  rw [okAmount_yes hx.1 hx.2, e]
  rfl
theorem pay_amount {F : Int → Int} {f t n : Int} (h0 : 0 ≤ n) (h1 : n ≤ 1125899906842624) (hf : 0 ≤ F f ∧ F f ≤ 1125899906842624) (h : F f < n) : payOf F f t n = (14, F) := by
  unfold payOf
  rw [sub_amount h0 h1 hf, if_pos h]
  rfl
theorem pay_same {F : Int → Int} {f n : Int} (h0 : 0 ≤ n) (h1 : n ≤ 1125899906842624) (hf : 0 ≤ F f ∧ F f ≤ 1125899906842624) (h : ¬ F f < n) : payOf F f f n = (0, F) := by
  unfold payOf
  rw [sub_amount h0 h1 hf, if_neg h]
  simp
theorem add_two {x n : Int} (hx : 0 ≤ x ∧ x ≤ 1125899906842624) (h0 : 0 ≤ n) (h1 : n ≤ 1125899906842624) : addFrom 0 [x, n] = if 1125899906842624 < x + n then (0, 10) else (x + n, 0) := by
  rw [addFrom_more hx.1 hx.2 (by omega), Int.zero_add]
  by_cases h : 1125899906842624 < x + n
  · rw [addFrom_over h0 h1 h, if_pos h]
  · rw [addFrom_more h0 h1 (by omega), if_neg h]; rfl
theorem pay_over {F : Int → Int} {f t n : Int} (h0 : 0 ≤ n) (h1 : n ≤ 1125899906842624) (hf : 0 ≤ F f ∧ F f ≤ 1125899906842624) (ht : 0 ≤ F t ∧ F t ≤ 1125899906842624) (h : ¬ F f < n) (hne : f ≠ t) (ho : 1125899906842624 < F t + n) : payOf F f t n = (10, F) := by
  unfold payOf
  rw [sub_amount h0 h1 hf, if_neg h, add_two ht h0 h1, if_pos ho]
  simp [hne]
theorem pay_goes {F : Int → Int} {f t n : Int} (h0 : 0 ≤ n) (h1 : n ≤ 1125899906842624) (hf : 0 ≤ F f ∧ F f ≤ 1125899906842624) (ht : 0 ≤ F t ∧ F t ≤ 1125899906842624) (h : ¬ F f < n) (hne : f ≠ t) (ho : ¬ 1125899906842624 < F t + n) : payOf F f t n = (0, upd (upd F f (F f - n)) t (F t + n)) := by
  unfold payOf
  rw [sub_amount h0 h1 hf, if_neg h, add_two ht h0 h1, if_neg ho]
  simp only [if_true, if_neg hne, Prod.mk.injEq, true_and]
  funext k
  unfold upd
  by_cases e1 : k = f
  · subst e1
    simp [hne]
  · simp [e1]
/-- What may become of a payment of z: r, the answer; G, what the keys have then. -/
theorem pay_cases (F : Int → Int) (fr tt z : Int) (hx : 0 ≤ F fr ∧ F fr ≤ 1125899906842624) (hy : 0 ≤ F tt ∧ F tt ≤ 1125899906842624) :
    ∃ (X Y r : Int) (G : Int → Int), X = F fr ∧ Y = F tt ∧ payOf F fr tt z = (r, G) ∧ ((okAmount z = false ∧ r = 5 ∧ G = F) ∨ (okAmount z = true ∧ X < z ∧ r = 14 ∧ G = F) ∨ (okAmount z = true ∧ ¬ X < z ∧ fr = tt ∧ r = 0 ∧ G = F) ∨ (okAmount z = true ∧ ¬ X < z ∧ fr ≠ tt ∧ okAmount (Y + z) = false ∧ IntKind.i64.wrap (Y + z) = Y + z ∧ r = 10 ∧ G = F) ∨ (okAmount z = true ∧ ¬ X < z ∧ fr ≠ tt ∧ okAmount (Y + z) = true ∧ IntKind.i64.wrap (Y + z) = Y + z ∧ IntKind.i64.wrap (X - z) = X - z ∧ Fits (Y + z) ∧ Fits (X - z) ∧ r = 0 ∧ G = upd (upd F fr (X - z)) tt (Y + z))) := by
  obtain ⟨P, hP⟩ : ∃ P, P = payOf F fr tt z := ⟨_, rfl⟩
  refine ⟨F fr, F tt, P.1, P.2, rfl, rfl, hP.symm, ?_⟩
  by_cases h1 : z < 0 ∨ 1125899906842624 < z
  · rw [pay_range h1 hx] at hP
    subst hP
    exact .inl ⟨okAmount_no h1, rfl, rfl⟩
  · have z0 : 0 ≤ z := by omega
    have z1 : z ≤ 1125899906842624 := by omega
    by_cases h2 : F fr < z
    · rw [pay_amount z0 z1 hx h2] at hP
      subst hP
      exact .inr (.inl ⟨okAmount_yes z0 z1, h2, rfl, rfl⟩)
    · by_cases h3 : fr = tt
      · subst h3
        rw [pay_same z0 z1 hx h2] at hP
        subst hP
        exact .inr (.inr (.inl ⟨okAmount_yes z0 z1, h2, rfl, rfl, rfl⟩))
      · have v1 : IntKind.i64.wrap (F tt + z) = F tt + z := IntWalk.i64_in _ (by omega)
        by_cases h4 : 1125899906842624 < F tt + z
        · rw [pay_over z0 z1 hx hy h2 h3 h4] at hP
          subst hP
          exact .inr (.inr (.inr (.inl ⟨okAmount_yes z0 z1, h2, h3, okAmount_no (.inr h4), v1, rfl, rfl⟩)))
        · rw [pay_goes z0 z1 hx hy h2 h3 h4] at hP
          subst hP
          exact .inr (.inr (.inr (.inr ⟨okAmount_yes z0 z1, h2, h3, okAmount_yes (by omega) (by omega), v1, IntWalk.i64_in _ (by omega), ⟨by omega, by omega⟩, ⟨by omega, by omega⟩, rfl, rfl⟩)))
end Go.Proofs.Ytdgcekkaiaehaaa
