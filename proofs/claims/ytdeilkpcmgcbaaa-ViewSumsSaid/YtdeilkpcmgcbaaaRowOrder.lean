/- The order of a view's rows: whole, and one list alone of given rows stands in it. No function of the program is named. -/
import Derived.Test.YtdeilkpcmgcbaaaLaw9
namespace Go.Proofs.Ytdeilkpcmgcbaaa
open Go.RowKit

theorem refLess_irrefl : ∀ (s : List UInt8) (p : Int), refLess s s p p = false
  | [], p => by simp [refLess]
  | x :: s, p => by rw [refLess, if_pos rfl]; exact refLess_irrefl s p
theorem refLess_total : ∀ {s t : List UInt8} {p q : Int}, s.length = t.length → refLess s t p q = false → refLess t s q p = false → s = t ∧ p = q
  | [], [], p, q, _, h1, h2 => by
    simp [refLess] at h1 h2
    exact ⟨rfl, by omega⟩
  | [], _ :: _, _, _, h, _, _ => by simp at h
  | _ :: _, [], _, _, h, _, _ => by simp at h
  | x :: s, y :: t, p, q, h, h1, h2 => by
    unfold refLess at h1 h2
    by_cases e : x.toNat = y.toNat
    · rw [if_pos e] at h1
      rw [if_pos e.symm] at h2
      obtain ⟨h3, h4⟩ := refLess_total (by simpa using h) h1 h2
      exact ⟨by rw [h3, UInt8.toNat_inj.1 e], h4⟩
    · rw [if_neg e] at h1
      rw [if_neg (fun e' => e e'.symm)] at h2
      simp at h1 h2
      omega
theorem refLess_trans : ∀ {s t u : List UInt8} {p q r : Int}, s.length = t.length → t.length = u.length → refLess s t p q = true → refLess t u q r = true → refLess s u p r = true
  | [], [], [], p, q, r, _, _, h1, h2 => by
    simp [refLess] at h1 h2 ⊢
    omega
  | [], _ :: _, _, _, _, _, h, _, _, _ => by simp at h
  | _ :: _, [], _, _, _, _, h, _, _, _ => by simp at h
  | _, [], _ :: _, _, _, _, _, h, _, _ => by simp at h
  | _, _ :: _, [], _, _, _, _, h, _, _ => by simp at h
  | x :: s, y :: t, z :: u, p, q, r, ha, hb, h1, h2 => by
    unfold refLess at h1 h2 ⊢
    by_cases e1 : x.toNat = y.toNat
    · rw [if_pos e1] at h1
      by_cases e2 : y.toNat = z.toNat
      · rw [if_pos e2] at h2
        rw [if_pos (e1.trans e2)]
        exact refLess_trans (by simpa using ha) (by simpa using hb) h1 h2
      · rw [if_neg e2] at h2
        rw [if_neg (by omega)]
        simp at h2 ⊢
        omega
    · rw [if_neg e1] at h1
      simp at h1
      by_cases e2 : y.toNat = z.toNat
      · rw [if_neg (by omega)]
        simp
        omega
      · rw [if_neg e2] at h2
        simp at h2
        rw [if_neg (by omega)]
        simp
        omega
def rowLess (x y : PRow) : Prop := refLess x.tx y.tx x.place y.place = true
/-- Rows that rise. -/
def Rising (xs : List PRow) : Prop := xs.Pairwise rowLess ∧ ∀ x ∈ xs, x.tx.length = 32
theorem rowLess_irrefl (x : PRow) : ¬ rowLess x x := by
  unfold rowLess
  rw [refLess_irrefl]
  simp
theorem rowLess_trans {x y z : PRow} (hx : x.tx.length = 32) (hy : y.tx.length = 32) (hz : z.tx.length = 32) (h1 : rowLess x y) (h2 : rowLess y z) : rowLess x z := refLess_trans (by omega) (by omega) h1 h2
/-- Rising lists of the same rows are one. -/
theorem rising_one : ∀ {xs ys : List PRow}, Rising xs → Rising ys → (∀ x, x ∈ xs ↔ x ∈ ys) → xs = ys
  | [], [], _, _, _ => rfl
  | [], y :: ys, _, _, h => by have := (h y).2 (by simp); simp at this
  | x :: xs, [], _, _, h => by have := (h x).1 (by simp); simp at this
  | x :: xs, y :: ys, hx, hy, h => by
    obtain ⟨px, lx⟩ := hx
    obtain ⟨py, ly⟩ := hy
    obtain ⟨px1, px2⟩ := List.pairwise_cons.1 px
    obtain ⟨py1, py2⟩ := List.pairwise_cons.1 py
    have exy : x = y := by
      rcases List.mem_cons.1 ((h x).1 (by simp)) with e | e
      · exact e
      · rcases List.mem_cons.1 ((h y).2 (by simp)) with e2 | e2
        · exact e2.symm
        · exact absurd (rowLess_trans (lx x (by simp)) (ly y (by simp)) (lx x (by simp)) (px1 y e2) (py1 x e)) (rowLess_irrefl x)
    subst exy
    rw [rising_one ⟨px2, fun z hz => lx z (by simp [hz])⟩ ⟨py2, fun z hz => ly z (by simp [hz])⟩ (fun z => ?_)]
    have hz := h z
    constructor
    · intro hm
      rcases List.mem_cons.1 (hz.1 (by simp [hm])) with e | e
      · subst e; exact absurd (px1 z hm) (rowLess_irrefl z)
      · exact e
    · intro hm
      rcases List.mem_cons.1 (hz.2 (by simp [hm])) with e | e
      · subst e; exact absurd (py1 z hm) (rowLess_irrefl z)
      · exact e
/-- A row more, at its place. -/
def insRow (r : PRow) : List PRow → List PRow
  | [] => [r]
  | x :: xs => if refLess r.tx x.tx r.place x.place = true then r :: x :: xs else x :: insRow r xs
theorem insRow_mem {r x : PRow} : ∀ {xs : List PRow}, x ∈ insRow r xs ↔ x = r ∨ x ∈ xs
  | [] => by simp [insRow]
  | y :: ys => by
    unfold insRow
    split
    · simp
    · rw [List.mem_cons, insRow_mem (xs := ys), List.mem_cons]
      constructor
      · rintro (h | h | h)
        · exact .inr (.inl h)
        · exact .inl h
        · exact .inr (.inr h)
      · rintro (h | h | h)
        · exact .inr (.inl h)
        · exact .inl h
        · exact .inr (.inr h)
theorem insRow_len (r : PRow) : ∀ xs : List PRow, (insRow r xs).length = xs.length + 1
  | [] => rfl
  | y :: ys => by
    unfold insRow
    split
    · rfl
    · simp [insRow_len r ys]
theorem insRow_rising {r : PRow} (hr : r.tx.length = 32) : ∀ {xs : List PRow}, Rising xs → (∀ x ∈ xs, ¬ (x.tx = r.tx ∧ x.place = r.place)) → Rising (insRow r xs)
  | [], _, _ => ⟨by simp [insRow], fun x hx => by simp [insRow] at hx; subst hx; exact hr⟩
  | y :: ys, h, hne => by
    obtain ⟨ph, lh⟩ := h
    obtain ⟨ph1, ph2⟩ := List.pairwise_cons.1 ph
    have ly := lh y (by simp)
    unfold insRow
    split
    · rename_i hl
      refine ⟨List.pairwise_cons.2 ⟨fun z hz => ?_, ph⟩, fun z hz => ?_⟩
      · rcases List.mem_cons.1 hz with e | e
        · subst e; exact hl
        · exact rowLess_trans hr ly (lh z (by simp [e])) hl (ph1 z e)
      · rcases List.mem_cons.1 hz with e | e
        · subst e; exact hr
        · exact lh z e
    · rename_i hl
      have hyr : rowLess y r := by
        unfold rowLess
        cases h1 : refLess y.tx r.tx y.place r.place with
        | true => rfl
        | false =>
          exfalso
          obtain ⟨e1, e2⟩ := refLess_total (by omega) h1 (by simpa using hl)
          exact hne y (by simp) ⟨e1, e2⟩
      obtain ⟨q1, q2⟩ := insRow_rising hr (xs := ys) ⟨ph2, fun z hz => lh z (by simp [hz])⟩ (fun z hz => hne z (by simp [hz]))
      refine ⟨List.pairwise_cons.2 ⟨fun z hz => ?_, q1⟩, fun z hz => ?_⟩
      · rcases insRow_mem.1 hz with e | e
        · subst e; exact hyr
        · exact ph1 z e
      · rcases List.mem_cons.1 hz with e | e
        · subst e; exact ly
        · exact q2 z e
/-- A row less. -/
theorem rising_erase {xs : List PRow} (h : Rising xs) (k : Nat) : Rising (xs.eraseIdx k) :=
  ⟨h.1.sublist (List.eraseIdx_sublist xs k), fun x hx => h.2 x ((List.eraseIdx_sublist xs k).subset hx)⟩
end Go.Proofs.Ytdeilkpcmgcbaaa
