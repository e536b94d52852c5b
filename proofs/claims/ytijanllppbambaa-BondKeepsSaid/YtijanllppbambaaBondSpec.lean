/- The document's board as plain lists: what each call answers and leaves, and what stays so. No function of the program is named. -/
import Derived.Test.YtijanllppbambaaBondMem
namespace Go.Proofs.Ytijanllppbambaa

/-! ### Lists by keys -/
section
variable {β κ : Type} [DecidableEq κ] (key : β → κ)
def lookK (k : κ) : List β → Option β
  | [] => none
  | x :: xs => if key x = k then some x else lookK k xs
def ixK (k : κ) : List β → Nat → Int
  | [], _ => -1
  | x :: xs, i => if key x = k then i else ixK k xs (i + 1)
def delK (k : κ) (xs : List β) : List β := xs.filter (fun x => !decide (key x = k))
def setK (k : κ) (y : β) (xs : List β) : List β := xs.map (fun x => if key x = k then y else x)
variable {key} {k : κ} {xs : List β}
theorem lookK_mem : ∀ {xs : List β} {x : β}, lookK key k xs = some x → x ∈ xs ∧ key x = k
  | [], _, h => by cases h
  | y :: xs, x, h => by
    unfold lookK at h
    split at h
    · rename_i e
      cases h
      exact ⟨by simp, e⟩
    · obtain ⟨h1, h2⟩ := lookK_mem h
      exact ⟨by simp [h1], h2⟩
theorem lookK_none : ∀ {xs : List β}, lookK key k xs = none ↔ ∀ x ∈ xs, key x ≠ k
  | [] => by simp [lookK]
  | y :: xs => by
    unfold lookK
    by_cases e : key y = k
    · rw [if_pos e]
      simp [e]
    · rw [if_neg e, lookK_none]
      simp [e]
theorem lookK_of_mem : ∀ {xs : List β} {x : β}, (xs.map key).Nodup → x ∈ xs → lookK key (key x) xs = some x
  | [], _, _, h => by cases h
  | y :: xs, x, hn, h => by
    rw [List.map_cons, List.nodup_cons] at hn
    unfold lookK
    rcases List.mem_cons.1 h with rfl | h
    · rw [if_pos rfl]
    · rw [if_neg (fun e => hn.1 (by rw [e]; exact List.mem_map.2 ⟨x, h, rfl⟩)), lookK_of_mem hn.2 h]
theorem lookK_end (y : β) : ∀ (xs : List β), lookK key k (xs ++ [y]) = (match lookK key k xs with | some x => some x | none => if key y = k then some y else none)
  | [] => by simp [lookK]
  | x :: xs => by
    have ih := lookK_end y xs
    rw [List.cons_append]
    unfold lookK
    by_cases e : key x = k
    · simp [e]
    · simp [e, ih]
theorem ixK_cases : ∀ (xs : List β) (i : Nat), (∃ (j : Nat) (h : j < xs.length), ixK key k xs i = ((i + j : Nat) : Int) ∧ key xs[j] = k ∧ lookK key k xs = some xs[j]) ∨ (ixK key k xs i = -1 ∧ lookK key k xs = none)
  | [], i => .inr ⟨rfl, rfl⟩
  | x :: xs, i => by
    unfold ixK lookK
    by_cases e : key x = k
    · exact .inl ⟨0, by simp, by simp [e], e, by simp [e]⟩
    · rw [if_neg e, if_neg e]
      rcases ixK_cases xs (i + 1) with ⟨j, hj, h1, h2, h3⟩ | ⟨h1, h2⟩
      · exact .inl ⟨j + 1, by simpa using hj, by rw [h1]; congr 1; omega, h2, h3⟩
      · exact .inr ⟨h1, h2⟩
theorem delK_keys : (delK key k xs).map key = (xs.map key).filter (fun a => !decide (a = k)) := by
  unfold delK
  rw [List.filter_map]
  rfl
theorem delK_nodup (h : (xs.map key).Nodup) : ((delK key k xs).map key).Nodup := by
  rw [delK_keys]
  exact h.sublist List.filter_sublist
theorem delK_mem {x : β} : x ∈ delK key k xs ↔ x ∈ xs ∧ key x ≠ k := by
  unfold delK
  rw [List.mem_filter]
  simp
theorem delK_look {a : κ} : lookK key a (delK key k xs) = if a = k then none else lookK key a xs := by
  by_cases e : a = k
  · rw [if_pos e, lookK_none]
    intro x hx
    rw [e]
    exact (delK_mem.1 hx).2
  · rw [if_neg e]
    induction xs with
    | nil => rfl
    | cons y xs ih =>
      unfold delK at ih ⊢
      by_cases h : key y = k
      · rw [List.filter_cons_of_neg (by simp [h]), ih]
        rw [lookK, if_neg (fun e2 => e (by rw [← e2, h]))]
      · rw [List.filter_cons_of_pos (by simp [h]), lookK, lookK, ih]
theorem setK_keys {y : β} (hy : key y = k) : (setK key k y xs).map key = xs.map key := by
  unfold setK
  rw [List.map_map]
  apply List.map_congr_left
  intro x _
  show key (if key x = k then y else x) = key x
  split
  · rename_i h
    rw [hy, h]
  · rfl
theorem setK_look {y : β} (hy : key y = k) (hs : lookK key k xs ≠ none) {a : κ} : lookK key a (setK key k y xs) = if a = k then some y else lookK key a xs := by
  have h : ∀ (xs : List β) (a : κ), a ≠ k → lookK key a (setK key k y xs) = lookK key a xs := by
    intro xs a ha
    induction xs with
    | nil => rfl
    | cons x xs ih =>
      unfold setK at ih ⊢
      rw [List.map_cons, lookK, lookK, ih]
      by_cases e : key x = k
      · rw [if_pos e, if_neg (by rw [hy]; exact fun e2 => ha e2.symm), if_neg (by rw [e]; exact fun e2 => ha e2.symm)]
      · rw [if_neg e]
  by_cases e : a = k
  · subst e
    rw [if_pos rfl]
    induction xs with
    | nil => exact absurd rfl hs
    | cons x xs ih =>
      unfold setK at ih ⊢
      rw [List.map_cons, lookK]
      by_cases e : key x = a
      · rw [if_pos e, if_pos hy]
      · rw [if_neg e, if_neg e]
        exact ih (by rw [lookK, if_neg e] at hs; exact hs)
  · rw [if_neg e]
    exact h xs a e
theorem setK_mem {y x : β} (h : x ∈ setK key k y xs) : x = y ∨ (x ∈ xs ∧ key x ≠ k) := by
  unfold setK at h
  obtain ⟨z, hz, rfl⟩ := List.mem_map.1 h
  split
  · exact .inl rfl
  · exact .inr ⟨hz, by assumption⟩
theorem setK_len {y : β} : (setK key k y xs).length = xs.length := by simp [setK]
theorem setK_at (y : β) (hn : (xs.map key).Nodup) {j : Nat} (hj : j < xs.length) : xs.set j y = setK key (key xs[j]) y xs := by
  unfold setK
  apply List.ext_getElem (by simp)
  intro i h1 h2
  rw [List.getElem_set, List.getElem_map]
  by_cases e : j = i
  · subst e
    simp
  · rw [if_neg e, if_neg]
    intro h9
    have h3 : i < xs.length := by simpa using h1
    apply e
    have h8 : (xs.map key)[i]'(by simpa using h3) = (xs.map key)[j]'(by simpa using hj) := by simpa using h9
    exact (List.getElem_inj hn).1 h8.symm
theorem delK_at (hn : (xs.map key).Nodup) {j : Nat} (hj : j < xs.length) : xs.take j ++ xs.drop (j + 1) = delK key (key xs[j]) xs := by
  have e : xs = xs.take j ++ xs[j] :: xs.drop (j + 1) := by
    rw [← List.drop_eq_getElem_cons hj, List.take_append_drop]
  obtain ⟨y, hy⟩ : ∃ y, y = xs[j] := ⟨_, rfl⟩
  rw [← hy] at e ⊢
  obtain ⟨us, hus⟩ : ∃ us, us = xs.take j := ⟨_, rfl⟩
  obtain ⟨bs, hbs⟩ : ∃ bs, bs = xs.drop (j + 1) := ⟨_, rfl⟩
  rw [← hus, ← hbs] at e ⊢
  rw [e] at hn ⊢
  rw [List.map_append, List.map_cons, List.nodup_append] at hn
  obtain ⟨h1, h2, h3⟩ := hn
  rw [List.nodup_cons] at h2
  unfold delK
  rw [List.filter_append, List.filter_cons_of_neg (by simp), List.filter_eq_self.2, List.filter_eq_self.2]
  · intro x hx
    have : key x ≠ key y := fun e9 => h2.1 (by rw [← e9]; exact List.mem_map.2 ⟨x, hx, rfl⟩)
    simpa using this
  · intro x hx
    have : key x ≠ key y := fun e9 => h3 (key x) (List.mem_map.2 ⟨x, hx, rfl⟩) (key y) (by simp) e9
    simpa using this
theorem delK_len (hn : (xs.map key).Nodup) (h : lookK key k xs ≠ none) : (delK key k xs).length + 1 = xs.length := by
  rcases ixK_cases (key := key) (k := k) xs 0 with ⟨j, hj, _, h2, _⟩ | ⟨_, h2⟩
  · rw [← h2, ← delK_at hn hj, List.length_append, List.length_take, List.length_drop]
    omega
  · exact absurd h2 h
end

/-! ### The board -/
def hkey (x : PHE) : Int × Int := (x.n, x.h.ch.id)
def lookT (n : Int) (ts : List PTE) : Option PTE := lookK PTE.n n ts
def lookH (n id : Int) (hs : List PHE) : Option PHE := lookK hkey (n, id) hs
def putT (n : Int) (t : PTow) (ts : List PTE) : List PTE := if lookT n ts = none then ts ++ [⟨n, t⟩] else setK PTE.n n ⟨n, t⟩ ts
def heldH (n : Int) : List PHE → Int
  | [] => 0
  | x :: xs => (if x.n = n then x.h.amount else 0) + heldH n xs
def totT : List PTE → Int
  | [] => 0
  | x :: xs => x.t.locked + totT xs
def freeB (n : Int) (ts : List PTE) (hs : List PHE) : Int := (match lookT n ts with | some x => x.t.locked - x.t.asked | none => 0) - heldH n hs
theorem lookT_put {n m : Int} {t : PTow} {ts : List PTE} : lookT m (putT n t ts) = if m = n then some ⟨n, t⟩ else lookT m ts := by
  unfold putT lookT
  by_cases h : lookK PTE.n n ts = none
  · rw [if_pos h, lookK_end]
    by_cases e : m = n
    · subst e
      rw [h]
    · have e' : ¬ n = m := fun e9 => e e9.symm
      rw [if_neg e]
      cases h9 : lookK PTE.n m ts with
      | none => simp [e']
      | some x => rfl
  · rw [if_neg h, setK_look (k := n) (y := ⟨n, t⟩) rfl h]
theorem putT_len {n : Int} {t : PTow} {ts : List PTE} : (putT n t ts).length = if lookT n ts = none then ts.length + 1 else ts.length := by
  unfold putT
  split
  · simp
  · exact setK_len
theorem putT_nodup {n : Int} {t : PTow} {ts : List PTE} (h : (ts.map PTE.n).Nodup) : ((putT n t ts).map PTE.n).Nodup := by
  unfold putT
  split
  · rename_i h9
    rw [List.map_append, List.nodup_append]
    refine ⟨h, by simp, fun a ha b hb e => ?_⟩
    simp at hb
    subst hb
    subst e
    obtain ⟨x, hx, e⟩ := List.mem_map.1 ha
    exact lookK_none.1 h9 x hx e
  · rw [setK_keys (k := n) (y := (⟨n, t⟩ : PTE)) rfl]
    exact h
theorem putT_mem {n : Int} {t : PTow} {ts : List PTE} {x : PTE} (h : x ∈ putT n t ts) : x = ⟨n, t⟩ ∨ (x ∈ ts ∧ x.n ≠ n) := by
  unfold putT at h
  split at h
  · rename_i h9
    rcases List.mem_append.1 h with h | h
    · exact .inr ⟨h, lookK_none.1 h9 x h⟩
    · simp at h
      exact .inl h
  · exact setK_mem h
theorem totT_append : ∀ (xs ys : List PTE), totT (xs ++ ys) = totT xs + totT ys
  | [], ys => by simp [totT]
  | x :: xs, ys => by
    have ih := totT_append xs ys
    simp only [List.cons_append, totT, ih]
    omega
theorem totT_set {n : Int} {t : PTow} : ∀ {ts : List PTE}, (ts.map PTE.n).Nodup → totT (setK PTE.n n ⟨n, t⟩ ts) = totT ts + (match lookT n ts with | some x => t.locked - x.t.locked | none => 0)
  | [], _ => by simp [setK, totT, lookT, lookK]
  | x :: xs, h => by
    rw [List.map_cons, List.nodup_cons] at h
    have ih := totT_set (n := n) (t := t) h.2
    unfold setK lookT at ih ⊢
    rw [List.map_cons, lookK]
    by_cases e : x.n = n
    · have h9 : lookK PTE.n n xs = none := lookK_none.2 (fun y hy e9 => h.1 (by rw [e, ← e9]; exact List.mem_map.2 ⟨y, hy, rfl⟩))
      rw [h9] at ih
      rw [if_pos e, if_pos e]
      simp only [totT] at ih ⊢
      omega
    · rw [if_neg e, if_neg e]
      simp only [totT] at ih ⊢
      omega
theorem totT_put {n : Int} {t : PTow} {ts : List PTE} (h : (ts.map PTE.n).Nodup) : totT (putT n t ts) = totT ts + t.locked - (match lookT n ts with | some x => x.t.locked | none => 0) := by
  unfold putT
  split
  · rename_i h9
    rw [totT_append, h9]
    simp [totT]
  · rename_i h9
    rw [totT_set h]
    cases h8 : lookT n ts with
    | none => exact absurd h8 h9
    | some x => simp only; omega
theorem heldH_append (n : Int) : ∀ (xs ys : List PHE), heldH n (xs ++ ys) = heldH n xs + heldH n ys
  | [], ys => by simp [heldH]
  | x :: xs, ys => by
    have ih := heldH_append n xs ys
    simp only [List.cons_append, heldH, ih]
    omega
theorem heldH_nonneg (n : Int) : ∀ (xs : List PHE), (∀ x ∈ xs, 1 ≤ x.h.amount) → 0 ≤ heldH n xs
  | [], _ => Int.le_refl _
  | x :: xs, h => by
    have h1 := heldH_nonneg n xs (fun y hy => h y (by simp [hy]))
    have h2 := h x (by simp)
    unfold heldH
    split <;> omega
theorem heldH_none (n : Int) : ∀ (xs : List PHE), (∀ x ∈ xs, x.n ≠ n) → heldH n xs = 0
  | [], _ => rfl
  | x :: xs, h => by
    rw [heldH, if_neg (h x (by simp)), heldH_none n xs (fun y hy => h y (by simp [hy]))]
    rfl
theorem heldH_del (m n id : Int) : ∀ {xs : List PHE}, (xs.map hkey).Nodup → heldH m (delK hkey (n, id) xs) = heldH m xs - (match lookH n id xs with | some x => if n = m then x.h.amount else 0 | none => 0)
  | [], _ => by simp [delK, heldH, lookH, lookK]
  | x :: xs, h => by
    rw [List.map_cons, List.nodup_cons] at h
    have ih := heldH_del m n id h.2
    unfold delK lookH at ih ⊢
    rw [lookK]
    by_cases e : hkey x = (n, id)
    · have h9 : lookK hkey (n, id) xs = none := lookK_none.2 (fun y hy e9 => h.1 (by rw [e, ← e9]; exact List.mem_map.2 ⟨y, hy, rfl⟩))
      rw [h9] at ih
      rw [if_pos e, List.filter_cons_of_neg (by simp [e])]
      have e1 : x.n = n := congrArg Prod.fst e
      rw [e1.symm] at ih ⊢
      simp only [heldH] at ih ⊢
      omega
    · rw [if_neg e, List.filter_cons_of_pos (by simp [e])]
      simp only [heldH] at ih ⊢
      omega
theorem heldH_set (m : Int) {n id : Int} {y : PHE} (hy : hkey y = (n, id)) : ∀ {xs : List PHE}, (xs.map hkey).Nodup → heldH m (setK hkey (n, id) y xs) = heldH m xs + (match lookH n id xs with | some x => if n = m then y.h.amount - x.h.amount else 0 | none => 0)
  | [], _ => by simp [setK, heldH, lookH, lookK]
  | x :: xs, h => by
    rw [List.map_cons, List.nodup_cons] at h
    have ih := heldH_set m hy h.2
    unfold setK lookH at ih ⊢
    rw [List.map_cons, lookK]
    have y1 : y.n = n := congrArg Prod.fst hy
    by_cases e : hkey x = (n, id)
    · have h9 : lookK hkey (n, id) xs = none := lookK_none.2 (fun y hy e9 => h.1 (by rw [e, ← e9]; exact List.mem_map.2 ⟨y, hy, rfl⟩))
      rw [h9] at ih
      rw [if_pos e, if_pos e]
      have e1 : x.n = n := congrArg Prod.fst e
      simp only [heldH, e1, y1] at ih ⊢
      split <;> omega
    · rw [if_neg e, if_neg e]
      simp only [heldH] at ih ⊢
      omega

/-! ### What stays so -/
structure Inv (ts : List PTE) (hs : List PHE) : Prop where
  tk : (ts.map PTE.n).Nodup
  hk : (hs.map hkey).Nodup
  tn : ∀ x ∈ ts, 0 ≤ x.n ∧ x.n ≤ 15
  tr : ∀ x ∈ ts, x.t.root.length = 32
  ta : ∀ x ∈ ts, 0 ≤ x.t.asked ∧ -1099511627776 ≤ x.t.at9 ∧ x.t.at9 ≤ 1099511627776
  tl : ∀ x ∈ ts, x.t.asked + heldH x.n hs ≤ x.t.locked
  hin : ∀ x ∈ hs, HEIn x
  ha : ∀ x ∈ hs, 1 ≤ x.h.amount ∧ -1099511627776 ≤ x.h.at9 ∧ x.h.at9 ≤ 1099511627776
  ht : ∀ x ∈ hs, lookT x.n ts ≠ none
  tot : totT ts ≤ 1125899906842624
theorem Inv.nil : Inv [] [] := ⟨List.nodup_nil, List.nodup_nil, (fun _ h => by cases h), (fun _ h => by cases h), (fun _ h => by cases h), (fun _ h => by cases h), (fun _ h => by cases h), (fun _ h => by cases h), (fun _ h => by cases h), by simp [totT]⟩
section
variable {ts : List PTE} {hs : List PHE}
theorem Inv.held0 (h : Inv ts hs) (n : Int) : 0 ≤ heldH n hs := heldH_nonneg n hs (fun x hx => (h.ha x hx).1)
theorem Inv.locked0 (h : Inv ts hs) {x : PTE} (hx : x ∈ ts) : 0 ≤ x.t.locked := by
  have h1 := h.held0 x.n
  have h2 := h.tl x hx
  have h3 := h.ta x hx
  omega
theorem totT_nonneg : ∀ {xs : List PTE}, (∀ x ∈ xs, 0 ≤ x.t.locked) → 0 ≤ totT xs
  | [], _ => Int.le_refl _
  | x :: xs, h => by
    have h1 := totT_nonneg (xs := xs) (fun y hy => h y (by simp [hy]))
    have h2 := h x (by simp)
    unfold totT
    omega
theorem totT_le : ∀ {xs : List PTE}, (∀ x ∈ xs, 0 ≤ x.t.locked) → ∀ x ∈ xs, x.t.locked ≤ totT xs
  | [], _, _, hx => by cases hx
  | y :: xs, h, x, hx => by
    have h1 := totT_nonneg (xs := xs) (fun z hz => h z (by simp [hz]))
    have h2 := h y (by simp)
    unfold totT
    rcases List.mem_cons.1 hx with rfl | hx
    · omega
    · have h3 := totT_le (xs := xs) (fun z hz => h z (by simp [hz])) x hx
      omega
theorem Inv.tot0 (h : Inv ts hs) : 0 ≤ totT ts := totT_nonneg (fun _ hx => h.locked0 hx)
theorem Inv.lockedMax (h : Inv ts hs) {x : PTE} (hx : x ∈ ts) : x.t.locked ≤ 1125899906842624 := Int.le_trans (totT_le (fun _ hy => h.locked0 hy) x hx) h.tot
theorem Inv.towIn (h : Inv ts hs) {x : PTE} (hx : x ∈ ts) : TowIn x.t := by
  have h0 := h.locked0 hx
  have h1 := h.lockedMax hx
  have h2 := h.ta x hx
  have h3 := h.tl x hx
  have h4 := h.held0 x.n
  exact ⟨h.tr x hx, by constructor <;> omega, by constructor <;> omega, by constructor <;> omega⟩
theorem Inv.teIn (h : Inv ts hs) {x : PTE} (hx : x ∈ ts) : TEIn x := by
  have h1 := h.tn x hx
  exact ⟨by constructor <;> omega, h.towIn hx⟩
theorem Inv.heldNone (h : Inv ts hs) {n : Int} (hn : lookT n ts = none) : heldH n hs = 0 := heldH_none n hs (fun x hx e => h.ht x hx (by rw [e]; exact hn))
theorem Inv.heldMax (h : Inv ts hs) (n : Int) : heldH n hs ≤ 1125899906842624 := by
  cases hl : lookT n ts with
  | none => rw [h.heldNone hl]; omega
  | some x =>
    obtain ⟨h1, h2⟩ := lookK_mem hl
    have h3 := h.tl x h1
    have h4 := h.lockedMax h1
    have h5 := h.ta x h1
    rw [h2] at h3
    omega
theorem amount_le (n : Int) : ∀ {xs : List PHE}, (∀ x ∈ xs, 1 ≤ x.h.amount) → ∀ x ∈ xs, x.h.amount ≤ heldH x.n xs
  | [], _, _, hx => by cases hx
  | y :: xs, h, x, hx => by
    have h2 := h y (by simp)
    rcases List.mem_cons.1 hx with rfl | hx
    · have h1 := heldH_nonneg x.n xs (fun z hz => h z (by simp [hz]))
      rw [heldH, if_pos rfl]
      omega
    · have h3 := amount_le n (xs := xs) (fun z hz => h z (by simp [hz])) x hx
      rw [heldH]
      split <;> omega
theorem Inv.amountHeld (h : Inv ts hs) {x : PHE} (hx : x ∈ hs) : x.h.amount ≤ heldH x.n hs := amount_le 0 (fun y hy => (h.ha y hy).1) x hx
theorem Inv.amountMax (h : Inv ts hs) {x : PHE} (hx : x ∈ hs) : x.h.amount ≤ 1125899906842624 := Int.le_trans (h.amountHeld hx) (h.heldMax x.n)
theorem Inv.free (h : Inv ts hs) (n : Int) : 0 ≤ freeB n ts hs ∧ freeB n ts hs ≤ 1125899906842624 := by
  unfold freeB
  cases hl : lookT n ts with
  | none => rw [h.heldNone hl]; simp
  | some x =>
    obtain ⟨h1, h2⟩ := lookK_mem hl
    have h3 := h.tl x h1
    have h4 := h.lockedMax h1
    have h5 := h.ta x h1
    have h6 := h.held0 n
    rw [h2] at h3
    simp only
    omega
/-- A tower that is put in. -/
theorem Inv.put (h : Inv ts hs) {n : Int} {t : PTow} (h0 : 0 ≤ n) (h1 : n ≤ 15) (hr : t.root.length = 32) (ha : 0 ≤ t.asked) (ht0 : -1099511627776 ≤ t.at9) (ht1 : t.at9 ≤ 1099511627776) (hl : t.asked + heldH n hs ≤ t.locked) (htot : totT (putT n t ts) ≤ 1125899906842624) : Inv (putT n t ts) hs where
  tk := putT_nodup h.tk
  hk := h.hk
  tn x hx := by
    rcases putT_mem hx with rfl | ⟨hx, _⟩
    · exact ⟨h0, h1⟩
    · exact h.tn x hx
  tr x hx := by
    rcases putT_mem hx with rfl | ⟨hx, _⟩
    · exact hr
    · exact h.tr x hx
  ta x hx := by
    rcases putT_mem hx with rfl | ⟨hx, _⟩
    · exact ⟨ha, ht0, ht1⟩
    · exact h.ta x hx
  tl x hx := by
    rcases putT_mem hx with rfl | ⟨hx, _⟩
    · exact hl
    · exact h.tl x hx
  hin := h.hin
  ha := h.ha
  ht x hx := by
    rw [lookT_put]
    split
    · simp
    · exact h.ht x hx
  tot := htot
/-- A hold that is struck. -/
theorem Inv.del (h : Inv ts hs) (n id : Int) : Inv ts (delK hkey (n, id) hs) where
  tk := h.tk
  hk := delK_nodup h.hk
  tn := h.tn
  tr := h.tr
  ta := h.ta
  tl x hx := by
    have h1 := h.tl x hx
    rw [heldH_del x.n n id h.hk]
    cases hl : lookH n id hs with
    | none => simp only; omega
    | some y =>
      have h2 := (h.ha y (lookK_mem hl).1).1
      simp only
      split <;> omega
  hin x hx := h.hin x (delK_mem.1 hx).1
  ha x hx := h.ha x (delK_mem.1 hx).1
  ht x hx := h.ht x (delK_mem.1 hx).1
  tot := h.tot
end
end Go.Proofs.Ytijanllppbambaa
