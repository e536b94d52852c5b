/- view.Total: all amounts together, in whatever order they come. -/
import Derived.Test.YtdeilkpcmgcbaaaViewAll
import Derived.Test.YtdeilkpcmgcbaaaCoin
import Derived.Test.YtdeilkpcmgcbaaaOwnZ
import Derived.Maps.RangeWalk
namespace Go.Proofs.Ytdeilkpcmgcbaaa
open Go.RowKit Go.Maps

def amtV : Option Value → Int
  | some (.agg cs) => (match cs[0]? with | some (Value.int _ z) => z | _ => 0)
  | _ => 0
/-- The amount at a place. -/
def amtF (F : List UInt8 → Int → Option Value) (x : RefD) : Int := amtV (F x.tx x.place)
theorem sum_perm {l m : List Int} (h : l.Perm m) : l.sum = m.sum := by
  induction h with
  | nil => rfl
  | cons x _ ih => simp [ih]
  | swap x y l => simp; omega
  | trans _ _ h1 h2 => exact h1.trans h2
theorem sum_nonneg : ∀ (zs : List Int), (∀ z ∈ zs, 0 ≤ z) → 0 ≤ zs.sum
  | [], _ => Int.le_refl _
  | z :: zs, h => by
    have h1 := h z (by simp)
    have h2 := sum_nonneg zs (fun x hx => h x (by simp [hx]))
    rw [List.sum_cons]
    omega
/-- Amounts that may be: their order says nothing. -/
theorem addFrom_sum : ∀ (zs : List Int) (S : Int), 0 ≤ S → S ≤ 1125899906842624 → (∀ z ∈ zs, 0 ≤ z ∧ z ≤ 1125899906842624) → addFrom S zs = if 1125899906842624 < S + zs.sum then (0, 10) else (S + zs.sum, 0)
  | [], S, h0, h1, _ => by
    rw [List.sum_nil, if_neg (by omega), Int.add_zero]
    rfl
  | z :: zs, S, h0, h1, h => by
    have hz := h z (by simp)
    have hs := sum_nonneg zs (fun x hx => (h x (by simp [hx])).1)
    by_cases h2 : 1125899906842624 < S + z
    · rw [addFrom_over hz.1 hz.2 h2, List.sum_cons, if_pos (by omega)]
    · rw [addFrom_more hz.1 hz.2 (by omega), addFrom_sum zs (S + z) (by omega) (by omega) (fun x hx => h x (by simp [hx])), List.sum_cons, Int.add_assoc]
theorem rowOk_amount {r : PRow} (h : RowOk r) : 0 ≤ r.out.m ∧ r.out.m ≤ 1125899906842624 := by
  have h8 := h.out
  unfold outOk at h8
  simp only [Bool.and_eq_true, decide_eq_true_eq] at h8
  exact h8.1
theorem keys_map {w : World} {rows : List PRow} {F : List UInt8 → Int → Option Value} {ss : List RefD} (hF : CoinsOf w rows F) (hr : Rising rows) (hok : ∀ r ∈ rows, RowOk r) (hs : KeysOf F ss) : (ss.map (amtF F)).Perm (rows.map fun r => r.out.m) := by
  have h1 : SortedKeys F (sortRefs ss) := ⟨sortRefs_sorted hs.1, fun x => by rw [(sortRefs_perm ss).mem_iff]; exact hs.2 x⟩
  obtain ⟨h2, h3⟩ := places_rows hF hr hok h1
  have h4 : (sortRefs ss).map (amtF F) = rows.map fun r => r.out.m := by
    apply List.ext_getElem (by simp [h2])
    intro j g1 g2
    simp only [List.getElem_map]
    have g3 : j < (sortRefs ss).length := by simpa using g1
    have g4 : j < rows.length := by simpa using g2
    obtain ⟨e1, e2⟩ := h3 j g3 g4
    obtain ⟨v, hv, a, n, c, ys, rfl, _⟩ := hF.2 rows[j] (List.getElem_mem g4)
    unfold amtF
    rw [e1, e2, hv]
    rfl
  rw [← h4]
  exact ((sortRefs_perm ss).map (amtF F)).symm
theorem keys_add {w : World} {rows : List PRow} {F : List UInt8 → Int → Option Value} {ss : List RefD} (hF : CoinsOf w rows F) (hr : Rising rows) (hok : ∀ r ∈ rows, RowOk r) (hs : KeysOf F ss) : addFrom 0 (ss.map (amtF F)) = addFrom 0 (rows.map fun r => r.out.m) := by
  have h1 := keys_map hF hr hok hs
  have h2 : ∀ z ∈ rows.map (fun r => r.out.m), 0 ≤ z ∧ z ≤ 1125899906842624 := fun z hz => by
    obtain ⟨r, hr9, rfl⟩ := List.mem_map.1 hz
    exact rowOk_amount (hok r hr9)
  rw [addFrom_sum _ 0 (Int.le_refl _) (by omega) (fun z hz => h2 z (h1.mem_iff.1 hz)), addFrom_sum _ 0 (Int.le_refl _) (by omega) h2, sum_perm h1]
theorem OwnZ.kept9 {w w' : World} {e : TypeId} {B : Nat} {v : Value} {l : List Int} {r : Option Nat} (h : OwnZ w e B v l) (hg : w.grownBy w' r) (hne : ∀ k, v.ownBlock = some k → r ≠ some k) : OwnZ w' e B v l :=
  ⟨World.ownsRow.kept h.1 hg (by
    cases h' : v.ownBlock with
    | none => exact .inl rfl
    | some k => exact .inr (fun e => hne k h' e.symm)), h.2⟩
theorem OwnZ.no_walk9 {w : World} {e : TypeId} {B : Nat} {v : Value} {l : List Int} (h : OwnZ w e B v l) : ∀ k o, v.ownBlock = some k → w.heap[k]? = some o → o.isWalk = false := by
  intro k o e1 e2
  rcases h.1.2 with ⟨rfl, _⟩ | ⟨g, cap, cur, rfl, _, hh, _⟩
  · cases e1
  · simp [Value.ownBlock] at e1
    subst e1
    rw [hh] at e2
    cases e2
    rfl
theorem Try.infoZ9 : (Try.prog.info? 2).map (fun i => (i.zero, i.size, i.bytes)) = some (some (.int .i64 0), 1, 8) := by kernel_rfl
set_option linter.unusedSimpArgs false in
set_option maxRecDepth 100000 in
set_option maxHeartbeats 12800000 in
theorem total_any {w : World} {pv : Value} {b N : Nat} {rows : List PRow} (h : ViewAt w pv b N rows) :
    Calls Try.prog 12 #[pv] w fun e w' => e = .returned (.tuple #[.int .i64 (addFrom 0 (rows.map fun r => r.out.m)).1, .int .i64 (addFrom 0 (rows.map fun r => r.out.m)).2]) ∧ Below w.heap.size w w' := by
  obtain ⟨F, hm, hF⟩ := h.map
  have hfew := h.few
  have hrN := hm.few
  have HV := Lib.hid h.hasIt
  obtain ⟨R, hR⟩ : ∃ R, R = addFrom 0 (rows.map fun r => r.out.m) := ⟨_, rfl⟩
  have HAD : Hid (∀ ss, KeysOf F ss → addFrom 0 (ss.map (amtF F)) = R) := Lib.hid (fun ss hs => by rw [hR]; exact keys_add hF h.rising h.ok hs)
  have HCN : Hid (∀ (x : RefD) (v : Value), F x.tx x.place = some v → ∃ m a n c ht, v = .agg #[.int .i64 m, .slice a n c, .int .i64 ht] ∧ Fits m) := Lib.hid (fun x v hv => by
    have h9 : ∃ r ∈ rows, r.tx = x.tx ∧ r.place = x.place := by
      apply Classical.byContradiction
      intro hc
      have h8 := hF.1 x.tx x.place (fun r hr e => hc ⟨r, hr, e⟩)
      rw [hv] at h8
      cases h8
    obtain ⟨r, hr, e1, e2⟩ := h9
    obtain ⟨u, hu, a, n, c, ys, rfl, _⟩ := hF.2 r hr
    rw [e1, e2, hv] at hu
    cases hu
    have h7 := rowOk_amount (h.ok r hr)
    exact ⟨_, a, n, c, _, rfl, by constructor <;> omega⟩)
  rw [← hR]
  obtain ⟨D, hD, hsz, hFD⟩ := hm
  obtain ⟨i0, hi0, hz0, hz1, hz2⟩ := info_parts Try.infoZ9
  have HI := Lib.hid hi0
  have HFD := Lib.hid hFD
  have HSZ : Hid (Maps.size D ≤ 100) := Lib.hid (by omega)
  clear h hF hR hFD hi0 hsz hrN
  go_enter Try.func12, Try.ntmps12
  go_wp2_with (first
    | (go_at_call 20; refine (has_any HV.out).mono ?_; rintro e w2 ⟨rfl, rfl⟩)
    | (at_range; refine wpList_range_own _ rfl _ 49 rfl 32 41 Try.keyRef Try.underlying49 _ b N _ rfl hD ?_; intro w0 hrg0 hg0 hs0)
    | fail)
  go_frame
  go_loopw [4] (fun v wr => ∃ (left : Lit → Bool) (cnt : Nat) (ss : List RefD) (L : List Int), wr.ranges Try.prog 32 heldR b w.heap.size N D left cnt ∧ ss.length + cnt ≤ Maps.size D ∧ Come D left ss ∧ L = ss.map (amtF F) ∧ OwnZ wr 2 w.heap.size v L ∧ Below w.heap.size w wr)
    (fun _ wr => wr.rangeLeft b w.heap.size)
  case atStart => exact ⟨_, _, [], [], hrg0, by simp, Come.start D, rfl, OwnZ.nil _ _ _, ⟨hg0.os, hg0.tape, hg0.output, hg0.size, fun k hk => hg0.block k hk (by simp)⟩⟩
  case round =>
    obtain ⟨left, cnt, ss, L, hrg, hcs, hC, hL, hO, hB⟩ := hrel
    obtain ⟨a', c', rfl, _⟩ := hO.shape
    have HC := Lib.hid hC
    have HL := Lib.hid hL
    have HO := Lib.hid hO
    have HB := Lib.hid hB
    have HLL : Hid (L.length = ss.length) := Lib.hid (by rw [hL, List.length_map])
    clear hC hL hO hB
    go_wp2_with (first
      | (at_next; refine wpList_next_ranges _ rfl _ rfl 32 Try.keyRef heldR (fun x : RefD => .agg x.cells.toArray) id (fun key kl hk => key_ref_back hk) (fun v _ _ => ⟨v, rfl⟩) b w.heap.size N _ _ _ rfl hrg ?_ ?_)
      | fail)
    · intro hc0 hl0
      have hK : KeysOf F ss := ⟨HC.out.1, fun x => by
        obtain ⟨k, hk⟩ := refD_key x
        rw [HC.out.done hl0 x hk]
        have hv := HFD.out x.tx x.place k x.hs x.hp hk
        cases hfx : F x.tx x.place with
        | none =>
          rw [hfx] at hv
          rw [has_false_of_atKey hv]
          simp
        | some v =>
          rw [hfx] at hv
          rw [has_true_of_atKey hv]
          simp⟩
      have hA := add_any HO.out.numbers
      rw [HL.out, HAD.out ss hK, ← HL.out] at hA
      have HA := Lib.hid hA
      clear hA hK hl0 hrg hcs
      go_wp2_with (first | (go_at_call 26; refine HA.out.mono ?_; rintro e w9 ⟨rfl, hb9⟩; have HB9 := Lib.hid hb9; clear hb9) | fail)
      go_ret2
      exact ⟨rfl, HB.out.trans (HB9.out.mono HB.out.size)⟩
    · intro x c kl y y9 w2 cnt2 hkey hlk hv hat hrg2 hlt hg2 hs2 hen
      obtain ⟨rfl, rfl⟩ : y = DataW.held c ∧ y9 = [] := ⟨(congrArg Prod.fst (Option.some.inj hv)).symm, (congrArg Prod.snd (Option.some.inj hv)).symm⟩
      have hFx : F x.tx x.place = some c := by
        have h9 := HFD.out x.tx x.place kl x.hs x.hp hkey
        cases hf : F x.tx x.place with
        | none =>
          rw [hf] at h9
          have h8 := (hat (.map [])).symm.trans (h9 (.map []))
          cases h8
        | some v =>
          rw [hf] at h9
          have h8 := (hat (.map [])).symm.trans (h9 (.map []))
          cases h8
          rfl
      obtain ⟨m, a, n, cc, ht, rfl, hmf⟩ := HCN.out x c hFx
      have HAM : Hid (amtF F x = m) := Lib.hid (by unfold amtF; rw [hFx]; rfl)
      have HC2 := Lib.hid (HC.out.step hkey hlk (has_true_of_atKey hat))
      have hO2 := HO.out.kept9 hg2 (fun k e e2 => by
        cases e2
        obtain ⟨o, ho, hw⟩ := hrg.iter_walk
        have h8 := HO.out.no_walk9 _ o e ho
        rw [h8] at hw
        cases hw)
      have hB2 : Below w.heap.size w w2 := HB.out.trans ⟨hg2.os, hg2.tape, hg2.output, hg2.size, fun k hk => hg2.block k (Nat.lt_of_lt_of_le hk HB.out.size) (fun e => by cases e; omega)⟩
      have HO2 := Lib.hid hO2
      have HB2 := Lib.hid hB2
      have HRG2 := Lib.hid hrg2
      have HRG := Lib.hid hrg
      have HM := Lib.hid hmf
      have hlen : L.length + 1 ≤ 1000000 := by have h1 := HSZ.out; have h2 := HLL.out; omega
      have HCS : Hid ((ss ++ [x]).length + cnt2 ≤ Maps.size D) := Lib.hid (by rw [List.length_append]; simp; omega)
      have HLT : Hid (cnt2 < cnt) := Lib.hid hlt

      clear hO2 hB2 hrg2 hrg hmf hv hat hFx hkey hlk hg2 hs2 hcs hlt HC
      go_upto_region 5 with (first
        | (refine wpList_store_row rfl 41 _ _ rfl w2.heap.size #[.int .i64 m, .slice a n cc, .int .i64 ht] rfl rfl 41 #[.int .i64 0, .slice none 0 0, .int .i64 0] (heap_alloc_new _ _) (coin_size9 m ht a n cc) rfl (coin_one9 m ht a n cc) ?_)
        | fail)
      rw [layCoin_is]
      have h6 := layCoin_heap w2 m a n cc ht
      have b6 := layCoin_below (Below.refl w2.heap.size w2) (Nat.le_refl _) m a n cc ht
      have hsz6 : w2.heap.size < (layCoin w2 m a n cc ht).heap.size := lt_of_block h6
      revert h6 b6 hsz6
      generalize layCoin w2 m a n cc ht = w5
      obtain ⟨g6, hg6⟩ : ∃ g, g = w2.heap.size := ⟨_, rfl⟩
      rw [← hg6]
      intro h6 b6 hsz6
      rw [hg6] at b6
      have hg5 : w2.grownBy w5 none := ⟨b6.os, b6.tape, b6.output, b6.size, fun k hk _ => b6.block k hk⟩
      have hgA := World.grownBy_alloc w5 (.cells #[.int .i64 m] 2) none
      have HRG6 := Lib.hid ((HRG2.out.kept hg5 (by simp) (by simp)).kept hgA (by simp) (by simp))
      have HO6 := Lib.hid ((HO2.out.below b6).kept9 hgA (fun k _ e => by cases e))
      have HN6 : Hid (Numbers (w5.alloc (.cells #[.int .i64 m] 2)) (some ⟨w5.heap.size, 0, none⟩) 1 1 [m]) := Lib.hid (numbers_one (heap_alloc_new _ _) HM.out)
      have HB6 : Hid (Below w.heap.size w (w5.alloc (.cells #[.int .i64 m] 2))) := Lib.hid ((HB2.out.trans (b6.mono HB2.out.size)).alloc (Nat.le_trans HB2.out.size b6.size) _)
      have c60 := cell_of_row w5 g6 0 _ _ _ h6
      clear h6 b6 hsz6 hg6 hg5 hgA HRG2 HO2 HB2 HO HB
      go_wp2_with (first
        | (at_builtin; refine wpList_append_numbers _ rfl _ _ 67 2 rfl w.heap.size i0 Try.underlying67 HI.out hz0 hz1 hz2 (.slice a' L.length c') L L.length rfl rfl HO6.out _ 1 1 [m] rfl HN6.out hlen HB6.out.size ?_; intro a8 c8 w8 ho8 hg8; have HO8 := Lib.hid ho8; have HG8 := Lib.hid hg8; clear ho8 hg8; go_frame)
        | fail)
      have hrg8 := HRG6.out.of_walks (KeepsWalks.of_grownBy HG8.out (fun j o e ho => HO6.out.no_walk9 j o e ho))
      have hL8 : L ++ [m] = (ss ++ [x]).map (amtF F) := by rw [List.map_append, ← HL.out, List.map_singleton, HAM.out]
      go_roundw
      case rel => exact ⟨_, cnt2, ss ++ [x], L ++ [m], hrg8, HCS.out, HC2.out, hL8, HO8.out, HB6.out.trans (HO6.out.grows HG8.out HB6.out.size)⟩
      case measure => rw [hrg8.left_eq, HRG.out.left_eq]; exact HLT.out
end Go.Proofs.Ytdeilkpcmgcbaaa
