/- slices.SortedFunc(maps.Keys(m), compare): the places of a view's coins, in order. -/
import Derived.Test.YtdeilkpcmgcbaaaSortRef
namespace Go.Proofs.Ytdeilkpcmgcbaaa
open Go.RowKit Go.Maps

/-- A map that may be nil: what each place has. -/
def MapOr (w : World) (mb : Option Nat) (F : List UInt8 → Int → Option Value) : Prop := (mb = none ∧ F = fun _ _ => none) ∨ ∃ b N m, mb = some b ∧ MapRef w b N m F ∧ N ≤ 1000
theorem MapOr.below {w w' : World} {mb : Option Nat} {F : List UInt8 → Int → Option Value} (h : MapOr w mb F) (hb : Below w.heap.size w w') : MapOr w' mb F := by
  rcases h with h | ⟨b, N, m, h1, h2, h3⟩
  · exact .inl h
  · exact .inr ⟨b, N, m, h1, h2.below hb, h3⟩
def SortedKeys (F : List UInt8 → Int → Option Value) (ss : List RefD) : Prop := ss.Pairwise (fun x y => refLt x y = true) ∧ ∀ x : RefD, x ∈ ss ↔ F x.tx x.place ≠ none
/-- A view that may be nil, or that New did not make: its map. -/
def Has (w : World) (pv : Value) (mb : Option Nat) : Prop := (pv = .pointer none ∧ mb = none) ∨ ∃ vb, pv = .pointer (some ⟨vb, 0, none⟩) ∧ vb < w.heap.size ∧ w.cell? ⟨vb, 0, none⟩ = some (.map mb)
theorem Has.below {w w' : World} {pv : Value} {mb : Option Nat} (h : Has w pv mb) (hb : Below w.heap.size w w') : Has w' pv mb := by
  rcases h with h | ⟨vb, h1, h2, h3⟩
  · exact .inl h
  · exact .inr ⟨vb, h1, Nat.lt_of_lt_of_le h2 hb.size, (hb.cell (p := ⟨vb, 0, none⟩) h2).trans h3⟩
set_option linter.unusedSimpArgs false in
set_option maxRecDepth 100000 in
set_option maxHeartbeats 12800000 in
theorem has_any {w : World} {pv : Value} {mb : Option Nat} (h : Has w pv mb) : Calls Try.prog 20 #[pv] w fun e w' => e = .returned (.map mb) ∧ w = w' := by
  rcases h with ⟨rfl, rfl⟩ | ⟨vb, rfl, _, hc⟩
  · go_enter Try.func20, Try.ntmps20
    go_wp2
    go_ret
    exact ⟨rfl, rfl⟩
  · go_enter Try.func20, Try.ntmps20
    go_wp2
    go_ret
    exact ⟨rfl, rfl⟩
theorem collect_any {w : World} {mb : Option Nat} {F : List UInt8 → Int → Option Value} (h : MapOr w mb F) (Bm : Nat) (hBm : Bm < w.heap.size) (hc : w.cell? ⟨Bm, 0, none⟩ = some (.map mb)) :
    Calls Try.prog 45 #[.func (.func 47) #[] #[.pointer (some ⟨Bm, 0, none⟩)]] w fun e w' => ∃ (v : Value) (ss : List RefD), e = .returned v ∧ (KeysOf F ss ∧ ss.length ≤ 1000) ∧ OwnOf refK 32 w' w.heap.size v ss ∧ Below w.heap.size w w' := by
  have eg : ∀ args w, (callFunc 47 args).run Try.prog w = .ok (.enter 47 args) w := enters_of Try.func47 (by kernel_rfl) rfl
  rcases h with ⟨rfl, rfl⟩ | ⟨b, N, m, rfl, hm, hN⟩
  · refine ((callsIn_wide (n := 3)).1 (collect_in Fence.wide 3 trivial trivial rfl (by omega) 47 #[.pointer (some ⟨Bm, 0, none⟩)] trivial eg _ 0 (by omega) w (keys_gives_nil Fence.wide 1 trivial rfl Bm w hBm hc))).mono ?_
    rintro e w' ⟨v, ss, rfl, rfl, ho, hb⟩
    exact ⟨v, [], rfl, ⟨⟨List.nodup_nil, fun x => by simp⟩, by simp⟩, ho, hb⟩
  · have hmN := hm.few
    refine ((callsIn_wide (n := 3)).1 (collect_in Fence.wide 3 trivial trivial rfl (by omega) 47 #[.pointer (some ⟨Bm, 0, none⟩)] trivial eg _ m (by omega) w (keys_gives Fence.wide 1 trivial rfl (Nat.le_refl _) Bm b N m w hBm hc hm))).mono ?_
    rintro e w' ⟨v, ss, rfl, ⟨hk, hl⟩, ho, hb⟩
    exact ⟨v, ss, rfl, ⟨hk, by omega⟩, ho, hb⟩
set_option linter.unusedSimpArgs false in
set_option maxRecDepth 100000 in
set_option maxHeartbeats 12800000 in
theorem sortedFunc_any {w : World} {mb : Option Nat} {F : List UInt8 → Int → Option Value} (h : MapOr w mb F) (Bm : Nat) (hBm : Bm < w.heap.size) (hc : w.cell? ⟨Bm, 0, none⟩ = some (.map mb)) :
    Calls Try.prog 36 #[.func (.func 47) #[] #[.pointer (some ⟨Bm, 0, none⟩)], .func (.func 38) #[] #[]] w fun e w' => ∃ (v : Value) (ss : List RefD), e = .returned v ∧ SortedKeys F ss ∧ OwnOf refK 32 w' w.heap.size v ss ∧ Below w.heap.size w w' := by
  have HC := Lib.hid (collect_any h Bm hBm hc)
  clear h hc
  go_enter Try.func36, Try.ntmps36
  go_wp2_with (go_at_call 45; refine HC.out.mono ?_; rintro e w2 ⟨v, ss, rfl, ⟨hk, hl⟩, ho, hb⟩; have HK := Lib.hid hk; have HO := Lib.hid ho; have HB := Lib.hid hb; have HS := Lib.hid (sortRef_any ho (by omega)); clear hk ho hb HC)
  go_wp2_with (go_at_call 46; refine HS.out.mono ?_; rintro e w3 ⟨rfl, ho3, hg3⟩; have HO3 := Lib.hid ho3; have HG3 := Lib.hid hg3; clear ho3 hg3 HS)
  go_ret
  exact ⟨v, _, rfl, ⟨sortRefs_sorted HK.out.1, fun x => by rw [(sortRefs_perm ss).mem_iff]; exact HK.out.2 x⟩, HO3.out, HB.out.trans (HO.out.grows HG3.out HB.out.size)⟩
set_option linter.unusedSimpArgs false in
set_option maxRecDepth 100000 in
set_option maxHeartbeats 12800000 in
theorem places_any {w : World} {pv : Value} {mb : Option Nat} {F : List UInt8 → Int → Option Value} (hv : Has w pv mb) (h : MapOr w mb F) :
    Calls Try.prog 27 #[pv] w fun e w' => ∃ (v : Value) (ss : List RefD), e = .returned v ∧ SortedKeys F ss ∧ OwnOf refK 32 w' w.heap.size v ss ∧ Below w.heap.size w w' := by
  have HV := Lib.hid hv
  have b1 : Below w.heap.size w (w.alloc (.cells #[.map mb] 49)) := (Below.refl _ _).alloc (Nat.le_refl _) _
  have HS := Lib.hid (sortedFunc_any (h.below b1) w.heap.size (by simp) (cell_of_row _ _ _ _ _ _ (heap_alloc_new w (.cells #[.map mb] 49))))
  have HB := Lib.hid b1
  clear hv h b1
  go_enter Try.func27, Try.ntmps27
  go_wp2_with (first
    | (go_at_call 20; refine (has_any HV.out).mono ?_; rintro e w2 ⟨rfl, rfl⟩)
    | (go_at_call 37; refine (keys_any mb w).mono ?_; rintro e w2 ⟨rfl, rfl⟩)
    | (go_at_call 36; refine HS.out.mono ?_; rintro e w2 ⟨v, ss, rfl, hk, ho, hb⟩; have HK := Lib.hid hk; have HO := Lib.hid ho; have HB2 := Lib.hid hb; clear hk ho hb HS))
  go_ret
  refine ⟨v, ss, rfl, HK.out, ?_, HB.out.trans (HB2.out.mono HB.out.size)⟩
  have h9 := HO.out
  refine ⟨⟨h9.1.1, ?_⟩, h9.2⟩
  rcases h9.1.2 with h8 | ⟨g, cap, cur, h1, h2, h3⟩
  · exact .inl h8
  · exact .inr ⟨g, cap, cur, h1, Nat.le_trans HB.out.size h2, h3⟩
end Go.Proofs.Ytdeilkpcmgcbaaa
