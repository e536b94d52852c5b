/- ProofChecks, walked, from the contracts of the layers below. -/
import Derived.Test.YtcmdpmialehjgaaGreatDoorChecks17
import Derived.Test.YtcmdpmialehjgaaGreatDoorWhy17
import Derived.Test.YtcmdpmialehjgaaGreatDoorPrfCheck
import Derived.Test.YtcmdpmialehjgaaGreatDoorPrfSaved
import Derived.Test.YtcmdpmialehjgaaGreatDoorRecr
import Derived.Test.YtcmdpmialehjgaaGreatDoorAppSums
import Derived.Test.YtcmdpmialehjgaaGreatDoorAppCover
import Derived.Test.YtcmdpmialehjgaaGreatDoorJust
namespace Go.Proofs.YtcmdpmialehjgaaGreatDoor
open Go.RowKit

/-- What Uncover tells of bytes under a commitment's sum, its error named. -/
def uncE (K l : List UInt8) (n : Nat) : Int := if n < 16 then 2 else if markB K (coverB K (l.drop 16)) = l.take 16 then txE (coverB K (l.drop 16)) else 4
theorem uncover17 {w : World} {s l : List UInt8} {a : Option Addr} {n c : Nat} (hs : s.length = 32) (h : Row w a n c l) (hn : n ≤ 1000) (hk : KsAt w) :
    Calls Tryz.prog 35 #[.agg (cellsOf s).toArray, .slice a n c] w fun e w' => ∃ x : PTx, e = .returned (.tuple #[.agg x.cells.toArray, .int .i64 (uncE (appKey s) l n)]) ∧ TxIn w' x ∧ (uncE (appKey s) l n = 0 → txOk x = true ∧ txB x = coverB (appKey s) (l.drop 16)) ∧ Below w.heap.size w w' := by
  refine (uncover_any hs h (by omega) hk).mono fun e w' hh => ?_
  obtain ⟨hb, ⟨h1, h2⟩ | ⟨h1, h2, h3⟩ | ⟨h1, h2, x, E, h3, h4, h5, _, h7⟩⟩ := hh
  · have e9 : uncE (appKey s) l n = 2 := if_pos h1
    rw [e9]
    exact ⟨noTx, h2, noTx_in _, fun h => absurd h (by decide), hb⟩
  · have e9 : uncE (appKey s) l n = 4 := by unfold uncE; rw [if_neg (by omega), if_neg h2]
    rw [e9]
    exact ⟨noTx, h3, noTx_in _, fun h => absurd h (by decide), hb⟩
  · have e9 : uncE (appKey s) l n = E := by unfold uncE; rw [if_neg (by omega), if_pos h2, h7]
    rw [e9]
    exact ⟨x, h3, h4, h5, hb⟩
theorem small_front17 {w : World} {x : PTx} (h : TxIn w x) (hs : smallT x = true) : FrontFew false x := by
  unfold smallT at hs
  simp only [Bool.and_eq_true, decide_eq_true_eq, List.all_eq_true] at hs
  obtain ⟨h1, h2, h3, h4, h5, h6⟩ := hs
  refine frontFew false h h1 h2 (fun y hy => by have h9 := h5 y hy; simpa using h9) (fun y hy => ?_) (by omega)
  have h9 := h6 y hy
  unfold fewO at h9
  simp only [Bool.and_eq_true, decide_eq_true_eq, List.all_eq_true] at h9
  exact ⟨h9.1, fun z hz => by have h8 := h9.2 z hz; simpa using h8⟩
set_option linter.unusedSimpArgs false in
set_option maxRecDepth 100000 in
set_option maxHeartbeats 6400000 in
theorem checksAll17 {w : World} {p : PPrf} {tower height : Int} {c : PChan} {root : List UInt8} {f : PFacts} (hp : PrfIn w p) (hc : ChanIn c) (hr : root.length = 32) (hf : FactsIn w f) (hk : KsAt w)
    (haw : ∀ W : World, Below w.heap.size w W → Calls Tryz.prog 6 #[] W fun e w' => e = .returned (.bool true) ∧ Below W.heap.size W w') :
    Calls Tryz.prog 5 #[.agg p.cells.toArray, .int .i64 tower, .agg c.cells.toArray, .agg (cellsOf root).toArray, .agg f.cells.toArray, .int .i64 height] w fun e w' => e = .returned (.bool true) ∧ Below w.heap.size w w' := by
  obtain ⟨G, hG⟩ : ∃ G : Int, ownerP c f.t = 1 → looks17 p c f height → ∀ (W : World) (x : PTx), Below w.heap.size w W → TxIn W x → (txOk x = true ∧ txB x = coverB (appKey p.commit) (p.blob.drop 16)) → Calls Tryz.prog 36 #[.agg c.cells.toArray, .agg f.t.cells.toArray, .agg x.cells.toArray] W fun e w' => e = .returned (.int .i64 G) ∧ Below W.heap.size W w' := by
    by_cases hO : ownerP c f.t = 1
    · obtain ⟨m, z, b, o, b2, o2, wk, u0, u1, x1, hpa⟩ := part_at hf.t (by rw [hO]; decide)
      by_cases hx : ∃ (W : World) (x : PTx), TxIn W x ∧ txOk x = true ∧ txB x = coverB (appKey p.commit) (p.blob.drop 16)
      · obtain ⟨W0, x0, h0, h1, h2⟩ := hx
        refine ⟨checkR m u1 (txSum f.t) x0, fun _ hl W x hW hxi hxx => ?_⟩
        have h9 := check_at hc (hf.t.below hW) hxi (hk.below hW) (small_front17 hf.t hl.2.2.2.2.2.2.1) (hpa.below hW) (by rw [hO]; decide)
        rw [checkR_alike hxi.lens h0.lens (txB_inj17 hxi.lens h0.lens hxx.1 h1 (by rw [hxx.2, h2]))] at h9
        exact h9
      · exact ⟨0, fun _ _ W x _ hxi hxx => absurd ⟨W, x, hxi, hxx.1, hxx.2⟩ hx⟩
    · exact ⟨0, fun h => absurd h hO⟩
  have hve : looks17 p c f height → ∀ W : World, Below w.heap.size w W → Calls Tryz.prog 30 #[.agg (cellsOf root).toArray, .agg p.r.cells.toArray, .slice p.sa p.sn p.sc] W fun e w' => e = .returned (.bool (recOk p.r && sigOk root (textB p.r) p.sig)) ∧ Below W.heap.size W w' := fun hl W hW => recverify_any hp.r hr (hp.sig.below hW) (by have h9 := hl.2.2.2.2.1; omega) (hk.below hW)
  have hsv : looks17 p c f height → ∀ W : World, Below w.heap.size w W → Calls Tryz.prog 16 #[.agg f.cells.toArray, .agg c.cells.toArray] W fun e w' => e = .returned (.bool (savedB f c)) ∧ Below W.heap.size W w' := fun hl W hW => saved_any hf.t.op.root hc.ftx hl.2.1 hl.2.2.2.1 hl.2.2.1
  exact checks17_walk (R := whyV p tower c f height (recOk p.r && sigOk root (textB p.r) p.sig) (sumOf (partsOf 71 [p.commit])) (sumOf (partsOf 73 [p.blob])) (ownerP c f.t) (txSum f.t) (uncE (appKey p.commit) p.blob p.bn) G) hp hc hr hf haw hsv
    (fun hl W hW => check_walk (w := W) (PP := fun x => txOk x = true ∧ txB x = coverB (appKey p.commit) (p.blob.drop 16)) (hp.below hW) hc hr (hf.below hW) (sumOf_len _) (sumOf_len _) (txSum_len _) hl.2.1 hl.2.2.2.1 hl.1 (fun V hV => hve hl V (bthen hW hV)) (fun V hV => hint_any hp.commit (hk.below (bthen hW hV))) (fun V hV => appmark_any (hp.blob.below (bthen hW hV)) (hk.below (bthen hW hV)) (by have h9 := hl.2.2.2.2.2.1; omega)) (fun V hV => owner_any hc (hf.t.below (bthen hW hV))) (fun V hV => ref14_any (hf.t.below (bthen hW hV)) (hk.below (bthen hW hV)) (small_front17 hf.t hl.2.2.2.2.2.2.1)) (fun V hV => uncover17 hp.commit (hp.blob.below (bthen hW hV)) hl.2.2.2.2.2.1 (hk.below (bthen hW hV))) (fun hO V x hV hxi hxx => hG hO hl V x (bthen hW hV) hxi hxx) (fun V hV => hsv hl V (bthen hW hV)))
    (fun hl W hW => why_walk (w := W) (PP := fun x => txOk x = true ∧ txB x = coverB (appKey p.commit) (p.blob.drop 16)) (hp.below hW) hc hr (hf.below hW) (sumOf_len _) (sumOf_len _) (txSum_len _) (fun V hV => hve hl V (bthen hW hV)) (fun V hV => hint_any hp.commit (hk.below (bthen hW hV))) (fun V hV => appmark_any (hp.blob.below (bthen hW hV)) (hk.below (bthen hW hV)) (by have h9 := hl.2.2.2.2.2.1; omega)) (fun V hV => owner_any hc (hf.t.below (bthen hW hV))) (fun V hV => txSum_any (hf.t.below (bthen hW hV)) (hk.below (bthen hW hV)) (small_front17 hf.t hl.2.2.2.2.2.2.1)) (fun V hV => uncover17 hp.commit (hp.blob.below (bthen hW hV)) hl.2.2.2.2.2.1 (hk.below (bthen hW hV))) (fun hO V x hV hxi hxx => hG hO hl V x (bthen hW hV) hxi hxx))
end Go.Proofs.YtcmdpmialehjgaaGreatDoor
