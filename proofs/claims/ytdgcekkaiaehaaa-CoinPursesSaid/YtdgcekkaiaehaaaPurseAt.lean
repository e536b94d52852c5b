/- A purse in memory (a struct with a map alone): what Has and Put come to. -/
import Derived.Test.YtdgcekkaiaehaaaMapZ
import Derived.Test.YtdgcekkaiaehaaaPurse6
import Derived.Test.YtdgcekkaiaehaaaCoin
namespace Go.Proofs.Ytdgcekkaiaehaaa
open Go.RowKit Go.Maps

/-- A purse that has its map. -/
def PurseOn (w : World) (B p N : Nat) (F : Int → Int) : Prop := ∃ b, B ≤ b ∧ w.heap[p]? = some (.cells #[.map (some b)] 39 (0, 0)) ∧ MapZ w b N F
/-- A purse at block p, all its blocks from B on, with at most N keys. -/
def PurseAt (w : World) (B p N : Nat) (F : Int → Int) : Prop :=
  B ≤ p ∧ ((w.heap[p]? = some (.cells #[.map none] 39 (0, 0)) ∧ ∀ k, F k = 0) ∨ PurseOn w B p N F)
theorem PurseAt.below {w w' : World} {B p N : Nat} {F : Int → Int} (h : PurseAt w B p N F) (hb : Below w.heap.size w w') : PurseAt w' B p N F := by
  obtain ⟨h0, ⟨h1, h2⟩ | ⟨b, h1, h2, h3⟩⟩ := h
  · exact ⟨h0, .inl ⟨(hb.block _ (lt_of_block h1)).trans h1, h2⟩⟩
  · exact ⟨h0, .inr ⟨b, h1, (hb.block _ (lt_of_block h2)).trans h2, h3.below hb⟩⟩
theorem cell_of_one' {w : World} {g : Nat} {v : Value} {t : TypeId} {fr : Nat × Nat} (h : w.heap[g]? = some (.cells #[v] t fr)) : w.cell? ⟨g, 0, none⟩ = some v := by
  rw [cell_of_row _ _ _ _ _ _ h]
  rfl
theorem purse_has {w : World} {B p N : Nat} {F : Int → Int} (key : Int) (hkey : Fits key) (h : PurseAt w B p N F) : Calls Try.prog 19 #[.pointer (some ⟨p, 0, none⟩), .int .i64 key] w fun e w' => e = .returned (.int .i64 (F key)) ∧ w = w' := by
  obtain ⟨_, ⟨h1, h2⟩ | ⟨b, h1, h2, h3⟩⟩ := h
  · have c0 := cell_of_one' h1
    rw [h2 key]
    have kl : ∀ W : World, (Instr.lookup 37 (.map none) (.int .i64 key) false).run Try.prog W = .ok (.int .i64 0) W := fun W => by
      have := Maps.look_nil (w := W) false Try.keyZ Try.underlying37 (Try.zeroZ W) (keyOf_int_mk Try.underlying3 (wf_of hkey))
      simpa using this
    clear h1 h2 hkey
    go_enter Try.func19, Try.ntmps19
    go_wp2
    go_ret
    exact ⟨rfl, rfl⟩
  · have c0 := cell_of_one' h2
    have HM := Lib.hid h3
    have HK := Lib.hid hkey
    clear h2 h3 hkey
    go_enter Try.func19, Try.ntmps19
    go_wp2_with (at_lookup; refine wpList_lookup_mapZ rfl _ _ 37 rfl Try.underlying37 b N F rfl HM.out key HK.out rfl _ rfl ?_)
    go_ret
    exact ⟨rfl, rfl⟩
theorem Apart.of {T : TypeId} {w w' : World} (h : Below w.heap.size w w') : Apart T w w' := ⟨h.os, h.tape, h.output, h.size, fun k _ _ _ hk _ => h.block k (lt_of_block hk)⟩
theorem Apart.trans {T : TypeId} {a b c : World} (h : Apart T a b) (k : Apart T b c) : Apart T a c :=
  ⟨k.os.trans h.os, k.tape.trans h.tape, k.output.trans h.output, Nat.le_trans h.size k.size, fun i cs t fr hi ht => (k.block i cs t fr ((h.block i cs t fr hi ht).trans hi) ht).trans (h.block i cs t fr hi ht)⟩
theorem Apart.set {T : TypeId} {w : World} {p : Nat} {cs : Array Value} {fr : Nat × Nat} (h : w.heap[p]? = some (.cells cs T fr)) (v : Value) : Apart T w (w.setCell ⟨p, 0, none⟩ v) := by
  have hb := (But.refl w.heap.size p w).setCell ⟨p, 0, none⟩ (.inl rfl) v
  refine ⟨hb.os, hb.tape, hb.output, hb.size, fun k cs' t fr' hk ht => hb.block k (lt_of_block hk) (fun e => ?_)⟩
  subst e
  rw [h] at hk
  simp at hk
  exact ht hk.2.1.symm
theorem Apart.map {T : TypeId} {w w' : World} {b N : Nat} {F : Int → Int} (h : MapZ w b N F) (hg : w.grownBy w' (some b)) : Apart T w w' := by
  obtain ⟨D, ⟨es, ck, hb, _⟩, _⟩ := h
  refine ⟨hg.os, hg.tape, hg.output, hg.size, fun k cs t fr hk _ => hg.block k (lt_of_block hk) (fun e => ?_)⟩
  have e := Option.some.inj e
  subst e
  rw [hb] at hk
  cases hk
/-- What set leaves. -/
def SetLeaves (w : World) (B p N : Nat) (F : Int → Int) (e : Ending) (w' : World) : Prop :=
  e = .returned (.tuple #[]) ∧ PurseAt w' B p N F ∧ Apart 39 w w' ∧ Below B w w'
theorem PurseAt.more {w : World} {B p N M : Nat} {F : Int → Int} (h : PurseAt w B p N F) (hN : N ≤ M) : PurseAt w B p M F := by
  obtain ⟨h0, h1 | ⟨b, h1, h2, D, g1, g2, g3⟩⟩ := h
  · exact ⟨h0, .inl h1⟩
  · exact ⟨h0, .inr ⟨b, h1, h2, D, g1.mono hN, g2, g3⟩⟩
theorem grown_below6 {w w' : World} {B b : Nat} (h : w.grownBy w' (some b)) (hB : B ≤ b) (hw : B ≤ w.heap.size) : Below B w w' :=
  ⟨h.os, h.tape, h.output, h.size, fun k hk => h.block k (by omega) (fun e => by have := Option.some.inj e; omega)⟩
theorem PurseOn.ne {w : World} {p b N : Nat} {F : Int → Int} {v : Value} {t : TypeId} {fr : Nat × Nat} (h : w.heap[p]? = some (.cells #[v] t fr)) (hm : MapZ w b N F) : p ≠ b := by
  intro e
  obtain ⟨D, ⟨es, ck, hb, _⟩, _⟩ := hm
  rw [e, hb] at h
  cases h
theorem MapZ.same {w : World} {b N : Nat} {F G : Int → Int} (h : MapZ w b N F) (e : ∀ k, F k = G k) : MapZ w b N G := by
  obtain ⟨D, h1, h2, h3⟩ := h
  exact ⟨D, h1, h2, fun k hk => by rw [h3 k hk, e]⟩
set_option linter.unusedSimpArgs false in
set_option maxRecDepth 100000 in
set_option maxHeartbeats 1600000 in
theorem purse_set {w : World} {B p N : Nat} {F : Int → Int} (key n : Int) (hkey : Fits key) (hn : Fits n) (hN : N ≤ 1000) (hB : B ≤ w.heap.size) (h : PurseAt w B p N F) :
    Calls Try.prog 20 #[.pointer (some ⟨p, 0, none⟩), .int .i64 key, .int .i64 n] w fun e w' => SetLeaves w B p (N + 1) (upd F key n) e w' := by
  have HKEY := Lib.hid hkey
  have HFS := Lib.hid hn
  have hmm := @run_makeMap Try.prog
  have km : ∀ W : World, (binOp .eql 37 (.map none) (.map none)).run Try.prog W = .ok (.bool true) W := fun W => by kernel_rfl
  have kn : ∀ (b : Nat) (W : World), (binOp .eql 37 (.map (some b)) (.map none)).run Try.prog W = .ok (.bool false) W := fun b W => by kernel_rfl
  have kd : ∀ (W : World) (ty : TypeId), (Builtin.delete_ #[37, 3] ty #[.map none, .int .i64 key]).run Try.prog W = .ok (.tuple #[]) W := fun W ty => Maps.drop_nil Try.keyZ Try.underlying37 (keyOf_int_mk Try.underlying3 (wf_of hkey)) ty
  obtain ⟨hBp, ⟨h1, h2⟩ | ⟨b, hBb, h2, h3⟩⟩ := h
  · have c0 := cell_of_one' h1
    have f0 : w.frozen? ⟨p, 0, none⟩ = false := frozen_of_row _ _ _ _ _ h1
    have HP := Lib.hid h1
    have H2 := Lib.hid h2
    clear h1 h2 hkey hn
    by_cases hz : n = 0
    · subst hz
      go_enter Try.func20, Try.ntmps20
      go_wp2
      refine bodyPost_ret (v := .tuple #[]) (by simp [results, Try.results20, go_sem]) rfl ?_
      exact ⟨rfl, ⟨hBp, .inl ⟨HP.out, fun k => by unfold upd; split; rfl; exact H2.out k⟩⟩, Apart.of (Below.refl _ _), Below.refl _ _⟩
    · have hz' : (n == 0) = false := by simpa using hz
      have hpl := lt_of_block HP.out
      have b3 : Below w.heap.size w (w.alloc (.map #[] 0)) := (Below.refl _ _).alloc (Nat.le_refl _) _
      have hp3 := (b3.block _ hpl).trans HP.out
      have c3 := cell_of_one' hp3
      have f3 : (w.alloc (.map #[] 0)).frozen? ⟨p, 0, none⟩ = false := frozen_of_row _ _ _ _ _ hp3
      have B3 := Lib.hid b3
      have P3 := Lib.hid hp3
      have PL := Lib.hid hpl
      clear b3 hp3 hpl
      go_enter Try.func20, Try.ntmps20
      go_upto_region 4 with (fail)
      have b3 := B3.out
      have hp3 := P3.out
      have hpl := PL.out
      clear c3 f3 B3 P3 PL
      have hb4 : But (w.alloc (.map #[] 0)).heap.size p (w.alloc (.map #[] 0)) ((w.alloc (.map #[] 0)).setCell ⟨p, 0, none⟩ (.map (some w.heap.size))) := (But.refl _ p _).setCell _ (.inl rfl) _
      have hm4 : MapZ ((w.alloc (.map #[] 0)).setCell ⟨p, 0, none⟩ (.map (some w.heap.size))) w.heap.size 0 (fun _ => 0) := (MapZ.made w).kept (row := some p) ⟨hb4.os, hb4.tape, hb4.output, hb4.size, fun k hk hne => hb4.block k hk (fun e => hne (by rw [e]))⟩ (by simp; omega)
      have hp4 : ((w.alloc (.map #[] 0)).setCell ⟨p, 0, none⟩ (.map (some w.heap.size))).heap[p]? = some (.cells #[.map (some w.heap.size)] 39 (0, 0)) := by
        rw [heap_setCell_same _ _ _ _ _ _ hp3]
        rfl
      have ha4 := (Apart.of b3).trans (Apart.set hp3 (.map (some w.heap.size)))
      have hbl4 : Below B w ((w.alloc (.map #[] 0)).setCell ⟨p, 0, none⟩ (.map (some w.heap.size))) := (b3.mono hB).trans ((hb4.mono (Nat.le_trans hB b3.size)).below hBp)
      revert hm4 hp4 ha4 hbl4
      generalize ((w.alloc (.map #[] 0)).setCell ⟨p, 0, none⟩ (.map (some w.heap.size))) = w4
      obtain ⟨bm, hm⟩ : ∃ bm, bm = w.heap.size := ⟨_, rfl⟩
      rw [← hm]
      intro hm4 hp4 ha4 hbl4
      have hmB : B ≤ bm := by omega
      have hpm : p ≠ bm := by omega
      have c4 := cell_of_one' hp4
      have HM4 := Lib.hid hm4
      have HP4 := Lib.hid hp4
      have HA4 := Lib.hid ha4
      have HL4 := Lib.hid hbl4
      clear hb4 hm4 hp4 ha4 hbl4 b3 hp3 hm
      go_wp2_with (at_mapUpdate; refine wpList_update_mapZ rfl _ _ _ 37 rfl Try.underlying37 bm 0 (fun _ => 0) rfl HM4.out (by omega) key n HKEY.out HFS.out rfl rfl ?_; intro w5 hm5 hg5)
      refine bodyPost_ret (v := .tuple #[]) (by simp [results, Try.results20, go_sem]) rfl ?_
      have hp5 := (hg5.block p (lt_of_block HP4.out) (by simp; exact hpm)).trans HP4.out
      refine (fun (on : PurseOn w5 B p (N + 1) _) => ⟨rfl, ⟨hBp, .inr on⟩, HA4.out.trans (Apart.map HM4.out hg5), HL4.out.trans (grown_below6 hg5 hmB (Nat.le_trans hB HL4.out.size))⟩) ⟨bm, hmB, hp5, ?_⟩
      obtain ⟨D, g1, g2, g3⟩ := hm5
      refine ⟨D, g1.mono (by omega), g2, fun k hk => ?_⟩
      rw [g3 k hk]
      simp [upd, H2.out k]
  · have c0 := cell_of_one' h2
    have HP := Lib.hid h2
    have HM := Lib.hid h3
    have HNE := Lib.hid (PurseOn.ne h2 h3)
    clear h2 h3 hkey hn kd
    by_cases hz : n = 0
    · subst hz
      go_enter Try.func20, Try.ntmps20
      go_wp2_with (at_delete; refine wpList_delete_mapZ rfl _ _ 37 rfl Try.underlying37 b N F rfl HM.out key HKEY.out rfl ?_; intro w5 hm5 hg5)
      refine bodyPost_ret (v := .tuple #[]) (by simp [results, Try.results20, go_sem]) rfl ?_
      have hp5 := (hg5.block p (lt_of_block HP.out) (by simp; exact HNE.out)).trans HP.out
      refine (fun (on : PurseOn w5 B p (N + 1) _) => ⟨rfl, ⟨hBp, .inr on⟩, Apart.map HM.out hg5, grown_below6 hg5 hBb hB⟩) ⟨b, hBb, hp5, ?_⟩
      obtain ⟨D, g1, g2, g3⟩ := hm5
      exact ⟨D, g1.mono (by omega), g2, g3⟩
    · have hz' : (n == 0) = false := by simpa using hz
      go_enter Try.func20, Try.ntmps20
      go_wp2_with (at_mapUpdate; refine wpList_update_mapZ rfl _ _ _ 37 rfl Try.underlying37 b N F rfl HM.out (by omega) key n HKEY.out HFS.out rfl rfl ?_; intro w5 hm5 hg5)
      refine bodyPost_ret (v := .tuple #[]) (by simp [results, Try.results20, go_sem]) rfl ?_
      have hp5 := (hg5.block p (lt_of_block HP.out) (by simp; exact HNE.out)).trans HP.out
      exact ⟨rfl, ⟨hBp, .inr ⟨b, hBb, hp5, hm5⟩⟩, Apart.map HM.out hg5, grown_below6 hg5 hBb hB⟩
end Go.Proofs.Ytdgcekkaiaehaaa
