/- What a pen that is not nil writes: numbers, a text, a sum. -/
import Derived.Test.YtdcieknblahoeaaPutsMath
import Derived.Stop.BytesEq
namespace Go.Proofs.Ytdcieknblahoeaa
open Go.RowKit

theorem PenAt.noBytes {w : World} {B pb : Nat} {l : List UInt8} (h : PenAt w B pb l) : NoBytes w pb := by
  rcases h with ⟨h, _⟩ | ⟨sb, v, h, _⟩
  · exact noBytes_two h (fun _ h => by cases h) (fun _ h => by cases h)
  · exact noBytes_two h (fun _ h => by cases h) (fun _ h => by cases h)
theorem Row.butB {w w' : World} {p n c B : Nat} {a : Option Addr} {l : List UInt8} (h : Row w a n c l) (hb : But B p w w') (hp : NoBytes w p) (hB : 0 < n → ∀ x, a = some x → x.block < B) : Row w' a n c l := by
  obtain ⟨h1, h2, h3, h4, h5⟩ := h
  refine ⟨h1, h2, h3, h4, fun h0 => ?_⟩
  obtain ⟨b, off, rfl, hlt, hc⟩ := h5 h0
  have hbp : b ≠ p := fun e => by subst e; exact hp _ _ (hc 0 h0)
  exact ⟨b, off, rfl, Nat.lt_of_lt_of_le hlt hb.size, fun j hj => (hb.cell (a := ⟨b, off + j, none⟩) (hB h0 ⟨b, off, none⟩ rfl) hbp).trans (hc j hj)⟩

set_option maxHeartbeats 800000 in
theorem pnums_at {a : Option Addr} {n c B pb : Nat} {zs : List Int} {l : List UInt8} (w : World) (hi : Ints w a n c zs) (hp : PenAt w B pb l) (hbz : B ≤ w.heap.size) (hB : 0 < n → ∀ x, a = some x → x.block < B ∧ x.block ≠ pb) (hn : n ≤ 30) (hl : l.length ≤ 1000000) :
    Calls Try.prog 9 #[.pointer (some ⟨pb, 0, none⟩), .slice a n c] w fun r w' => r = .returned (.pointer (some ⟨pb, 0, none⟩)) ∧ PenAt w' B pb (l ++ numsB zs) ∧ But B pb w w' := by
  obtain ⟨hzl, hnc, hcm, hz, hsome⟩ := hi
  have HP := Lib.hid hp
  have HL := Lib.hid hl
  have HZL := Lib.hid hzl
  have HZ := Lib.hid hz
  by_cases h0 : 0 < n
  · obtain ⟨b, off, rfl, hlt, hcell⟩ := hsome h0
    obtain ⟨hbB, hbp⟩ := hB h0 _ rfl
    have HC := Lib.hid hcell
    clear hcell hsome hB hzl hz hl hp
    go_enter Try.func9, Try.ntmps9
    go_wp2
    go_loopw [9] (fun i wr => ∃ k : Nat, k ≤ n ∧ i = .int .i64 k ∧ PenAt wr B pb (l ++ numsB (zs.take k)) ∧ But B pb w wr) (fun i _ => n - (intOf i).toNat)
    case atStart => exact ⟨0, Nat.zero_le _, rfl, (by simpa [numsB] using HP.out), But.refl _ _ _⟩
    case round =>
      obtain ⟨k, hk, rfl, hpk, hb⟩ := hrel
      have HPK := Lib.hid hpk
      have HB := Lib.hid hb
      have hbzr : B ≤ wr.heap.size := Nat.le_trans hbz hb.size
      clear hpk
      by_cases hkn : k < n
      · have hck : wr.cell? ⟨b, off + k, none⟩ = some (.int .i64 (zs.getD k 0)) := (hb.cell (a := ⟨b, off + k, none⟩) hbB hbp).trans (HC.out k hkn)
        have hkl : k < zs.length := by rw [HZL.out]; exact hkn
        have hzk : zs.getD k 0 ≤ 9223372036854775807 := by
          have e : zs.getD k 0 = zs[k] := by simp [List.getD, hkl]
          rw [e]
          exact HZ.out _ (List.getElem_mem hkl)
        have hts := numsB_take zs k hkl
        obtain ⟨z, hze⟩ : ∃ z, z = zs.getD k 0 := ⟨_, rfl⟩
        rw [← hze] at hck hzk hts
        have HTS := Lib.hid hts
        have HLB : Hid ((l ++ numsB (zs.take k)).length + 9 ≤ 140737488355328) := by
          have h1 := numsB_len (zs.take k)
          have h2 : (zs.take k).length ≤ k := List.length_take_le _ _
          have h3 := HL.out
          show _ ≤ _
          rw [List.length_append]
          omega
        clear hb hze hts hkl
        go_wp2_with (go_at_call 24; refine (pnum_at _ HPK.out hbzr HLB.out hzk).mono ?_; rintro r w1 ⟨rfl, hp1, hb1⟩; rw [List.append_assoc, ← HTS.out] at hp1; have HP1 := Lib.hid hp1; have HB1 := Lib.hid hb1; clear hp1 hb1)
        go_roundw
        case rel => exact ⟨k + 1, by omega, by go_num, HP1.out, HB.out.trans HB1.out⟩
        case measure => simp [intOf]; omega
      · obtain rfl : k = n := by omega
        have htk : zs.take k = zs := List.take_of_length_le (by rw [HZL.out]; exact Nat.le_refl _)
        have HTK := Lib.hid htk
        clear htk hb
        go_wp2
        go_ret
        exact ⟨rfl, by rw [← HTK.out]; exact HPK.out, HB.out⟩
  · obtain rfl : n = 0 := by omega
    have hz0 : zs = [] := List.eq_nil_of_length_eq_zero hzl
    subst hz0
    clear hsome hzl hz hl hp hB HZ HZL
    go_enter Try.func9, Try.ntmps9
    go_wp2
    refine wp_loop_rounds 1 ?_
    rw [rounds_succ]
    go_wp2
    go_ret
    exact ⟨rfl, by simpa [numsB] using HP.out, But.refl _ _ _⟩

theorem ptext_at {a : Option Addr} {n c B pb : Nat} {l q : List UInt8} (w : World) (hq : Row w a n c q) (hp : PenAt w B pb l) (hbz : B ≤ w.heap.size) (hB : 0 < n → ∀ x, a = some x → x.block < B) (hn : n ≤ 200) (hl : l.length ≤ 1000000) :
    Calls Try.prog 10 #[.pointer (some ⟨pb, 0, none⟩), .slice a n c] w fun r w' => r = .returned (.pointer (some ⟨pb, 0, none⟩)) ∧ PenAt w' B pb (l ++ (numB (q.length : Nat) ++ q)) ∧ But B pb w w' := by
  have hql := hq.1
  have HP := Lib.hid hp
  have HQ := Lib.hid hq
  have HNB := Lib.hid hp.noBytes
  have HB := Lib.hid hB
  have HQL := Lib.hid hql
  clear hp hq hB hql
  go_enter Try.func10, Try.ntmps10
  go_wp2_with fail
  refine (pnum_at _ HP.out hbz (by omega) (by omega)).mono ?_
  rintro r w1 ⟨rfl, hp1, hb1⟩
  have HP1 := Lib.hid hp1
  have HB1 := Lib.hid hb1
  have HQ1 : Hid (Row w1 a n c q) := HQ.out.butB hb1 HNB.out HB.out
  have hbz1 : B ≤ w1.heap.size := Nat.le_trans hbz hb1.size
  have HLB : Hid ((l ++ numB (n : Int)).length + n ≤ 140737488355328) := by
    have h1 := numB_len (n : Int)
    show _ ≤ _
    rw [List.length_append]
    omega
  clear hp1 hb1
  go_wp2_with fail
  refine (write_any HP1.out hbz1 HQ1.out HLB.out).mono ?_
  rintro r w2 ⟨rfl, hp2, hb2⟩
  have HP2 := Lib.hid hp2
  have HB2 := Lib.hid hb2
  clear hp2 hb2
  go_wp2_with fail
  go_ret
  exact ⟨rfl, by rw [HQL.out, ← List.append_assoc]; exact HP2.out, HB1.out.trans HB2.out⟩

theorem psum_at {B pb : Nat} {l s : List UInt8} (w : World) (hs : s.length = 32) (hp : PenAt w B pb l) (hbz : B ≤ w.heap.size) (hl : l.length ≤ 1000000) :
    Calls Try.prog 11 #[.pointer (some ⟨pb, 0, none⟩), .agg (cellsOf s).toArray] w fun r w' => r = .returned (.pointer (some ⟨pb, 0, none⟩)) ∧ PenAt w' B pb (l ++ s) ∧ But B pb w w' := by
  have hb1 : Below w.heap.size w (w.alloc (.cells (cellsOf s).toArray 25)) := (Below.refl _ _).alloc (Nat.le_refl _) _
  have hp1 : PenAt (w.alloc (.cells (cellsOf s).toArray 25)) B pb l := hp.below hbz hb1
  have hr1 : Row (w.alloc (.cells (cellsOf s).toArray 25)) (some ⟨w.heap.size, 0, none⟩) 32 32 s :=
    row_new hs (Nat.le_refl _) (by unfold maxLen; omega) (cellsOf s) 25 (heap_alloc_new w _) (fun j hj => cellsOf_get (by omega))
  have HB1 := Lib.hid hb1
  have HP1 := Lib.hid hp1
  have HR1 := Lib.hid hr1
  have hlv : (cellsOf s).toArray.size = 32 := by simpa [cellsOf] using hs
  clear hb1 hp1 hr1 hp hs
  obtain ⟨V, hV⟩ : ∃ V, V = (cellsOf s).toArray := ⟨_, rfl⟩
  rw [← hV] at HB1 HP1 HR1 hlv ⊢
  clear hV
  go_enter Try.func11, Try.ntmps11
  go_wp2_with fail
  refine (write_any HP1.out (by simp; omega) HR1.out (by omega)).mono ?_
  rintro r w2 ⟨rfl, hp2, hb2⟩
  have HP2 := Lib.hid hp2
  have HB2 := Lib.hid hb2
  clear hp2 hb2
  go_wp2_with fail
  go_ret
  exact ⟨rfl, HP2.out, (But.of (HB1.out.mono hbz)).trans HB2.out⟩
end Go.Proofs.Ytdcieknblahoeaa
