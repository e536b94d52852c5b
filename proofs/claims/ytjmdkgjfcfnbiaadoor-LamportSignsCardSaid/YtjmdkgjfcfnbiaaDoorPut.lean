/- What put comes to: a sum under way takes more bytes. -/
import Derived.Test.YtjmdkgjfcfnbiaaDoorPutMath
import Derived.Test.YtjmdkgjfcfnbiaaDoorMix
import Derived.Deep.CutRange
import Derived.Outline
namespace Go.Proofs.YtjmdkgjfcfnbiaaDoor
open Go.RowKit

/-- What holds at the head of put's loop: k bytes are mixed in, the others are left. -/
def PutAt (w : World) (hb : Nat) (l q : List UInt8) (n : Nat) (v : Value) (wr : World) : Prop :=
  ∃ (k : Nat) (a' : Option Addr) (c' : Nat), v = .slice a' (n - k) c' ∧ k ≤ n ∧ (l.length + k) % 64 = 0 ∧ Row wr a' (n - k) c' (q.drop k) ∧ Off hb a' (n - k) ∧ (∃ bs, HashAt wr hb (run (l ++ q.take k) ((l.length + k) / 64)).list bs (l.length + n)) ∧ KsAt wr ∧ But w.heap.size hb w wr

theorem PutAt.fill {w w3 : World} {hb n n1 r M c' : Nat} {l q bs : List UInt8} {a' : Option Addr} (hM : M = l.length) (hr : r = M % 64) (hT : bs.take (l.length % 64) = l.drop (64 * (l.length / 64))) (hb64 : bs.length = 64) (hn1 : r + n1 = 64) (hq : q.length = n) (hn : n1 ≤ n)
    (h : HashAt w3 hb (compress (run l (l.length / 64)) (splice bs r (q.take n1))).list (splice bs r (q.take n1)) (M + n)) (hrow : Row w3 a' (n - n1) c' (q.drop n1)) (ho : Off hb a' (n - n1)) (hk : KsAt w3) (hbut : But w.heap.size hb w w3) : PutAt w hb l q n (.slice a' (n - n1) c') w3 := by
  subst hM
  subst hr
  exact ⟨n1, a', c', rfl, hn, by omega, hrow, ho, ⟨_, by rw [run_fill l q bs n1 hb64 hT hn1 (by omega)]; exact h⟩, hk, hbut⟩
theorem PutAt.more {w wr w3 : World} {hb n k N c'' : Nat} {l q bs : List UInt8} {a'' : Option Addr} (hm : (l.length + k) % 64 = 0) (hN : N = n - k) (hq : q.length = n) (hge : 64 ≤ N)
    (h : HashAt w3 hb (compress (run (l ++ q.take k) ((l.length + k) / 64)) ((q.drop k).take 64)).list bs (l.length + n)) (hrow : Row w3 a'' (N - 64) c'' ((q.drop k).drop 64)) (ho : Off hb a'' (N - 64)) (hk : KsAt w3) (hbut : But w.heap.size hb w wr) (hbut3 : But wr.heap.size hb wr w3) : PutAt w hb l q n (.slice a'' (N - 64) c'') w3 := by
  have e : N - 64 = n - (k + 64) := by omega
  rw [e] at hrow ho ⊢
  rw [List.drop_drop] at hrow
  exact ⟨k + 64, a'', c'', rfl, by omega, by omega, hrow, ho, ⟨_, by rw [run_more l q k hm (by omega)]; exact h⟩, hk, hbut.trans (hbut3.mono hbut.size)⟩
theorem PutAt.done {wr w3 : World} {hb n k N : Nat} {l q bs : List UInt8} (hm : (l.length + k) % 64 = 0) (hk : k ≤ n) (hN : N = n - k) (hq : q.length = n) (hlt : N < 64) (h : HashAt wr hb (run (l ++ q.take k) ((l.length + k) / 64)).list bs (l.length + n))
    (hh : w3.heap[hb]? = some (.cells (splice (hashRow (run (l ++ q.take k) ((l.length + k) / 64)).list bs (l.length + n)) 8 (cellsOf (q.drop k))).toArray 45 (0, 0))) : SumAt w3 hb (l ++ q) := by
  refine sum_rest l q bs k (l.length + n) (by rw [List.length_append, hq]) hm (by omega) (by omega) ?_
  exact h.copied (off := 0) (by rw [List.length_drop]; omega) hh
def lenOf : Value → Nat
  | .slice _ n _ => n
  | _ => 0

set_option maxRecDepth 100000 in
set_option maxHeartbeats 1600000 in
theorem put_any {w : World} {hb n c : Nat} {a : Option Addr} {l q : List UInt8} (h : SumAt w hb l) (hq : Row w a n c q) (ho : Off hb a n) (hk : KsAt w) (h0 : hb ≠ 0) (hn : l.length + n ≤ 1152921504606846976) :
    Calls Tryd.prog 20 #[.pointer (some ⟨hb, 0, none⟩), .slice a n c] w fun e w' => e = .returned (.tuple #[]) ∧ SumAt w' hb (l ++ q) ∧ But w.heap.size hb w w' := by
  obtain ⟨bs, hh, ht⟩ := h
  have cm := hh.many
  have fm := hh.free 72
  obtain ⟨M, hM⟩ : ∃ M, M = l.length := ⟨_, rfl⟩
  rw [← hM] at cm hn
  obtain ⟨r, hr⟩ : ∃ r, r = M % 64 := ⟨_, rfl⟩
  have e : (M : Int) % 64 = (r : Int) := by omega
  have hr64 : r < 64 := by omega
  have hrI : (r : Int) < 64 := by omega
  have hrJ : (r : Int) ≤ 64 := by omega
  have hcap := hq.2.1
  have hmax : c ≤ 9223372036854775807 := by have := hq.2.2.1; unfold maxLen at this; omega
  have HM := Lib.hid hM
  have HR := Lib.hid hr
  have HH := Lib.hid hh
  have HQ := Lib.hid hq
  have HT := Lib.hid ht
  have HO := Lib.hid ho
  have HK := Lib.hid hk
  clear hM hr hh hq ht ho hk
  go_enter Tryd.func20, Tryd.ntmps20
  go_upto_if 21 with (fail)
  have hb1 : But w.heap.size hb w (w.setCell ⟨hb, 72, none⟩ (.int .i64 ((M : Int) + n))) := (But.refl _ hb _).setCell ⟨hb, 72, none⟩ (.inl rfl) _
  have hh1 : HashAt (w.setCell ⟨hb, 72, none⟩ (.int .i64 ((M : Int) + n))) hb (run l (l.length / 64)).list bs (M + n) := HH.out.setMany (M + n)
  have hq1 : Row (w.setCell ⟨hb, 72, none⟩ (.int .i64 ((M : Int) + n))) a n c q := HQ.out.but hb1 HO.out
  have hk1 : KsAt (w.setCell ⟨hb, 72, none⟩ (.int .i64 ((M : Int) + n))) := HK.out.but hb1 h0
  revert hb1 hh1 hq1 hk1
  generalize (w.setCell ⟨hb, 72, none⟩ (.int .i64 ((M : Int) + n))) = w1
  intro hb1 hh1 hq1 hk1
  have HB1 := Lib.hid hb1
  have HH1 := Lib.hid hh1
  have HQ1 := Lib.hid hq1
  have HK1 := Lib.hid hk1
  clear hb1 hh1 hq1 hk1 cm fm HH HQ HK
  go_cut [1] from 4 to 41 (fun v w' => PutAt w hb l q n v w')
  case first =>
    by_cases hr0 : 0 < r
    · by_cases hsh : r + n < 64
      · obtain ⟨cs, hcs⟩ : ∃ cs, cs = cellsOf q := ⟨_, rfl⟩
        have hcl : cs.length = n := by rw [hcs, cellsOf_len]; exact HQ1.out.1
        have HCL := Lib.hid hcl
        have HCS := Lib.hid hcs
        have HN : Hid (cs.length = Nat.min n (64 - r)) := by show _ = min n (64 - r); rw [hcl]; omega
        have HF : Hid (8 + r + cs.length ≤ (hashRow (run l (l.length / 64)).list bs (M + n)).length) := by show _ ≤ _; rw [hcl, hashRow_len HH1.out.2.1 HH1.out.2.2]; omega
        have HO1 : Hid (∀ v ∈ cs, v.oneCell' = true) := by rw [hcs]; exact cellsOf_one _
        have HP : Hid (0 < cs.length → ∃ ad, a = some ad ∧ ∀ j v, cs[j]? = some v → w1.cell? (ad.add j) = some v) := by rw [hcs]; exact fun h0 => row_copy HQ1.out h0
        clear hcl hcs
        go_wp2_with (refine wpList_copy_but rfl (.tmp 26) (.tmp 27) 24 24 rfl 5 Tryd.underlying24 Tryd.size5 _ _ (64 - r) (64 - r) n c rfl rfl hb (8 + r) (hashRow (run l (l.length / 64)).list bs (M + n)) 45 HH1.out.1 cs HN.out (fun h0 => ⟨rfl, HP.out h0⟩) HF.out HO1.out ?_; rw [HCL.out]; intro w2 hh2 hb2; have HB2 := Lib.hid hb2; clear hb2)
        refine bodyPost_ret (results_none rfl _ _ _) rfl ⟨rfl, ?_, HB1.out.trans (HB2.out.mono HB1.out.size)⟩
        have hql : q.length = n := HQ1.out.1
        refine sum_short l q bs (M + n) (by rw [List.length_append, hql, HM.out]) HT.out (by rw [← HM.out, ← HR.out, hql]; exact hsh) HH1.out.2.2 ?_
        rw [← HM.out, ← HR.out]
        have h1 := HH1.out
        rw [← HM.out] at h1
        refine h1.copied (by rw [hql]; omega) ?_
        have h2 := hh2.out
        rw [HCS.out, ← HM.out] at h2
        exact h2
      · have hge : 64 ≤ r + n := by omega
        obtain ⟨b, off, rfl, _⟩ := HQ1.out.2.2.2.2 (by omega)
        obtain ⟨n1, hn1⟩ : ∃ n1, r + n1 = 64 := ⟨64 - r, by omega⟩
        have hn1n : n1 ≤ n := by omega
        obtain ⟨cs, hcs⟩ : ∃ cs, cs = cellsOf (q.take n1) := ⟨_, rfl⟩
        have hql : q.length = n := HQ1.out.1
        have hcl : cs.length = n1 := by rw [hcs, cellsOf_len, List.length_take]; omega
        have HQL := Lib.hid hql
        have HCL := Lib.hid hcl
        have HCS := Lib.hid hcs
        have HN1 := Lib.hid hn1
        have HN : Hid (cs.length = Nat.min n (64 - r)) := by show _ = min n (64 - r); rw [hcl]; omega
        have HF : Hid (8 + r + cs.length ≤ (hashRow (run l (l.length / 64)).list bs (M + n)).length) := by show _ ≤ _; rw [hcl, hashRow_len HH1.out.2.1 HH1.out.2.2]; omega
        have HO1 : Hid (∀ v ∈ cs, v.oneCell' = true) := by rw [hcs]; exact cellsOf_one _
        have HP : Hid (0 < cs.length → ∃ ad, (some ⟨b, off, none⟩ : Option Addr) = some ad ∧ ∀ j v, cs[j]? = some v → w1.cell? (ad.add j) = some v) := by rw [hcs]; exact fun h0 => row_copy (HQ1.out.take hn1n) h0
        have hsum : (r : Int) + n1 = 64 := by omega
        clear hcl hcs hql hn1
        go_upto_if 32 with ((refine wpList_copy_but rfl (.tmp 26) (.tmp 27) 24 24 rfl 5 Tryd.underlying24 Tryd.size5 _ _ (64 - r) (64 - r) n c rfl rfl hb (8 + r) (hashRow (run l (l.length / 64)).list bs (M + n)) 45 HH1.out.1 cs HN.out (fun h0 => ⟨rfl, HP.out h0⟩) HF.out HO1.out ?_; rw [HCL.out]; intro w2 hh2 hb2; have HH2' := Lib.hid hh2; have HB2' := Lib.hid hb2; clear hh2 hb2))
        have h2 : HashAt w2 hb (run l (l.length / 64)).list (splice bs r (q.take n1)) (M + n) := by
          refine HH1.out.copied (by rw [List.length_take, HQL.out]; have := HN1.out; omega) ?_
          have h2 := HH2'.out.out
          rw [HCS.out] at h2
          exact h2
        have hq2 : Row w2 (some ⟨b, off, none⟩) n c q := HQ1.out.but HB2'.out HO.out
        have hk2 : KsAt w2 := HK1.out.but HB2'.out h0
        have hb02 := HB1.out.trans (HB2'.out.mono HB1.out.size)
        have HH2 := Lib.hid h2
        have HQ2 := Lib.hid hq2
        have HK2 := Lib.hid hk2
        have HB2 := Lib.hid hb02
        clear h2 hq2 hk2 hb02
        go_wp2_with (go_at_call 25; refine (mix_any HH2.out HH2.out.row HK2.out).mono ?_; rintro e w3 ⟨rfl, hh3, hb3⟩; have HH3 := Lib.hid hh3; have HB3 := Lib.hid hb3; clear hh3 hb3)
        · obtain rfl : c = n1 := by omega
          have hq3 : Row w3 (some ⟨b, off, none⟩) (n - c) (c - c) (q.drop c) := (HQ2.out.but HB3.out HO.out).drop hn1n (fun e => by cases e) (fun h => by omega)
          rw [Nat.sub_self] at hq3
          go_meet
          exact PutAt.fill HM.out HR.out HT.out HH1.out.2.2 HN1.out HQL.out hn1n HH3.out hq3 (fun h => by omega) (HK2.out.but HB3.out h0) (HB2.out.trans (HB3.out.mono HB2.out.size))
        · have hq3 : Row w3 (some ⟨b, off + n1, none⟩) (n - n1) (c - n1) (q.drop n1) := (HQ2.out.but HB3.out HO.out).drop hn1n (fun e => by cases e) (fun _ b' off' e => by cases e; rfl)
          go_meet
          exact PutAt.fill HM.out HR.out HT.out HH1.out.2.2 HN1.out HQL.out hn1n HH3.out hq3 (fun _ b' off' e => by cases e; exact HO.out (by omega) b off rfl) (HK2.out.but HB3.out h0) (HB2.out.trans (HB3.out.mono HB2.out.size))
    · go_wp2_with fail
      go_meet
      exact ⟨0, a, c, by simp, Nat.zero_le _, by have := HM.out; have := HR.out; omega, HQ1.out, HO.out, ⟨bs, by rw [List.take_zero, List.append_nil, Nat.add_zero, ← HM.out]; rw [← HM.out] at HH1; exact HH1.out⟩, HK1.out, HB1.out⟩
  case rest =>
    have HCUT := Lib.hid hcut
    clear hcut
    go_wp2_with fail
    go_loopw [1] (fun v wr => PutAt w hb l q n v wr) (fun v _ => lenOf v)
    case atStart => exact HCUT.out
    case round =>
      obtain ⟨k, a', c', rfl, hk, hm, hrow, hoff, ⟨bs', hh⟩, hks, hbut⟩ := hrel
      obtain ⟨N, hN⟩ : ∃ N, N = n - k := ⟨_, rfl⟩
      rw [← hN] at hrow hoff ⊢
      have hql : q.length = n := HQ1.out.1
      have hNc : N ≤ c' := hrow.2.1
      have hcm' : c' ≤ 9223372036854775807 := by have := hrow.2.2.1; unfold maxLen at this; omega
      have HH3 := Lib.hid hh
      have HROW := Lib.hid hrow
      have HOFF := Lib.hid hoff
      have HKS := Lib.hid hks
      have HBUT := Lib.hid hbut
      have HMO := Lib.hid hm
      have HNN := Lib.hid hN
      have HQL := Lib.hid hql
      clear hh hoff hks hbut hm hN hql
      by_cases hge : 64 ≤ N
      · obtain ⟨b', off', rfl, _⟩ := hrow.2.2.2.2 (by omega)
        have hge' : (64 : Int) ≤ N := by omega
        have hrow1 := hrow.take hge
        have HROW1 := Lib.hid hrow1
        clear hrow hrow1
        go_wp2_with (go_at_call 25; refine (mix_any HH3.out HROW1.out HKS.out).mono ?_; rintro e w3 ⟨rfl, hh3, hb3⟩; have HH4 := Lib.hid hh3; have HB4 := Lib.hid hb3; clear hh3 hb3)
        go_roundw
        case rel =>
          have hr3 : Row w3 (some ⟨b', off', none⟩) N c' (q.drop k) := HROW.out.but HB4.out HOFF.out
          have ho3 := HOFF.out (by omega) b' off' rfl
          exact PutAt.more HMO.out HNN.out HQL.out hge HH4.out (hr3.drop hge (fun e => by split at e <;> cases e) (fun h b2 off2 e => by cases e; rw [if_neg (by omega)])) (fun _ b2 off2 e => by split at e <;> (cases e; exact ho3)) (HKS.out.but HB4.out h0) HBUT.out HB4.out
        case measure => simp [lenOf]; omega
      · obtain ⟨cs, hcs⟩ : ∃ cs, cs = cellsOf (q.drop k) := ⟨_, rfl⟩
        have hcl : cs.length = N := by rw [hcs, cellsOf_len]; exact hrow.1
        have HCL := Lib.hid hcl
        have HCS := Lib.hid hcs
        have HMN : Hid (cs.length = Nat.min N 64) := by show _ = min N 64; rw [hcl]; omega
        have HF : Hid (8 + cs.length ≤ (hashRow (run (l ++ q.take k) ((l.length + k) / 64)).list bs' (l.length + n)).length) := by show _ ≤ _; rw [hcl, hashRow_len HH3.out.2.1 HH3.out.2.2]; omega
        have HO1 : Hid (∀ v ∈ cs, v.oneCell' = true) := by rw [hcs]; exact cellsOf_one _
        have HP : Hid (0 < cs.length → ∃ ad, a' = some ad ∧ ∀ j v, cs[j]? = some v → wr.cell? (ad.add j) = some v) := by rw [hcs]; exact fun h0 => row_copy HROW.out h0
        clear hcl hcs hrow
        go_wp2_with (refine wpList_copy_but rfl (.tmp 54) (.tmp 55) 24 24 rfl 5 Tryd.underlying24 Tryd.size5 _ _ 64 64 N c' rfl rfl hb 8 (hashRow (run (l ++ q.take k) ((l.length + k) / 64)).list bs' (l.length + n)) 45 HH3.out.1 cs HMN.out (fun h0 => ⟨rfl, HP.out h0⟩) HF.out HO1.out ?_; rw [HCL.out]; intro w2 hh2 hb2; have HB4 := Lib.hid hb2; clear hb2)
        go_end0
        have h2 := hh2.out
        rw [HCS.out] at h2
        exact ⟨rfl, PutAt.done HMO.out hk HNN.out HQL.out (by omega) HH3.out h2, HBUT.out.trans (HB4.out.mono HBUT.out.size)⟩
end Go.Proofs.YtjmdkgjfcfnbiaaDoor
