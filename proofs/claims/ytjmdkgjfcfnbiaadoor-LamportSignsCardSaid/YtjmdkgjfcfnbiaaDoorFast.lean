/- SHA-256 over naturals, which the kernel reckons quickly (a block in some 10 ms), and that it is the plain one. No program is named. -/
import Derived.Test.YtjmdkgjfcfnbiaaDoorSpec
namespace Go.Proofs.YtjmdkgjfcfnbiaaDoor

def fRot (x n : Nat) : Nat := Nat.lor (Nat.shiftRight x n) (Nat.mod (Nat.shiftLeft x (Nat.sub 32 n)) 4294967296)
def fTurn (x i j k : Nat) : Nat := Nat.xor (Nat.xor (fRot x i) (fRot x j)) (fRot x k)
def fShift (x i j k : Nat) : Nat := Nat.xor (Nat.xor (fRot x i) (fRot x j)) (Nat.shiftRight x k)
def fChoice (e f g : Nat) : Nat := Nat.xor (Nat.land e f) (Nat.land (Nat.sub 4294967295 e) g)
def fMajor (a b c : Nat) : Nat := Nat.xor (Nat.xor (Nat.land a b) (Nat.land a c)) (Nat.land b c)
def fAdd (a b : Nat) : Nat := Nat.mod (Nat.add a b) 4294967296
def fTee (e f g h k w : Nat) : Nat := fAdd (fAdd (fAdd (fAdd h (fTurn e 6 11 25)) (fChoice e f g)) k) w
def fYou (a b c : Nat) : Nat := fAdd (fTurn a 2 13 22) (fMajor a b c)
def fNext (w0 w1 w9 w14 : Nat) : Nat := fAdd (fAdd (fAdd w0 (fShift w1 7 18 3)) w9) (fShift w14 17 19 10)
def fGo : List Nat → Nat → Nat → Nat → Nat → Nat → Nat → Nat → Nat → Nat → Nat → Nat → Nat → Nat → Nat → Nat → Nat → Nat → Nat → Nat → Nat → Nat → Nat → Nat → Nat → List Nat
  | [], a, b, c, d, e, f, g, h, _, _, _, _, _, _, _, _, _, _, _, _, _, _, _, _ => [a, b, c, d, e, f, g, h]
  | k :: l, a, b, c, d, e, f, g, h, w0, w1, w2, w3, w4, w5, w6, w7, w8, w9, w10, w11, w12, w13, w14, w15 =>
    fGo l (fAdd (fTee e f g h k w0) (fYou a b c)) a b c (fAdd d (fTee e f g h k w0)) e f g w1 w2 w3 w4 w5 w6 w7 w8 w9 w10 w11 w12 w13 w14 w15 (fNext w0 w1 w9 w14)
def fKs : List Nat := ks.map (·.toNat)
def fWord (b : List Nat) (i : Nat) : Nat := b.getD (4 * i) 0 * 16777216 + b.getD (4 * i + 1) 0 * 65536 + b.getD (4 * i + 2) 0 * 256 + b.getD (4 * i + 3) 0

theorem fRot_is (x : BitVec 32) (n : Nat) (h : n < 32) : fRot x.toNat n = (x.rotateRight n).toNat := by
  rw [BitVec.toNat_rotateRight, Nat.mod_eq_of_lt h]
  rfl
theorem fTurn_is (x : BitVec 32) (i j k : Nat) (hi : i < 32) (hj : j < 32) (hk : k < 32) : fTurn x.toNat i j k = (turn3 x i j k).toNat := by
  unfold fTurn turn3
  rw [fRot_is x i hi, fRot_is x j hj, fRot_is x k hk, BitVec.toNat_xor, BitVec.toNat_xor]
  rfl
theorem fShift_is (x : BitVec 32) (i j k : Nat) (hi : i < 32) (hj : j < 32) : fShift x.toNat i j k = (shift3 x i j k).toNat := by
  unfold fShift shift3
  rw [fRot_is x i hi, fRot_is x j hj, BitVec.toNat_xor, BitVec.toNat_xor, BitVec.toNat_ushiftRight]
  rfl
theorem fAdd_is (x y : BitVec 32) : fAdd x.toNat y.toNat = (x + y).toNat := by
  rw [BitVec.toNat_add]; rfl
theorem fChoice_is (e f g : BitVec 32) : fChoice e.toNat f.toNat g.toNat = (choice e f g).toNat := by
  unfold fChoice choice
  rw [BitVec.toNat_xor, BitVec.toNat_and, BitVec.toNat_and, BitVec.toNat_not]
  rfl
theorem fMajor_is (a b c : BitVec 32) : fMajor a.toNat b.toNat c.toNat = (major a b c).toNat := by
  unfold fMajor major
  rw [BitVec.toNat_xor, BitVec.toNat_xor, BitVec.toNat_and, BitVec.toNat_and, BitVec.toNat_and]
  rfl
theorem fTee_is (v : Eight) (k w : BitVec 32) : fTee v.e.toNat v.f.toNat v.g.toNat v.h.toNat k.toNat w.toNat = (tee v k w).toNat := by
  unfold fTee tee
  rw [fTurn_is v.e 6 11 25 (by omega) (by omega) (by omega), fChoice_is, fAdd_is, fAdd_is, fAdd_is, fAdd_is]
theorem fYou_is (v : Eight) : fYou v.a.toNat v.b.toNat v.c.toNat = (you v).toNat := by
  unfold fYou you
  rw [fTurn_is v.a 2 13 22 (by omega) (by omega) (by omega), fMajor_is, fAdd_is]
/-- The window's next word. -/
def nextOf (w0 w1 w9 w14 : BitVec 32) : BitVec 32 := w0 + shift3 w1 7 18 3 + w9 + shift3 w14 17 19 10
theorem fNext_is (w0 w1 w9 w14 : BitVec 32) : fNext w0.toNat w1.toNat w9.toNat w14.toNat = (nextOf w0 w1 w9 w14).toNat := by
  unfold fNext nextOf
  rw [fShift_is w1 7 18 3 (by omega) (by omega), fShift_is w14 17 19 10 (by omega) (by omega), fAdd_is, fAdd_is, fAdd_is]
/-- The rounds over a window of sixteen words. -/
def goB : List (BitVec 32) → Eight → (Nat → BitVec 32) → Nat → Eight
  | [], v, _, _ => v
  | k :: l, v, s, n => goB l (round v k (s n)) s (n + 1)
theorem fGo_is : ∀ (l : List (BitVec 32)) (v : Eight) (s : Nat → BitVec 32) (n : Nat), (∀ m, s (m + 16) = nextOf (s m) (s (m + 1)) (s (m + 9)) (s (m + 14))) →
    fGo (l.map (·.toNat)) v.a.toNat v.b.toNat v.c.toNat v.d.toNat v.e.toNat v.f.toNat v.g.toNat v.h.toNat (s n).toNat (s (n + 1)).toNat (s (n + 2)).toNat (s (n + 3)).toNat (s (n + 4)).toNat (s (n + 5)).toNat (s (n + 6)).toNat (s (n + 7)).toNat (s (n + 8)).toNat (s (n + 9)).toNat (s (n + 10)).toNat (s (n + 11)).toNat (s (n + 12)).toNat (s (n + 13)).toNat (s (n + 14)).toNat (s (n + 15)).toNat = (goB l v s n).list.map (·.toNat)
  | [], v, s, n, _ => rfl
  | k :: l, v, s, n, h => by
    have ih := fGo_is l (round v k (s n)) s (n + 1) h
    rw [show n + 1 + 15 = n + 16 by omega, h n, ← fNext_is] at ih
    show fGo (l.map (·.toNat)) (fAdd (fTee v.e.toNat v.f.toNat v.g.toNat v.h.toNat k.toNat (s n).toNat) (fYou v.a.toNat v.b.toNat v.c.toNat)) _ _ _ (fAdd v.d.toNat (fTee v.e.toNat v.f.toNat v.g.toNat v.h.toNat k.toNat (s n).toNat)) _ _ _ _ _ _ _ _ _ _ _ _ _ _ _ _ _ _ _ = _
    rw [fTee_is, fYou_is, fAdd_is, fAdd_is]
    exact ih
/-- The words of a block, without end. -/
def wordAt (b : List UInt8) (n : Nat) : BitVec 32 := (sched b (n + 1)).getD n 0
theorem wordAt_of (b : List UInt8) (n m : Nat) (h : n < m) : (sched b m).getD n 0 = wordAt b n := sched_get b (n + 1) m n (by omega) (by omega)
theorem wordAt_low (b : List UInt8) (n : Nat) (h : n < 16) : wordAt b n = word b n := by
  unfold wordAt
  show (sched b n ++ [nextWord b n (sched b n)]).getD n 0 = _
  have := sched_len b n
  rw [List.getD_eq_getElem?_getD, List.getElem?_append_right (by omega), this, Nat.sub_self]
  unfold nextWord
  rw [if_pos h]
  rfl
theorem wordAt_next (b : List UInt8) (m : Nat) : wordAt b (m + 16) = nextOf (wordAt b m) (wordAt b (m + 1)) (wordAt b (m + 9)) (wordAt b (m + 14)) := by
  show (sched b (m + 16) ++ [nextWord b (m + 16) (sched b (m + 16))]).getD (m + 16) 0 = _
  have := sched_len b (m + 16)
  rw [List.getD_eq_getElem?_getD, List.getElem?_append_right (by omega), this, Nat.sub_self]
  unfold nextWord
  rw [if_neg (by omega), show m + 16 - 16 = m by omega, show m + 16 - 15 = m + 1 by omega, show m + 16 - 7 = m + 9 by omega, show m + 16 - 2 = m + 14 by omega,
    wordAt_of b m _ (by omega), wordAt_of b (m + 1) _ (by omega), wordAt_of b (m + 9) _ (by omega), wordAt_of b (m + 14) _ (by omega)]
  rfl
theorem goB_is (b : List UInt8) (v : Eight) : ∀ (l : List (BitVec 32)) (n : Nat), (∀ i, i < l.length → ks.getD (n + i) 0 = l.getD i 0) → n + l.length ≤ 64 → goB l (rounds (sched b 64) v n) (wordAt b) n = rounds (sched b 64) v (n + l.length)
  | [], n, _, _ => rfl
  | k :: l, n, h, hn => by
    have h0 : ks.getD n 0 = k := h 0 (by simp)
    have ih := goB_is b v l (n + 1) (fun i hi => by
      have := h (i + 1) (by simp; omega)
      rw [show n + 1 + i = n + (i + 1) by omega, this]
      rfl) (by simp at hn; omega)
    rw [show n + 1 + l.length = n + (k :: l).length by simp; omega] at ih
    rw [← ih]
    show goB l (round (rounds (sched b 64) v n) k (wordAt b n)) (wordAt b) (n + 1) = goB l (round (rounds (sched b 64) v n) (ks.getD n 0) ((sched b 64).getD n 0)) (wordAt b) (n + 1)
    rw [h0, wordAt_of b n 64 (by simp at hn; omega)]
theorem fWord_is (b : List UInt8) (i : Nat) : fWord (b.map (·.toNat)) i = (word b i).toNat := by
  have e : ∀ j, (b.map (·.toNat)).getD j 0 = (b.getD j 0).toNat := fun j => by
    by_cases h : j < b.length
    · simp [List.getD, h]
    · simp [List.getD, h]
  have lt : ∀ j, (b.getD j 0).toNat < 256 := fun j => UInt8.toNat_lt _
  unfold fWord word
  rw [e, e, e, e, BitVec.toNat_ofNat]
  have h0 := lt (4 * i)
  have h1 := lt (4 * i + 1)
  have h2 := lt (4 * i + 2)
  have h3 := lt (4 * i + 3)
  omega
/-- What a block makes of eight words. -/
def fCompress (v : List Nat) (b : List Nat) : List Nat :=
  match v with
  | [a, b', c, d, e, f, g, h] =>
    match fGo fKs a b' c d e f g h (fWord b 0) (fWord b 1) (fWord b 2) (fWord b 3) (fWord b 4) (fWord b 5) (fWord b 6) (fWord b 7) (fWord b 8) (fWord b 9) (fWord b 10) (fWord b 11) (fWord b 12) (fWord b 13) (fWord b 14) (fWord b 15) with
    | [a2, b2, c2, d2, e2, f2, g2, h2] => [fAdd a a2, fAdd b' b2, fAdd c c2, fAdd d d2, fAdd e e2, fAdd f f2, fAdd g g2, fAdd h h2]
    | l => l
  | l => l
theorem fCompress_is (v : Eight) (b : List UInt8) : fCompress (v.list.map (·.toNat)) (b.map (·.toNat)) = (compress v b).list.map (·.toNat) := by
  have hg := fGo_is ks v (wordAt b) 0 (wordAt_next b)
  have hl : ks.length = 64 := by decide
  have hr := goB_is b v ks 0 (fun i _ => by rw [Nat.zero_add]) (by rw [hl]; decide)
  rw [hl, Nat.zero_add] at hr
  have hr0 : rounds (sched b 64) v 0 = v := by rw [rounds]
  rw [hr0] at hr
  rw [hr] at hg
  simp only [Nat.zero_add] at hg
  rw [wordAt_low b 0 (by omega), wordAt_low b 1 (by omega), wordAt_low b 2 (by omega), wordAt_low b 3 (by omega), wordAt_low b 4 (by omega), wordAt_low b 5 (by omega), wordAt_low b 6 (by omega), wordAt_low b 7 (by omega),
    wordAt_low b 8 (by omega), wordAt_low b 9 (by omega), wordAt_low b 10 (by omega), wordAt_low b 11 (by omega), wordAt_low b 12 (by omega), wordAt_low b 13 (by omega), wordAt_low b 14 (by omega), wordAt_low b 15 (by omega)] at hg
  simp only [← fWord_is] at hg
  unfold compress
  revert hg
  generalize rounds (sched b 64) v 64 = r
  intro hg
  unfold fCompress Eight.list fKs
  simp only [List.map_cons, List.map_nil]
  rw [hg]
  unfold Eight.list Eight.add
  simp only [List.map_cons, List.map_nil, fAdd_is]
def fRun : Nat → List Nat → List Nat → List Nat
  | 0, _, v => v
  | k + 1, l, v => fRun k (l.drop 64) (fCompress v (l.take 64))
def runFrom (v : Eight) : List UInt8 → Nat → Eight
  | _, 0 => v
  | l, k + 1 => runFrom (compress v (l.take 64)) (l.drop 64) k
theorem runFrom_last : ∀ (k : Nat) (v : Eight) (l : List UInt8), runFrom v l (k + 1) = compress (runFrom v l k) ((l.drop (64 * k)).take 64)
  | 0, v, l => rfl
  | k + 1, v, l => by
    rw [runFrom, runFrom_last k, List.drop_drop, show 64 + 64 * k = 64 * (k + 1) by omega, runFrom]
theorem run_from (l : List UInt8) : ∀ k : Nat, run l k = runFrom start l k
  | 0 => rfl
  | k + 1 => by
    rw [runFrom_last, ← run_from l k, run]
theorem fRun_is : ∀ (k : Nat) (v : Eight) (l : List UInt8), fRun k (l.map (·.toNat)) (v.list.map (·.toNat)) = (runFrom v l k).list.map (·.toNat)
  | 0, _, _ => rfl
  | k + 1, v, l => by
    rw [fRun, runFrom, ← List.map_drop, ← List.map_take, fCompress_is]
    exact fRun_is k _ _
def fFour (x : Nat) : List Nat := [Nat.mod (Nat.div x 16777216) 256, Nat.mod (Nat.div x 65536) 256, Nat.mod (Nat.div x 256) 256, Nat.mod x 256]
theorem fFour_is (x : BitVec 32) : (four x).map (·.toNat) = fFour x.toNat := by
  unfold four fFour
  simp only [List.map_cons, List.map_nil, UInt8.toNat_ofNat']
  rfl
def fBehind : List Nat := 128 :: List.replicate 63 0
def fPad (l : List Nat) : List Nat := l ++ fBehind.take (fill l.length) ++ (fFour (Nat.mod (Nat.div (Nat.mul 8 l.length) 4294967296) 4294967296) ++ fFour (Nat.mod (Nat.mul 8 l.length) 4294967296))
theorem fPad_is (l : List UInt8) : (pad l).map (·.toNat) = fPad (l.map (·.toNat)) := by
  unfold pad fPad bitsOf
  rw [List.map_append, List.map_append, List.map_append, fFour_is, fFour_is, BitVec.toNat_ofNat, BitVec.toNat_ofNat, List.map_take, List.length_map]
  rfl
def fStart : List Nat := start.list.map (·.toNat)
def fOut (v : List Nat) : List Nat := v.flatMap fFour
/-- THE SUM, QUICKLY. -/
def fSum (l : List Nat) : List Nat := fOut (fRun ((fPad l).length / 64) (fPad l) fStart)
theorem fSum_is (l : List UInt8) : (sumOf l).map (·.toNat) = fSum (l.map (·.toNat)) := by
  unfold sumOf fSum fOut Eight.bytes
  rw [← fPad_is, List.length_map, show fStart = start.list.map (·.toNat) from rfl, fRun_is, ← run_from, List.map_flatMap, List.flatMap_map]
  simp only [fFour_is]
/-- The words of bytes, in one pass. -/
def fWords : List Nat → List Nat
  | a :: b :: c :: d :: l => Nat.add (Nat.add (Nat.add (Nat.mul a 16777216) (Nat.mul b 65536)) (Nat.mul c 256)) d :: fWords l
  | _ => []
theorem fWords_drop (l : List Nat) (h : 4 ≤ l.length) : fWords (l.drop 4) = (fWords l).drop 1 := by
  match l, h with
  | a :: b :: c :: d :: l, _ => rw [fWords]; rfl
theorem fWords_get : ∀ (i : Nat) (l : List Nat), 4 * i + 3 < l.length → (fWords l).getD i 0 = fWord l i
  | 0, l, h => by
    match l, h with
    | a :: b :: c :: d :: l, _ => rw [fWords]; rfl
  | i + 1, l, h => by
    match l, h with
    | a :: b :: c :: d :: l, h =>
      have ih := fWords_get i l (by simp at h; omega)
      rw [fWords, List.getD_cons_succ, ih]
      unfold fWord
      rw [show 4 * (i + 1) = 4 * i + 4 by omega, show 4 * i + 4 + 1 = (4 * i + 1) + 4 by omega, show 4 * i + 4 + 2 = (4 * i + 2) + 4 by omega, show 4 * i + 4 + 3 = (4 * i + 3) + 4 by omega]
      simp only [List.getD_cons_succ]
theorem fWords_drops : ∀ (k : Nat) (l : List Nat), 4 * k ≤ l.length → fWords (l.drop (4 * k)) = (fWords l).drop k
  | 0, l, _ => rfl
  | k + 1, l, h => by
    rw [show 4 * (k + 1) = 4 * k + 4 by omega, ← List.drop_drop, fWords_drop _ (by rw [List.length_drop]; omega), fWords_drops k l (by omega), List.drop_drop]
def fCompressW (v : List Nat) (ws : List Nat) : List Nat :=
  match v with
  | [a, b', c, d, e, f, g, h] =>
    match fGo fKs a b' c d e f g h (ws.getD 0 0) (ws.getD 1 0) (ws.getD 2 0) (ws.getD 3 0) (ws.getD 4 0) (ws.getD 5 0) (ws.getD 6 0) (ws.getD 7 0) (ws.getD 8 0) (ws.getD 9 0) (ws.getD 10 0) (ws.getD 11 0) (ws.getD 12 0) (ws.getD 13 0) (ws.getD 14 0) (ws.getD 15 0) with
    | [a2, b2, c2, d2, e2, f2, g2, h2] => [fAdd a a2, fAdd b' b2, fAdd c c2, fAdd d d2, fAdd e e2, fAdd f f2, fAdd g g2, fAdd h h2]
    | l => l
  | l => l
theorem fWord_take (l : List Nat) (i : Nat) (h : i < 16) : fWord (l.take 64) i = fWord l i := by
  have e : ∀ j, j < 64 → (l.take 64).getD j 0 = l.getD j 0 := fun j hj => by simp [List.getD, hj]
  unfold fWord
  rw [e _ (by omega), e _ (by omega), e _ (by omega), e _ (by omega)]
theorem fCompressW_is (v l : List Nat) (h : 64 ≤ l.length) : fCompress v (l.take 64) = fCompressW v (fWords l) := by
  unfold fCompress fCompressW
  rw [fWords_get 0 l (by omega), fWords_get 1 l (by omega), fWords_get 2 l (by omega), fWords_get 3 l (by omega), fWords_get 4 l (by omega), fWords_get 5 l (by omega), fWords_get 6 l (by omega), fWords_get 7 l (by omega),
    fWords_get 8 l (by omega), fWords_get 9 l (by omega), fWords_get 10 l (by omega), fWords_get 11 l (by omega), fWords_get 12 l (by omega), fWords_get 13 l (by omega), fWords_get 14 l (by omega), fWords_get 15 l (by omega),
    fWord_take l 0 (by omega), fWord_take l 1 (by omega), fWord_take l 2 (by omega), fWord_take l 3 (by omega), fWord_take l 4 (by omega), fWord_take l 5 (by omega), fWord_take l 6 (by omega), fWord_take l 7 (by omega),
    fWord_take l 8 (by omega), fWord_take l 9 (by omega), fWord_take l 10 (by omega), fWord_take l 11 (by omega), fWord_take l 12 (by omega), fWord_take l 13 (by omega), fWord_take l 14 (by omega), fWord_take l 15 (by omega)]
def fRunW : Nat → List Nat → List Nat → List Nat
  | 0, _, v => v
  | k + 1, ws, v => fRunW k (ws.drop 16) (fCompressW v ws)
theorem fRunW_is : ∀ (k : Nat) (l v : List Nat), 64 * k ≤ l.length → fRun k l v = fRunW k (fWords l) v
  | 0, _, _, _ => rfl
  | k + 1, l, v, h => by
    rw [fRun, fRunW, fCompressW_is v l (by omega), fRunW_is k _ _ (by rw [List.length_drop]; omega)]
    have := fWords_drops 16 l (by omega)
    rw [show 4 * 16 = 64 by omega] at this
    rw [this]
def fQuick (l : List Nat) : List Nat := fOut (fRunW ((fPad l).length / 64) (fWords (fPad l)) fStart)
theorem fQuick_is (l : List UInt8) : (sumOf l).map (·.toNat) = fQuick (l.map (·.toNat)) := by
  rw [fSum_is]
  unfold fSum fQuick
  rw [fRunW_is _ _ _ (by omega)]
/-- Parts behind a tag, as naturals. -/
def fPart (p : List Nat) : List Nat := fFour (Nat.mod p.length 4294967296) ++ p
def fParts (tag : Nat) (ps : List (List Nat)) : List Nat := tag :: ps.flatMap fPart
theorem fParts_is (tag : UInt8) (ps : List (List UInt8)) : (partsOf tag ps).map (·.toNat) = fParts tag.toNat (ps.map (·.map (·.toNat))) := by
  unfold partsOf fParts
  rw [List.map_cons, List.map_flatMap, List.flatMap_map]
  congr 2
  funext p
  unfold partOf fPart
  rw [List.map_append, fFour_is, BitVec.toNat_ofNat, List.length_map]
  rfl
end Go.Proofs.YtjmdkgjfcfnbiaaDoor
