/- Keys of chapter 4, plainly: secrets, what is shown of them, a key's sum; and that the key's sum of the seed of 32 bytes 0 is not that seed (reckoned by the kernel: 321 blocks). No program is named. -/
import Derived.Test.YtjmdkgjfcfnbiaaDoorFast
import Derived.Test.YtjmdkgjfcfnbiaaDoorLamp
namespace Go.Proofs.YtjmdkgjfcfnbiaaDoor

def fSecret (seed : List Nat) (i b : Nat) : List Nat := fQuick (fParts 11 [seed, [i, b]])
def fShown (s : List Nat) : List Nat := fQuick (fParts 12 [s])
def fPair (seed : List Nat) (i : Nat) : List Nat := fShown (fSecret seed i 0) ++ fShown (fSecret seed i 1)
def fKey (seed : List Nat) : List Nat := fQuick (fParts 13 [(List.range 64).flatMap (fPair seed)])
theorem fSecret_is (seed : List UInt8) (i b : Nat) (hi : i < 256) (hb : b < 256) : (secretOf seed i b).map (·.toNat) = fSecret (seed.map (·.toNat)) i b := by
  unfold secretOf fSecret
  rw [fQuick_is, fParts_is]
  simp only [List.map_cons, List.map_nil, UInt8.toNat_ofNat']
  rw [Nat.mod_eq_of_lt (show i < 2 ^ 8 by omega), Nat.mod_eq_of_lt (show b < 2 ^ 8 by omega)]
  rfl
theorem fShown_is (s : List UInt8) : (shownOf s).map (·.toNat) = fShown (s.map (·.toNat)) := by
  unfold shownOf fShown
  rw [fQuick_is, fParts_is]
  rfl
theorem fPair_is (seed : List UInt8) (i : Nat) (hi : i < 256) : (pairAt seed i).map (·.toNat) = fPair (seed.map (·.toNat)) i := by
  unfold pairAt fPair
  rw [List.map_append, fShown_is, fShown_is, fSecret_is seed i 0 hi (by omega), fSecret_is seed i 1 hi (by omega)]
theorem flatMap_same {α β : Type} {f g : α → List β} : ∀ (l : List α), (∀ x ∈ l, f x = g x) → l.flatMap f = l.flatMap g
  | [], _ => rfl
  | x :: l, h => by
    rw [List.flatMap_cons, List.flatMap_cons, h x (by simp), flatMap_same l (fun y hy => h y (by simp [hy]))]
theorem fKey_is (seed : List UInt8) : (keyOf seed).map (·.toNat) = fKey (seed.map (·.toNat)) := by
  unfold keyOf fKey
  rw [fQuick_is, fParts_is]
  simp only [List.map_cons, List.map_nil]
  unfold allOf
  rw [List.map_flatMap, flatMap_same (f := fun x => (pairAt seed x).map (·.toNat)) (g := fPair (seed.map (·.toNat))) _ (fun i hi => fPair_is seed i (by have := List.mem_range.1 hi; omega))]
  rfl
set_option maxRecDepth 1000000 in
theorem fKey_zero : (fKey (List.replicate 32 0)).head? ≠ some 0 := by decide +kernel
theorem keyZero_ne : keyOf (List.replicate 32 0) ≠ List.replicate 32 0 := by
  intro h
  have e := fKey_is (List.replicate 32 0)
  rw [h, List.map_replicate] at e
  apply fKey_zero
  rw [show (List.replicate 32 (0 : Nat)) = List.replicate 32 ((0 : UInt8).toNat) from rfl, ← e]
  rfl
end Go.Proofs.YtjmdkgjfcfnbiaaDoor
