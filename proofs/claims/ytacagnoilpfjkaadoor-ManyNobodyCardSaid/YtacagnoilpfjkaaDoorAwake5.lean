/- What chapter 5's example comes to: true. -/
import Derived.Test.YtacagnoilpfjkaaDoorMany
import Derived.Lib.SlBytesConst
namespace Go.Proofs.YtacagnoilpfjkaaDoor
open Go.RowKit

theorem row_a (w : World) (fr : Nat × Nat) : Row (w.alloc (.cells #[.int .u8 97] 5 fr)) (some ⟨w.heap.size, 0, none⟩) 1 1 [bt 97] :=
  row_all (l := [bt 97]) (heap_alloc_new w (.cells #[.int .u8 97] 5 fr)) 1 rfl (by omega)
set_option linter.unusedSimpArgs false in
set_option maxRecDepth 100000 in
set_option maxHeartbeats 3200000 in
theorem awake5_any {w : World} (hk : KsAt w) : Calls Tryd.prog 6 #[] w fun e w' => e = .returned (.bool true) ∧ Below w.heap.size w w' := by
  obtain ⟨z, hz, hzl⟩ : ∃ z, zero32 = z ∧ z.length = 32 := ⟨_, rfl, rfl⟩
  have hnew : ∀ W : World, KsAt W → Calls Tryd.prog 7 #[.agg (cellsOf z).toArray, .int .i64 1] W fun e w' => ∃ k, e = .returned (.tuple #[.pointer (some ⟨k, 0, none⟩), .int .i64 0]) ∧ W.heap.size ≤ k ∧ KeyAt w' k z (leafKeys z 1) 0 ∧ Below W.heap.size W w' := fun W hW => new_yes 1 (by omega) (by omega) hzl hW
  have hsign : ∀ (W : World) (k g : Nat), KeyAt W k z (leafKeys z 1) 0 → Row W (some ⟨g, 0, none⟩) 1 1 [bt 97] → KsAt W → Calls Tryd.prog 15 #[.pointer (some ⟨k, 0, none⟩), .slice (some ⟨g, 0, none⟩) 1 1] W fun e w' => Signed5 W k z 1 0 [bt 97] e w' := fun W k g h1 h2 hW => sign5_at h1 (by omega) h2 (by omega) hW
  have hused : ∀ (W : World) (k g : Nat), KeyAt W k z (leafKeys z 1) 1 → Calls Tryd.prog 15 #[.pointer (some ⟨k, 0, none⟩), .slice (some ⟨g, 0, none⟩) 1 1] W fun e w' => e = .returned (.tuple #[.slice none 0 0, .int .i64 15]) ∧ Below W.heap.size W w' := fun W k g h1 => sign5_used h1 (leafKeys_len z 1)
  obtain ⟨R, hroot, hver⟩ : ∃ R : List UInt8, (∀ (W : World) (k : Nat), KeyAt W k z (leafKeys z 1) 1 → KsAt W → Calls Tryd.prog 8 #[.pointer (some ⟨k, 0, none⟩)] W fun e w' => e = .returned (.agg (cellsOf R).toArray) ∧ Below W.heap.size W w') ∧
      (∀ (W : World) (b : Option Addr) (m c g : Nat), Row W b m c (sig5 z 1 0 [bt 97]) → Row W (some ⟨g, 0, none⟩) 1 1 [bt 97] → KsAt W → Calls Tryd.prog 24 #[.agg (cellsOf R).toArray, .slice (some ⟨g, 0, none⟩) 1 1, .slice b m c] W fun e w' => e = .returned (.bool true) ∧ Below W.heap.size W w') :=
    ⟨_, fun W k h1 hW => keyroot_at h1 hW, fun W b m c g h1 h2 hW => verify5_any (by omega) (by omega) h2 (by omega) h1 hW⟩
  have hleaf : ∀ (W : World) (b : Option Addr) (m c : Nat), Row W b m c (sig5 z 1 0 [bt 97]) → Calls Tryd.prog 23 #[.slice b m c] W fun e w' => e = .returned (.int .i64 0) ∧ Below W.heap.size W w' := fun W b m c h1 => leaf5_any (i := 0) (by omega) (by omega) h1
  have kc := fun (w : World) (C : Array Value) (n c : Nat) => Lib.run_convert_bytes_const (P := Tryd.prog) w 37 5 C n c Tryd.underlying37 Tryd.underlying5
  have HZ := Lib.hid hz
  have HK := Lib.hid hk
  have HNEW := Lib.hid hnew
  have HSIGN := Lib.hid hsign
  have HUSED := Lib.hid hused
  have HROOT := Lib.hid hroot
  have HVER := Lib.hid hver
  have HLEAF := Lib.hid hleaf
  clear hz hzl hk hnew hsign hused hroot hver hleaf
  go_enter Tryd.func6, Tryd.ntmps6
  go_wp2_with fail
  rw [← zero32_is, HZ.out]
  refine (HNEW.out _ HK.out).mono ?_
  rintro e w1 ⟨k, rfl, hnk, hkey, hb1⟩
  have HKEY := Lib.hid hkey
  have HB1 := Lib.hid hb1
  have HNK := Lib.hid hnk
  clear hkey hb1 hnk
  go_wp2_with fail
  have b2 : Below w1.heap.size w1 (w1.alloc (.cells #[.int .u8 97] 5 (1, 2))) := (Below.refl _ _).alloc (Nat.le_refl _) _
  refine (HSIGN.out _ k _ (HKEY.out.below b2) (row_a w1 (1, 2)) (HK.out.below (HB1.out.trans (b2.mono HB1.out.size)))).mono ?_
  rintro e w2 ⟨sa, sm, sc, rfl, hsig, hkey2, hbut2⟩
  have HSIG2 := Lib.hid hsig
  have HKEY2 := Lib.hid hkey2
  have HB2 := Lib.hid (HB1.out.trans ((b2.mono HB1.out.size).trans ((hbut2.mono (Nat.le_trans HB1.out.size b2.size)).below HNK.out)))
  clear b2 hsig hkey2 hbut2
  go_wp2_with fail
  have b3 : Below w2.heap.size w2 (w2.alloc (.cells #[.int .u8 98] 5 (1, 2))) := (Below.refl _ _).alloc (Nat.le_refl _) _
  refine (HUSED.out _ k _ (HKEY2.out.below b3)).mono ?_
  rintro e w3 ⟨rfl, hb3⟩
  have HB3' := Lib.hid (b3.trans (hb3.mono b3.size))
  have HKEY3 := Lib.hid (HKEY2.out.below HB3'.out)
  have HSIG3 := Lib.hid (HSIG2.out.below HB3'.out)
  have HB3 := Lib.hid (HB2.out.trans (HB3'.out.mono HB2.out.size))
  clear b3 hb3
  go_wp2_with fail
  refine (HROOT.out _ k HKEY3.out (HK.out.below HB3.out)).mono ?_
  rintro e w4 ⟨rfl, hb4⟩
  have HSIG4 := Lib.hid (HSIG3.out.below hb4)
  have HB4 := Lib.hid (HB3.out.trans (hb4.mono HB3.out.size))
  clear hb4
  go_wp2_with fail
  have b5 : Below w4.heap.size w4 (w4.alloc (.cells #[.int .u8 97] 5 (1, 2))) := (Below.refl _ _).alloc (Nat.le_refl _) _
  refine (HVER.out _ sa sm sc _ (HSIG4.out.below b5) (row_a w4 (1, 2)) (HK.out.below (HB4.out.trans (b5.mono HB4.out.size)))).mono ?_
  rintro e w5 ⟨rfl, hb5⟩
  have HB5' := Lib.hid (b5.trans (hb5.mono b5.size))
  have HSIG5 := Lib.hid (HSIG4.out.below HB5'.out)
  have HB5 := Lib.hid (HB4.out.trans (HB5'.out.mono HB4.out.size))
  clear b5 hb5
  go_wp2_with fail
  refine (HLEAF.out _ sa sm sc HSIG5.out).mono ?_
  rintro e w6 ⟨rfl, hb6⟩
  have HB6 := Lib.hid (HB5.out.trans (hb6.mono HB5.out.size))
  clear hb6
  go_wp2_with fail
  go_ret
  exact ⟨rfl, HB6.out⟩
end Go.Proofs.YtacagnoilpfjkaaDoor
