/-
  What spec.l12Psk and spec.DrawEpochKey give.
-/
import Derived.Test.YtpenhliaelhnoaaGreatDoorVaDrawB
import Derived.Test.YtpenhliaelhnoaaGreatDoorVaDrN
import Derived.Test.YtpenhliaelhnoaaGreatDoorVaGz7
import Derived.Test.YtpenhliaelhnoaaGreatDoorVaGz6
set_option maxRecDepth 100000
namespace Go.Proofs.YtpenhliaelhnoaaGreatDoor.DrKe
open Go.RowKit Mem App Blk Zone Draw Res DrN
def DrewP (W0 : World) (a : Option Addr) (len cap : Nat) (l : List Int) (p : Nat) (w : World) : Ending → World → Prop := fun e w' => ∃ (S : Sl) (x : List Int), e = .returned (.slice S.a S.n S.c) ∧ x.length ≤ 33 ∧ SOwn w' w.heap.size w'.heap.size S x ∧ Ready W0 a len cap l p w' ∧ But p w w'
set_option maxHeartbeats 4000000 in
theorem l12Psk {W0 : World} {a : Option Addr} {len cap : Nat} {l : List Int} {p : Nat} {w : World} (h : Ready W0 a len cap l p w) :
  Calls Tryz.prog 26 #[.pointer (some ⟨p, 0, none⟩)] w (DrewP W0 a len cap l p w) := by
 have HP : Hid (p < w.heap.size ∧ W0.heap.size ≤ p) := ⟨h.hc.lt, h.hp⟩
 have R0 := hid (h)
 have B0 : Hid (But p w w) := But.refl p w
 clear h
 go_enter Tryz.func26, Tryz.ntmps26
 go_wp2_with fail
 refine (intOfList (R0.out.alloc _) w.heap.size 8 [1, 5, 16, 32, 32, 0, 33, 16] rfl (ints_new w _) (by have := R0.out.hc.lt; omega) (by omega) (by omega)).mono ?_
 rintro e x1 ⟨z, rfl, vm, r, b0⟩
 have VMz : Hid (z ∈ ([1, 5, 16, 32, 32, 0, 33, 16] : List Int)) := vm
 have b : But p w x1 := ((But.refl p w).alloc _).trans b0
 clear vm b0
 have L1 := hid (b.size)
 have KQ : Kept p (p + 1) w x1 := Kept.of_grown b
 have R1 := hid (r)
 have B1 := hid (B0.out.trans b)
 clear R0 B0 b
 clear KQ r
 have hv : 0 ≤ z ∧ z ≤ 33 := by have q := VMz.out; simp only [List.mem_cons, List.mem_nil_iff, or_false] at q; omega
 obtain ⟨Z, rfl⟩ := Int.eq_ofNat_of_zero_le hv.1
 have HNZ : Hid (Z ≤ 33) := by have := hv.2; show _ ≤ _; omega
 clear hv
 go_wp2_with fail
 refine (bytesOf R1.out Z (by have := HNZ.out; omega)).mono ?_
 rintro e x2 ⟨gs, cs, ls, rfl, el, hb, kg, row, r, b⟩
 have oN : SOwn x2 x1.heap.size x2.heap.size ⟨some ⟨gs, 0, none⟩, Z, cs⟩ ls := SOwn.row row el hb kg row.lt
 have ELs : Hid (Z = ls.length) := el
 clear el hb kg row
 have L2 := hid (b.size)
 have KQ : Kept p (p + 1) x1 x2 := Kept.of_grown b
 have R2 := hid (r)
 have B2 := hid (B1.out.trans b)
 clear R1 B1 b
 clear KQ r
 have Os_2 := hid (oN)
 clear oN
 go_wp2
 exact bodyPost_ret (v := .slice (some ⟨gs, 0, none⟩) Z cs) (res1 rfl (is_tmp rfl)) rfl ⟨⟨some ⟨gs, 0, none⟩, Z, cs⟩, ls, rfl, by rw [← ELs.out]; exact HNZ.out, Os_2.out.mono (by have := hid3 HP L1 L2; omega) (Nat.le_refl _), R2.out, B2.out⟩

end Go.Proofs.YtpenhliaelhnoaaGreatDoor.DrKe
