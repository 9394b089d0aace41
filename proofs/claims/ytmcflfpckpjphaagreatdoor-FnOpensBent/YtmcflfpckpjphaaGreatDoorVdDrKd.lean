/-
  What spec.l9Kind and spec.DrawSeal give.
-/
import Derived.Test.YtmcflfpckpjphaaGreatDoorVdDra1
set_option maxRecDepth 100000
namespace Go.Proofs.YtmcflfpckpjphaaGreatDoor.DrKd
open Go.RowKit Mem App Blk Draw Zone Res DrN
def DrewK (W0 : World) (a : Option Addr) (len cap : Nat) (l : List Int) (p : Nat) (w : World) : Ending → World → Prop := fun e w' => ∃ (k : Int) (S : Sl) (r : List Int), e = .returned (.tuple #[.int .i64 k, .slice S.a S.n S.c]) ∧ r.length ≤ 40 ∧ SOwn w' w.heap.size w'.heap.size S r ∧ Ready W0 a len cap l p w' ∧ But p w w'
set_option maxHeartbeats 4000000 in
theorem l9Kind {W0 : World} {a : Option Addr} {len cap : Nat} {l : List Int} {p : Nat} {w : World} (h : Ready W0 a len cap l p w) :
  Calls Tryz.prog 53 #[.pointer (some ⟨p, 0, none⟩)] w (DrewK W0 a len cap l p w) := by
 have HP : Hid (p < w.heap.size ∧ W0.heap.size ≤ p) := ⟨h.hc.lt, h.hp⟩
 have R0 := hid (h)
 have B0 : Hid (But p w w) := But.refl p w
 clear h
 go_enter Tryz.func53, Tryz.ntmps53
 go_wp2_with fail
 refine (Draw.below R0.out 6 (by omega) (by omega)).mono ?_
 rintro e x1 ⟨v, rfl, va, vb, r, b⟩
 have VBv : Hid (0 ≤ v ∧ v < 6) := ⟨va, vb⟩
 clear va vb
 have L1 := hid (b.size)
 have KQ : Kept p (p + 1) w x1 := Kept.of_grown b
 have R1 := hid (r)
 have B1 := hid (B0.out.trans b)
 clear R0 B0 b
 clear KQ r
 cases ev0 : (v == 0) with
 | true =>
  obtain rfl : v = 0 := by simpa using ev0
  go_wp2_with fail
  refine (Draw.below R1.out 2 (by omega) (by omega)).mono ?_
  rintro e x2 ⟨u, rfl, va, vb, r, b⟩
  have VBu : Hid (0 ≤ u ∧ u < 2) := ⟨va, vb⟩
  clear va vb
  have L2 := hid (b.size)
  have KQ : Kept p (p + 1) x1 x2 := Kept.of_grown b
  have R2 := hid (r)
  have B2 := hid (B1.out.trans b)
  clear R1 B1 b
  clear KQ r
  have hw : IntKind.i64.wrap (5 + u) = 5 + u := by rw [IntKind.wrap_i64]; have := VBu.out; omega
  go_wp2_with fail
  refine (bytesOf R2.out 12 (by omega)).mono ?_
  rintro e x3 ⟨gb, cb, lb, rfl, el, hb, kg, row, r, b⟩
  have oN : SOwn x3 x2.heap.size x3.heap.size ⟨some ⟨gb, 0, none⟩, 12, cb⟩ lb := SOwn.row row el hb kg row.lt
  have ELb : Hid (12 = lb.length) := el
  clear el hb kg row
  have L3 := hid (b.size)
  have KQ : Kept p (p + 1) x2 x3 := Kept.of_grown b
  have R3 := hid (r)
  have B3 := hid (B2.out.trans b)
  clear R2 B2 b
  clear KQ r
  have Ob_3 := hid (oN)
  clear oN
  go_wp2
  exact bodyPost_ret (v := .tuple #[.int .i64 (5 + u), .slice (some ⟨gb, 0, none⟩) 12 cb]) (res2 rfl (is_tmp rfl) (is_tmp rfl)) rfl ⟨(5 + u), ⟨some ⟨gb, 0, none⟩, 12, cb⟩, lb, rfl, by rw [← ELb.out]; omega, Ob_3.out.mono (by have := hid4 HP L1 L2 L3; omega) (by have := hid4 HP L1 L2 L3; omega), R3.out, B3.out⟩
 | false =>
  cases ev1 : (v == 1) with
  | true =>
   obtain rfl : v = 1 := by simpa using ev1
   go_wp2_with fail
   refine (Draw.below R1.out 2 (by omega) (by omega)).mono ?_
   rintro e x2 ⟨u, rfl, va, vb, r, b⟩
   have VBu : Hid (0 ≤ u ∧ u < 2) := ⟨va, vb⟩
   clear va vb
   have L2 := hid (b.size)
   have KQ : Kept p (p + 1) x1 x2 := Kept.of_grown b
   have R2 := hid (r)
   have B2 := hid (B1.out.trans b)
   clear R1 B1 b
   clear KQ r
   have hw : IntKind.i64.wrap (7 + u) = 7 + u := by rw [IntKind.wrap_i64]; have := VBu.out; omega
   go_wp2_with fail
   refine (bytesOf R2.out 4 (by omega)).mono ?_
   rintro e x3 ⟨gb, cb, lb, rfl, el, hb, kg, row, r, b⟩
   have oN : SOwn x3 x2.heap.size x3.heap.size ⟨some ⟨gb, 0, none⟩, 4, cb⟩ lb := SOwn.row row el hb kg row.lt
   have ELb : Hid (4 = lb.length) := el
   clear el hb kg row
   have L3 := hid (b.size)
   have KQ : Kept p (p + 1) x2 x3 := Kept.of_grown b
   have R3 := hid (r)
   have B3 := hid (B2.out.trans b)
   clear R2 B2 b
   clear KQ r
   have Ob_3 := hid (oN)
   clear oN
   go_wp2
   exact bodyPost_ret (v := .tuple #[.int .i64 (7 + u), .slice (some ⟨gb, 0, none⟩) 4 cb]) (res2 rfl (is_tmp rfl) (is_tmp rfl)) rfl ⟨(7 + u), ⟨some ⟨gb, 0, none⟩, 4, cb⟩, lb, rfl, by rw [← ELb.out]; omega, Ob_3.out.mono (by have := hid4 HP L1 L2 L3; omega) (by have := hid4 HP L1 L2 L3; omega), R3.out, B3.out⟩
  | false =>
   go_wp2_with fail
   refine (intOfList (R1.out.alloc _) x1.heap.size 6 [0, 1, 3, 12, 33, 40] rfl (ints_new x1 _) (by have := R1.out.hc.lt; omega) (by omega) (by omega)).mono ?_
   rintro e x2 ⟨z, rfl, vm, r, b0⟩
   have VMz : Hid (z ∈ ([0, 1, 3, 12, 33, 40] : List Int)) := vm
   have b : But p x1 x2 := ((But.refl p x1).alloc _).trans b0
   clear vm b0
   have L2 := hid (b.size)
   have KQ : Kept p (p + 1) x1 x2 := Kept.of_grown b
   have R2 := hid (r)
   have B2 := hid (B1.out.trans b)
   clear R1 B1 b
   clear KQ r
   have hv : 0 ≤ z ∧ z ≤ 40 := by have q := VMz.out; simp only [List.mem_cons, List.mem_nil_iff, or_false] at q; omega
   obtain ⟨Z, rfl⟩ := Int.eq_ofNat_of_zero_le hv.1
   have HNZ : Hid (Z ≤ 40) := by have := hv.2; show _ ≤ _; omega
   clear hv
   go_wp2_with fail
   refine (bytesOf R2.out Z (by have := HNZ.out; omega)).mono ?_
   rintro e x3 ⟨gb, cb, lb, rfl, el, hb, kg, row, r, b⟩
   have oN : SOwn x3 x2.heap.size x3.heap.size ⟨some ⟨gb, 0, none⟩, Z, cb⟩ lb := SOwn.row row el hb kg row.lt
   have ELb : Hid (Z = lb.length) := el
   clear el hb kg row
   have L3 := hid (b.size)
   have KQ : Kept p (p + 1) x2 x3 := Kept.of_grown b
   have R3 := hid (r)
   have B3 := hid (B2.out.trans b)
   clear R2 B2 b
   clear KQ r
   have Ob_3 := hid (oN)
   clear oN
   have hZ := HNZ.out
   go_wp2
   exact bodyPost_ret (v := .tuple #[.int .i64 4, .slice (some ⟨gb, 0, none⟩) Z cb]) (res2 rfl (is_tmp rfl) (is_tmp rfl)) rfl ⟨4, ⟨some ⟨gb, 0, none⟩, Z, cb⟩, lb, rfl, by rw [← ELb.out]; omega, Ob_3.out.mono (by have := hid4 HP L1 L2 L3; omega) (by have := hid4 HP L1 L2 L3; omega), R3.out, B3.out⟩

end Go.Proofs.YtmcflfpckpjphaaGreatDoor.DrKd
