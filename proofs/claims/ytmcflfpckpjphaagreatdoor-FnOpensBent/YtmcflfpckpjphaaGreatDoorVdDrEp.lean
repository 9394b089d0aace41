/-
  What spec.l9Ep, spec.l9Any and spec.DrawEpSeal give: epochs, right or not.
-/
import Derived.Test.YtmcflfpckpjphaaGreatDoorVdWnDa
import Derived.Test.YtmcflfpckpjphaaGreatDoorVdDrKd
import Derived.Test.YtmcflfpckpjphaaGreatDoorVdBas8
import Derived.Test.YtmcflfpckpjphaaGreatDoorVdBas7
set_option maxRecDepth 100000
namespace Go.Proofs.YtmcflfpckpjphaaGreatDoor.DrEp
open Go.RowKit Mem App Blk Zone ZoneI Draw WnZ Res WinP WnK WnDa DrN DrKd EpZ EpL EpP Shp
theorem ep_seq {w : World} {lo hi : Nat} {S : EpS} {D : EpD} (z : Int) (h : EpOwn w lo hi S D) : EpOwn w lo hi S { D with seq := z } := h
theorem ep_n {w : World} {lo hi : Nat} {S : EpS} {D : EpD} (z : Int) (h : EpOwn w lo hi S D) : EpOwn w lo hi S { D with n := z } := h
theorem ep_key {w : World} {lo hi lo' hi' : Nat} {S : EpS} {D : EpD} {s : Sl} {k : List Int} (h : EpOwn w lo hi S D) (o : SOwn w lo' hi' s k) (d : hi ≤ lo') (e : lo' ≤ hi') (f : lo ≤ hi) : EpOwn w lo hi' ⟨s, S.win⟩ { D with key := k } := by
 obtain ⟨a0, b0, a1, b1, o0, o1, z⟩ := h
 exact ⟨lo', hi', a1, b1, o, o1, by omega⟩
theorem ep_win {w : World} {lo hi lo' hi' : Nat} {S : EpS} {D : EpD} {S' : WnS} {W : WnD} (h : EpOwn w lo hi S D) (k : WnOwn w lo' hi' S' W) (d : hi ≤ lo') (e : lo' ≤ hi') (f : lo ≤ hi) : EpOwn w lo hi' ⟨S.key, S'⟩ { D with win := W } := by
 obtain ⟨a0, b0, a1, b1, o0, o1, z⟩ := h
 exact ⟨a0, b0, lo', hi', o0, k, by omega⟩
def DrewE (W0 : World) (a : Option Addr) (len cap : Nat) (l : List Int) (p : Nat) (w : World) : Ending → World → Prop := fun e w' => ∃ (S : EpS) (D : EpD), e = .returned (epV D S) ∧ EpShort D 65536 ∧ EpOwn w' w.heap.size w'.heap.size S D ∧ Ready W0 a len cap l p w' ∧ But p w w'

set_option maxHeartbeats 8000000 in
theorem l9Ep {W0 : World} {a : Option Addr} {len cap : Nat} {l : List Int} {p : Nat} {w : World} (h : Ready W0 a len cap l p w) :
  Calls Tryz.prog 119 #[.pointer (some ⟨p, 0, none⟩)] w (DrewE W0 a len cap l p w) := by
 have HP : Hid (p < w.heap.size ∧ W0.heap.size ≤ p) := ⟨h.hc.lt, h.hp⟩
 have R0 := hid (h)
 have B0 : Hid (But p w w) := But.refl p w
 clear h
 obtain ⟨x1, hx1⟩ : ∃ x1, (w.alloc (.cells #[.int .i64 0, .slice none 0 0, .int .i64 0, .int .i64 0, .slice none 0 0] 41)) = x1 := ⟨_, rfl⟩
 have HWA := hid (hx1)
 have b1 : Below w.heap.size w x1 := by rw [← hx1]; exact ((Below.refl _ _).alloc (Nat.le_refl _) _)
 have KON : Blk x1 (w.heap.size) 41 [.int .i64 0, .slice none 0 0, .int .i64 0, .int .i64 0, .slice none 0 0] := by
  have q := (Blk.new w 41 [.int .i64 0, .slice none 0 0, .int .i64 0, .int .i64 0, .slice none 0 0])
  skip
  rw [← hx1]; exact q
 have SZA : x1.heap.size = w.heap.size + 1 := by rw [← hx1]; simp
 clear hx1
 have L1 := hid (b1.size)
 have R1 : Hid (Ready W0 a len cap l p x1) := rdyL R0.out b1
 have B1 : Hid (But p w x1) := butL B0.out b1
 clear R0 B0 b1
 go_enter Tryz.func119, Tryz.ntmps119
 go_upto_region 1 with fail
 rw [HWA.out]
 obtain ⟨go, hgo⟩ : ∃ g, w.heap.size = g := ⟨_, rfl⟩
 have GA : Hid (w.heap.size = go ∧ x1.heap.size = go + 1) := ⟨hgo, by omega⟩
 rw [hgo] at KON
 rw [hgo]
 clear HWA SZA hgo
 have KO1 := hid (KON)
 clear KON
 go_wp2_with fail
 refine (intOfList (R1.out.alloc _) x1.heap.size 5 [0, 0, 1, 2, 4294967295] rfl (ints_new x1 _) (by have := R1.out.hc.lt; omega) (by omega) (by omega)).mono ?_
 rintro e x2 ⟨n1, rfl, vm, r, b0⟩
 have VMn1 : Hid (n1 ∈ ([0, 0, 1, 2, 4294967295] : List Int)) := vm
 have b : But p x1 x2 := ((But.refl p x1).alloc _).trans b0
 clear vm b0
 have L2 := hid (b.size)
 have KQ : Kept p (p + 1) x1 x2 := Kept.of_grown b
 have R2 := hid (r)
 have B2 := hid (B1.out.trans b)
 have KO2 := hid (KO1.out.keep (KQ.block _ KO1.out.lt (by have := hid4 HP L1 GA L2; omega)))
 clear R1 B1 KO1 b
 clear KQ r
 go_wp2_with fail
 refine (bytesOf R2.out 32 (by omega)).mono ?_
 rintro e x3 ⟨gk, ck, lk, rfl, el, hb, kg, row, r, b⟩
 have oN : SOwn x3 x2.heap.size x3.heap.size ⟨some ⟨gk, 0, none⟩, 32, ck⟩ lk := SOwn.row row el hb kg row.lt
 have ELk : Hid (32 = lk.length) := el
 clear el hb kg row
 have L3 := hid (b.size)
 have KQ : Kept p (p + 1) x2 x3 := Kept.of_grown b
 have R3 := hid (r)
 have B3 := hid (B2.out.trans b)
 have KO3 := hid (KO2.out.keep (KQ.block _ KO2.out.lt (by have := hid5 HP L1 GA L2 L3; omega)))
 clear R2 B2 KO2 b
 clear KQ r
 have Ok_3 := hid (oN)
 clear oN
 go_wp2_with fail
 refine (EpS.specEpNew n1 ⟨some ⟨gk, 0, none⟩, 32, ck⟩ lk x3 Ok_3.out.rd).mono ?_
 unfold AnsE
 rintro e x4 ⟨S0, rfl, o, b⟩
 have L4 := hid (b.size)
 have R4 : Hid (Ready W0 a len cap l p x4) := rdyL R3.out b
 have B4 : Hid (But p w x4) := butL B3.out b
 have KO4 := hid (KO3.out.later b)
 have Ok_4 := hid (Ok_3.out.later b)
 clear R3 B3 KO3 Ok_3 b
 have hsh : EpShort (newE n1 lk) 65536 := newE_short _ _
 generalize newE n1 lk = D0 at *
 have HS0 := hid (hsh)
 clear hsh
 have OE4 := hid (o)
 clear o
 clear Ok_4
 obtain ⟨x5, hx5⟩ : ∃ x5, x4.alloc (.cells #[.int .i64 D0.n, .slice S0.key.a S0.key.n S0.key.c, .int .i64 D0.seq, .int .i64 D0.win.top, .slice S0.win.bits.a S0.win.bits.n S0.win.bits.c] 41) = x5 := ⟨_, rfl⟩
 have HW5 := hid (hx5)
 have b5 : Below x4.heap.size x4 x5 := by rw [← hx5]; exact (Below.refl _ _).alloc (Nat.le_refl _) _
 have KN : Blk x5 x4.heap.size 41 [.int .i64 D0.n, .slice S0.key.a S0.key.n S0.key.c, .int .i64 D0.seq, .int .i64 D0.win.top, .slice S0.win.bits.a S0.win.bits.n S0.win.bits.c] := by rw [← hx5]; exact Blk.new x4 _ _
 have HSZ5 : Hid (x5.heap.size = x4.heap.size + 1) := by rw [← hx5]; show _ = _; simp
 clear hx5
 have L5 := hid (b5.size)
 have R5 : Hid (Ready W0 a len cap l p x5) := rdyL R4.out b5
 have B5 : Hid (But p w x5) := butL B4.out b5
 have KO5 := hid (KO4.out.later b5)
 have OE5 := hid (OE4.out.later b5)
 clear R4 B4 KO4 OE4 b5
 unfold epV
 go_upto_region 2 with fail
 rw [HW5.out]
 obtain ⟨ge, hge⟩ : ∃ g, x4.heap.size = g := ⟨_, rfl⟩
 have Gge : Hid (x4.heap.size = ge ∧ x5.heap.size = ge + 1) := ⟨hge, by rw [← hge]; exact HSZ5.out⟩
 rw [hge] at KN ⊢
 clear HW5 HSZ5 hge
 have KE5 := hid (KN)
 clear KN
 go_wp2_with fail
 refine (intOfList (R5.out.alloc _) x5.heap.size 8 [0, 0, 1, 5, 281474976709655, 281474976709656, 281474976710655, 281474976710656] rfl (ints_new x5 _) (by have := R5.out.hc.lt; omega) (by omega) (by omega)).mono ?_
 rintro e x6 ⟨sq, rfl, vm, r, b0⟩
 have VMsq : Hid (sq ∈ ([0, 0, 1, 5, 281474976709655, 281474976709656, 281474976710655, 281474976710656] : List Int)) := vm
 have b : But p x5 x6 := ((But.refl p x5).alloc _).trans b0
 clear vm b0
 have L6 := hid (b.size)
 have KQ : Kept p (p + 1) x5 x6 := Kept.of_grown b
 have R6 := hid (r)
 have B6 := hid (B5.out.trans b)
 have KO6 := hid (KO5.out.keep (KQ.block _ KO5.out.lt (by have := hid8 HP L1 GA L2 L3 L4 L5 Gge; have := L6.out; omega)))
 have OE6 := hid (OE5.out.carry KQ (by have := hid8 HP L1 GA L2 L3 L4 L5 Gge; have := L6.out; omega))
 have KE6 := hid (KE5.out.keep (KQ.block _ KE5.out.lt (by have := hid8 HP L1 GA L2 L3 L4 L5 Gge; have := L6.out; omega)))
 clear R5 B5 KO5 OE5 KE5 b
 clear KQ r
 have co2 := KE6.out.cell 2 rfl
 have fo2 := KE6.out.frozen 2
 obtain ⟨x7, hx7⟩ : ∃ y, (x6.setCell ⟨ge, 2, none⟩ (.int .i64 sq)) = y := ⟨_, rfl⟩
 have HW7 := hid (hx7)
 have L7 : Hid (x7.heap.size = x6.heap.size) := by rw [← hx7]; show _ = _; simp
 have KS : Blk x7 ge 41 [.int .i64 D0.n, .slice S0.key.a S0.key.n S0.key.c, .int .i64 sq, .int .i64 D0.win.top, .slice S0.win.bits.a S0.win.bits.n S0.win.bits.c] := by rw [← hx7]; exact (KE6.out.set 2 _ (by simp [maxLen]))
 have KQ : Kept ge (ge + 1) x6 x7 := by rw [← hx7]; exact (Kept.setCell _ _ _ _)
 clear hx7
 have R7 : Hid (Ready W0 a len cap l p x7) := rdyK R6.out KQ (by have := hid8 HP L1 GA L2 L3 L4 L5 Gge; have := hid2 L6 L7; omega)
 have B7 : Hid (But p w x7) := butK B6.out KQ (by have := hid8 HP L1 GA L2 L3 L4 L5 Gge; have := hid2 L6 L7; omega)
 have KO7 := hid (KO6.out.keep (KQ.block _ KO6.out.lt (by have := hid8 HP L1 GA L2 L3 L4 L5 Gge; have := hid2 L6 L7; omega)))
 have OE7 := hid (OE6.out.carry KQ (by have := hid8 HP L1 GA L2 L3 L4 L5 Gge; have := hid2 L6 L7; omega))
 clear R6 B6 KO6 OE6 KQ
 clear KE6
 have KE7 := hid (KS)
 clear KS
 go_upto_region 3 with fail
 rw [HW7.out]
 clear HW7 co2 fo2
 obtain ⟨D1, hD⟩ : ∃ X : EpD, X = { D0 with seq := sq } := ⟨_, rfl⟩
 obtain ⟨S1, hS⟩ : ∃ X : EpS, X = S0 := ⟨_, rfl⟩
 have KN : Blk x7 ge 41 [.int .i64 D1.n, .slice S1.key.a S1.key.n S1.key.c, .int .i64 D1.seq, .int .i64 D1.win.top, .slice S1.win.bits.a S1.win.bits.n S1.win.bits.c] := by rw [hD, hS]; exact KE7.out
 have ON : EpOwn x7 x3.heap.size x4.heap.size S1 D1 := by rw [hD, hS]; exact ep_seq sq OE7.out
 have HS1 : Hid (EpShort D1 65536) := by rw [hD]; exact ⟨HS0.out.key, HS0.out.win⟩
 clear hD hS KE7 OE7
 have KE7 := hid (KN)
 have OE7 := hid (ON)
 clear KN ON
 go_wp2_with fail
 refine (Draw.once R7.out 3 (by omega) (by omega)).mono ?_
 rintro e x8 ⟨o1, rfl, r, b⟩
 have L8 := hid (b.size)
 have KQ : Kept p (p + 1) x7 x8 := Kept.of_grown b
 have R8 := hid (r)
 have B8 := hid (B7.out.trans b)
 have KO8 := hid (KO7.out.keep (KQ.block _ KO7.out.lt (by have := hid8 HP L1 GA L2 L3 L4 L5 Gge; have := hid3 L6 L7 L8; omega)))
 have KE8 := hid (KE7.out.keep (KQ.block _ KE7.out.lt (by have := hid8 HP L1 GA L2 L3 L4 L5 Gge; have := hid3 L6 L7 L8; omega)))
 have OE8 := hid (OE7.out.carry KQ (by have := hid8 HP L1 GA L2 L3 L4 L5 Gge; have := hid3 L6 L7 L8; omega))
 clear R7 B7 KO7 KE7 OE7 b
 clear KQ r
 cases o1 with
 | true =>
  go_wp2_with fail
  refine (WnDs.draw R8.out).mono ?_
  rintro e x9 ⟨Sw, Dw, rfl, hd, o, r, b⟩
  have HDW : Hid (Dw.bits.length ≤ 32) := by show Dw.bits.length ≤ 32; omega
  clear hd
  unfold wnV
  have L9 := hid (b.size)
  have KQ : Kept p (p + 1) x8 x9 := Kept.of_grown b
  have R9 := hid (r)
  have B9 := hid (B8.out.trans b)
  have KO9 := hid (KO8.out.keep (KQ.block _ KO8.out.lt (by have := hid8 HP L1 GA L2 L3 L4 L5 Gge; have := hid4 L6 L7 L8 L9; omega)))
  have KE9 := hid (KE8.out.keep (KQ.block _ KE8.out.lt (by have := hid8 HP L1 GA L2 L3 L4 L5 Gge; have := hid4 L6 L7 L8 L9; omega)))
  have OE9 := hid (OE8.out.carry KQ (by have := hid8 HP L1 GA L2 L3 L4 L5 Gge; have := hid4 L6 L7 L8 L9; omega))
  clear R8 B8 KO8 KE8 OE8 b
  clear KQ r
  have OW9 := hid (o)
  clear o
  have co3 := KE9.out.cell 3 rfl
  have fo3 := KE9.out.frozen 3
  have co4 := KE9.out.cell 4 rfl
  have fo4 := KE9.out.frozen 4
  obtain ⟨x10, hx10⟩ : ∃ y, ((x9.setCell ⟨ge, 3, none⟩ (.int .i64 Dw.top)).setCell ⟨ge, 4, none⟩ (.slice Sw.bits.a Sw.bits.n Sw.bits.c)) = y := ⟨_, rfl⟩
  have HW10 := hid (hx10)
  have L10 : Hid (x10.heap.size = x9.heap.size) := by rw [← hx10]; show _ = _; simp
  have KS : Blk x10 ge 41 [.int .i64 D1.n, .slice S1.key.a S1.key.n S1.key.c, .int .i64 D1.seq, .int .i64 Dw.top, .slice Sw.bits.a Sw.bits.n Sw.bits.c] := by rw [← hx10]; exact ((KE9.out.set 3 _ (by simp [maxLen])).set 4 _ (by simp [maxLen]))
  have KQ : Kept ge (ge + 1) x9 x10 := by rw [← hx10]; exact ((Kept.setCell _ _ _ _).trans (Kept.setCell _ _ _ _))
  clear hx10
  have R10 : Hid (Ready W0 a len cap l p x10) := rdyK R9.out KQ (by have := hid8 HP L1 GA L2 L3 L4 L5 Gge; have := hid5 L6 L7 L8 L9 L10; omega)
  have B10 : Hid (But p w x10) := butK B9.out KQ (by have := hid8 HP L1 GA L2 L3 L4 L5 Gge; have := hid5 L6 L7 L8 L9 L10; omega)
  have KO10 := hid (KO9.out.keep (KQ.block _ KO9.out.lt (by have := hid8 HP L1 GA L2 L3 L4 L5 Gge; have := hid5 L6 L7 L8 L9 L10; omega)))
  have OE10 := hid (OE9.out.carry KQ (by have := hid8 HP L1 GA L2 L3 L4 L5 Gge; have := hid5 L6 L7 L8 L9 L10; omega))
  have OW10 := hid (OW9.out.carry KQ (by have := hid8 HP L1 GA L2 L3 L4 L5 Gge; have := hid5 L6 L7 L8 L9 L10; omega))
  clear R9 B9 KO9 OE9 OW9 KQ
  clear KE9
  have KE10 := hid (KS)
  clear KS
  go_upto_region 5 with fail
  rw [HW10.out]
  clear HW10 co3 fo3 co4 fo4
  obtain ⟨D2, hD⟩ : ∃ X : EpD, X = { D1 with win := Dw } := ⟨_, rfl⟩
  obtain ⟨S2, hS⟩ : ∃ X : EpS, X = ⟨S1.key, Sw⟩ := ⟨_, rfl⟩
  have KN : Blk x10 ge 41 [.int .i64 D2.n, .slice S2.key.a S2.key.n S2.key.c, .int .i64 D2.seq, .int .i64 D2.win.top, .slice S2.win.bits.a S2.win.bits.n S2.win.bits.c] := by rw [hD, hS]; exact KE10.out
  have ON : EpOwn x10 x3.heap.size x9.heap.size S2 D2 := by rw [hD, hS]; exact ep_win OE10.out OW10.out (by have := hid8 HP L1 GA L2 L3 L4 L5 Gge; have := hid5 L6 L7 L8 L9 L10; omega) (by have := hid8 HP L1 GA L2 L3 L4 L5 Gge; have := hid5 L6 L7 L8 L9 L10; omega) (by have := hid8 HP L1 GA L2 L3 L4 L5 Gge; have := hid5 L6 L7 L8 L9 L10; omega)
  have HS2 : Hid (EpShort D2 65536) := by rw [hD]; exact ⟨HS1.out.key, ⟨by show Dw.bits.length ≤ _; have := HDW.out; omega⟩⟩
  clear hD hS KE10 OE10
  have KE10 := hid (KN)
  have OE10 := hid (ON)
  clear KN ON
  obtain ⟨d0, d1, d2, d3, d4⟩ := cells5 KE10.out
  obtain ⟨f0, f1, f2, f3, f4⟩ := cells5 KO10.out
  obtain ⟨g0, g1, g2, g3, g4⟩ := froz5 KO10.out
  go_wp2
  have SZF : Hid (w.heap.size ≤ go ∧ go + 1 ≤ x3.heap.size ∧ x3.heap.size ≤ x9.heap.size ∧ x9.heap.size ≤ x10.heap.size) := by have := hid8 HP L1 GA L2 L3 L4 L5 Gge; have := hid5 L6 L7 L8 L9 L10; show _ ∧ _; omega
  obtain ⟨k1, k2, k3⟩ := ep_stored (D := D2) (S := S2) (lo := x3.heap.size) (hi := x9.heap.size) KO10.out OE10.out (.inl (by have := SZF.out; omega))
  have KP := ep_kept x10 go (.int .i64 D2.n) (.slice S2.key.a S2.key.n S2.key.c) (.int .i64 D2.seq) (.int .i64 D2.win.top) (.slice S2.win.bits.a S2.win.bits.n S2.win.bits.c)
  exact bodyPost_ret (v := epV D2 S2) (res1 rfl (is_cell rfl k1 aggEp)) rfl ⟨S2, D2, rfl, HS2.out, k2.mono (by have := SZF.out; omega) (by rw [ep_size]; have := SZF.out; omega), rdyK R10.out KP (by have := hid8 HP L1 GA L2 L3 L4 L5 Gge; have := hid5 L6 L7 L8 L9 L10; omega), butK B10.out KP (by have := SZF.out; omega)⟩
 | false =>
  go_upto_region 5 with fail
  obtain ⟨d0, d1, d2, d3, d4⟩ := cells5 KE8.out
  obtain ⟨f0, f1, f2, f3, f4⟩ := cells5 KO8.out
  obtain ⟨g0, g1, g2, g3, g4⟩ := froz5 KO8.out
  go_wp2
  have SZF : Hid (w.heap.size ≤ go ∧ go + 1 ≤ x3.heap.size ∧ x3.heap.size ≤ x4.heap.size ∧ x4.heap.size ≤ x8.heap.size) := by have := hid8 HP L1 GA L2 L3 L4 L5 Gge; have := hid3 L6 L7 L8; show _ ∧ _; omega
  obtain ⟨k1, k2, k3⟩ := ep_stored (D := D1) (S := S1) (lo := x3.heap.size) (hi := x4.heap.size) KO8.out OE8.out (.inl (by have := SZF.out; omega))
  have KP := ep_kept x8 go (.int .i64 D1.n) (.slice S1.key.a S1.key.n S1.key.c) (.int .i64 D1.seq) (.int .i64 D1.win.top) (.slice S1.win.bits.a S1.win.bits.n S1.win.bits.c)
  exact bodyPost_ret (v := epV D1 S1) (res1 rfl (is_cell rfl k1 aggEp)) rfl ⟨S1, D1, rfl, HS1.out, k2.mono (by have := SZF.out; omega) (by rw [ep_size]; have := SZF.out; omega), rdyK R8.out KP (by have := hid8 HP L1 GA L2 L3 L4 L5 Gge; have := hid3 L6 L7 L8; omega), butK B8.out KP (by have := SZF.out; omega)⟩

set_option maxHeartbeats 8000000 in
theorem l9Any {W0 : World} {a : Option Addr} {len cap : Nat} {l : List Int} {p : Nat} {w : World} (h : Ready W0 a len cap l p w) :
  Calls Tryz.prog 74 #[.pointer (some ⟨p, 0, none⟩)] w (DrewE W0 a len cap l p w) := by
 have HP : Hid (p < w.heap.size ∧ W0.heap.size ≤ p) := ⟨h.hc.lt, h.hp⟩
 have R0 := hid (h)
 have B0 : Hid (But p w w) := But.refl p w
 clear h
 obtain ⟨x1, hx1⟩ : ∃ x1, (w.alloc (.cells #[.int .i64 0, .slice none 0 0, .int .i64 0, .int .i64 0, .slice none 0 0] 41)) = x1 := ⟨_, rfl⟩
 have HWA := hid (hx1)
 have b1 : Below w.heap.size w x1 := by rw [← hx1]; exact ((Below.refl _ _).alloc (Nat.le_refl _) _)
 have KON : Blk x1 (w.heap.size) 41 [.int .i64 0, .slice none 0 0, .int .i64 0, .int .i64 0, .slice none 0 0] := by
  have q := (Blk.new w 41 [.int .i64 0, .slice none 0 0, .int .i64 0, .int .i64 0, .slice none 0 0])
  skip
  rw [← hx1]; exact q
 have SZA : x1.heap.size = w.heap.size + 1 := by rw [← hx1]; simp
 clear hx1
 have L1 := hid (b1.size)
 have R1 : Hid (Ready W0 a len cap l p x1) := rdyL R0.out b1
 have B1 : Hid (But p w x1) := butL B0.out b1
 clear R0 B0 b1
 go_enter Tryz.func74, Tryz.ntmps74
 go_upto_region 1 with fail
 rw [HWA.out]
 obtain ⟨go, hgo⟩ : ∃ g, w.heap.size = g := ⟨_, rfl⟩
 have GA : Hid (w.heap.size = go ∧ x1.heap.size = go + 1) := ⟨hgo, by omega⟩
 rw [hgo] at KON
 rw [hgo]
 clear HWA SZA hgo
 have KO1 := hid (KON)
 clear KON
 go_wp2_with fail
 refine (l9Ep R1.out).mono ?_
 rintro e x2 ⟨S0, D0, rfl, sh, o, r, b⟩
 have HS0 := hid (sh)
 clear sh
 have L2 := hid (b.size)
 have KQ : Kept p (p + 1) x1 x2 := Kept.of_grown b
 have R2 := hid (r)
 have B2 := hid (B1.out.trans b)
 have KO2 := hid (KO1.out.keep (KQ.block _ KO1.out.lt (by have := hid4 HP L1 GA L2; omega)))
 clear R1 B1 KO1 b
 clear KQ r
 have OE2 := hid (o)
 clear o
 obtain ⟨x3, hx3⟩ : ∃ x3, x2.alloc (.cells #[.int .i64 D0.n, .slice S0.key.a S0.key.n S0.key.c, .int .i64 D0.seq, .int .i64 D0.win.top, .slice S0.win.bits.a S0.win.bits.n S0.win.bits.c] 41) = x3 := ⟨_, rfl⟩
 have HW3 := hid (hx3)
 have b3 : Below x2.heap.size x2 x3 := by rw [← hx3]; exact (Below.refl _ _).alloc (Nat.le_refl _) _
 have KN : Blk x3 x2.heap.size 41 [.int .i64 D0.n, .slice S0.key.a S0.key.n S0.key.c, .int .i64 D0.seq, .int .i64 D0.win.top, .slice S0.win.bits.a S0.win.bits.n S0.win.bits.c] := by rw [← hx3]; exact Blk.new x2 _ _
 have HSZ3 : Hid (x3.heap.size = x2.heap.size + 1) := by rw [← hx3]; show _ = _; simp
 clear hx3
 have L3 := hid (b3.size)
 have R3 : Hid (Ready W0 a len cap l p x3) := rdyL R2.out b3
 have B3 : Hid (But p w x3) := butL B2.out b3
 have KO3 := hid (KO2.out.later b3)
 have OE3 := hid (OE2.out.later b3)
 clear R2 B2 KO2 OE2 b3
 unfold epV
 go_upto_region 2 with fail
 rw [HW3.out]
 obtain ⟨ge, hge⟩ : ∃ g, x2.heap.size = g := ⟨_, rfl⟩
 have Gge : Hid (x2.heap.size = ge ∧ x3.heap.size = ge + 1) := ⟨hge, by rw [← hge]; exact HSZ3.out⟩
 rw [hge] at KN ⊢
 clear HW3 HSZ3 hge
 have KE3 := hid (KN)
 clear KN
 go_wp2_with fail
 refine (Draw.below R3.out 14 (by omega) (by omega)).mono ?_
 rintro e x4 ⟨v, rfl, va, vb, r, b⟩
 have VBv : Hid (0 ≤ v ∧ v < 14) := ⟨va, vb⟩
 clear va vb
 have L4 := hid (b.size)
 have KQ : Kept p (p + 1) x3 x4 := Kept.of_grown b
 have R4 := hid (r)
 have B4 := hid (B3.out.trans b)
 have KO4 := hid (KO3.out.keep (KQ.block _ KO3.out.lt (by have := hid7 HP L1 GA L2 L3 Gge L4; omega)))
 have OE4 := hid (OE3.out.carry KQ (by have := hid7 HP L1 GA L2 L3 Gge L4; omega))
 have KE4 := hid (KE3.out.keep (KQ.block _ KE3.out.lt (by have := hid7 HP L1 GA L2 L3 Gge L4; omega)))
 clear R3 B3 KO3 OE3 KE3 b
 clear KQ r
 cases ev0 : (v == 0) with
 | true =>
  obtain rfl : v = 0 := by simpa using ev0
  go_wp2_with fail
  refine (intOfList (R4.out.alloc _) x4.heap.size 2 [-1, 4294967296] rfl (ints_new x4 _) (by have := R4.out.hc.lt; omega) (by omega) (by omega)).mono ?_
  rintro e x5 ⟨z, rfl, vm, r, b0⟩
  have VMz : Hid (z ∈ ([-1, 4294967296] : List Int)) := vm
  have b : But p x4 x5 := ((But.refl p x4).alloc _).trans b0
  clear vm b0
  have L5 := hid (b.size)
  have KQ : Kept p (p + 1) x4 x5 := Kept.of_grown b
  have R5 := hid (r)
  have B5 := hid (B4.out.trans b)
  have KO5 := hid (KO4.out.keep (KQ.block _ KO4.out.lt (by have := hid8 HP L1 GA L2 L3 Gge L4 L5; omega)))
  have OE5 := hid (OE4.out.carry KQ (by have := hid8 HP L1 GA L2 L3 Gge L4 L5; omega))
  have KE5 := hid (KE4.out.keep (KQ.block _ KE4.out.lt (by have := hid8 HP L1 GA L2 L3 Gge L4 L5; omega)))
  clear R4 B4 KO4 OE4 KE4 b
  clear KQ r
  have co0 := KE5.out.cell 0 rfl
  have fo0 := KE5.out.frozen 0
  obtain ⟨x6, hx6⟩ : ∃ y, (x5.setCell ⟨ge, 0, none⟩ (.int .i64 z)) = y := ⟨_, rfl⟩
  have HW6 := hid (hx6)
  have L6 : Hid (x6.heap.size = x5.heap.size) := by rw [← hx6]; show _ = _; simp
  have KS : Blk x6 ge 41 [.int .i64 z, .slice S0.key.a S0.key.n S0.key.c, .int .i64 D0.seq, .int .i64 D0.win.top, .slice S0.win.bits.a S0.win.bits.n S0.win.bits.c] := by rw [← hx6]; exact (KE5.out.set 0 _ (by simp [maxLen]))
  have KQ : Kept ge (ge + 1) x5 x6 := by rw [← hx6]; exact (Kept.setCell _ _ _ _)
  clear hx6
  have R6 : Hid (Ready W0 a len cap l p x6) := rdyK R5.out KQ (by have := hid8 HP L1 GA L2 L3 Gge L4 L5; have := L6.out; omega)
  have B6 : Hid (But p w x6) := butK B5.out KQ (by have := hid8 HP L1 GA L2 L3 Gge L4 L5; have := L6.out; omega)
  have KO6 := hid (KO5.out.keep (KQ.block _ KO5.out.lt (by have := hid8 HP L1 GA L2 L3 Gge L4 L5; have := L6.out; omega)))
  have OE6 := hid (OE5.out.carry KQ (by have := hid8 HP L1 GA L2 L3 Gge L4 L5; have := L6.out; omega))
  clear R5 B5 KO5 OE5 KQ
  clear KE5
  have KE6 := hid (KS)
  clear KS
  go_upto_region 11 with fail
  rw [HW6.out]
  clear HW6 co0 fo0
  obtain ⟨D1, hD⟩ : ∃ X : EpD, X = { D0 with n := z } := ⟨_, rfl⟩
  obtain ⟨S1, hS⟩ : ∃ X : EpS, X = S0 := ⟨_, rfl⟩
  have KN : Blk x6 ge 41 [.int .i64 D1.n, .slice S1.key.a S1.key.n S1.key.c, .int .i64 D1.seq, .int .i64 D1.win.top, .slice S1.win.bits.a S1.win.bits.n S1.win.bits.c] := by rw [hD, hS]; exact KE6.out
  have ON : EpOwn x6 x1.heap.size x2.heap.size S1 D1 := by rw [hD, hS]; exact ep_n z OE6.out
  have HS1 : Hid (EpShort D1 65536) := by rw [hD]; exact ⟨HS0.out.key, HS0.out.win⟩
  clear hD hS KE6 OE6
  have KE6 := hid (KN)
  have OE6 := hid (ON)
  clear KN ON
  obtain ⟨d0, d1, d2, d3, d4⟩ := cells5 KE6.out
  obtain ⟨f0, f1, f2, f3, f4⟩ := cells5 KO6.out
  obtain ⟨g0, g1, g2, g3, g4⟩ := froz5 KO6.out
  go_wp2
  have SZF : Hid (w.heap.size ≤ go ∧ go + 1 ≤ x1.heap.size ∧ x1.heap.size ≤ x2.heap.size ∧ x2.heap.size ≤ x6.heap.size) := by have := hid8 HP L1 GA L2 L3 Gge L4 L5; have := L6.out; show _ ∧ _; omega
  obtain ⟨k1, k2, k3⟩ := ep_stored (D := D1) (S := S1) (lo := x1.heap.size) (hi := x2.heap.size) KO6.out OE6.out (.inl (by have := SZF.out; omega))
  have KP := ep_kept x6 go (.int .i64 D1.n) (.slice S1.key.a S1.key.n S1.key.c) (.int .i64 D1.seq) (.int .i64 D1.win.top) (.slice S1.win.bits.a S1.win.bits.n S1.win.bits.c)
  exact bodyPost_ret (v := epV D1 S1) (res1 rfl (is_cell rfl k1 aggEp)) rfl ⟨S1, D1, rfl, HS1.out, k2.mono (by have := SZF.out; omega) (by rw [ep_size]; have := SZF.out; omega), rdyK R6.out KP (by have := hid8 HP L1 GA L2 L3 Gge L4 L5; have := L6.out; omega), butK B6.out KP (by have := SZF.out; omega)⟩
 | false =>
  cases ev1 : (v == 1) with
  | true =>
   obtain rfl : v = 1 := by simpa using ev1
   go_wp2_with fail
   refine (intOfList (R4.out.alloc _) x4.heap.size 3 [0, 31, 33] rfl (ints_new x4 _) (by have := R4.out.hc.lt; omega) (by omega) (by omega)).mono ?_
   rintro e x5 ⟨z, rfl, vm, r, b0⟩
   have VMz : Hid (z ∈ ([0, 31, 33] : List Int)) := vm
   have b : But p x4 x5 := ((But.refl p x4).alloc _).trans b0
   clear vm b0
   have L5 := hid (b.size)
   have KQ : Kept p (p + 1) x4 x5 := Kept.of_grown b
   have R5 := hid (r)
   have B5 := hid (B4.out.trans b)
   have KO5 := hid (KO4.out.keep (KQ.block _ KO4.out.lt (by have := hid8 HP L1 GA L2 L3 Gge L4 L5; omega)))
   have OE5 := hid (OE4.out.carry KQ (by have := hid8 HP L1 GA L2 L3 Gge L4 L5; omega))
   have KE5 := hid (KE4.out.keep (KQ.block _ KE4.out.lt (by have := hid8 HP L1 GA L2 L3 Gge L4 L5; omega)))
   clear R4 B4 KO4 OE4 KE4 b
   clear KQ r
   have hv : 0 ≤ z ∧ z ≤ 33 := by have q := VMz.out; simp only [List.mem_cons, List.mem_nil_iff, or_false] at q; omega
   obtain ⟨Z, rfl⟩ := Int.eq_ofNat_of_zero_le hv.1
   have HNZ : Hid (Z ≤ 33) := by have := hv.2; show _ ≤ _; omega
   clear hv
   go_wp2_with fail
   refine (bytesOf R5.out Z (by have := HNZ.out; omega)).mono ?_
   rintro e x6 ⟨gt, ct, lt, rfl, el, hb, kg, row, r, b⟩
   have oN : SOwn x6 x5.heap.size x6.heap.size ⟨some ⟨gt, 0, none⟩, Z, ct⟩ lt := SOwn.row row el hb kg row.lt
   have ELt : Hid (Z = lt.length) := el
   clear el hb kg row
   have L6 := hid (b.size)
   have KQ : Kept p (p + 1) x5 x6 := Kept.of_grown b
   have R6 := hid (r)
   have B6 := hid (B5.out.trans b)
   have KO6 := hid (KO5.out.keep (KQ.block _ KO5.out.lt (by have := hid8 HP L1 GA L2 L3 Gge L4 L5; have := L6.out; omega)))
   have OE6 := hid (OE5.out.carry KQ (by have := hid8 HP L1 GA L2 L3 Gge L4 L5; have := L6.out; omega))
   have KE6 := hid (KE5.out.keep (KQ.block _ KE5.out.lt (by have := hid8 HP L1 GA L2 L3 Gge L4 L5; have := L6.out; omega)))
   clear R5 B5 KO5 OE5 KE5 b
   clear KQ r
   have Ot_6 := hid (oN)
   clear oN
   have co1 := KE6.out.cell 1 rfl
   have fo1 := KE6.out.frozen 1
   obtain ⟨x7, hx7⟩ : ∃ y, (x6.setCell ⟨ge, 1, none⟩ (.slice (some ⟨gt, 0, none⟩) Z ct)) = y := ⟨_, rfl⟩
   have HW7 := hid (hx7)
   have L7 : Hid (x7.heap.size = x6.heap.size) := by rw [← hx7]; show _ = _; simp
   have KS : Blk x7 ge 41 [.int .i64 D0.n, .slice (some ⟨gt, 0, none⟩) Z ct, .int .i64 D0.seq, .int .i64 D0.win.top, .slice S0.win.bits.a S0.win.bits.n S0.win.bits.c] := by rw [← hx7]; exact (KE6.out.set 1 _ (by simp [maxLen]))
   have KQ : Kept ge (ge + 1) x6 x7 := by rw [← hx7]; exact (Kept.setCell _ _ _ _)
   clear hx7
   have R7 : Hid (Ready W0 a len cap l p x7) := rdyK R6.out KQ (by have := hid8 HP L1 GA L2 L3 Gge L4 L5; have := hid2 L6 L7; omega)
   have B7 : Hid (But p w x7) := butK B6.out KQ (by have := hid8 HP L1 GA L2 L3 Gge L4 L5; have := hid2 L6 L7; omega)
   have KO7 := hid (KO6.out.keep (KQ.block _ KO6.out.lt (by have := hid8 HP L1 GA L2 L3 Gge L4 L5; have := hid2 L6 L7; omega)))
   have OE7 := hid (OE6.out.carry KQ (by have := hid8 HP L1 GA L2 L3 Gge L4 L5; have := hid2 L6 L7; omega))
   have Ot_7 := hid (Ot_6.out.carry KQ (by have := hid8 HP L1 GA L2 L3 Gge L4 L5; have := hid2 L6 L7; omega))
   clear R6 B6 KO6 OE6 Ot_6 KQ
   clear KE6
   have KE7 := hid (KS)
   clear KS
   go_upto_region 11 with fail
   rw [HW7.out]
   clear HW7 co1 fo1
   obtain ⟨D1, hD⟩ : ∃ X : EpD, X = { D0 with key := lt } := ⟨_, rfl⟩
   obtain ⟨S1, hS⟩ : ∃ X : EpS, X = ⟨⟨some ⟨gt, 0, none⟩, Z, ct⟩, S0.win⟩ := ⟨_, rfl⟩
   have KN : Blk x7 ge 41 [.int .i64 D1.n, .slice S1.key.a S1.key.n S1.key.c, .int .i64 D1.seq, .int .i64 D1.win.top, .slice S1.win.bits.a S1.win.bits.n S1.win.bits.c] := by rw [hD, hS]; exact KE7.out
   have ON : EpOwn x7 x1.heap.size x6.heap.size S1 D1 := by rw [hD, hS]; exact ep_key OE7.out Ot_7.out (by have := hid8 HP L1 GA L2 L3 Gge L4 L5; have := hid2 L6 L7; omega) (by have := hid8 HP L1 GA L2 L3 Gge L4 L5; have := hid2 L6 L7; omega) (by have := hid8 HP L1 GA L2 L3 Gge L4 L5; have := hid2 L6 L7; omega)
   have HS1 : Hid (EpShort D1 65536) := by rw [hD]; exact ⟨by show lt.length ≤ _; have := hid2 ELt HNZ; omega, HS0.out.win⟩
   clear hD hS KE7 OE7
   have KE7 := hid (KN)
   have OE7 := hid (ON)
   clear KN ON
   obtain ⟨d0, d1, d2, d3, d4⟩ := cells5 KE7.out
   obtain ⟨f0, f1, f2, f3, f4⟩ := cells5 KO7.out
   obtain ⟨g0, g1, g2, g3, g4⟩ := froz5 KO7.out
   go_wp2
   have SZF : Hid (w.heap.size ≤ go ∧ go + 1 ≤ x1.heap.size ∧ x1.heap.size ≤ x6.heap.size ∧ x6.heap.size ≤ x7.heap.size) := by have := hid8 HP L1 GA L2 L3 Gge L4 L5; have := hid2 L6 L7; show _ ∧ _; omega
   obtain ⟨k1, k2, k3⟩ := ep_stored (D := D1) (S := S1) (lo := x1.heap.size) (hi := x6.heap.size) KO7.out OE7.out (.inl (by have := SZF.out; omega))
   have KP := ep_kept x7 go (.int .i64 D1.n) (.slice S1.key.a S1.key.n S1.key.c) (.int .i64 D1.seq) (.int .i64 D1.win.top) (.slice S1.win.bits.a S1.win.bits.n S1.win.bits.c)
   exact bodyPost_ret (v := epV D1 S1) (res1 rfl (is_cell rfl k1 aggEp)) rfl ⟨S1, D1, rfl, HS1.out, k2.mono (by have := SZF.out; omega) (by rw [ep_size]; have := SZF.out; omega), rdyK R7.out KP (by have := hid8 HP L1 GA L2 L3 Gge L4 L5; have := hid2 L6 L7; omega), butK B7.out KP (by have := SZF.out; omega)⟩
  | false =>
   cases ev2 : (v == 2) with
   | true =>
    obtain rfl : v = 2 := by simpa using ev2
    go_wp2_with fail
    refine (intOfList (R4.out.alloc _) x4.heap.size 2 [-1, 281474976710657] rfl (ints_new x4 _) (by have := R4.out.hc.lt; omega) (by omega) (by omega)).mono ?_
    rintro e x5 ⟨z, rfl, vm, r, b0⟩
    have VMz : Hid (z ∈ ([-1, 281474976710657] : List Int)) := vm
    have b : But p x4 x5 := ((But.refl p x4).alloc _).trans b0
    clear vm b0
    have L5 := hid (b.size)
    have KQ : Kept p (p + 1) x4 x5 := Kept.of_grown b
    have R5 := hid (r)
    have B5 := hid (B4.out.trans b)
    have KO5 := hid (KO4.out.keep (KQ.block _ KO4.out.lt (by have := hid8 HP L1 GA L2 L3 Gge L4 L5; omega)))
    have OE5 := hid (OE4.out.carry KQ (by have := hid8 HP L1 GA L2 L3 Gge L4 L5; omega))
    have KE5 := hid (KE4.out.keep (KQ.block _ KE4.out.lt (by have := hid8 HP L1 GA L2 L3 Gge L4 L5; omega)))
    clear R4 B4 KO4 OE4 KE4 b
    clear KQ r
    have co2 := KE5.out.cell 2 rfl
    have fo2 := KE5.out.frozen 2
    obtain ⟨x6, hx6⟩ : ∃ y, (x5.setCell ⟨ge, 2, none⟩ (.int .i64 z)) = y := ⟨_, rfl⟩
    have HW6 := hid (hx6)
    have L6 : Hid (x6.heap.size = x5.heap.size) := by rw [← hx6]; show _ = _; simp
    have KS : Blk x6 ge 41 [.int .i64 D0.n, .slice S0.key.a S0.key.n S0.key.c, .int .i64 z, .int .i64 D0.win.top, .slice S0.win.bits.a S0.win.bits.n S0.win.bits.c] := by rw [← hx6]; exact (KE5.out.set 2 _ (by simp [maxLen]))
    have KQ : Kept ge (ge + 1) x5 x6 := by rw [← hx6]; exact (Kept.setCell _ _ _ _)
    clear hx6
    have R6 : Hid (Ready W0 a len cap l p x6) := rdyK R5.out KQ (by have := hid8 HP L1 GA L2 L3 Gge L4 L5; have := L6.out; omega)
    have B6 : Hid (But p w x6) := butK B5.out KQ (by have := hid8 HP L1 GA L2 L3 Gge L4 L5; have := L6.out; omega)
    have KO6 := hid (KO5.out.keep (KQ.block _ KO5.out.lt (by have := hid8 HP L1 GA L2 L3 Gge L4 L5; have := L6.out; omega)))
    have OE6 := hid (OE5.out.carry KQ (by have := hid8 HP L1 GA L2 L3 Gge L4 L5; have := L6.out; omega))
    clear R5 B5 KO5 OE5 KQ
    clear KE5
    have KE6 := hid (KS)
    clear KS
    go_upto_region 11 with fail
    rw [HW6.out]
    clear HW6 co2 fo2
    obtain ⟨D1, hD⟩ : ∃ X : EpD, X = { D0 with seq := z } := ⟨_, rfl⟩
    obtain ⟨S1, hS⟩ : ∃ X : EpS, X = S0 := ⟨_, rfl⟩
    have KN : Blk x6 ge 41 [.int .i64 D1.n, .slice S1.key.a S1.key.n S1.key.c, .int .i64 D1.seq, .int .i64 D1.win.top, .slice S1.win.bits.a S1.win.bits.n S1.win.bits.c] := by rw [hD, hS]; exact KE6.out
    have ON : EpOwn x6 x1.heap.size x2.heap.size S1 D1 := by rw [hD, hS]; exact ep_seq z OE6.out
    have HS1 : Hid (EpShort D1 65536) := by rw [hD]; exact ⟨HS0.out.key, HS0.out.win⟩
    clear hD hS KE6 OE6
    have KE6 := hid (KN)
    have OE6 := hid (ON)
    clear KN ON
    obtain ⟨d0, d1, d2, d3, d4⟩ := cells5 KE6.out
    obtain ⟨f0, f1, f2, f3, f4⟩ := cells5 KO6.out
    obtain ⟨g0, g1, g2, g3, g4⟩ := froz5 KO6.out
    go_wp2
    have SZF : Hid (w.heap.size ≤ go ∧ go + 1 ≤ x1.heap.size ∧ x1.heap.size ≤ x2.heap.size ∧ x2.heap.size ≤ x6.heap.size) := by have := hid8 HP L1 GA L2 L3 Gge L4 L5; have := L6.out; show _ ∧ _; omega
    obtain ⟨k1, k2, k3⟩ := ep_stored (D := D1) (S := S1) (lo := x1.heap.size) (hi := x2.heap.size) KO6.out OE6.out (.inl (by have := SZF.out; omega))
    have KP := ep_kept x6 go (.int .i64 D1.n) (.slice S1.key.a S1.key.n S1.key.c) (.int .i64 D1.seq) (.int .i64 D1.win.top) (.slice S1.win.bits.a S1.win.bits.n S1.win.bits.c)
    exact bodyPost_ret (v := epV D1 S1) (res1 rfl (is_cell rfl k1 aggEp)) rfl ⟨S1, D1, rfl, HS1.out, k2.mono (by have := SZF.out; omega) (by rw [ep_size]; have := SZF.out; omega), rdyK R6.out KP (by have := hid8 HP L1 GA L2 L3 Gge L4 L5; have := L6.out; omega), butK B6.out KP (by have := SZF.out; omega)⟩
   | false =>
    cases ev3 : (v == 3) with
    | true =>
     obtain rfl : v = 3 := by simpa using ev3
     go_wp2_with fail
     refine (l8Any R4.out).mono ?_
     rintro e x5 ⟨Sw, Dw, rfl, hd, o, r, b⟩
     have HDW : Hid (Dw.bits.length ≤ 32) := hd
     clear hd
     unfold wnV
     have L5 := hid (b.size)
     have KQ : Kept p (p + 1) x4 x5 := Kept.of_grown b
     have R5 := hid (r)
     have B5 := hid (B4.out.trans b)
     have KO5 := hid (KO4.out.keep (KQ.block _ KO4.out.lt (by have := hid8 HP L1 GA L2 L3 Gge L4 L5; omega)))
     have OE5 := hid (OE4.out.carry KQ (by have := hid8 HP L1 GA L2 L3 Gge L4 L5; omega))
     have KE5 := hid (KE4.out.keep (KQ.block _ KE4.out.lt (by have := hid8 HP L1 GA L2 L3 Gge L4 L5; omega)))
     clear R4 B4 KO4 OE4 KE4 b
     clear KQ r
     have OW5 := hid (o)
     clear o
     have co3 := KE5.out.cell 3 rfl
     have fo3 := KE5.out.frozen 3
     have co4 := KE5.out.cell 4 rfl
     have fo4 := KE5.out.frozen 4
     obtain ⟨x6, hx6⟩ : ∃ y, ((x5.setCell ⟨ge, 3, none⟩ (.int .i64 Dw.top)).setCell ⟨ge, 4, none⟩ (.slice Sw.bits.a Sw.bits.n Sw.bits.c)) = y := ⟨_, rfl⟩
     have HW6 := hid (hx6)
     have L6 : Hid (x6.heap.size = x5.heap.size) := by rw [← hx6]; show _ = _; simp
     have KS : Blk x6 ge 41 [.int .i64 D0.n, .slice S0.key.a S0.key.n S0.key.c, .int .i64 D0.seq, .int .i64 Dw.top, .slice Sw.bits.a Sw.bits.n Sw.bits.c] := by rw [← hx6]; exact ((KE5.out.set 3 _ (by simp [maxLen])).set 4 _ (by simp [maxLen]))
     have KQ : Kept ge (ge + 1) x5 x6 := by rw [← hx6]; exact ((Kept.setCell _ _ _ _).trans (Kept.setCell _ _ _ _))
     clear hx6
     have R6 : Hid (Ready W0 a len cap l p x6) := rdyK R5.out KQ (by have := hid8 HP L1 GA L2 L3 Gge L4 L5; have := L6.out; omega)
     have B6 : Hid (But p w x6) := butK B5.out KQ (by have := hid8 HP L1 GA L2 L3 Gge L4 L5; have := L6.out; omega)
     have KO6 := hid (KO5.out.keep (KQ.block _ KO5.out.lt (by have := hid8 HP L1 GA L2 L3 Gge L4 L5; have := L6.out; omega)))
     have OE6 := hid (OE5.out.carry KQ (by have := hid8 HP L1 GA L2 L3 Gge L4 L5; have := L6.out; omega))
     have OW6 := hid (OW5.out.carry KQ (by have := hid8 HP L1 GA L2 L3 Gge L4 L5; have := L6.out; omega))
     clear R5 B5 KO5 OE5 OW5 KQ
     clear KE5
     have KE6 := hid (KS)
     clear KS
     go_upto_region 11 with fail
     rw [HW6.out]
     clear HW6 co3 fo3 co4 fo4
     obtain ⟨D1, hD⟩ : ∃ X : EpD, X = { D0 with win := Dw } := ⟨_, rfl⟩
     obtain ⟨S1, hS⟩ : ∃ X : EpS, X = ⟨S0.key, Sw⟩ := ⟨_, rfl⟩
     have KN : Blk x6 ge 41 [.int .i64 D1.n, .slice S1.key.a S1.key.n S1.key.c, .int .i64 D1.seq, .int .i64 D1.win.top, .slice S1.win.bits.a S1.win.bits.n S1.win.bits.c] := by rw [hD, hS]; exact KE6.out
     have ON : EpOwn x6 x1.heap.size x5.heap.size S1 D1 := by rw [hD, hS]; exact ep_win OE6.out OW6.out (by have := hid8 HP L1 GA L2 L3 Gge L4 L5; have := L6.out; omega) (by have := hid8 HP L1 GA L2 L3 Gge L4 L5; have := L6.out; omega) (by have := hid8 HP L1 GA L2 L3 Gge L4 L5; have := L6.out; omega)
     have HS1 : Hid (EpShort D1 65536) := by rw [hD]; exact ⟨HS0.out.key, ⟨by show Dw.bits.length ≤ _; have := HDW.out; omega⟩⟩
     clear hD hS KE6 OE6
     have KE6 := hid (KN)
     have OE6 := hid (ON)
     clear KN ON
     obtain ⟨d0, d1, d2, d3, d4⟩ := cells5 KE6.out
     obtain ⟨f0, f1, f2, f3, f4⟩ := cells5 KO6.out
     obtain ⟨g0, g1, g2, g3, g4⟩ := froz5 KO6.out
     go_wp2
     have SZF : Hid (w.heap.size ≤ go ∧ go + 1 ≤ x1.heap.size ∧ x1.heap.size ≤ x5.heap.size ∧ x5.heap.size ≤ x6.heap.size) := by have := hid8 HP L1 GA L2 L3 Gge L4 L5; have := L6.out; show _ ∧ _; omega
     obtain ⟨k1, k2, k3⟩ := ep_stored (D := D1) (S := S1) (lo := x1.heap.size) (hi := x5.heap.size) KO6.out OE6.out (.inl (by have := SZF.out; omega))
     have KP := ep_kept x6 go (.int .i64 D1.n) (.slice S1.key.a S1.key.n S1.key.c) (.int .i64 D1.seq) (.int .i64 D1.win.top) (.slice S1.win.bits.a S1.win.bits.n S1.win.bits.c)
     exact bodyPost_ret (v := epV D1 S1) (res1 rfl (is_cell rfl k1 aggEp)) rfl ⟨S1, D1, rfl, HS1.out, k2.mono (by have := SZF.out; omega) (by rw [ep_size]; have := SZF.out; omega), rdyK R6.out KP (by have := hid8 HP L1 GA L2 L3 Gge L4 L5; have := L6.out; omega), butK B6.out KP (by have := SZF.out; omega)⟩
    | false =>
     go_upto_region 11 with fail
     obtain ⟨d0, d1, d2, d3, d4⟩ := cells5 KE4.out
     obtain ⟨f0, f1, f2, f3, f4⟩ := cells5 KO4.out
     obtain ⟨g0, g1, g2, g3, g4⟩ := froz5 KO4.out
     go_wp2
     have SZF : Hid (w.heap.size ≤ go ∧ go + 1 ≤ x1.heap.size ∧ x1.heap.size ≤ x2.heap.size ∧ x2.heap.size ≤ x4.heap.size) := by have := hid7 HP L1 GA L2 L3 Gge L4; show _ ∧ _; omega
     obtain ⟨k1, k2, k3⟩ := ep_stored (D := D0) (S := S0) (lo := x1.heap.size) (hi := x2.heap.size) KO4.out OE4.out (.inl (by have := SZF.out; omega))
     have KP := ep_kept x4 go (.int .i64 D0.n) (.slice S0.key.a S0.key.n S0.key.c) (.int .i64 D0.seq) (.int .i64 D0.win.top) (.slice S0.win.bits.a S0.win.bits.n S0.win.bits.c)
     exact bodyPost_ret (v := epV D0 S0) (res1 rfl (is_cell rfl k1 aggEp)) rfl ⟨S0, D0, rfl, HS0.out, k2.mono (by have := SZF.out; omega) (by rw [ep_size]; have := SZF.out; omega), rdyK R4.out KP (by have := hid7 HP L1 GA L2 L3 Gge L4; omega), butK B4.out KP (by have := SZF.out; omega)⟩

end Go.Proofs.YtmcflfpckpjphaaGreatDoor.DrEp
