/-
  What spec.l11Jar, spec.DrawJarNew, spec.DrawMint and spec.DrawFresh give.
-/
import Derived.Test.YtpgapjdejelajaaGreatDoorVaDrawB
import Derived.Test.YtpgapjdejelajaaGreatDoorVaDrawA
import Derived.Test.YtpgapjdejelajaaGreatDoorVaDrawD
import Derived.Test.YtpgapjdejelajaaGreatDoorVaDrN
import Derived.Test.YtpgapjdejelajaaGreatDoorVaGr9
import Derived.Test.YtpgapjdejelajaaGreatDoorVaGr5
import Derived.Test.YtpgapjdejelajaaGreatDoorVaGr8
import Derived.Deep.RegionHeld3
set_option maxRecDepth 100000
namespace Go.Proofs.YtpgapjdejelajaaGreatDoor.DrCk
open Go.RowKit Mem App Blk Zone Draw DrawA DrawD Res DrN AddrS JaZ JaL CkP CkQ Shp
theorem ja_made {w : World} {lo hi : Nat} {s : Sl} {l : List Int} (h : SOwn w lo hi s l) : JaOwn w lo hi ⟨s⟩ ⟨l⟩ := ⟨h, ⟨⟩⟩
def DrewJ (W0 : World) (a : Option Addr) (len cap : Nat) (l : List Int) (p : Nat) (w : World) : Ending → World → Prop := fun e w' => ∃ (S : JaS) (D : JaD), e = .returned (jaV D S) ∧ JaShort D 32 ∧ JaOwn w' w.heap.size w'.heap.size S D ∧ Ready W0 a len cap l p w' ∧ But p w w'
set_option maxHeartbeats 8000000 in
theorem l11Jar {W0 : World} {a : Option Addr} {len cap : Nat} {l : List Int} {p : Nat} {w : World} (h : Ready W0 a len cap l p w) :
  Calls Tryz.prog 31 #[.pointer (some ⟨p, 0, none⟩)] w (DrewJ W0 a len cap l p w) := by
 have HP : Hid (p < w.heap.size ∧ W0.heap.size ≤ p) := ⟨h.hc.lt, h.hp⟩
 have R0 := hid (h)
 have B0 : Hid (But p w w) := But.refl p w
 clear h
 obtain ⟨x1, hx1⟩ : ∃ x1, (w.alloc (.cells #[.slice none 0 0] 25)) = x1 := ⟨_, rfl⟩
 have HWA := hid (hx1)
 have b1 : Below w.heap.size w x1 := by rw [← hx1]; exact ((Below.refl _ _).alloc (Nat.le_refl _) _)
 have KON : Blk x1 (w.heap.size) 25 [.slice none 0 0] := by
  have q := (Blk.new w 25 [.slice none 0 0])
  skip
  rw [← hx1]; exact q
 have SZA : x1.heap.size = w.heap.size + 1 := by rw [← hx1]; simp
 clear hx1
 have L1 := hid (b1.size)
 have R1 : Hid (Ready W0 a len cap l p x1) := rdyL R0.out b1
 have B1 : Hid (But p w x1) := butL B0.out b1
 clear R0 B0 b1
 go_enter Tryz.func31, Tryz.ntmps31
 go_upto_region 1 with fail
 rw [HWA.out]
 obtain ⟨go, hgo⟩ : ∃ g, w.heap.size = g := ⟨_, rfl⟩
 have GA : Hid (w.heap.size = go ∧ x1.heap.size = go + 1) := ⟨hgo, by omega⟩
 rw [hgo] at KON
 rw [hgo]
 clear HWA SZA hgo
 have KO1 := hid (KON)
 clear KON
 go_wp2_with fail
 refine (bytesOf R1.out 12 (by omega)).mono ?_
 rintro e x2 ⟨gs, cs, ls, rfl, el, hb, kg, row, r, b⟩
 have oN : SOwn x2 x1.heap.size x2.heap.size ⟨some ⟨gs, 0, none⟩, 12, cs⟩ ls := SOwn.row row el hb kg row.lt
 have ELs : Hid (12 = ls.length) := el
 clear el hb kg row
 have L2 := hid (b.size)
 have KQ : Kept p (p + 1) x1 x2 := Kept.of_grown b
 have R2 := hid (r)
 have B2 := hid (B1.out.trans b)
 have KO2 := hid (KO1.out.keep (KQ.block _ KO1.out.lt (by have := hid4 HP L1 GA L2; omega)))
 clear R1 B1 KO1 b
 clear KQ r
 have Os_2 := hid (oN)
 clear oN
 go_wp2_with fail
 refine (CkT.specJarNew ⟨some ⟨gs, 0, none⟩, 12, cs⟩ ls x2 Os_2.out.rd).mono ?_
 unfold CkT.AnsJ
 rintro e x3 ⟨S0, rfl, o, b⟩
 have L3 := hid (b.size)
 have R3 : Hid (Ready W0 a len cap l p x3) := rdyL R2.out b
 have B3 : Hid (But p w x3) := butL B2.out b
 have KO3 := hid (KO2.out.later b)
 have Os_3 := hid (Os_2.out.later b)
 clear R2 B2 KO2 Os_2 b
 have OE3 : Hid (JaOwn x3 x2.heap.size x3.heap.size S0 (newJ ls)) := o
 clear o
 have hsh : JaShort (newJ ls) 32 := newJ_short _
 have OEg := OE3.out
 generalize newJ ls = D0 at OEg hsh
 have HS0 : Hid (JaShort D0 32) := hsh
 clear hsh
 clear OE3
 have OE3 : Hid (JaOwn x3 x2.heap.size x3.heap.size S0 D0) := OEg
 clear OEg
 clear Os_3
 obtain ⟨x4, hx4⟩ : ∃ x4, x3.alloc (.cells #[.slice S0.secret.a S0.secret.n S0.secret.c] 25) = x4 := ⟨_, rfl⟩
 have HW4 := hid (hx4)
 have b4 : Below x3.heap.size x3 x4 := by rw [← hx4]; exact (Below.refl _ _).alloc (Nat.le_refl _) _
 have KN : Blk x4 x3.heap.size 25 [.slice S0.secret.a S0.secret.n S0.secret.c] := by rw [← hx4]; exact Blk.new x3 _ _
 have HSZ4 : Hid (x4.heap.size = x3.heap.size + 1) := by rw [← hx4]; show _ = _; simp
 clear hx4
 have L4 := hid (b4.size)
 have R4 : Hid (Ready W0 a len cap l p x4) := rdyL R3.out b4
 have B4 : Hid (But p w x4) := butL B3.out b4
 have KO4 := hid (KO3.out.later b4)
 have OE4 := hid (OE3.out.later b4)
 clear R3 B3 KO3 OE3 b4
 unfold jaV
 go_upto_region 2 with fail
 rw [HW4.out]
 obtain ⟨ge, hge⟩ : ∃ g, x3.heap.size = g := ⟨_, rfl⟩
 have Gge : Hid (x3.heap.size = ge ∧ x4.heap.size = ge + 1) := ⟨hge, by rw [← hge]; exact HSZ4.out⟩
 rw [hge] at KN ⊢
 clear HW4 HSZ4 hge
 have KE4 := hid (KN)
 clear KN
 go_wp2_with fail
 refine (Draw.once R4.out 10 (by omega) (by omega)).mono ?_
 rintro e x5 ⟨o1, rfl, r, b⟩
 have L5 := hid (b.size)
 have KQ : Kept p (p + 1) x4 x5 := Kept.of_grown b
 have R5 := hid (r)
 have B5 := hid (B4.out.trans b)
 have KO5 := hid (KO4.out.keep (KQ.block _ KO4.out.lt (by have := hid8 HP L1 GA L2 L3 L4 Gge L5; omega)))
 have OE5 := hid (OE4.out.carry KQ (by have := hid8 HP L1 GA L2 L3 L4 Gge L5; omega))
 have KE5 := hid (KE4.out.keep (KQ.block _ KE4.out.lt (by have := hid8 HP L1 GA L2 L3 L4 Gge L5; omega)))
 clear R4 B4 KO4 OE4 KE4 b
 clear KQ r
 cases o1 with
 | true =>
  go_wp2_with fail
  refine (intOfList (R5.out.alloc _) x5.heap.size 3 [0, 31, 32] rfl (ints_new x5 _) (by have := R5.out.hc.lt; omega) (by omega) (by omega)).mono ?_
  rintro e x6 ⟨z, rfl, vm, r, b0⟩
  have VMz : Hid (z ∈ ([0, 31, 32] : List Int)) := vm
  have b : But p x5 x6 := ((But.refl p x5).alloc _).trans b0
  clear vm b0
  have L6 := hid (b.size)
  have KQ : Kept p (p + 1) x5 x6 := Kept.of_grown b
  have R6 := hid (r)
  have B6 := hid (B5.out.trans b)
  have KO6 := hid (KO5.out.keep (KQ.block _ KO5.out.lt (by have := hid8 HP L1 GA L2 L3 L4 Gge L5; have := L6.out; omega)))
  have OE6 := hid (OE5.out.carry KQ (by have := hid8 HP L1 GA L2 L3 L4 Gge L5; have := L6.out; omega))
  have KE6 := hid (KE5.out.keep (KQ.block _ KE5.out.lt (by have := hid8 HP L1 GA L2 L3 L4 Gge L5; have := L6.out; omega)))
  clear R5 B5 KO5 OE5 KE5 b
  clear KQ r
  have hv : 0 ≤ z ∧ z ≤ 32 := by have q := VMz.out; simp only [List.mem_cons, List.mem_nil_iff, or_false] at q; omega
  obtain ⟨Z, rfl⟩ := Int.eq_ofNat_of_zero_le hv.1
  have HNZ : Hid (Z ≤ 32) := by have := hv.2; show _ ≤ _; omega
  clear hv
  go_wp2_with fail
  refine (bytesOf R6.out Z (by have := HNZ.out; omega)).mono ?_
  rintro e x7 ⟨gt, ct, lt, rfl, el, hb, kg, row, r, b⟩
  have oN : SOwn x7 x6.heap.size x7.heap.size ⟨some ⟨gt, 0, none⟩, Z, ct⟩ lt := SOwn.row row el hb kg row.lt
  have ELt : Hid (Z = lt.length) := el
  clear el hb kg row
  have L7 := hid (b.size)
  have KQ : Kept p (p + 1) x6 x7 := Kept.of_grown b
  have R7 := hid (r)
  have B7 := hid (B6.out.trans b)
  have KO7 := hid (KO6.out.keep (KQ.block _ KO6.out.lt (by have := hid8 HP L1 GA L2 L3 L4 Gge L5; have := hid2 L6 L7; omega)))
  have OE7 := hid (OE6.out.carry KQ (by have := hid8 HP L1 GA L2 L3 L4 Gge L5; have := hid2 L6 L7; omega))
  have KE7 := hid (KE6.out.keep (KQ.block _ KE6.out.lt (by have := hid8 HP L1 GA L2 L3 L4 Gge L5; have := hid2 L6 L7; omega)))
  clear R6 B6 KO6 OE6 KE6 b
  clear KQ r
  have Ot_7 := hid (oN)
  clear oN
  have co0 := KE7.out.cell 0 rfl
  have fo0 := KE7.out.frozen 0
  obtain ⟨x8, hx8⟩ : ∃ y, (x7.setCell ⟨ge, 0, none⟩ (.slice (some ⟨gt, 0, none⟩) Z ct)) = y := ⟨_, rfl⟩
  have HW8 := hid (hx8)
  have L8 : Hid (x8.heap.size = x7.heap.size) := by rw [← hx8]; show _ = _; simp
  have KS : Blk x8 ge 25 [.slice (some ⟨gt, 0, none⟩) Z ct] := by rw [← hx8]; exact (KE7.out.set 0 _ (by simp [maxLen]))
  have KQ : Kept ge (ge + 1) x7 x8 := by rw [← hx8]; exact (Kept.setCell _ _ _ _)
  clear hx8
  have R8 : Hid (Ready W0 a len cap l p x8) := rdyK R7.out KQ (by have := hid8 HP L1 GA L2 L3 L4 Gge L5; have := hid3 L6 L7 L8; omega)
  have B8 : Hid (But p w x8) := butK B7.out KQ (by have := hid8 HP L1 GA L2 L3 L4 Gge L5; have := hid3 L6 L7 L8; omega)
  have KO8 := hid (KO7.out.keep (KQ.block _ KO7.out.lt (by have := hid8 HP L1 GA L2 L3 L4 Gge L5; have := hid3 L6 L7 L8; omega)))
  have OE8 := hid (OE7.out.carry KQ (by have := hid8 HP L1 GA L2 L3 L4 Gge L5; have := hid3 L6 L7 L8; omega))
  have Ot_8 := hid (Ot_7.out.carry KQ (by have := hid8 HP L1 GA L2 L3 L4 Gge L5; have := hid3 L6 L7 L8; omega))
  clear R7 B7 KO7 OE7 Ot_7 KQ
  clear KE7
  have KE8 := hid (KS)
  clear KS
  go_upto_region 4 with fail
  rw [HW8.out]
  clear HW8 co0 fo0
  have d0 := KE8.out.cell 0 rfl
  have f0 := KO8.out.cell 0 rfl
  have g0 := KO8.out.frozen 0
  go_wp2
  have SZF : Hid (w.heap.size ≤ go ∧ go + 1 ≤ x6.heap.size ∧ x6.heap.size ≤ x7.heap.size ∧ x7.heap.size ≤ x8.heap.size) := by have := hid8 HP L1 GA L2 L3 L4 Gge L5; have := hid3 L6 L7 L8; show _ ∧ _; omega
  obtain ⟨k1, k2, k3⟩ := ja_stored (D := ⟨lt⟩) (S := ⟨⟨some ⟨gt, 0, none⟩, Z, ct⟩⟩) (lo := x6.heap.size) (hi := x7.heap.size) KO8.out (ja_made Ot_8.out) (.inl (by have := SZF.out; omega))
  have KP := ja_kept x8 go (.slice (some ⟨gt, 0, none⟩) Z ct)
  exact bodyPost_ret (v := jaV ⟨lt⟩ ⟨⟨some ⟨gt, 0, none⟩, Z, ct⟩⟩) (res1 rfl (is_cell rfl k1 aggJa)) rfl ⟨⟨⟨some ⟨gt, 0, none⟩, Z, ct⟩⟩, ⟨lt⟩, rfl, ⟨by show lt.length ≤ _; have := hid2 ELt HNZ; omega⟩, k2.mono (by have := SZF.out; omega) (by rw [ja_size]; have := SZF.out; omega), rdyK R8.out KP (by have := hid8 HP L1 GA L2 L3 L4 Gge L5; have := hid3 L6 L7 L8; omega), butK B8.out KP (by have := SZF.out; omega)⟩
 | false =>
  go_upto_region 4 with fail
  have d0 := KE5.out.cell 0 rfl
  have f0 := KO5.out.cell 0 rfl
  have g0 := KO5.out.frozen 0
  go_wp2
  have SZF : Hid (w.heap.size ≤ go ∧ go + 1 ≤ x2.heap.size ∧ x2.heap.size ≤ x3.heap.size ∧ x3.heap.size ≤ x5.heap.size) := by have := hid8 HP L1 GA L2 L3 L4 Gge L5; show _ ∧ _; omega
  obtain ⟨k1, k2, k3⟩ := ja_stored (D := D0) (S := S0) (lo := x2.heap.size) (hi := x3.heap.size) KO5.out (OE5.out) (.inl (by have := SZF.out; omega))
  have KP := ja_kept x5 go (.slice S0.secret.a S0.secret.n S0.secret.c)
  exact bodyPost_ret (v := jaV D0 S0) (res1 rfl (is_cell rfl k1 aggJa)) rfl ⟨S0, D0, rfl, HS0.out, k2.mono (by have := SZF.out; omega) (by rw [ja_size]; have := SZF.out; omega), rdyK R5.out KP (by have := hid8 HP L1 GA L2 L3 L4 Gge L5; omega), butK B5.out KP (by have := SZF.out; omega)⟩

set_option maxHeartbeats 4000000 in
theorem drawJarNew (a : Option Addr) (len cap : Nat) (l : List Int) (w : World) (hl : len = l.length) (hr : Rd w a l) (hb : Bytes l) (hlen : len ≤ 1048576) :
  Calls Tryz.prog 19 #[.slice a len cap] w fun e w' => ∃ (S : Sl) (x : List Int), e = .returned (.slice S.a S.n S.c) ∧ x.length ≤ 13 ∧ SRd w' S x ∧ Below w.heap.size w w' := by
 have HR := hid (hr)
 have HL : Hid (len = l.length) := hl
 have HB := hid (hb)
 clear hr hl hb
 have B0 : Hid (Below w.heap.size w w) := Below.refl _ _
 go_enter Tryz.func19, Tryz.ntmps19
 go_wp2_with fail
 refine (newCur a len cap l w HL.out (HR.out.later B0.out (Nat.le_refl _)) HB.out hlen).mono ?_
 rintro e x1 ⟨p, rfl, r⟩
 have b := r.hB
 have HP : Hid (w.heap.size ≤ p ∧ p < x1.heap.size) := ⟨r.hp, r.hc.lt⟩
 have L1 := hid (b.size)
 have B1 := hid (B0.out.trans (b.mono B0.out.size))
 clear B0 b
 have R1 := hid (r)
 clear r
 go_wp2_with fail
 refine (intOfList (R1.out.alloc _) x1.heap.size 6 [12, 12, 12, 11, 0, 13] rfl (ints_new x1 _) (by have := R1.out.hc.lt; omega) (by omega) (by omega)).mono ?_
 rintro e x2 ⟨z, rfl, vm, r, b0⟩
 have VMz : Hid (z ∈ ([12, 12, 12, 11, 0, 13] : List Int)) := vm
 have b : But p x1 x2 := ((But.refl p x1).alloc _).trans b0
 clear vm b0
 have L2 := hid (b.size)
 have KQ : Kept p (p + 1) x1 x2 := Kept.of_grown b
 have B2 : Hid (Below w.heap.size w x2) := But.below b B1.out (by have := hid3 L1 HP L2; omega)
 have R2 := hid (r)
 clear B1 R1 b
 clear KQ r
 have hv : 0 ≤ z ∧ z ≤ 13 := by have q := VMz.out; simp only [List.mem_cons, List.mem_nil_iff, or_false] at q; omega
 obtain ⟨Z, rfl⟩ := Int.eq_ofNat_of_zero_le hv.1
 have HNZ : Hid (Z ≤ 13) := by have := hv.2; show _ ≤ _; omega
 clear hv
 go_wp2_with fail
 refine (bytesOf R2.out Z (by have := HNZ.out; omega)).mono ?_
 rintro e x3 ⟨gt, ct, lt, rfl, el, hb, kg, row, r, b⟩
 have oN : SOwn x3 x2.heap.size x3.heap.size ⟨some ⟨gt, 0, none⟩, Z, ct⟩ lt := SOwn.row row el hb kg row.lt
 have ELt : Hid (Z = lt.length) := el
 clear el hb kg row
 have L3 := hid (b.size)
 have KQ : Kept p (p + 1) x2 x3 := Kept.of_grown b
 have B3 : Hid (Below w.heap.size w x3) := But.below b B2.out (by have := hid4 L1 HP L2 L3; omega)
 have R3 := hid (r)
 clear B2 R2 b
 clear KQ r
 have Ot_3 := hid (oN)
 clear oN
 go_wp2
 exact bodyPost_ret (v := .slice (some ⟨gt, 0, none⟩) Z ct) (res1 rfl (is_tmp rfl)) rfl ⟨⟨some ⟨gt, 0, none⟩, Z, ct⟩, lt, rfl, by rw [← ELt.out]; exact HNZ.out, Ot_3.out.rd, B3.out⟩

set_option maxHeartbeats 4000000 in
theorem drawFresh (a : Option Addr) (len cap : Nat) (l : List Int) (w : World) (hl : len = l.length) (hr : Rd w a l) (hb : Bytes l) (hlen : len ≤ 1048576) :
  Calls Tryz.prog 18 #[.slice a len cap] w fun e w' => ∃ (x y : Int), e = .returned (.tuple #[.int .i64 x, .int .i64 y]) ∧ Below w.heap.size w w' := by
 have HR := hid (hr)
 have HL : Hid (len = l.length) := hl
 have HB := hid (hb)
 clear hr hl hb
 have B0 : Hid (Below w.heap.size w w) := Below.refl _ _
 go_enter Tryz.func18, Tryz.ntmps18
 go_wp2_with fail
 refine (newCur a len cap l w HL.out (HR.out.later B0.out (Nat.le_refl _)) HB.out hlen).mono ?_
 rintro e x1 ⟨p, rfl, r⟩
 have b := r.hB
 have HP : Hid (w.heap.size ≤ p ∧ p < x1.heap.size) := ⟨r.hp, r.hc.lt⟩
 have L1 := hid (b.size)
 have B1 := hid (B0.out.trans (b.mono B0.out.size))
 clear B0 b
 have R1 := hid (r)
 clear r
 go_wp2_with fail
 refine (intOfList (R1.out.alloc _) x1.heap.size 4 [0, 5, 100, 1000000] rfl (ints_new x1 _) (by have := R1.out.hc.lt; omega) (by omega) (by omega)).mono ?_
 rintro e x2 ⟨z, rfl, vm, r, b0⟩
 have VMz : Hid (z ∈ ([0, 5, 100, 1000000] : List Int)) := vm
 have b : But p x1 x2 := ((But.refl p x1).alloc _).trans b0
 clear vm b0
 have L2 := hid (b.size)
 have KQ : Kept p (p + 1) x1 x2 := Kept.of_grown b
 have B2 : Hid (Below w.heap.size w x2) := But.below b B1.out (by have := hid3 L1 HP L2; omega)
 have R2 := hid (r)
 clear B1 R1 b
 clear KQ r
 go_wp2_with fail
 refine (Draw.once R2.out 5 (by omega) (by omega)).mono ?_
 rintro e x3 ⟨o1, rfl, r, b⟩
 have L3 := hid (b.size)
 have KQ : Kept p (p + 1) x2 x3 := Kept.of_grown b
 have B3 : Hid (Below w.heap.size w x3) := But.below b B2.out (by have := hid4 L1 HP L2 L3; omega)
 have R3 := hid (r)
 clear B2 R2 b
 clear KQ r
 cases o1 with
 | true =>
  go_wp2_with fail
  refine (Draw.odd R3.out).mono ?_
  rintro e x4 ⟨u, rfl, _, _, r, b⟩
  have L4 := hid (b.size)
  have KQ : Kept p (p + 1) x3 x4 := Kept.of_grown b
  have B4 : Hid (Below w.heap.size w x4) := But.below b B3.out (by have := hid5 L1 HP L2 L3 L4; omega)
  have R4 := hid (r)
  clear B3 R3 b
  clear KQ r
  go_wp2_with fail
  refine (Draw.odd R4.out).mono ?_
  rintro e x5 ⟨v, rfl, _, _, r, b⟩
  have L5 := hid (b.size)
  have KQ : Kept p (p + 1) x4 x5 := Kept.of_grown b
  have B5 : Hid (Below w.heap.size w x5) := But.below b B4.out (by have := hid6 L1 HP L2 L3 L4 L5; omega)
  have R5 := hid (r)
  clear B4 R4 b
  clear KQ r
  go_wp2
  exact bodyPost_ret (v := .tuple #[.int .i64 u, .int .i64 v]) (res2 rfl (is_tmp rfl) (is_tmp rfl)) rfl ⟨u, v, rfl, B5.out⟩
 | false =>
  go_wp2_with fail
  refine (intOfList (R3.out.alloc _) x3.heap.size 6 [0, 1, 9, 10, 11, -1] rfl (ints_new x3 _) (by have := R3.out.hc.lt; omega) (by omega) (by omega)).mono ?_
  rintro e x4 ⟨y, rfl, vm, r, b0⟩
  have VMy : Hid (y ∈ ([0, 1, 9, 10, 11, -1] : List Int)) := vm
  have b : But p x3 x4 := ((But.refl p x3).alloc _).trans b0
  clear vm b0
  have L4 := hid (b.size)
  have KQ : Kept p (p + 1) x3 x4 := Kept.of_grown b
  have B4 : Hid (Below w.heap.size w x4) := But.below b B3.out (by have := hid5 L1 HP L2 L3 L4; omega)
  have R4 := hid (r)
  clear B3 R3 b
  clear KQ r
  have hw : IntKind.i64.wrap (z + y) = z + y := by have q := VMz.out; have q2 := VMy.out; simp only [List.mem_cons, List.mem_nil_iff, or_false] at q q2; rw [IntKind.wrap_i64]; omega
  go_wp2
  exact bodyPost_ret (v := .tuple #[.int .i64 (z + y), .int .i64 z]) (res2 rfl (is_tmp rfl) (is_tmp rfl)) rfl ⟨(z + y), z, rfl, B4.out⟩

end Go.Proofs.YtpgapjdejelajaaGreatDoor.DrCk
