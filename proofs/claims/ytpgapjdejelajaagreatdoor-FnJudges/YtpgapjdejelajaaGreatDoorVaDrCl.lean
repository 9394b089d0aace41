/-
  What spec.l11Finish and spec.DrawJudge give.
-/
import Derived.Test.YtpgapjdejelajaaGreatDoorVaDrCk
import Derived.Test.YtpgapjdejelajaaGreatDoorVaFrDa
import Derived.Test.YtpgapjdejelajaaGreatDoorVaGr12
set_option maxRecDepth 100000
namespace Go.Proofs.YtpgapjdejelajaaGreatDoor.DrCl
open Go.RowKit Mem App Blk Zone Draw DrawA DrawD Res DrN AddrS JaZ JaL CkP CkQ Shp FrZ FrP FrDa DrCk
theorem hide {p : Prop} (h : p) : Hid p := h
theorem drewB {w : World} {g : Nat} {t : TypeId} {cs : List Value} (h : Blk w g t cs) : Blk w.drew g t cs := h
theorem ints_at (w : World) (L : List Int) (g : Nat) (h : g = w.heap.size) : IntsAt (w.alloc (.cells (L.map (Value.int .i64)).toArray 3)) g L := h ▸ ints_new w L
def DrewF (W0 : World) (a : Option Addr) (len cap : Nat) (l : List Int) (p : Nat) (w : World) : Ending → World → Prop := fun e w' => ∃ (now ah ap : Int) (SF : FrS) (F : FrD), e = .returned (.tuple #[.int .i64 now, addrV ah ap, frV F SF]) ∧ (0 ≤ F.tick ∧ F.tick ≤ 999999 ∧ F.cn.length ≤ 16 ∧ F.sn.length ≤ 16 ∧ F.cookie.length ≤ 16) ∧ FrIn w' w.heap.size w'.heap.size SF F ∧ Ready W0 a len cap l p w' ∧ But p w w'

set_option maxHeartbeats 16000000 in
theorem l11Finish {W0 : World} {a : Option Addr} {len cap : Nat} {l : List Int} {p : Nat} {w : World} (h : Ready W0 a len cap l p w) {lo hi : Nat} {S : JaS} {D : JaD} (hj : JaOwn w lo hi S D) (hlh : p + 1 ≤ lo ∧ lo ≤ hi ∧ hi ≤ w.heap.size) :
  Calls Tryz.prog 49 #[.pointer (some ⟨p, 0, none⟩), jaV D S] w (DrewF W0 a len cap l p w) := by
 have HP : Hid (p < w.heap.size ∧ W0.heap.size ≤ p) := ⟨h.hc.lt, h.hp⟩
 have R0 := hid (h)
 have B0 : Hid (But p w w) := But.refl p w
 clear h
 have HLH : Hid (p + 1 ≤ lo ∧ lo ≤ hi ∧ hi ≤ w.heap.size) := hlh
 have OJ0 : Hid (JaOwn w lo hi S D) := hj
 clear hj hlh
 unfold jaV
 obtain ⟨x1, hx1⟩ : ∃ x1, (((w.alloc (.cells #[.slice S.secret.a S.secret.n S.secret.c] 25)).alloc (.cells #[.int .i64 0, .int .i64 0] 27)).alloc (.cells #[.int .i64 0, .int .i64 0, .slice none 0 0, .slice none 0 0, .int .i64 0, .slice none 0 0, .slice none 0 0, .int .i64 0, .int .i64 0, .slice none 0 0, .slice none 0 0] 35)) = x1 := ⟨_, rfl⟩
 have HWA := hid (hx1)
 have b1 : Below w.heap.size w x1 := by rw [← hx1]; exact ((((Below.refl _ _).alloc (Nat.le_refl _) _).alloc (by simp) _).alloc (by simp; omega) _)
 have KJN : Blk x1 (w.heap.size) 25 [.slice S.secret.a S.secret.n S.secret.c] := by
  have q := (Blk.new w 25 [.slice S.secret.a S.secret.n S.secret.c])
  skip
  rw [← hx1]; exact (q.alloc _).alloc _
 have KPN : Blk x1 (w.heap.size + 1) 27 [.int .i64 0, .int .i64 0] := by
  have q := (Blk.new (w.alloc (.cells #[.slice S.secret.a S.secret.n S.secret.c] 25)) 27 [.int .i64 0, .int .i64 0])
  rw [World.size_alloc] at q
  rw [← hx1]; exact q.alloc _
 have KON : Blk x1 (w.heap.size + 1 + 1) 35 [.int .i64 0, .int .i64 0, .slice none 0 0, .slice none 0 0, .int .i64 0, .slice none 0 0, .slice none 0 0, .int .i64 0, .int .i64 0, .slice none 0 0, .slice none 0 0] := by
  have q := (Blk.new ((w.alloc (.cells #[.slice S.secret.a S.secret.n S.secret.c] 25)).alloc (.cells #[.int .i64 0, .int .i64 0] 27)) 35 [.int .i64 0, .int .i64 0, .slice none 0 0, .slice none 0 0, .int .i64 0, .slice none 0 0, .slice none 0 0, .int .i64 0, .int .i64 0, .slice none 0 0, .slice none 0 0])
  rw [World.size_alloc, World.size_alloc] at q
  rw [← hx1]; exact q
 have SZA : x1.heap.size = w.heap.size + 3 := by rw [← hx1]; simp
 clear hx1
 have L1 := hid (b1.size)
 have R1 : Hid (Ready W0 a len cap l p x1) := rdyL R0.out b1
 have B1 : Hid (But p w x1) := butL B0.out b1
 have OJ1 := hid (OJ0.out.later b1)
 clear R0 B0 OJ0 b1
 go_enter Tryz.func49, Tryz.ntmps49
 go_upto_region 1 with fail
 rw [HWA.out]
 obtain ⟨gj, hgj⟩ : ∃ g, w.heap.size = g := ⟨_, rfl⟩
 obtain ⟨gp, hgp⟩ : ∃ g, w.heap.size + 1 = g := ⟨_, rfl⟩
 obtain ⟨go, hgo⟩ : ∃ g, w.heap.size + 1 + 1 = g := ⟨_, rfl⟩
 have GA : Hid (w.heap.size = gj ∧ gj + 1 = gp ∧ gp + 1 = go ∧ x1.heap.size = gj + 3) := ⟨hgj, by omega, by omega, by omega⟩
 rw [hgj] at KJN
 rw [hgp] at KPN
 rw [hgo] at KON
 rw [hgo, hgp, hgj]
 clear HWA SZA hgj hgp hgo
 have KJ1 := hid (KJN)
 have KP1 := hid (KPN)
 have KO1 := hid (KON)
 clear KJN KPN KON
 go_wp2_with fail
 refine (DrawA.l6Draw R1.out).mono ?_
 rintro e x2 ⟨ah, ap, rfl, _, r, b⟩
 have L2 := hid (b.size)
 have KQ : Kept p (p + 1) x1 x2 := Kept.of_grown b
 have R2 := hid (r)
 have B2 := hid (B1.out.trans b)
 have OJ2 := hid (OJ1.out.carry KQ (by have := hid5 HP HLH L1 GA L2; omega))
 have KJ2 := hid (KJ1.out.keep (KQ.block _ KJ1.out.lt (by have := hid5 HP HLH L1 GA L2; omega)))
 have KP2 := hid (KP1.out.keep (KQ.block _ KP1.out.lt (by have := hid5 HP HLH L1 GA L2; omega)))
 have KO2 := hid (KO1.out.keep (KQ.block _ KO1.out.lt (by have := hid5 HP HLH L1 GA L2; omega)))
 clear R1 B1 OJ1 KJ1 KP1 KO1 b
 clear KQ r
 obtain ⟨x3, hx3⟩ : ∃ x3, x2.alloc (.cells #[.int .i64 ah, .int .i64 ap] 27) = x3 := ⟨_, rfl⟩
 have HW3 := hid (hx3)
 have b3 : Below x2.heap.size x2 x3 := by rw [← hx3]; exact (Below.refl _ _).alloc (Nat.le_refl _) _
 have KN : Blk x3 x2.heap.size 27 [.int .i64 ah, .int .i64 ap] := by rw [← hx3]; exact Blk.new x2 _ _
 have HSZ3 : Hid (x3.heap.size = x2.heap.size + 1) := by rw [← hx3]; show _ = _; simp
 clear hx3
 have L3 := hid (b3.size)
 have R3 : Hid (Ready W0 a len cap l p x3) := rdyL R2.out b3
 have B3 : Hid (But p w x3) := butL B2.out b3
 have OJ3 := hid (OJ2.out.later b3)
 have KJ3 := hid (KJ2.out.later b3)
 have KP3 := hid (KP2.out.later b3)
 have KO3 := hid (KO2.out.later b3)
 clear R2 B2 OJ2 KJ2 KP2 KO2 b3
 unfold addrV
 go_upto_region 2 with fail
 rw [HW3.out]
 obtain ⟨ga, hga⟩ : ∃ g, x2.heap.size = g := ⟨_, rfl⟩
 have Gga : Hid (x2.heap.size = ga ∧ x3.heap.size = ga + 1) := ⟨hga, by rw [← hga]; exact HSZ3.out⟩
 rw [hga] at KN ⊢
 clear HW3 HSZ3 hga
 have KA3 := hid (KN)
 clear KN
 go_wp2_with fail
 refine (Draw.below R3.out 3 (by omega) (by omega)).mono ?_
 rintro e x4 ⟨v, rfl, va, vb, r, b⟩
 have VBv : Hid (0 ≤ v ∧ v < 3) := ⟨va, vb⟩
 clear va vb
 have L4 := hid (b.size)
 have KQ : Kept p (p + 1) x3 x4 := Kept.of_grown b
 have R4 := hid (r)
 have B4 := hid (B3.out.trans b)
 have OJ4 := hid (OJ3.out.carry KQ (by have := hid8 HP HLH L1 GA L2 L3 Gga L4; omega))
 have KJ4 := hid (KJ3.out.keep (KQ.block _ KJ3.out.lt (by have := hid8 HP HLH L1 GA L2 L3 Gga L4; omega)))
 have KP4 := hid (KP3.out.keep (KQ.block _ KP3.out.lt (by have := hid8 HP HLH L1 GA L2 L3 Gga L4; omega)))
 have KO4 := hid (KO3.out.keep (KQ.block _ KO3.out.lt (by have := hid8 HP HLH L1 GA L2 L3 Gga L4; omega)))
 have KA4 := hid (KA3.out.keep (KQ.block _ KA3.out.lt (by have := hid8 HP HLH L1 GA L2 L3 Gga L4; omega)))
 clear R3 B3 OJ3 KJ3 KP3 KO3 KA3 b
 clear KQ r
 have hw : IntKind.i64.wrap (1 + v) = 1 + v := by rw [IntKind.wrap_i64]; have := VBv.out; omega
 go_wp2_with fail
 refine (bytesOf R4.out 12 (by omega)).mono ?_
 rintro e x5 ⟨gn, cn, ln, rfl, el, hb, kg, row, r, b⟩
 have oN : SOwn x5 x4.heap.size x5.heap.size ⟨some ⟨gn, 0, none⟩, 12, cn⟩ ln := SOwn.row row el hb kg row.lt
 have ELn : Hid (12 = ln.length) := el
 clear el hb kg row
 have L5 := hid (b.size)
 have KQ : Kept p (p + 1) x4 x5 := Kept.of_grown b
 have R5 := hid (r)
 have B5 := hid (B4.out.trans b)
 have OJ5 := hid (OJ4.out.carry KQ (by have := hid8 HP HLH L1 GA L2 L3 Gga L4; have := L5.out; omega))
 have KJ5 := hid (KJ4.out.keep (KQ.block _ KJ4.out.lt (by have := hid8 HP HLH L1 GA L2 L3 Gga L4; have := L5.out; omega)))
 have KP5 := hid (KP4.out.keep (KQ.block _ KP4.out.lt (by have := hid8 HP HLH L1 GA L2 L3 Gga L4; have := L5.out; omega)))
 have KO5 := hid (KO4.out.keep (KQ.block _ KO4.out.lt (by have := hid8 HP HLH L1 GA L2 L3 Gga L4; have := L5.out; omega)))
 have KA5 := hid (KA4.out.keep (KQ.block _ KA4.out.lt (by have := hid8 HP HLH L1 GA L2 L3 Gga L4; have := L5.out; omega)))
 clear R4 B4 OJ4 KJ4 KP4 KO4 KA4 b
 clear KQ r
 have On_5 := hid (oN)
 clear oN
 go_wp2_with fail
 refine (bytesOf R5.out 12 (by omega)).mono ?_
 rintro e x6 ⟨gs, cs, ls, rfl, el, hb, kg, row, r, b⟩
 have oN : SOwn x6 x5.heap.size x6.heap.size ⟨some ⟨gs, 0, none⟩, 12, cs⟩ ls := SOwn.row row el hb kg row.lt
 have ELs : Hid (12 = ls.length) := el
 clear el hb kg row
 have L6 := hid (b.size)
 have KQ : Kept p (p + 1) x5 x6 := Kept.of_grown b
 have R6 := hid (r)
 have B6 := hid (B5.out.trans b)
 have OJ6 := hid (OJ5.out.carry KQ (by have := hid8 HP HLH L1 GA L2 L3 Gga L4; have := hid2 L5 L6; omega))
 have KJ6 := hid (KJ5.out.keep (KQ.block _ KJ5.out.lt (by have := hid8 HP HLH L1 GA L2 L3 Gga L4; have := hid2 L5 L6; omega)))
 have KP6 := hid (KP5.out.keep (KQ.block _ KP5.out.lt (by have := hid8 HP HLH L1 GA L2 L3 Gga L4; have := hid2 L5 L6; omega)))
 have KO6 := hid (KO5.out.keep (KQ.block _ KO5.out.lt (by have := hid8 HP HLH L1 GA L2 L3 Gga L4; have := hid2 L5 L6; omega)))
 have KA6 := hid (KA5.out.keep (KQ.block _ KA5.out.lt (by have := hid8 HP HLH L1 GA L2 L3 Gga L4; have := hid2 L5 L6; omega)))
 have On_6 := hid (On_5.out.carry KQ (by have := hid8 HP HLH L1 GA L2 L3 Gga L4; have := hid2 L5 L6; omega))
 clear R5 B5 OJ5 KJ5 KP5 KO5 KA5 On_5 b
 clear KQ r
 have Os_6 := hid (oN)
 clear oN
 go_wp2_with fail
 refine (intOfList (R6.out.alloc _) x6.heap.size 4 [0, 7, 300, 999999] rfl (ints_new x6 _) (by have := R6.out.hc.lt; omega) (by omega) (by omega)).mono ?_
 rintro e x7 ⟨tk, rfl, vm, r, b0⟩
 have VMtk : Hid (tk ∈ ([0, 7, 300, 999999] : List Int)) := vm
 have b : But p x6 x7 := ((But.refl p x6).alloc _).trans b0
 clear vm b0
 have L7 := hid (b.size)
 have KQ : Kept p (p + 1) x6 x7 := Kept.of_grown b
 have R7 := hid (r)
 have B7 := hid (B6.out.trans b)
 have OJ7 := hid (OJ6.out.carry KQ (by have := hid8 HP HLH L1 GA L2 L3 Gga L4; have := hid3 L5 L6 L7; omega))
 have KJ7 := hid (KJ6.out.keep (KQ.block _ KJ6.out.lt (by have := hid8 HP HLH L1 GA L2 L3 Gga L4; have := hid3 L5 L6 L7; omega)))
 have KP7 := hid (KP6.out.keep (KQ.block _ KP6.out.lt (by have := hid8 HP HLH L1 GA L2 L3 Gga L4; have := hid3 L5 L6 L7; omega)))
 have KO7 := hid (KO6.out.keep (KQ.block _ KO6.out.lt (by have := hid8 HP HLH L1 GA L2 L3 Gga L4; have := hid3 L5 L6 L7; omega)))
 have KA7 := hid (KA6.out.keep (KQ.block _ KA6.out.lt (by have := hid8 HP HLH L1 GA L2 L3 Gga L4; have := hid3 L5 L6 L7; omega)))
 have On_7 := hid (On_6.out.carry KQ (by have := hid8 HP HLH L1 GA L2 L3 Gga L4; have := hid3 L5 L6 L7; omega))
 have Os_7 := hid (Os_6.out.carry KQ (by have := hid8 HP HLH L1 GA L2 L3 Gga L4; have := hid3 L5 L6 L7; omega))
 clear R6 B6 OJ6 KJ6 KP6 KO6 KA6 On_6 Os_6 b
 clear KQ r
 obtain ⟨x8, hx8⟩ : ∃ x8, x7.alloc (.cells #[.int .i64 3, .int .i64 (1 + v), .slice (some ⟨gn, 0, none⟩) 12 cn, .slice (some ⟨gs, 0, none⟩) 12 cs, .int .i64 tk, .slice none 0 0, .slice none 0 0, .int .i64 0, .int .i64 0, .slice none 0 0, .slice none 0 0] 35) = x8 := ⟨_, rfl⟩
 have HW8 := hid (hx8)
 have b8 : Below x7.heap.size x7 x8 := by rw [← hx8]; exact (Below.refl _ _).alloc (Nat.le_refl _) _
 have KN : Blk x8 x7.heap.size 35 [.int .i64 3, .int .i64 (1 + v), .slice (some ⟨gn, 0, none⟩) 12 cn, .slice (some ⟨gs, 0, none⟩) 12 cs, .int .i64 tk, .slice none 0 0, .slice none 0 0, .int .i64 0, .int .i64 0, .slice none 0 0, .slice none 0 0] := by rw [← hx8]; exact Blk.new x7 _ _
 have HSZ8 : Hid (x8.heap.size = x7.heap.size + 1) := by rw [← hx8]; show _ = _; simp
 clear hx8
 have L8 := hid (b8.size)
 have R8 : Hid (Ready W0 a len cap l p x8) := rdyL R7.out b8
 have B8 : Hid (But p w x8) := butL B7.out b8
 have OJ8 := hid (OJ7.out.later b8)
 have KJ8 := hid (KJ7.out.later b8)
 have KP8 := hid (KP7.out.later b8)
 have KO8 := hid (KO7.out.later b8)
 have KA8 := hid (KA7.out.later b8)
 have On_8 := hid (On_7.out.later b8)
 have Os_8 := hid (Os_7.out.later b8)
 clear R7 B7 OJ7 KJ7 KP7 KO7 KA7 On_7 Os_7 b8
 go_upto_region 3 with fail
 rw [HW8.out]
 obtain ⟨gf, hgf⟩ : ∃ g, x7.heap.size = g := ⟨_, rfl⟩
 have Ggf : Hid (x7.heap.size = gf ∧ x8.heap.size = gf + 1) := ⟨hgf, by rw [← hgf]; exact HSZ8.out⟩
 rw [hgf] at KN ⊢
 clear HW8 HSZ8 hgf
 have KF8 := hid (KN)
 clear KN
 clear hw
 have d0 := KJ8.out.cell 0 rfl
 have e0 := KA8.out.cell 0 rfl
 have e1 := KA8.out.cell 1 rfl
 obtain ⟨f0, f1, f2, f3, f4, f5, f6, f7, f8, f9, f10⟩ := cells11 KF8.out
 go_wp2_with fail
 refine (CkT.specMint S D ah ap (1 + v) ⟨some ⟨gn, 0, none⟩, 12, cn⟩ ⟨some ⟨gs, 0, none⟩, 12, cs⟩ ln ls tk x8 OJ8.out.rd On_8.out.rd Os_8.out.rd).mono ?_
 unfold AnsB
 rintro e x9 ⟨T, rfl, o, b⟩
 clear d0
 clear e0 e1
 clear f0 f1 f2 f3 f4 f5 f6 f7 f8 f9 f10
 have L9 := hid (b.size)
 have R9 : Hid (Ready W0 a len cap l p x9) := rdyL R8.out b
 have B9 : Hid (But p w x9) := butL B8.out b
 have OJ9 := hid (OJ8.out.later b)
 have KJ9 := hid (KJ8.out.later b)
 have KP9 := hid (KP8.out.later b)
 have KO9 := hid (KO8.out.later b)
 have KA9 := hid (KA8.out.later b)
 have On_9 := hid (On_8.out.later b)
 have Os_9 := hid (Os_8.out.later b)
 have KF9 := hid (KF8.out.later b)
 clear R8 B8 OJ8 KJ8 KP8 KO8 KA8 On_8 Os_8 KF8 b
 have OT9 := hid (o)
 clear o
 have HMT : Hid ((mint D ah ap (1 + v) ln ls tk).length ≤ 16) := mint_le _ _ _ _ _ _ _
 clear OJ9 KJ9
 have co5 := KF9.out.cell 5 rfl
 have fo5 := KF9.out.frozen 5
 obtain ⟨x10, hx10⟩ : ∃ y, (x9.setCell ⟨gf, 5, none⟩ (.slice T.a T.n T.c)) = y := ⟨_, rfl⟩
 have HW10 := hid (hx10)
 have L10 : Hid (x10.heap.size = x9.heap.size) := by rw [← hx10]; show _ = _; simp
 have KS : Blk x10 gf 35 [.int .i64 3, .int .i64 (1 + v), .slice (some ⟨gn, 0, none⟩) 12 cn, .slice (some ⟨gs, 0, none⟩) 12 cs, .int .i64 tk, .slice T.a T.n T.c, .slice none 0 0, .int .i64 0, .int .i64 0, .slice none 0 0, .slice none 0 0] := by rw [← hx10]; exact (KF9.out.set 5 _ (by simp [maxLen]))
 have KQ : Kept gf (gf + 1) x9 x10 := by rw [← hx10]; exact (Kept.setCell _ _ _ _)
 clear hx10
 have R10 : Hid (Ready W0 a len cap l p x10) := rdyK R9.out KQ (by have := hid8 HP HLH L1 GA L2 L3 Gga L4; have := hid7 L5 L6 L7 L8 Ggf L9 L10; omega)
 have B10 : Hid (But p w x10) := butK B9.out KQ (by have := hid8 HP HLH L1 GA L2 L3 Gga L4; have := hid7 L5 L6 L7 L8 Ggf L9 L10; omega)
 have KP10 := hid (KP9.out.keep (KQ.block _ KP9.out.lt (by have := hid8 HP HLH L1 GA L2 L3 Gga L4; have := hid7 L5 L6 L7 L8 Ggf L9 L10; omega)))
 have KO10 := hid (KO9.out.keep (KQ.block _ KO9.out.lt (by have := hid8 HP HLH L1 GA L2 L3 Gga L4; have := hid7 L5 L6 L7 L8 Ggf L9 L10; omega)))
 have KA10 := hid (KA9.out.keep (KQ.block _ KA9.out.lt (by have := hid8 HP HLH L1 GA L2 L3 Gga L4; have := hid7 L5 L6 L7 L8 Ggf L9 L10; omega)))
 have On_10 := hid (On_9.out.carry KQ (by have := hid8 HP HLH L1 GA L2 L3 Gga L4; have := hid7 L5 L6 L7 L8 Ggf L9 L10; omega))
 have Os_10 := hid (Os_9.out.carry KQ (by have := hid8 HP HLH L1 GA L2 L3 Gga L4; have := hid7 L5 L6 L7 L8 Ggf L9 L10; omega))
 have OT10 := hid (OT9.out.carry KQ (by have := hid8 HP HLH L1 GA L2 L3 Gga L4; have := hid7 L5 L6 L7 L8 Ggf L9 L10; omega))
 clear R9 B9 KP9 KO9 KA9 On_9 Os_9 OT9 KQ
 clear KF9
 have KF10 := hid (KS)
 clear KS
 go_upto_region 4 with fail
 rw [HW10.out]
 clear HW10 co5 fo5
 go_wp2_with fail
 refine (bytesOf R10.out 16 (by omega)).mono ?_
 rintro e x11 ⟨gq, cq, lq, rfl, el, hb, kg, row, r, b⟩
 have oN : SOwn x11 x10.heap.size x11.heap.size ⟨some ⟨gq, 0, none⟩, 16, cq⟩ lq := SOwn.row row el hb kg row.lt
 have ELq : Hid (16 = lq.length) := el
 clear el hb kg row
 have L11 := hid (b.size)
 have KQ : Kept p (p + 1) x10 x11 := Kept.of_grown b
 have R11 := hid (r)
 have B11 := hid (B10.out.trans b)
 have KP11 := hid (KP10.out.keep (KQ.block _ KP10.out.lt (by have := hid8 HP HLH L1 GA L2 L3 Gga L4; have := hid8 L5 L6 L7 L8 Ggf L9 L10 L11; omega)))
 have KO11 := hid (KO10.out.keep (KQ.block _ KO10.out.lt (by have := hid8 HP HLH L1 GA L2 L3 Gga L4; have := hid8 L5 L6 L7 L8 Ggf L9 L10 L11; omega)))
 have KA11 := hid (KA10.out.keep (KQ.block _ KA10.out.lt (by have := hid8 HP HLH L1 GA L2 L3 Gga L4; have := hid8 L5 L6 L7 L8 Ggf L9 L10 L11; omega)))
 have On_11 := hid (On_10.out.carry KQ (by have := hid8 HP HLH L1 GA L2 L3 Gga L4; have := hid8 L5 L6 L7 L8 Ggf L9 L10 L11; omega))
 have Os_11 := hid (Os_10.out.carry KQ (by have := hid8 HP HLH L1 GA L2 L3 Gga L4; have := hid8 L5 L6 L7 L8 Ggf L9 L10 L11; omega))
 have OT11 := hid (OT10.out.carry KQ (by have := hid8 HP HLH L1 GA L2 L3 Gga L4; have := hid8 L5 L6 L7 L8 Ggf L9 L10 L11; omega))
 have KF11 := hid (KF10.out.keep (KQ.block _ KF10.out.lt (by have := hid8 HP HLH L1 GA L2 L3 Gga L4; have := hid8 L5 L6 L7 L8 Ggf L9 L10 L11; omega)))
 clear R10 B10 KP10 KO10 KA10 On_10 Os_10 OT10 KF10 b
 clear KQ r
 have Oq_11 := hid (oN)
 clear oN
 have co6 := KF11.out.cell 6 rfl
 have fo6 := KF11.out.frozen 6
 obtain ⟨x12, hx12⟩ : ∃ y, (x11.setCell ⟨gf, 6, none⟩ (.slice (some ⟨gq, 0, none⟩) 16 cq)) = y := ⟨_, rfl⟩
 have HW12 := hid (hx12)
 have L12 : Hid (x12.heap.size = x11.heap.size) := by rw [← hx12]; show _ = _; simp
 have KS : Blk x12 gf 35 [.int .i64 3, .int .i64 (1 + v), .slice (some ⟨gn, 0, none⟩) 12 cn, .slice (some ⟨gs, 0, none⟩) 12 cs, .int .i64 tk, .slice T.a T.n T.c, .slice (some ⟨gq, 0, none⟩) 16 cq, .int .i64 0, .int .i64 0, .slice none 0 0, .slice none 0 0] := by rw [← hx12]; exact (KF11.out.set 6 _ (by simp [maxLen]))
 have KQ : Kept gf (gf + 1) x11 x12 := by rw [← hx12]; exact (Kept.setCell _ _ _ _)
 clear hx12
 have R12 : Hid (Ready W0 a len cap l p x12) := rdyK R11.out KQ (by have := hid8 HP HLH L1 GA L2 L3 Gga L4; have := hid8 L5 L6 L7 L8 Ggf L9 L10 L11; have := L12.out; omega)
 have B12 : Hid (But p w x12) := butK B11.out KQ (by have := hid8 HP HLH L1 GA L2 L3 Gga L4; have := hid8 L5 L6 L7 L8 Ggf L9 L10 L11; have := L12.out; omega)
 have KP12 := hid (KP11.out.keep (KQ.block _ KP11.out.lt (by have := hid8 HP HLH L1 GA L2 L3 Gga L4; have := hid8 L5 L6 L7 L8 Ggf L9 L10 L11; have := L12.out; omega)))
 have KO12 := hid (KO11.out.keep (KQ.block _ KO11.out.lt (by have := hid8 HP HLH L1 GA L2 L3 Gga L4; have := hid8 L5 L6 L7 L8 Ggf L9 L10 L11; have := L12.out; omega)))
 have KA12 := hid (KA11.out.keep (KQ.block _ KA11.out.lt (by have := hid8 HP HLH L1 GA L2 L3 Gga L4; have := hid8 L5 L6 L7 L8 Ggf L9 L10 L11; have := L12.out; omega)))
 have On_12 := hid (On_11.out.carry KQ (by have := hid8 HP HLH L1 GA L2 L3 Gga L4; have := hid8 L5 L6 L7 L8 Ggf L9 L10 L11; have := L12.out; omega))
 have Os_12 := hid (Os_11.out.carry KQ (by have := hid8 HP HLH L1 GA L2 L3 Gga L4; have := hid8 L5 L6 L7 L8 Ggf L9 L10 L11; have := L12.out; omega))
 have OT12 := hid (OT11.out.carry KQ (by have := hid8 HP HLH L1 GA L2 L3 Gga L4; have := hid8 L5 L6 L7 L8 Ggf L9 L10 L11; have := L12.out; omega))
 have Oq_12 := hid (Oq_11.out.carry KQ (by have := hid8 HP HLH L1 GA L2 L3 Gga L4; have := hid8 L5 L6 L7 L8 Ggf L9 L10 L11; have := L12.out; omega))
 clear R11 B11 KP11 KO11 KA11 On_11 Os_11 OT11 Oq_11 KQ
 clear KF11
 have KF12 := hid (KS)
 clear KS
 go_upto_region 5 with fail
 rw [HW12.out]
 clear HW12 co6 fo6
 have HTK : Hid (0 ≤ tk ∧ tk ≤ 999999) := by have q := VMtk.out; simp only [List.mem_cons, List.mem_nil_iff, or_false] at q; show _ ∧ _; omega
 have RDX := hid (R12.out)
 have BTX : Hid (But p x12 x12) := But.refl p x12
 have PX : Hid (p < x12.heap.size) := R12.out.hc.lt
 have NPga : Hid (ga ≠ p) := by have := hid8 HP HLH L1 GA L2 L3 Gga L4; have := hid8 L5 L6 L7 L8 Ggf L9 L10 L11; have := L12.out; show _ ≠ _; omega
 have NPgf : Hid (gf ≠ p) := by have := hid8 HP HLH L1 GA L2 L3 Gga L4; have := hid8 L5 L6 L7 L8 Ggf L9 L10 L11; have := L12.out; show _ ≠ _; omega
 have NPgp : Hid (gp ≠ p) := by have := hid8 HP HLH L1 GA L2 L3 Gga L4; have := hid8 L5 L6 L7 L8 Ggf L9 L10 L11; have := L12.out; show _ ≠ _; omega
 have NPgo : Hid (go ≠ p) := by have := hid8 HP HLH L1 GA L2 L3 Gga L4; have := hid8 L5 L6 L7 L8 Ggf L9 L10 L11; have := L12.out; show _ ≠ _; omega
 have NEga_gp : ga ≠ gp := by have := hid8 HP HLH L1 GA L2 L3 Gga L4; have := hid8 L5 L6 L7 L8 Ggf L9 L10 L11; have := L12.out; omega
 have NEga_go : ga ≠ go := by have := hid8 HP HLH L1 GA L2 L3 Gga L4; have := hid8 L5 L6 L7 L8 Ggf L9 L10 L11; have := L12.out; omega
 have NEgf_gp : gf ≠ gp := by have := hid8 HP HLH L1 GA L2 L3 Gga L4; have := hid8 L5 L6 L7 L8 Ggf L9 L10 L11; have := L12.out; omega
 have NEgf_go : gf ≠ go := by have := hid8 HP HLH L1 GA L2 L3 Gga L4; have := hid8 L5 L6 L7 L8 Ggf L9 L10 L11; have := L12.out; omega
 have NOgp_go : gp ≠ go := by have := hid8 HP HLH L1 GA L2 L3 Gga L4; have := hid8 L5 L6 L7 L8 Ggf L9 L10 L11; have := L12.out; omega
 have NOgo_gp : go ≠ gp := by have := hid8 HP HLH L1 GA L2 L3 Gga L4; have := hid8 L5 L6 L7 L8 Ggf L9 L10 L11; have := L12.out; omega
 have z_ga_0 := (KA12.out).cell 0 rfl
 have z_ga_1 := (KA12.out).cell 1 rfl
 obtain ⟨z_gf_0, z_gf_1, z_gf_2, z_gf_3, z_gf_4, z_gf_5, z_gf_6, z_gf_7, z_gf_8, z_gf_9, z_gf_10⟩ := cells11 (KF12.out)
 have zd_ga_0 := hide ((KA12.out.later ((Below.refl _ _).drew)).cell 0 rfl)
 have zd_ga_1 := hide ((KA12.out.later ((Below.refl _ _).drew)).cell 1 rfl)
 have zd_gf_0 := hide ((KF12.out.later ((Below.refl _ _).drew)).cell 0 rfl)
 have zd_gf_1 := hide ((KF12.out.later ((Below.refl _ _).drew)).cell 1 rfl)
 have zd_gf_2 := hide ((KF12.out.later ((Below.refl _ _).drew)).cell 2 rfl)
 have zd_gf_3 := hide ((KF12.out.later ((Below.refl _ _).drew)).cell 3 rfl)
 have zd_gf_4 := hide ((KF12.out.later ((Below.refl _ _).drew)).cell 4 rfl)
 have zd_gf_5 := hide ((KF12.out.later ((Below.refl _ _).drew)).cell 5 rfl)
 have zd_gf_6 := hide ((KF12.out.later ((Below.refl _ _).drew)).cell 6 rfl)
 have zd_gf_7 := hide ((KF12.out.later ((Below.refl _ _).drew)).cell 7 rfl)
 have zd_gf_8 := hide ((KF12.out.later ((Below.refl _ _).drew)).cell 8 rfl)
 have zd_gf_9 := hide ((KF12.out.later ((Below.refl _ _).drew)).cell 9 rfl)
 have zd_gf_10 := hide ((KF12.out.later ((Below.refl _ _).drew)).cell 10 rfl)
 have za0_ga_0 := hide ((((KA12.out).alloc (.cells #[.int .i64 0, .int .i64 1, .int .i64 5, .int .i64 10, .int .i64 11, .int .i64 (-1), .int .i64 2] 3))).cell 0 rfl)
 have za0_ga_1 := hide ((((KA12.out).alloc (.cells #[.int .i64 0, .int .i64 1, .int .i64 5, .int .i64 10, .int .i64 11, .int .i64 (-1), .int .i64 2] 3))).cell 1 rfl)
 have za0_gf_0 := hide ((((KF12.out).alloc (.cells #[.int .i64 0, .int .i64 1, .int .i64 5, .int .i64 10, .int .i64 11, .int .i64 (-1), .int .i64 2] 3))).cell 0 rfl)
 have za0_gf_1 := hide ((((KF12.out).alloc (.cells #[.int .i64 0, .int .i64 1, .int .i64 5, .int .i64 10, .int .i64 11, .int .i64 (-1), .int .i64 2] 3))).cell 1 rfl)
 have za0_gf_2 := hide ((((KF12.out).alloc (.cells #[.int .i64 0, .int .i64 1, .int .i64 5, .int .i64 10, .int .i64 11, .int .i64 (-1), .int .i64 2] 3))).cell 2 rfl)
 have za0_gf_3 := hide ((((KF12.out).alloc (.cells #[.int .i64 0, .int .i64 1, .int .i64 5, .int .i64 10, .int .i64 11, .int .i64 (-1), .int .i64 2] 3))).cell 3 rfl)
 have za0_gf_4 := hide ((((KF12.out).alloc (.cells #[.int .i64 0, .int .i64 1, .int .i64 5, .int .i64 10, .int .i64 11, .int .i64 (-1), .int .i64 2] 3))).cell 4 rfl)
 have za0_gf_5 := hide ((((KF12.out).alloc (.cells #[.int .i64 0, .int .i64 1, .int .i64 5, .int .i64 10, .int .i64 11, .int .i64 (-1), .int .i64 2] 3))).cell 5 rfl)
 have za0_gf_6 := hide ((((KF12.out).alloc (.cells #[.int .i64 0, .int .i64 1, .int .i64 5, .int .i64 10, .int .i64 11, .int .i64 (-1), .int .i64 2] 3))).cell 6 rfl)
 have za0_gf_7 := hide ((((KF12.out).alloc (.cells #[.int .i64 0, .int .i64 1, .int .i64 5, .int .i64 10, .int .i64 11, .int .i64 (-1), .int .i64 2] 3))).cell 7 rfl)
 have za0_gf_8 := hide ((((KF12.out).alloc (.cells #[.int .i64 0, .int .i64 1, .int .i64 5, .int .i64 10, .int .i64 11, .int .i64 (-1), .int .i64 2] 3))).cell 8 rfl)
 have za0_gf_9 := hide ((((KF12.out).alloc (.cells #[.int .i64 0, .int .i64 1, .int .i64 5, .int .i64 10, .int .i64 11, .int .i64 (-1), .int .i64 2] 3))).cell 9 rfl)
 have za0_gf_10 := hide ((((KF12.out).alloc (.cells #[.int .i64 0, .int .i64 1, .int .i64 5, .int .i64 10, .int .i64 11, .int .i64 (-1), .int .i64 2] 3))).cell 10 rfl)
 have za0d_ga_0 := hide (((((KA12.out).alloc (.cells #[.int .i64 0, .int .i64 1, .int .i64 5, .int .i64 10, .int .i64 11, .int .i64 (-1), .int .i64 2] 3))).later ((Below.refl _ _).drew)).cell 0 rfl)
 have za0d_ga_1 := hide (((((KA12.out).alloc (.cells #[.int .i64 0, .int .i64 1, .int .i64 5, .int .i64 10, .int .i64 11, .int .i64 (-1), .int .i64 2] 3))).later ((Below.refl _ _).drew)).cell 1 rfl)
 have za0d_gf_0 := hide (((((KF12.out).alloc (.cells #[.int .i64 0, .int .i64 1, .int .i64 5, .int .i64 10, .int .i64 11, .int .i64 (-1), .int .i64 2] 3))).later ((Below.refl _ _).drew)).cell 0 rfl)
 have za0d_gf_1 := hide (((((KF12.out).alloc (.cells #[.int .i64 0, .int .i64 1, .int .i64 5, .int .i64 10, .int .i64 11, .int .i64 (-1), .int .i64 2] 3))).later ((Below.refl _ _).drew)).cell 1 rfl)
 have za0d_gf_2 := hide (((((KF12.out).alloc (.cells #[.int .i64 0, .int .i64 1, .int .i64 5, .int .i64 10, .int .i64 11, .int .i64 (-1), .int .i64 2] 3))).later ((Below.refl _ _).drew)).cell 2 rfl)
 have za0d_gf_3 := hide (((((KF12.out).alloc (.cells #[.int .i64 0, .int .i64 1, .int .i64 5, .int .i64 10, .int .i64 11, .int .i64 (-1), .int .i64 2] 3))).later ((Below.refl _ _).drew)).cell 3 rfl)
 have za0d_gf_4 := hide (((((KF12.out).alloc (.cells #[.int .i64 0, .int .i64 1, .int .i64 5, .int .i64 10, .int .i64 11, .int .i64 (-1), .int .i64 2] 3))).later ((Below.refl _ _).drew)).cell 4 rfl)
 have za0d_gf_5 := hide (((((KF12.out).alloc (.cells #[.int .i64 0, .int .i64 1, .int .i64 5, .int .i64 10, .int .i64 11, .int .i64 (-1), .int .i64 2] 3))).later ((Below.refl _ _).drew)).cell 5 rfl)
 have za0d_gf_6 := hide (((((KF12.out).alloc (.cells #[.int .i64 0, .int .i64 1, .int .i64 5, .int .i64 10, .int .i64 11, .int .i64 (-1), .int .i64 2] 3))).later ((Below.refl _ _).drew)).cell 6 rfl)
 have za0d_gf_7 := hide (((((KF12.out).alloc (.cells #[.int .i64 0, .int .i64 1, .int .i64 5, .int .i64 10, .int .i64 11, .int .i64 (-1), .int .i64 2] 3))).later ((Below.refl _ _).drew)).cell 7 rfl)
 have za0d_gf_8 := hide (((((KF12.out).alloc (.cells #[.int .i64 0, .int .i64 1, .int .i64 5, .int .i64 10, .int .i64 11, .int .i64 (-1), .int .i64 2] 3))).later ((Below.refl _ _).drew)).cell 8 rfl)
 have za0d_gf_9 := hide (((((KF12.out).alloc (.cells #[.int .i64 0, .int .i64 1, .int .i64 5, .int .i64 10, .int .i64 11, .int .i64 (-1), .int .i64 2] 3))).later ((Below.refl _ _).drew)).cell 9 rfl)
 have za0d_gf_10 := hide (((((KF12.out).alloc (.cells #[.int .i64 0, .int .i64 1, .int .i64 5, .int .i64 10, .int .i64 11, .int .i64 (-1), .int .i64 2] 3))).later ((Below.refl _ _).drew)).cell 10 rfl)
 go_upto_region 5 with fail
 go_region_held3 (fun w' => w'.cell? ⟨ga, 0, none⟩ = some (.int .i64 ah) ∧ w'.cell? ⟨ga, 1, none⟩ = some (.int .i64 ap) ∧ w'.cell? ⟨gf, 0, none⟩ = some (.int .i64 3) ∧ w'.cell? ⟨gf, 1, none⟩ = some (.int .i64 (1 + v)) ∧ w'.cell? ⟨gf, 2, none⟩ = some (.slice (some ⟨gn, 0, none⟩) 12 cn) ∧ w'.cell? ⟨gf, 3, none⟩ = some (.slice (some ⟨gs, 0, none⟩) 12 cs) ∧ w'.cell? ⟨gf, 4, none⟩ = some (.int .i64 tk) ∧ w'.cell? ⟨gf, 5, none⟩ = some (.slice T.a T.n T.c) ∧ w'.cell? ⟨gf, 6, none⟩ = some (.slice (some ⟨gq, 0, none⟩) 16 cq) ∧ w'.cell? ⟨gf, 7, none⟩ = some (.int .i64 0) ∧ w'.cell? ⟨gf, 8, none⟩ = some (.int .i64 0) ∧ w'.cell? ⟨gf, 9, none⟩ = some (.slice none 0 0) ∧ w'.cell? ⟨gf, 10, none⟩ = some (.slice none 0 0)) (first | with_reducible exact ⟨s1a0c0_ga_0.out, s1a0c0_ga_1.out, s1a0c0_gf_0.out, s1a0c0_gf_1.out, s1a0c0_gf_2.out, s1a0c0_gf_3.out, s1a0c0_gf_4.out, s1a0c0_gf_5.out, s1a0c0_gf_6.out, s1a0c0_gf_7.out, s1a0c0_gf_8.out, s1a0c0_gf_9.out, s1a0c0_gf_10.out⟩ | with_reducible exact ⟨s0a0c0_ga_0.out, s0a0c0_ga_1.out, s0a0c0_gf_0.out, s0a0c0_gf_1.out, s0a0c0_gf_2.out, s0a0c0_gf_3.out, s0a0c0_gf_4.out, s0a0c0_gf_5.out, s0a0c0_gf_6.out, s0a0c0_gf_7.out, s0a0c0_gf_8.out, s0a0c0_gf_9.out, s0a0c0_gf_10.out⟩ | with_reducible exact ⟨ka0c0_ga_0, ka0c0_ga_1, ka0c0_gf_0, ka0c0_gf_1, ka0c0_gf_2, ka0c0_gf_3, ka0c0_gf_4, ka0c0_gf_5, ka0c0_gf_6, ka0c0_gf_7, ka0c0_gf_8, ka0c0_gf_9, ka0c0_gf_10⟩ | with_reducible exact ⟨za0d_ga_0.out, za0d_ga_1.out, za0d_gf_0.out, za0d_gf_1.out, za0d_gf_2.out, za0d_gf_3.out, za0d_gf_4.out, za0d_gf_5.out, za0d_gf_6.out, za0d_gf_7.out, za0d_gf_8.out, za0d_gf_9.out, za0d_gf_10.out⟩ | with_reducible exact ⟨za0_ga_0.out, za0_ga_1.out, za0_gf_0.out, za0_gf_1.out, za0_gf_2.out, za0_gf_3.out, za0_gf_4.out, za0_gf_5.out, za0_gf_6.out, za0_gf_7.out, za0_gf_8.out, za0_gf_9.out, za0_gf_10.out⟩ | with_reducible exact ⟨zd_ga_0.out, zd_ga_1.out, zd_gf_0.out, zd_gf_1.out, zd_gf_2.out, zd_gf_3.out, zd_gf_4.out, zd_gf_5.out, zd_gf_6.out, zd_gf_7.out, zd_gf_8.out, zd_gf_9.out, zd_gf_10.out⟩ | with_reducible exact ⟨z_ga_0, z_ga_1, z_gf_0, z_gf_1, z_gf_2, z_gf_3, z_gf_4, z_gf_5, z_gf_6, z_gf_7, z_gf_8, z_gf_9, z_gf_10⟩ | go_keep)
  (first
   | (go_at_call 34; (with_reducible (show Calls _ _ _ (x12.alloc (.cells #[.int .i64 0, .int .i64 1, .int .i64 5, .int .i64 10, .int .i64 11, .int .i64 (-1), .int .i64 2] 3)).drew _)); have hRd : Ready W0 a len cap l p (x12.alloc (.cells #[.int .i64 0, .int .i64 1, .int .i64 5, .int .i64 10, .int .i64 11, .int .i64 (-1), .int .i64 2] 3)).drew := (rdyL (RDX.out.alloc _) ((Below.refl _ _).drew)); have hIn : IntsAt (x12.alloc (.cells #[.int .i64 0, .int .i64 1, .int .i64 5, .int .i64 10, .int .i64 11, .int .i64 (-1), .int .i64 2] 3)) (x12.heap.size) [0, 1, 5, 10, 11, -1, 2] := (ints_at x12 [0, 1, 5, 10, 11, -1, 2] (x12.heap.size) (by rfl)); have hI2 : IntsAt (x12.alloc (.cells #[.int .i64 0, .int .i64 1, .int .i64 5, .int .i64 10, .int .i64 11, .int .i64 (-1), .int .i64 2] 3)).drew (x12.heap.size) [0, 1, 5, 10, 11, -1, 2] := hIn; have hNe : (x12.heap.size) ≠ p := (by have := PX.out; have := World.size_alloc x12 (.cells #[.int .i64 0, .int .i64 1, .int .i64 5, .int .i64 10, .int .i64 11, .int .i64 (-1), .int .i64 2] 3); show _ ≠ _; omega); refine (intOfList hRd (x12.heap.size) 7 [0, 1, 5, 10, 11, -1, 2] rfl hI2 hNe (by omega) (by omega)).mono ?_; rintro e ya0c0 ⟨dl, rfl, vm, r, b0⟩; have VMdl : Hid (dl ∈ ([0, 1, 5, 10, 11, -1, 2] : List Int)) := vm; have RDa0c0 := hid (r); have BTa0c0 : Hid (But p x12 ya0c0) := (But.drew (BTX.out.alloc _)).trans b0; have KQa0c0 : Hid (Kept p (p + 1) x12 ya0c0) := Kept.of_grown BTa0c0.out; have KS : Kept p (p + 1) (x12.alloc (.cells #[.int .i64 0, .int .i64 1, .int .i64 5, .int .i64 10, .int .i64 11, .int .i64 (-1), .int .i64 2] 3)).drew ya0c0 := Kept.of_grown b0; have ka0c0_ga_0 := (KA12.out.keep (KQa0c0.out.block ga KA12.out.lt (by have := NPga.out; omega))).cell 0 rfl; have ka0c0_ga_1 := (KA12.out.keep (KQa0c0.out.block ga KA12.out.lt (by have := NPga.out; omega))).cell 1 rfl; have ka0c0_gf_0 := (KF12.out.keep (KQa0c0.out.block gf KF12.out.lt (by have := NPgf.out; omega))).cell 0 rfl; have ka0c0_gf_1 := (KF12.out.keep (KQa0c0.out.block gf KF12.out.lt (by have := NPgf.out; omega))).cell 1 rfl; have ka0c0_gf_2 := (KF12.out.keep (KQa0c0.out.block gf KF12.out.lt (by have := NPgf.out; omega))).cell 2 rfl; have ka0c0_gf_3 := (KF12.out.keep (KQa0c0.out.block gf KF12.out.lt (by have := NPgf.out; omega))).cell 3 rfl; have ka0c0_gf_4 := (KF12.out.keep (KQa0c0.out.block gf KF12.out.lt (by have := NPgf.out; omega))).cell 4 rfl; have ka0c0_gf_5 := (KF12.out.keep (KQa0c0.out.block gf KF12.out.lt (by have := NPgf.out; omega))).cell 5 rfl; have ka0c0_gf_6 := (KF12.out.keep (KQa0c0.out.block gf KF12.out.lt (by have := NPgf.out; omega))).cell 6 rfl; have ka0c0_gf_7 := (KF12.out.keep (KQa0c0.out.block gf KF12.out.lt (by have := NPgf.out; omega))).cell 7 rfl; have ka0c0_gf_8 := (KF12.out.keep (KQa0c0.out.block gf KF12.out.lt (by have := NPgf.out; omega))).cell 8 rfl; have ka0c0_gf_9 := (KF12.out.keep (KQa0c0.out.block gf KF12.out.lt (by have := NPgf.out; omega))).cell 9 rfl; have ka0c0_gf_10 := (KF12.out.keep (KQa0c0.out.block gf KF12.out.lt (by have := NPgf.out; omega))).cell 10 rfl; have HDL : Hid (-1 ≤ dl ∧ dl ≤ 11) := (by have q := VMdl.out; simp only [List.mem_cons, List.mem_nil_iff, or_false] at q; show _ ∧ _; omega); have hw2 : IntKind.i64.wrap (tk + dl) = tk + dl := (by rw [IntKind.wrap_i64]; have := hid2 HTK HDL; omega); have KYKP := KP12.out.keep (KQa0c0.out.block gp KP12.out.lt (by have := NPgp.out; omega)); have qKP0 := KYKP.cell 0 rfl; have rKP0 := KYKP.frozen 0; have qKP1 := KYKP.cell 1 rfl; have rKP1 := KYKP.frozen 1; have KYKO := KO12.out.keep (KQa0c0.out.block go KO12.out.lt (by have := NPgo.out; omega)); have qKO0 := KYKO.cell 0 rfl; have rKO0 := KYKO.frozen 0; have qKO1 := KYKO.cell 1 rfl; have rKO1 := KYKO.frozen 1; have qKO2 := KYKO.cell 2 rfl; have rKO2 := KYKO.frozen 2; have qKO3 := KYKO.cell 3 rfl; have rKO3 := KYKO.frozen 3; have qKO4 := KYKO.cell 4 rfl; have rKO4 := KYKO.frozen 4; have qKO5 := KYKO.cell 5 rfl; have rKO5 := KYKO.frozen 5; have qKO6 := KYKO.cell 6 rfl; have rKO6 := KYKO.frozen 6; have qKO7 := KYKO.cell 7 rfl; have rKO7 := KYKO.frozen 7; have qKO8 := KYKO.cell 8 rfl; have rKO8 := KYKO.frozen 8; have qKO9 := KYKO.cell 9 rfl; have rKO9 := KYKO.frozen 9; have qKO10 := KYKO.cell 10 rfl; have rKO10 := KYKO.frozen 10; have s0a0c0_ga_0 := hide (((Blk.other (a := ⟨gp, 1, none⟩) (Blk.other (a := ⟨gp, 0, none⟩) (KA12.out.keep (KQa0c0.out.block ga KA12.out.lt (by have := NPga.out; omega))) NEga_gp (.int .i64 ah)) NEga_gp (.int .i64 ap))).cell 0 rfl); have s0a0c0_ga_1 := hide (((Blk.other (a := ⟨gp, 1, none⟩) (Blk.other (a := ⟨gp, 0, none⟩) (KA12.out.keep (KQa0c0.out.block ga KA12.out.lt (by have := NPga.out; omega))) NEga_gp (.int .i64 ah)) NEga_gp (.int .i64 ap))).cell 1 rfl); have s0a0c0_gf_0 := hide (((Blk.other (a := ⟨gp, 1, none⟩) (Blk.other (a := ⟨gp, 0, none⟩) (KF12.out.keep (KQa0c0.out.block gf KF12.out.lt (by have := NPgf.out; omega))) NEgf_gp (.int .i64 ah)) NEgf_gp (.int .i64 ap))).cell 0 rfl); have s0a0c0_gf_1 := hide (((Blk.other (a := ⟨gp, 1, none⟩) (Blk.other (a := ⟨gp, 0, none⟩) (KF12.out.keep (KQa0c0.out.block gf KF12.out.lt (by have := NPgf.out; omega))) NEgf_gp (.int .i64 ah)) NEgf_gp (.int .i64 ap))).cell 1 rfl); have s0a0c0_gf_2 := hide (((Blk.other (a := ⟨gp, 1, none⟩) (Blk.other (a := ⟨gp, 0, none⟩) (KF12.out.keep (KQa0c0.out.block gf KF12.out.lt (by have := NPgf.out; omega))) NEgf_gp (.int .i64 ah)) NEgf_gp (.int .i64 ap))).cell 2 rfl); have s0a0c0_gf_3 := hide (((Blk.other (a := ⟨gp, 1, none⟩) (Blk.other (a := ⟨gp, 0, none⟩) (KF12.out.keep (KQa0c0.out.block gf KF12.out.lt (by have := NPgf.out; omega))) NEgf_gp (.int .i64 ah)) NEgf_gp (.int .i64 ap))).cell 3 rfl); have s0a0c0_gf_4 := hide (((Blk.other (a := ⟨gp, 1, none⟩) (Blk.other (a := ⟨gp, 0, none⟩) (KF12.out.keep (KQa0c0.out.block gf KF12.out.lt (by have := NPgf.out; omega))) NEgf_gp (.int .i64 ah)) NEgf_gp (.int .i64 ap))).cell 4 rfl); have s0a0c0_gf_5 := hide (((Blk.other (a := ⟨gp, 1, none⟩) (Blk.other (a := ⟨gp, 0, none⟩) (KF12.out.keep (KQa0c0.out.block gf KF12.out.lt (by have := NPgf.out; omega))) NEgf_gp (.int .i64 ah)) NEgf_gp (.int .i64 ap))).cell 5 rfl); have s0a0c0_gf_6 := hide (((Blk.other (a := ⟨gp, 1, none⟩) (Blk.other (a := ⟨gp, 0, none⟩) (KF12.out.keep (KQa0c0.out.block gf KF12.out.lt (by have := NPgf.out; omega))) NEgf_gp (.int .i64 ah)) NEgf_gp (.int .i64 ap))).cell 6 rfl); have s0a0c0_gf_7 := hide (((Blk.other (a := ⟨gp, 1, none⟩) (Blk.other (a := ⟨gp, 0, none⟩) (KF12.out.keep (KQa0c0.out.block gf KF12.out.lt (by have := NPgf.out; omega))) NEgf_gp (.int .i64 ah)) NEgf_gp (.int .i64 ap))).cell 7 rfl); have s0a0c0_gf_8 := hide (((Blk.other (a := ⟨gp, 1, none⟩) (Blk.other (a := ⟨gp, 0, none⟩) (KF12.out.keep (KQa0c0.out.block gf KF12.out.lt (by have := NPgf.out; omega))) NEgf_gp (.int .i64 ah)) NEgf_gp (.int .i64 ap))).cell 8 rfl); have s0a0c0_gf_9 := hide (((Blk.other (a := ⟨gp, 1, none⟩) (Blk.other (a := ⟨gp, 0, none⟩) (KF12.out.keep (KQa0c0.out.block gf KF12.out.lt (by have := NPgf.out; omega))) NEgf_gp (.int .i64 ah)) NEgf_gp (.int .i64 ap))).cell 9 rfl); have s0a0c0_gf_10 := hide (((Blk.other (a := ⟨gp, 1, none⟩) (Blk.other (a := ⟨gp, 0, none⟩) (KF12.out.keep (KQa0c0.out.block gf KF12.out.lt (by have := NPgf.out; omega))) NEgf_gp (.int .i64 ah)) NEgf_gp (.int .i64 ap))).cell 10 rfl); have KZKO := (Blk.other (a := ⟨gp, 1, none⟩) (Blk.other (a := ⟨gp, 0, none⟩) KYKO NOgo_gp (.int .i64 ah)) NOgo_gp (.int .i64 ap)); have uKO0 := KZKO.cell 0 rfl; have vKO0 := KZKO.frozen 0; have uKO1 := KZKO.cell 1 rfl; have vKO1 := KZKO.frozen 1; have uKO2 := KZKO.cell 2 rfl; have vKO2 := KZKO.frozen 2; have uKO3 := KZKO.cell 3 rfl; have vKO3 := KZKO.frozen 3; have uKO4 := KZKO.cell 4 rfl; have vKO4 := KZKO.frozen 4; have uKO5 := KZKO.cell 5 rfl; have vKO5 := KZKO.frozen 5; have uKO6 := KZKO.cell 6 rfl; have vKO6 := KZKO.frozen 6; have uKO7 := KZKO.cell 7 rfl; have vKO7 := KZKO.frozen 7; have uKO8 := KZKO.cell 8 rfl; have vKO8 := KZKO.frozen 8; have uKO9 := KZKO.cell 9 rfl; have vKO9 := KZKO.frozen 9; have uKO10 := KZKO.cell 10 rfl; have vKO10 := KZKO.frozen 10; have s1a0c0_ga_0 := hide (((Blk.other (a := ⟨go, 10, none⟩) (Blk.other (a := ⟨go, 9, none⟩) (Blk.other (a := ⟨go, 8, none⟩) (Blk.other (a := ⟨go, 7, none⟩) (Blk.other (a := ⟨go, 6, none⟩) (Blk.other (a := ⟨go, 5, none⟩) (Blk.other (a := ⟨go, 4, none⟩) (Blk.other (a := ⟨go, 3, none⟩) (Blk.other (a := ⟨go, 2, none⟩) (Blk.other (a := ⟨go, 1, none⟩) (Blk.other (a := ⟨go, 0, none⟩) (Blk.other (a := ⟨gp, 1, none⟩) (Blk.other (a := ⟨gp, 0, none⟩) (KA12.out.keep (KQa0c0.out.block ga KA12.out.lt (by have := NPga.out; omega))) NEga_gp (.int .i64 ah)) NEga_gp (.int .i64 ap)) NEga_go (.int .i64 3)) NEga_go (.int .i64 (1 + v))) NEga_go (.slice (some ⟨gn, 0, none⟩) 12 cn)) NEga_go (.slice (some ⟨gs, 0, none⟩) 12 cs)) NEga_go (.int .i64 tk)) NEga_go (.slice T.a T.n T.c)) NEga_go (.slice (some ⟨gq, 0, none⟩) 16 cq)) NEga_go (.int .i64 0)) NEga_go (.int .i64 0)) NEga_go (.slice none 0 0)) NEga_go (.slice none 0 0))).cell 0 rfl); have s1a0c0_ga_1 := hide (((Blk.other (a := ⟨go, 10, none⟩) (Blk.other (a := ⟨go, 9, none⟩) (Blk.other (a := ⟨go, 8, none⟩) (Blk.other (a := ⟨go, 7, none⟩) (Blk.other (a := ⟨go, 6, none⟩) (Blk.other (a := ⟨go, 5, none⟩) (Blk.other (a := ⟨go, 4, none⟩) (Blk.other (a := ⟨go, 3, none⟩) (Blk.other (a := ⟨go, 2, none⟩) (Blk.other (a := ⟨go, 1, none⟩) (Blk.other (a := ⟨go, 0, none⟩) (Blk.other (a := ⟨gp, 1, none⟩) (Blk.other (a := ⟨gp, 0, none⟩) (KA12.out.keep (KQa0c0.out.block ga KA12.out.lt (by have := NPga.out; omega))) NEga_gp (.int .i64 ah)) NEga_gp (.int .i64 ap)) NEga_go (.int .i64 3)) NEga_go (.int .i64 (1 + v))) NEga_go (.slice (some ⟨gn, 0, none⟩) 12 cn)) NEga_go (.slice (some ⟨gs, 0, none⟩) 12 cs)) NEga_go (.int .i64 tk)) NEga_go (.slice T.a T.n T.c)) NEga_go (.slice (some ⟨gq, 0, none⟩) 16 cq)) NEga_go (.int .i64 0)) NEga_go (.int .i64 0)) NEga_go (.slice none 0 0)) NEga_go (.slice none 0 0))).cell 1 rfl); have s1a0c0_gf_0 := hide (((Blk.other (a := ⟨go, 10, none⟩) (Blk.other (a := ⟨go, 9, none⟩) (Blk.other (a := ⟨go, 8, none⟩) (Blk.other (a := ⟨go, 7, none⟩) (Blk.other (a := ⟨go, 6, none⟩) (Blk.other (a := ⟨go, 5, none⟩) (Blk.other (a := ⟨go, 4, none⟩) (Blk.other (a := ⟨go, 3, none⟩) (Blk.other (a := ⟨go, 2, none⟩) (Blk.other (a := ⟨go, 1, none⟩) (Blk.other (a := ⟨go, 0, none⟩) (Blk.other (a := ⟨gp, 1, none⟩) (Blk.other (a := ⟨gp, 0, none⟩) (KF12.out.keep (KQa0c0.out.block gf KF12.out.lt (by have := NPgf.out; omega))) NEgf_gp (.int .i64 ah)) NEgf_gp (.int .i64 ap)) NEgf_go (.int .i64 3)) NEgf_go (.int .i64 (1 + v))) NEgf_go (.slice (some ⟨gn, 0, none⟩) 12 cn)) NEgf_go (.slice (some ⟨gs, 0, none⟩) 12 cs)) NEgf_go (.int .i64 tk)) NEgf_go (.slice T.a T.n T.c)) NEgf_go (.slice (some ⟨gq, 0, none⟩) 16 cq)) NEgf_go (.int .i64 0)) NEgf_go (.int .i64 0)) NEgf_go (.slice none 0 0)) NEgf_go (.slice none 0 0))).cell 0 rfl); have s1a0c0_gf_1 := hide (((Blk.other (a := ⟨go, 10, none⟩) (Blk.other (a := ⟨go, 9, none⟩) (Blk.other (a := ⟨go, 8, none⟩) (Blk.other (a := ⟨go, 7, none⟩) (Blk.other (a := ⟨go, 6, none⟩) (Blk.other (a := ⟨go, 5, none⟩) (Blk.other (a := ⟨go, 4, none⟩) (Blk.other (a := ⟨go, 3, none⟩) (Blk.other (a := ⟨go, 2, none⟩) (Blk.other (a := ⟨go, 1, none⟩) (Blk.other (a := ⟨go, 0, none⟩) (Blk.other (a := ⟨gp, 1, none⟩) (Blk.other (a := ⟨gp, 0, none⟩) (KF12.out.keep (KQa0c0.out.block gf KF12.out.lt (by have := NPgf.out; omega))) NEgf_gp (.int .i64 ah)) NEgf_gp (.int .i64 ap)) NEgf_go (.int .i64 3)) NEgf_go (.int .i64 (1 + v))) NEgf_go (.slice (some ⟨gn, 0, none⟩) 12 cn)) NEgf_go (.slice (some ⟨gs, 0, none⟩) 12 cs)) NEgf_go (.int .i64 tk)) NEgf_go (.slice T.a T.n T.c)) NEgf_go (.slice (some ⟨gq, 0, none⟩) 16 cq)) NEgf_go (.int .i64 0)) NEgf_go (.int .i64 0)) NEgf_go (.slice none 0 0)) NEgf_go (.slice none 0 0))).cell 1 rfl); have s1a0c0_gf_2 := hide (((Blk.other (a := ⟨go, 10, none⟩) (Blk.other (a := ⟨go, 9, none⟩) (Blk.other (a := ⟨go, 8, none⟩) (Blk.other (a := ⟨go, 7, none⟩) (Blk.other (a := ⟨go, 6, none⟩) (Blk.other (a := ⟨go, 5, none⟩) (Blk.other (a := ⟨go, 4, none⟩) (Blk.other (a := ⟨go, 3, none⟩) (Blk.other (a := ⟨go, 2, none⟩) (Blk.other (a := ⟨go, 1, none⟩) (Blk.other (a := ⟨go, 0, none⟩) (Blk.other (a := ⟨gp, 1, none⟩) (Blk.other (a := ⟨gp, 0, none⟩) (KF12.out.keep (KQa0c0.out.block gf KF12.out.lt (by have := NPgf.out; omega))) NEgf_gp (.int .i64 ah)) NEgf_gp (.int .i64 ap)) NEgf_go (.int .i64 3)) NEgf_go (.int .i64 (1 + v))) NEgf_go (.slice (some ⟨gn, 0, none⟩) 12 cn)) NEgf_go (.slice (some ⟨gs, 0, none⟩) 12 cs)) NEgf_go (.int .i64 tk)) NEgf_go (.slice T.a T.n T.c)) NEgf_go (.slice (some ⟨gq, 0, none⟩) 16 cq)) NEgf_go (.int .i64 0)) NEgf_go (.int .i64 0)) NEgf_go (.slice none 0 0)) NEgf_go (.slice none 0 0))).cell 2 rfl); have s1a0c0_gf_3 := hide (((Blk.other (a := ⟨go, 10, none⟩) (Blk.other (a := ⟨go, 9, none⟩) (Blk.other (a := ⟨go, 8, none⟩) (Blk.other (a := ⟨go, 7, none⟩) (Blk.other (a := ⟨go, 6, none⟩) (Blk.other (a := ⟨go, 5, none⟩) (Blk.other (a := ⟨go, 4, none⟩) (Blk.other (a := ⟨go, 3, none⟩) (Blk.other (a := ⟨go, 2, none⟩) (Blk.other (a := ⟨go, 1, none⟩) (Blk.other (a := ⟨go, 0, none⟩) (Blk.other (a := ⟨gp, 1, none⟩) (Blk.other (a := ⟨gp, 0, none⟩) (KF12.out.keep (KQa0c0.out.block gf KF12.out.lt (by have := NPgf.out; omega))) NEgf_gp (.int .i64 ah)) NEgf_gp (.int .i64 ap)) NEgf_go (.int .i64 3)) NEgf_go (.int .i64 (1 + v))) NEgf_go (.slice (some ⟨gn, 0, none⟩) 12 cn)) NEgf_go (.slice (some ⟨gs, 0, none⟩) 12 cs)) NEgf_go (.int .i64 tk)) NEgf_go (.slice T.a T.n T.c)) NEgf_go (.slice (some ⟨gq, 0, none⟩) 16 cq)) NEgf_go (.int .i64 0)) NEgf_go (.int .i64 0)) NEgf_go (.slice none 0 0)) NEgf_go (.slice none 0 0))).cell 3 rfl); have s1a0c0_gf_4 := hide (((Blk.other (a := ⟨go, 10, none⟩) (Blk.other (a := ⟨go, 9, none⟩) (Blk.other (a := ⟨go, 8, none⟩) (Blk.other (a := ⟨go, 7, none⟩) (Blk.other (a := ⟨go, 6, none⟩) (Blk.other (a := ⟨go, 5, none⟩) (Blk.other (a := ⟨go, 4, none⟩) (Blk.other (a := ⟨go, 3, none⟩) (Blk.other (a := ⟨go, 2, none⟩) (Blk.other (a := ⟨go, 1, none⟩) (Blk.other (a := ⟨go, 0, none⟩) (Blk.other (a := ⟨gp, 1, none⟩) (Blk.other (a := ⟨gp, 0, none⟩) (KF12.out.keep (KQa0c0.out.block gf KF12.out.lt (by have := NPgf.out; omega))) NEgf_gp (.int .i64 ah)) NEgf_gp (.int .i64 ap)) NEgf_go (.int .i64 3)) NEgf_go (.int .i64 (1 + v))) NEgf_go (.slice (some ⟨gn, 0, none⟩) 12 cn)) NEgf_go (.slice (some ⟨gs, 0, none⟩) 12 cs)) NEgf_go (.int .i64 tk)) NEgf_go (.slice T.a T.n T.c)) NEgf_go (.slice (some ⟨gq, 0, none⟩) 16 cq)) NEgf_go (.int .i64 0)) NEgf_go (.int .i64 0)) NEgf_go (.slice none 0 0)) NEgf_go (.slice none 0 0))).cell 4 rfl); have s1a0c0_gf_5 := hide (((Blk.other (a := ⟨go, 10, none⟩) (Blk.other (a := ⟨go, 9, none⟩) (Blk.other (a := ⟨go, 8, none⟩) (Blk.other (a := ⟨go, 7, none⟩) (Blk.other (a := ⟨go, 6, none⟩) (Blk.other (a := ⟨go, 5, none⟩) (Blk.other (a := ⟨go, 4, none⟩) (Blk.other (a := ⟨go, 3, none⟩) (Blk.other (a := ⟨go, 2, none⟩) (Blk.other (a := ⟨go, 1, none⟩) (Blk.other (a := ⟨go, 0, none⟩) (Blk.other (a := ⟨gp, 1, none⟩) (Blk.other (a := ⟨gp, 0, none⟩) (KF12.out.keep (KQa0c0.out.block gf KF12.out.lt (by have := NPgf.out; omega))) NEgf_gp (.int .i64 ah)) NEgf_gp (.int .i64 ap)) NEgf_go (.int .i64 3)) NEgf_go (.int .i64 (1 + v))) NEgf_go (.slice (some ⟨gn, 0, none⟩) 12 cn)) NEgf_go (.slice (some ⟨gs, 0, none⟩) 12 cs)) NEgf_go (.int .i64 tk)) NEgf_go (.slice T.a T.n T.c)) NEgf_go (.slice (some ⟨gq, 0, none⟩) 16 cq)) NEgf_go (.int .i64 0)) NEgf_go (.int .i64 0)) NEgf_go (.slice none 0 0)) NEgf_go (.slice none 0 0))).cell 5 rfl); have s1a0c0_gf_6 := hide (((Blk.other (a := ⟨go, 10, none⟩) (Blk.other (a := ⟨go, 9, none⟩) (Blk.other (a := ⟨go, 8, none⟩) (Blk.other (a := ⟨go, 7, none⟩) (Blk.other (a := ⟨go, 6, none⟩) (Blk.other (a := ⟨go, 5, none⟩) (Blk.other (a := ⟨go, 4, none⟩) (Blk.other (a := ⟨go, 3, none⟩) (Blk.other (a := ⟨go, 2, none⟩) (Blk.other (a := ⟨go, 1, none⟩) (Blk.other (a := ⟨go, 0, none⟩) (Blk.other (a := ⟨gp, 1, none⟩) (Blk.other (a := ⟨gp, 0, none⟩) (KF12.out.keep (KQa0c0.out.block gf KF12.out.lt (by have := NPgf.out; omega))) NEgf_gp (.int .i64 ah)) NEgf_gp (.int .i64 ap)) NEgf_go (.int .i64 3)) NEgf_go (.int .i64 (1 + v))) NEgf_go (.slice (some ⟨gn, 0, none⟩) 12 cn)) NEgf_go (.slice (some ⟨gs, 0, none⟩) 12 cs)) NEgf_go (.int .i64 tk)) NEgf_go (.slice T.a T.n T.c)) NEgf_go (.slice (some ⟨gq, 0, none⟩) 16 cq)) NEgf_go (.int .i64 0)) NEgf_go (.int .i64 0)) NEgf_go (.slice none 0 0)) NEgf_go (.slice none 0 0))).cell 6 rfl); have s1a0c0_gf_7 := hide (((Blk.other (a := ⟨go, 10, none⟩) (Blk.other (a := ⟨go, 9, none⟩) (Blk.other (a := ⟨go, 8, none⟩) (Blk.other (a := ⟨go, 7, none⟩) (Blk.other (a := ⟨go, 6, none⟩) (Blk.other (a := ⟨go, 5, none⟩) (Blk.other (a := ⟨go, 4, none⟩) (Blk.other (a := ⟨go, 3, none⟩) (Blk.other (a := ⟨go, 2, none⟩) (Blk.other (a := ⟨go, 1, none⟩) (Blk.other (a := ⟨go, 0, none⟩) (Blk.other (a := ⟨gp, 1, none⟩) (Blk.other (a := ⟨gp, 0, none⟩) (KF12.out.keep (KQa0c0.out.block gf KF12.out.lt (by have := NPgf.out; omega))) NEgf_gp (.int .i64 ah)) NEgf_gp (.int .i64 ap)) NEgf_go (.int .i64 3)) NEgf_go (.int .i64 (1 + v))) NEgf_go (.slice (some ⟨gn, 0, none⟩) 12 cn)) NEgf_go (.slice (some ⟨gs, 0, none⟩) 12 cs)) NEgf_go (.int .i64 tk)) NEgf_go (.slice T.a T.n T.c)) NEgf_go (.slice (some ⟨gq, 0, none⟩) 16 cq)) NEgf_go (.int .i64 0)) NEgf_go (.int .i64 0)) NEgf_go (.slice none 0 0)) NEgf_go (.slice none 0 0))).cell 7 rfl); have s1a0c0_gf_8 := hide (((Blk.other (a := ⟨go, 10, none⟩) (Blk.other (a := ⟨go, 9, none⟩) (Blk.other (a := ⟨go, 8, none⟩) (Blk.other (a := ⟨go, 7, none⟩) (Blk.other (a := ⟨go, 6, none⟩) (Blk.other (a := ⟨go, 5, none⟩) (Blk.other (a := ⟨go, 4, none⟩) (Blk.other (a := ⟨go, 3, none⟩) (Blk.other (a := ⟨go, 2, none⟩) (Blk.other (a := ⟨go, 1, none⟩) (Blk.other (a := ⟨go, 0, none⟩) (Blk.other (a := ⟨gp, 1, none⟩) (Blk.other (a := ⟨gp, 0, none⟩) (KF12.out.keep (KQa0c0.out.block gf KF12.out.lt (by have := NPgf.out; omega))) NEgf_gp (.int .i64 ah)) NEgf_gp (.int .i64 ap)) NEgf_go (.int .i64 3)) NEgf_go (.int .i64 (1 + v))) NEgf_go (.slice (some ⟨gn, 0, none⟩) 12 cn)) NEgf_go (.slice (some ⟨gs, 0, none⟩) 12 cs)) NEgf_go (.int .i64 tk)) NEgf_go (.slice T.a T.n T.c)) NEgf_go (.slice (some ⟨gq, 0, none⟩) 16 cq)) NEgf_go (.int .i64 0)) NEgf_go (.int .i64 0)) NEgf_go (.slice none 0 0)) NEgf_go (.slice none 0 0))).cell 8 rfl); have s1a0c0_gf_9 := hide (((Blk.other (a := ⟨go, 10, none⟩) (Blk.other (a := ⟨go, 9, none⟩) (Blk.other (a := ⟨go, 8, none⟩) (Blk.other (a := ⟨go, 7, none⟩) (Blk.other (a := ⟨go, 6, none⟩) (Blk.other (a := ⟨go, 5, none⟩) (Blk.other (a := ⟨go, 4, none⟩) (Blk.other (a := ⟨go, 3, none⟩) (Blk.other (a := ⟨go, 2, none⟩) (Blk.other (a := ⟨go, 1, none⟩) (Blk.other (a := ⟨go, 0, none⟩) (Blk.other (a := ⟨gp, 1, none⟩) (Blk.other (a := ⟨gp, 0, none⟩) (KF12.out.keep (KQa0c0.out.block gf KF12.out.lt (by have := NPgf.out; omega))) NEgf_gp (.int .i64 ah)) NEgf_gp (.int .i64 ap)) NEgf_go (.int .i64 3)) NEgf_go (.int .i64 (1 + v))) NEgf_go (.slice (some ⟨gn, 0, none⟩) 12 cn)) NEgf_go (.slice (some ⟨gs, 0, none⟩) 12 cs)) NEgf_go (.int .i64 tk)) NEgf_go (.slice T.a T.n T.c)) NEgf_go (.slice (some ⟨gq, 0, none⟩) 16 cq)) NEgf_go (.int .i64 0)) NEgf_go (.int .i64 0)) NEgf_go (.slice none 0 0)) NEgf_go (.slice none 0 0))).cell 9 rfl); have s1a0c0_gf_10 := hide (((Blk.other (a := ⟨go, 10, none⟩) (Blk.other (a := ⟨go, 9, none⟩) (Blk.other (a := ⟨go, 8, none⟩) (Blk.other (a := ⟨go, 7, none⟩) (Blk.other (a := ⟨go, 6, none⟩) (Blk.other (a := ⟨go, 5, none⟩) (Blk.other (a := ⟨go, 4, none⟩) (Blk.other (a := ⟨go, 3, none⟩) (Blk.other (a := ⟨go, 2, none⟩) (Blk.other (a := ⟨go, 1, none⟩) (Blk.other (a := ⟨go, 0, none⟩) (Blk.other (a := ⟨gp, 1, none⟩) (Blk.other (a := ⟨gp, 0, none⟩) (KF12.out.keep (KQa0c0.out.block gf KF12.out.lt (by have := NPgf.out; omega))) NEgf_gp (.int .i64 ah)) NEgf_gp (.int .i64 ap)) NEgf_go (.int .i64 3)) NEgf_go (.int .i64 (1 + v))) NEgf_go (.slice (some ⟨gn, 0, none⟩) 12 cn)) NEgf_go (.slice (some ⟨gs, 0, none⟩) 12 cs)) NEgf_go (.int .i64 tk)) NEgf_go (.slice T.a T.n T.c)) NEgf_go (.slice (some ⟨gq, 0, none⟩) 16 cq)) NEgf_go (.int .i64 0)) NEgf_go (.int .i64 0)) NEgf_go (.slice none 0 0)) NEgf_go (.slice none 0 0))).cell 10 rfl); clear b0 KS vm r hRd hIn hI2 hNe))
 ·
  skip
  have bQ := BTa0c0.out
  have rQ := RDa0c0.out
  have L13 := hid (bQ.size)
  have KQ : Kept p (p + 1) x12 ya0c0 := Kept.of_grown bQ
  have R13 := hid (rQ)
  have B13 := hid (B12.out.trans bQ)
  have KP13 := hid (KP12.out.keep (KQ.block _ KP12.out.lt (by have := hid8 HP HLH L1 GA L2 L3 Gga L4; have := hid8 L5 L6 L7 L8 Ggf L9 L10 L11; have := hid2 L12 L13; omega)))
  have KO13 := hid (KO12.out.keep (KQ.block _ KO12.out.lt (by have := hid8 HP HLH L1 GA L2 L3 Gga L4; have := hid8 L5 L6 L7 L8 Ggf L9 L10 L11; have := hid2 L12 L13; omega)))
  have KA13 := hid (KA12.out.keep (KQ.block _ KA12.out.lt (by have := hid8 HP HLH L1 GA L2 L3 Gga L4; have := hid8 L5 L6 L7 L8 Ggf L9 L10 L11; have := hid2 L12 L13; omega)))
  have On_13 := hid (On_12.out.carry KQ (by have := hid8 HP HLH L1 GA L2 L3 Gga L4; have := hid8 L5 L6 L7 L8 Ggf L9 L10 L11; have := hid2 L12 L13; omega))
  have Os_13 := hid (Os_12.out.carry KQ (by have := hid8 HP HLH L1 GA L2 L3 Gga L4; have := hid8 L5 L6 L7 L8 Ggf L9 L10 L11; have := hid2 L12 L13; omega))
  have OT13 := hid (OT12.out.carry KQ (by have := hid8 HP HLH L1 GA L2 L3 Gga L4; have := hid8 L5 L6 L7 L8 Ggf L9 L10 L11; have := hid2 L12 L13; omega))
  have Oq_13 := hid (Oq_12.out.carry KQ (by have := hid8 HP HLH L1 GA L2 L3 Gga L4; have := hid8 L5 L6 L7 L8 Ggf L9 L10 L11; have := hid2 L12 L13; omega))
  have KF13 := hid (KF12.out.keep (KQ.block _ KF12.out.lt (by have := hid8 HP HLH L1 GA L2 L3 Gga L4; have := hid8 L5 L6 L7 L8 Ggf L9 L10 L11; have := hid2 L12 L13; omega)))
  clear R12 B12 KP12 KO12 KA12 On_12 Os_12 OT12 Oq_12 KF12 bQ
  clear KQ rQ
  go_wp2
  have NEp : gp ≠ go := by have := hid8 HP HLH L1 GA L2 L3 Gga L4; have := hid8 L5 L6 L7 L8 Ggf L9 L10 L11; have := hid2 L12 L13; omega
  have NEo : go ≠ gp := Ne.symm NEp
  have k1 := (Blk.other (a := ⟨go, 10, none⟩) (Blk.other (a := ⟨go, 9, none⟩) (Blk.other (a := ⟨go, 8, none⟩) (Blk.other (a := ⟨go, 7, none⟩) (Blk.other (a := ⟨go, 6, none⟩) (Blk.other (a := ⟨go, 5, none⟩) (Blk.other (a := ⟨go, 4, none⟩) (Blk.other (a := ⟨go, 3, none⟩) (Blk.other (a := ⟨go, 2, none⟩) (Blk.other (a := ⟨go, 1, none⟩) (Blk.other (a := ⟨go, 0, none⟩) ((KP13.out.set 0 (.int .i64 ah) (by simp [maxLen])).set 1 (.int .i64 ap) (by simp [maxLen])) NEp (.int .i64 3)) NEp (.int .i64 (1 + v))) NEp (.slice (some ⟨gn, 0, none⟩) 12 cn)) NEp (.slice (some ⟨gs, 0, none⟩) 12 cs)) NEp (.int .i64 tk)) NEp (.slice T.a T.n T.c)) NEp (.slice (some ⟨gq, 0, none⟩) 16 cq)) NEp (.int .i64 0)) NEp (.int .i64 0)) NEp (.slice none 0 0)) NEp (.slice none 0 0))
  have k2 := ((((((((((((Blk.other (a := ⟨gp, 1, none⟩) (Blk.other (a := ⟨gp, 0, none⟩) KO13.out NEo (.int .i64 ah)) NEo (.int .i64 ap)).set 0 (.int .i64 3) (by simp [maxLen])).set 1 (.int .i64 (1 + v)) (by simp [maxLen])).set 2 (.slice (some ⟨gn, 0, none⟩) 12 cn) (by simp [maxLen])).set 3 (.slice (some ⟨gs, 0, none⟩) 12 cs) (by simp [maxLen])).set 4 (.int .i64 tk) (by simp [maxLen])).set 5 (.slice T.a T.n T.c) (by simp [maxLen])).set 6 (.slice (some ⟨gq, 0, none⟩) 16 cq) (by simp [maxLen])).set 7 (.int .i64 0) (by simp [maxLen])).set 8 (.int .i64 0) (by simp [maxLen])).set 9 (.slice none 0 0) (by simp [maxLen])).set 10 (.slice none 0 0) (by simp [maxLen]))
  have HGG : Hid (gp + 1 = go) := by have := hid8 HP HLH L1 GA L2 L3 Gga L4; have := hid8 L5 L6 L7 L8 Ggf L9 L10 L11; have := hid2 L12 L13; show _ = _; omega
  have KZ := (show Kept gp (go + 1) ya0c0 (((((((((((((ya0c0.setCell ⟨gp, 0, none⟩ (.int .i64 ah)).setCell ⟨gp, 1, none⟩ (.int .i64 ap)).setCell ⟨go, 0, none⟩ (.int .i64 3)).setCell ⟨go, 1, none⟩ (.int .i64 (1 + v))).setCell ⟨go, 2, none⟩ (.slice (some ⟨gn, 0, none⟩) 12 cn)).setCell ⟨go, 3, none⟩ (.slice (some ⟨gs, 0, none⟩) 12 cs)).setCell ⟨go, 4, none⟩ (.int .i64 tk)).setCell ⟨go, 5, none⟩ (.slice T.a T.n T.c)).setCell ⟨go, 6, none⟩ (.slice (some ⟨gq, 0, none⟩) 16 cq)).setCell ⟨go, 7, none⟩ (.int .i64 0)).setCell ⟨go, 8, none⟩ (.int .i64 0)).setCell ⟨go, 9, none⟩ (.slice none 0 0)).setCell ⟨go, 10, none⟩ (.slice none 0 0)) from (((((((((((((Kept.mono (Kept.setCell _ gp 0 (.int .i64 ah)) (by have := HGG.out; omega) (by have := HGG.out; omega)).trans (Kept.mono (Kept.setCell _ gp 1 (.int .i64 ap)) (by have := HGG.out; omega) (by have := HGG.out; omega))).trans (Kept.mono (Kept.setCell _ go 0 (.int .i64 3)) (by have := HGG.out; omega) (by have := HGG.out; omega))).trans (Kept.mono (Kept.setCell _ go 1 (.int .i64 (1 + v))) (by have := HGG.out; omega) (by have := HGG.out; omega))).trans (Kept.mono (Kept.setCell _ go 2 (.slice (some ⟨gn, 0, none⟩) 12 cn)) (by have := HGG.out; omega) (by have := HGG.out; omega))).trans (Kept.mono (Kept.setCell _ go 3 (.slice (some ⟨gs, 0, none⟩) 12 cs)) (by have := HGG.out; omega) (by have := HGG.out; omega))).trans (Kept.mono (Kept.setCell _ go 4 (.int .i64 tk)) (by have := HGG.out; omega) (by have := HGG.out; omega))).trans (Kept.mono (Kept.setCell _ go 5 (.slice T.a T.n T.c)) (by have := HGG.out; omega) (by have := HGG.out; omega))).trans (Kept.mono (Kept.setCell _ go 6 (.slice (some ⟨gq, 0, none⟩) 16 cq)) (by have := HGG.out; omega) (by have := HGG.out; omega))).trans (Kept.mono (Kept.setCell _ go 7 (.int .i64 0)) (by have := HGG.out; omega) (by have := HGG.out; omega))).trans (Kept.mono (Kept.setCell _ go 8 (.int .i64 0)) (by have := HGG.out; omega) (by have := HGG.out; omega))).trans (Kept.mono (Kept.setCell _ go 9 (.slice none 0 0)) (by have := HGG.out; omega) (by have := HGG.out; omega))).trans (Kept.mono (Kept.setCell _ go 10 (.slice none 0 0)) (by have := HGG.out; omega) (by have := HGG.out; omega))))
  have SZF : Hid ((((((((((((((ya0c0.setCell ⟨gp, 0, none⟩ (.int .i64 ah)).setCell ⟨gp, 1, none⟩ (.int .i64 ap)).setCell ⟨go, 0, none⟩ (.int .i64 3)).setCell ⟨go, 1, none⟩ (.int .i64 (1 + v))).setCell ⟨go, 2, none⟩ (.slice (some ⟨gn, 0, none⟩) 12 cn)).setCell ⟨go, 3, none⟩ (.slice (some ⟨gs, 0, none⟩) 12 cs)).setCell ⟨go, 4, none⟩ (.int .i64 tk)).setCell ⟨go, 5, none⟩ (.slice T.a T.n T.c)).setCell ⟨go, 6, none⟩ (.slice (some ⟨gq, 0, none⟩) 16 cq)).setCell ⟨go, 7, none⟩ (.int .i64 0)).setCell ⟨go, 8, none⟩ (.int .i64 0)).setCell ⟨go, 9, none⟩ (.slice none 0 0)).setCell ⟨go, 10, none⟩ (.slice none 0 0)).heap.size = ya0c0.heap.size) := by show _ = _; simp
  exact bodyPost_ret (v := .tuple #[.int .i64 (tk + dl), addrV ah ap, frV (⟨3, 1 + v, ln, ls, tk, (mint D ah ap (1 + v) ln ls tk), lq, 0, 0, [], []⟩ : FrD) (⟨⟨some ⟨gn, 0, none⟩, 12, cn⟩, ⟨some ⟨gs, 0, none⟩, 12, cs⟩, T, ⟨some ⟨gq, 0, none⟩, 16, cq⟩, ⟨none, 0, 0⟩, ⟨none, 0, 0⟩⟩ : FrS)]) (res3 rfl (is_tmp rfl) (is_cell rfl k1 aggA) (is_cell rfl k2 aggFr)) rfl ⟨tk + dl, ah, ap, (⟨⟨some ⟨gn, 0, none⟩, 12, cn⟩, ⟨some ⟨gs, 0, none⟩, 12, cs⟩, T, ⟨some ⟨gq, 0, none⟩, 16, cq⟩, ⟨none, 0, 0⟩, ⟨none, 0, 0⟩⟩ : FrS), (⟨3, 1 + v, ln, ls, tk, (mint D ah ap (1 + v) ln ls tk), lq, 0, 0, [], []⟩ : FrD), rfl, ⟨HTK.out.1, HTK.out.2, by show ln.length ≤ 16; have := ELn.out; omega, by show ls.length ≤ 16; have := ELs.out; omega, HMT.out⟩, ⟨((On_13.out.carry KZ (.inr (by have := hid8 HP HLH L1 GA L2 L3 Gga L4; have := hid8 L5 L6 L7 L8 Ggf L9 L10 L11; have := hid2 L12 L13; omega))).mono (by have := hid8 HP HLH L1 GA L2 L3 Gga L4; have := hid8 L5 L6 L7 L8 Ggf L9 L10 L11; have := hid2 L12 L13; omega) (by rw [SZF.out]; have := hid8 HP HLH L1 GA L2 L3 Gga L4; have := hid8 L5 L6 L7 L8 Ggf L9 L10 L11; have := hid2 L12 L13; omega)), ((Os_13.out.carry KZ (.inr (by have := hid8 HP HLH L1 GA L2 L3 Gga L4; have := hid8 L5 L6 L7 L8 Ggf L9 L10 L11; have := hid2 L12 L13; omega))).mono (by have := hid8 HP HLH L1 GA L2 L3 Gga L4; have := hid8 L5 L6 L7 L8 Ggf L9 L10 L11; have := hid2 L12 L13; omega) (by rw [SZF.out]; have := hid8 HP HLH L1 GA L2 L3 Gga L4; have := hid8 L5 L6 L7 L8 Ggf L9 L10 L11; have := hid2 L12 L13; omega)), ((OT13.out.carry KZ (.inr (by have := hid8 HP HLH L1 GA L2 L3 Gga L4; have := hid8 L5 L6 L7 L8 Ggf L9 L10 L11; have := hid2 L12 L13; omega))).mono (by have := hid8 HP HLH L1 GA L2 L3 Gga L4; have := hid8 L5 L6 L7 L8 Ggf L9 L10 L11; have := hid2 L12 L13; omega) (by rw [SZF.out]; have := hid8 HP HLH L1 GA L2 L3 Gga L4; have := hid8 L5 L6 L7 L8 Ggf L9 L10 L11; have := hid2 L12 L13; omega)), ((Oq_13.out.carry KZ (.inr (by have := hid8 HP HLH L1 GA L2 L3 Gga L4; have := hid8 L5 L6 L7 L8 Ggf L9 L10 L11; have := hid2 L12 L13; omega))).mono (by have := hid8 HP HLH L1 GA L2 L3 Gga L4; have := hid8 L5 L6 L7 L8 Ggf L9 L10 L11; have := hid2 L12 L13; omega) (by rw [SZF.out]; have := hid8 HP HLH L1 GA L2 L3 Gga L4; have := hid8 L5 L6 L7 L8 Ggf L9 L10 L11; have := hid2 L12 L13; omega)), SOwn.nil _ _ _, SOwn.nil _ _ _⟩, rdyK R13.out KZ (by have := hid8 HP HLH L1 GA L2 L3 Gga L4; have := hid8 L5 L6 L7 L8 Ggf L9 L10 L11; have := hid2 L12 L13; omega), butK B13.out KZ (by have := hid8 HP HLH L1 GA L2 L3 Gga L4; have := hid8 L5 L6 L7 L8 Ggf L9 L10 L11; have := hid2 L12 L13; omega)⟩

set_option maxHeartbeats 32000000 in
theorem drawJudge (a : Option Addr) (len cap : Nat) (l : List Int) (w : World) (hl : len = l.length) (hr : Rd w a l) (hb : Bytes l) (hlen : len ≤ 1048576) :
  Calls Tryz.prog 17 #[.slice a len cap] w fun e w' => ∃ (D : JaD) (S : JaS) (now ah ap : Int) (SF : FrS) (F : FrD), e = .returned (.tuple #[jaV D S, .int .i64 now, addrV ah ap, frV F SF]) ∧ JaShort D 32 ∧ JaRd w' S D ∧ FrRd w' SF F ∧ Below w.heap.size w w' := by
 have HR := hid (hr)
 have HL : Hid (len = l.length) := hl
 have HB := hid (hb)
 clear hr hl hb
 have B0 : Hid (Below w.heap.size w w) := Below.refl _ _
 obtain ⟨x1, hx1⟩ : ∃ x1, (((w.alloc (.cells #[.slice none 0 0] 25)).alloc (.cells #[.int .i64 0, .int .i64 0] 27)).alloc (.cells #[.int .i64 0, .int .i64 0, .slice none 0 0, .slice none 0 0, .int .i64 0, .slice none 0 0, .slice none 0 0, .int .i64 0, .int .i64 0, .slice none 0 0, .slice none 0 0] 35)) = x1 := ⟨_, rfl⟩
 have HWA := hid (hx1)
 have b1 : Below w.heap.size w x1 := by rw [← hx1]; exact ((((Below.refl _ _).alloc (Nat.le_refl _) _).alloc (by simp) _).alloc (by simp; omega) _)
 have KON : Blk x1 (w.heap.size) 25 [.slice none 0 0] := by
  have q := (Blk.new w 25 [.slice none 0 0])
  skip
  rw [← hx1]; exact (q.alloc _).alloc _
 have KPN : Blk x1 (w.heap.size + 1) 27 [.int .i64 0, .int .i64 0] := by
  have q := (Blk.new (w.alloc (.cells #[.slice none 0 0] 25)) 27 [.int .i64 0, .int .i64 0])
  rw [World.size_alloc] at q
  rw [← hx1]; exact q.alloc _
 have KQN : Blk x1 (w.heap.size + 1 + 1) 35 [.int .i64 0, .int .i64 0, .slice none 0 0, .slice none 0 0, .int .i64 0, .slice none 0 0, .slice none 0 0, .int .i64 0, .int .i64 0, .slice none 0 0, .slice none 0 0] := by
  have q := (Blk.new ((w.alloc (.cells #[.slice none 0 0] 25)).alloc (.cells #[.int .i64 0, .int .i64 0] 27)) 35 [.int .i64 0, .int .i64 0, .slice none 0 0, .slice none 0 0, .int .i64 0, .slice none 0 0, .slice none 0 0, .int .i64 0, .int .i64 0, .slice none 0 0, .slice none 0 0])
  rw [World.size_alloc, World.size_alloc] at q
  rw [← hx1]; exact q
 have SZA : x1.heap.size = w.heap.size + 3 := by rw [← hx1]; simp
 clear hx1
 have L1 := hid (b1.size)
 have B1 := hid (B0.out.trans (b1.mono B0.out.size))
 clear B0 b1
 go_enter Tryz.func17, Tryz.ntmps17
 go_upto_region 1 with fail
 rw [HWA.out]
 obtain ⟨go, hgo⟩ : ∃ g, w.heap.size = g := ⟨_, rfl⟩
 obtain ⟨gp, hgp⟩ : ∃ g, w.heap.size + 1 = g := ⟨_, rfl⟩
 obtain ⟨gq, hgq⟩ : ∃ g, w.heap.size + 1 + 1 = g := ⟨_, rfl⟩
 have GA : Hid (w.heap.size = go ∧ go + 1 = gp ∧ gp + 1 = gq ∧ x1.heap.size = go + 3) := ⟨hgo, by omega, by omega, by omega⟩
 rw [hgo] at KON
 rw [hgp] at KPN
 rw [hgq] at KQN
 rw [hgq, hgp, hgo]
 clear HWA SZA hgo hgp hgq
 have KO1 := hid (KON)
 have KP1 := hid (KPN)
 have KQ1 := hid (KQN)
 clear KON KPN KQN
 go_wp2_with fail
 refine (newCur a len cap l x1 HL.out (HR.out.later B1.out (Nat.le_refl _)) HB.out hlen).mono ?_
 rintro e x2 ⟨p, rfl, r⟩
 have b := r.hB
 have HP : Hid (x1.heap.size ≤ p ∧ p < x2.heap.size) := ⟨r.hp, r.hc.lt⟩
 have L2 := hid (b.size)
 have B2 := hid (B1.out.trans (b.mono B1.out.size))
 have KO2 := hid (KO1.out.later b)
 have KP2 := hid (KP1.out.later b)
 have KQ2 := hid (KQ1.out.later b)
 clear B1 KO1 KP1 KQ1 b
 have R2 := hid (r)
 clear r
 go_wp2_with fail
 refine (l11Jar R2.out).mono ?_
 rintro e x3 ⟨S0, D0, rfl, sh, o, r, b⟩
 have HS0 : Hid (JaShort D0 32) := sh
 clear sh
 have L3 := hid (b.size)
 have KQ : Kept p (p + 1) x2 x3 := Kept.of_grown b
 have B3 : Hid (Below w.heap.size w x3) := But.below b B2.out (by have := hid5 L1 GA L2 HP L3; omega)
 have KO3 := hid (KO2.out.keep (KQ.block _ KO2.out.lt (by have := hid5 L1 GA L2 HP L3; omega)))
 have KP3 := hid (KP2.out.keep (KQ.block _ KP2.out.lt (by have := hid5 L1 GA L2 HP L3; omega)))
 have KQ3 := hid (KQ2.out.keep (KQ.block _ KQ2.out.lt (by have := hid5 L1 GA L2 HP L3; omega)))
 have R3 := hid (r)
 clear B2 KO2 KP2 KQ2 R2 b
 clear KQ r
 have OE3 : Hid (JaOwn x3 x2.heap.size x3.heap.size S0 D0) := o
 clear o
 obtain ⟨x4, hx4⟩ : ∃ x4, x3.alloc (.cells #[.slice S0.secret.a S0.secret.n S0.secret.c] 25) = x4 := ⟨_, rfl⟩
 have HW4 := hid (hx4)
 have b4 : Below x3.heap.size x3 x4 := by rw [← hx4]; exact (Below.refl _ _).alloc (Nat.le_refl _) _
 have KN : Blk x4 x3.heap.size 25 [.slice S0.secret.a S0.secret.n S0.secret.c] := by rw [← hx4]; exact Blk.new x3 _ _
 have HSZ4 : Hid (x4.heap.size = x3.heap.size + 1) := by rw [← hx4]; show _ = _; simp
 clear hx4
 have L4 := hid (b4.size)
 have B4 := hid (B3.out.trans (b4.mono B3.out.size))
 have KO4 := hid (KO3.out.later b4)
 have KP4 := hid (KP3.out.later b4)
 have KQ4 := hid (KQ3.out.later b4)
 have R4 : Hid (Ready x1 a len cap l p x4) := rdyL R3.out b4
 have OE4 := hid (OE3.out.later b4)
 clear B3 KO3 KP3 KQ3 R3 OE3 b4
 unfold jaV
 go_upto_region 3 with fail
 rw [HW4.out]
 obtain ⟨gj, hgj⟩ : ∃ g, x3.heap.size = g := ⟨_, rfl⟩
 have Ggj : Hid (x3.heap.size = gj ∧ x4.heap.size = gj + 1) := ⟨hgj, by rw [← hgj]; exact HSZ4.out⟩
 rw [hgj] at KN ⊢
 clear HW4 HSZ4 hgj
 have KJ4 := hid (KN)
 clear KN
 have d0 := KJ4.out.cell 0 rfl
 go_wp2_with fail
 refine (l11Finish R4.out OE4.out (by have := hid7 L1 GA L2 HP L3 L4 Ggj; omega)).mono ?_
 rintro e x5 ⟨now, ah, ap, SF, F, rfl, ft, fi, r, b⟩
 have HFL : Hid (0 ≤ F.tick ∧ F.tick ≤ 999999 ∧ F.cn.length ≤ 16 ∧ F.sn.length ≤ 16 ∧ F.cookie.length ≤ 16) := ft
 clear ft
 clear d0
 have L5 := hid (b.size)
 have KQ : Kept p (p + 1) x4 x5 := Kept.of_grown b
 have B5 : Hid (Below w.heap.size w x5) := But.below b B4.out (by have := hid8 L1 GA L2 HP L3 L4 Ggj L5; omega)
 have KO5 := hid (KO4.out.keep (KQ.block _ KO4.out.lt (by have := hid8 L1 GA L2 HP L3 L4 Ggj L5; omega)))
 have KP5 := hid (KP4.out.keep (KQ.block _ KP4.out.lt (by have := hid8 L1 GA L2 HP L3 L4 Ggj L5; omega)))
 have KQ5 := hid (KQ4.out.keep (KQ.block _ KQ4.out.lt (by have := hid8 L1 GA L2 HP L3 L4 Ggj L5; omega)))
 have R5 := hid (r)
 have OE5 := hid (OE4.out.carry KQ (by have := hid8 L1 GA L2 HP L3 L4 Ggj L5; omega))
 have KJ5 := hid (KJ4.out.keep (KQ.block _ KJ4.out.lt (by have := hid8 L1 GA L2 HP L3 L4 Ggj L5; omega)))
 clear B4 KO4 KP4 KQ4 R4 OE4 KJ4 b
 clear KQ r
 have OF5 := hid (fi)
 clear fi
 obtain ⟨x6, hx6⟩ : ∃ zz, (x5.alloc (.cells #[.int .i64 ah, .int .i64 ap] 27)).alloc (.cells #[.int .i64 F.kind, .int .i64 F.id, .slice SF.cn.a SF.cn.n SF.cn.c, .slice SF.sn.a SF.sn.n SF.sn.c, .int .i64 F.tick, .slice SF.cookie.a SF.cookie.n SF.cookie.c, .slice SF.proof.a SF.proof.n SF.proof.c, .int .i64 F.epoch, .int .i64 F.seq, .slice SF.body.a SF.body.n SF.body.c, .slice SF.tag.a SF.tag.n SF.tag.c] 35) = zz := ⟨_, rfl⟩
 have HWA := hid (hx6)
 have b6 : Below x5.heap.size x5 x6 := by rw [← hx6]; exact (((Below.refl _ _).alloc (Nat.le_refl _) _).alloc (by simp) _)
 have KAN : Blk x6 (x5.heap.size) 27 [.int .i64 ah, .int .i64 ap] := by
  have q := Blk.new (x5) 27 [.int .i64 ah, .int .i64 ap]
  skip
  rw [← hx6]; exact q.alloc _
 have KFN : Blk x6 (x5.heap.size + 1) 35 [.int .i64 F.kind, .int .i64 F.id, .slice SF.cn.a SF.cn.n SF.cn.c, .slice SF.sn.a SF.sn.n SF.sn.c, .int .i64 F.tick, .slice SF.cookie.a SF.cookie.n SF.cookie.c, .slice SF.proof.a SF.proof.n SF.proof.c, .int .i64 F.epoch, .int .i64 F.seq, .slice SF.body.a SF.body.n SF.body.c, .slice SF.tag.a SF.tag.n SF.tag.c] := by
  have q := Blk.new ((x5.alloc (.cells #[.int .i64 ah, .int .i64 ap] 27))) 35 [.int .i64 F.kind, .int .i64 F.id, .slice SF.cn.a SF.cn.n SF.cn.c, .slice SF.sn.a SF.sn.n SF.sn.c, .int .i64 F.tick, .slice SF.cookie.a SF.cookie.n SF.cookie.c, .slice SF.proof.a SF.proof.n SF.proof.c, .int .i64 F.epoch, .int .i64 F.seq, .slice SF.body.a SF.body.n SF.body.c, .slice SF.tag.a SF.tag.n SF.tag.c]
  rw [World.size_alloc] at q
  rw [← hx6]; exact q
 have SZA : x6.heap.size = x5.heap.size + 2 := by rw [← hx6]; simp
 clear hx6
 have L6 := hid (b6.size)
 have B6 := hid (B5.out.trans (b6.mono B5.out.size))
 have KO6 := hid (KO5.out.later b6)
 have KP6 := hid (KP5.out.later b6)
 have KQ6 := hid (KQ5.out.later b6)
 have R6 : Hid (Ready x1 a len cap l p x6) := rdyL R5.out b6
 have OE6 := hid (OE5.out.later b6)
 have KJ6 := hid (KJ5.out.later b6)
 have OF6 := hid (OF5.out.later b6)
 clear B5 KO5 KP5 KQ5 R5 OE5 KJ5 OF5 b6
 unfold addrV frV
 go_upto_region 4 with fail
 rw [HWA.out]
 obtain ⟨ga, hga⟩ : ∃ g, x5.heap.size = g := ⟨_, rfl⟩
 obtain ⟨gf, hgf⟩ : ∃ g, x5.heap.size + 1 = g := ⟨_, rfl⟩
 have Gga_ : Hid (x5.heap.size = ga ∧ ga + 1 = gf ∧ x6.heap.size = ga + 2) := ⟨hga, by omega, by omega⟩
 rw [hga] at KAN
 rw [hgf] at KFN
 rw [hgf, hga]
 clear HWA SZA hga hgf
 have KA6 := hid (KAN)
 have KF6 := hid (KFN)
 clear KAN KFN
 go_wp2_with fail
 refine (Draw.below R6.out 12 (by omega) (by omega)).mono ?_
 rintro e x7 ⟨v, rfl, va, vb, r, b⟩
 have VBv : Hid (0 ≤ v ∧ v < 12) := ⟨va, vb⟩
 clear va vb
 have L7 := hid (b.size)
 have KQ : Kept p (p + 1) x6 x7 := Kept.of_grown b
 have B7 : Hid (Below w.heap.size w x7) := But.below b B6.out (by have := hid8 L1 GA L2 HP L3 L4 Ggj L5; have := hid3 L6 Gga_ L7; omega)
 have KO7 := hid (KO6.out.keep (KQ.block _ KO6.out.lt (by have := hid8 L1 GA L2 HP L3 L4 Ggj L5; have := hid3 L6 Gga_ L7; omega)))
 have KP7 := hid (KP6.out.keep (KQ.block _ KP6.out.lt (by have := hid8 L1 GA L2 HP L3 L4 Ggj L5; have := hid3 L6 Gga_ L7; omega)))
 have KQ7 := hid (KQ6.out.keep (KQ.block _ KQ6.out.lt (by have := hid8 L1 GA L2 HP L3 L4 Ggj L5; have := hid3 L6 Gga_ L7; omega)))
 have R7 := hid (r)
 have OE7 := hid (OE6.out.carry KQ (by have := hid8 L1 GA L2 HP L3 L4 Ggj L5; have := hid3 L6 Gga_ L7; omega))
 have KJ7 := hid (KJ6.out.keep (KQ.block _ KJ6.out.lt (by have := hid8 L1 GA L2 HP L3 L4 Ggj L5; have := hid3 L6 Gga_ L7; omega)))
 have OF7 := hid (OF6.out.carry KQ (by have := hid8 L1 GA L2 HP L3 L4 Ggj L5; have := hid3 L6 Gga_ L7; omega))
 have KA7 := hid (KA6.out.keep (KQ.block _ KA6.out.lt (by have := hid8 L1 GA L2 HP L3 L4 Ggj L5; have := hid3 L6 Gga_ L7; omega)))
 have KF7 := hid (KF6.out.keep (KQ.block _ KF6.out.lt (by have := hid8 L1 GA L2 HP L3 L4 Ggj L5; have := hid3 L6 Gga_ L7; omega)))
 clear B6 KO6 KP6 KQ6 R6 OE6 KJ6 OF6 KA6 KF6 b
 clear KQ r
 cases ev0 : (v == 0)
 case' true =>
  obtain rfl : v = 0 := by simpa using ev0
  go_wp2_with fail
  refine (DrawA.l6Any R7.out).mono ?_
  rintro e x8 ⟨bh, bp, rfl, r, b⟩
  unfold addrV
  have L8 := hid (b.size)
  have KQ : Kept p (p + 1) x7 x8 := Kept.of_grown b
  have B8 : Hid (Below w.heap.size w x8) := But.below b B7.out (by have := hid8 L1 GA L2 HP L3 L4 Ggj L5; have := hid4 L6 Gga_ L7 L8; omega)
  have KO8 := hid (KO7.out.keep (KQ.block _ KO7.out.lt (by have := hid8 L1 GA L2 HP L3 L4 Ggj L5; have := hid4 L6 Gga_ L7 L8; omega)))
  have KP8 := hid (KP7.out.keep (KQ.block _ KP7.out.lt (by have := hid8 L1 GA L2 HP L3 L4 Ggj L5; have := hid4 L6 Gga_ L7 L8; omega)))
  have KQ8 := hid (KQ7.out.keep (KQ.block _ KQ7.out.lt (by have := hid8 L1 GA L2 HP L3 L4 Ggj L5; have := hid4 L6 Gga_ L7 L8; omega)))
  have R8 := hid (r)
  have OE8 := hid (OE7.out.carry KQ (by have := hid8 L1 GA L2 HP L3 L4 Ggj L5; have := hid4 L6 Gga_ L7 L8; omega))
  have KJ8 := hid (KJ7.out.keep (KQ.block _ KJ7.out.lt (by have := hid8 L1 GA L2 HP L3 L4 Ggj L5; have := hid4 L6 Gga_ L7 L8; omega)))
  have OF8 := hid (OF7.out.carry KQ (by have := hid8 L1 GA L2 HP L3 L4 Ggj L5; have := hid4 L6 Gga_ L7 L8; omega))
  have KA8 := hid (KA7.out.keep (KQ.block _ KA7.out.lt (by have := hid8 L1 GA L2 HP L3 L4 Ggj L5; have := hid4 L6 Gga_ L7 L8; omega)))
  have KF8 := hid (KF7.out.keep (KQ.block _ KF7.out.lt (by have := hid8 L1 GA L2 HP L3 L4 Ggj L5; have := hid4 L6 Gga_ L7 L8; omega)))
  clear B7 KO7 KP7 KQ7 R7 OE7 KJ7 OF7 KA7 KF7 b
  clear KQ r
  have co0 := KA8.out.cell 0 rfl
  have fo0 := KA8.out.frozen 0
  have co1 := KA8.out.cell 1 rfl
  have fo1 := KA8.out.frozen 1
  obtain ⟨x9, hx9⟩ : ∃ y, ((x8.setCell ⟨ga, 0, none⟩ (.int .i64 bh)).setCell ⟨ga, 1, none⟩ (.int .i64 bp)) = y := ⟨_, rfl⟩
  have HW9 := hid (hx9)
  have L9 : Hid (x9.heap.size = x8.heap.size) := by rw [← hx9]; show _ = _; simp
  have KS : Blk x9 ga 27 [.int .i64 bh, .int .i64 bp] := by rw [← hx9]; exact ((KA8.out.set 0 _ (by simp [maxLen])).set 1 _ (by simp [maxLen]))
  have KQ : Kept ga (ga + 1) x8 x9 := by rw [← hx9]; exact ((Kept.setCell _ _ _ _).trans (Kept.setCell _ _ _ _))
  clear hx9
  have B9 := hid (B8.out.trans (KQ.below (by have := hid8 L1 GA L2 HP L3 L4 Ggj L5; have := hid5 L6 Gga_ L7 L8 L9; omega) B8.out.size))
  have KO9 := hid (KO8.out.keep (KQ.block _ KO8.out.lt (by have := hid8 L1 GA L2 HP L3 L4 Ggj L5; have := hid5 L6 Gga_ L7 L8 L9; omega)))
  have KP9 := hid (KP8.out.keep (KQ.block _ KP8.out.lt (by have := hid8 L1 GA L2 HP L3 L4 Ggj L5; have := hid5 L6 Gga_ L7 L8 L9; omega)))
  have KQ9 := hid (KQ8.out.keep (KQ.block _ KQ8.out.lt (by have := hid8 L1 GA L2 HP L3 L4 Ggj L5; have := hid5 L6 Gga_ L7 L8 L9; omega)))
  have R9 : Hid (Ready x1 a len cap l p x9) := rdyK R8.out KQ (by have := hid8 L1 GA L2 HP L3 L4 Ggj L5; have := hid5 L6 Gga_ L7 L8 L9; omega)
  have OE9 := hid (OE8.out.carry KQ (by have := hid8 L1 GA L2 HP L3 L4 Ggj L5; have := hid5 L6 Gga_ L7 L8 L9; omega))
  have KJ9 := hid (KJ8.out.keep (KQ.block _ KJ8.out.lt (by have := hid8 L1 GA L2 HP L3 L4 Ggj L5; have := hid5 L6 Gga_ L7 L8 L9; omega)))
  have OF9 := hid (OF8.out.carry KQ (by have := hid8 L1 GA L2 HP L3 L4 Ggj L5; have := hid5 L6 Gga_ L7 L8 L9; omega))
  have KF9 := hid (KF8.out.keep (KQ.block _ KF8.out.lt (by have := hid8 L1 GA L2 HP L3 L4 Ggj L5; have := hid5 L6 Gga_ L7 L8 L9; omega)))
  clear B8 KO8 KP8 KQ8 R8 OE8 KJ8 OF8 KF8 KQ
  clear KA8
  have KA9 := hid (KS)
  clear KS
  go_upto_region 19 with fail
  rw [HW9.out]
  clear HW9 co0 fo0 co1 fo1
  obtain ⟨F2, hF⟩ : ∃ X : FrD, X = F := ⟨_, rfl⟩
  obtain ⟨S2, hS⟩ : ∃ X : FrS, X = SF := ⟨_, rfl⟩
  obtain ⟨bH, hH⟩ : ∃ X : Int, X = bh := ⟨_, rfl⟩
  obtain ⟨bP, hP⟩ : ∃ X : Int, X = bp := ⟨_, rfl⟩
  have KFz : Hid (Blk x9 gf 35 [.int .i64 F2.kind, .int .i64 F2.id, .slice S2.cn.a S2.cn.n S2.cn.c, .slice S2.sn.a S2.sn.n S2.sn.c, .int .i64 F2.tick, .slice S2.cookie.a S2.cookie.n S2.cookie.c, .slice S2.proof.a S2.proof.n S2.proof.c, .int .i64 F2.epoch, .int .i64 F2.seq, .slice S2.body.a S2.body.n S2.body.c, .slice S2.tag.a S2.tag.n S2.tag.c]) := by rw [hF, hS]; exact KF9.out
  have KAz : Hid (Blk x9 ga 27 [.int .i64 bH, .int .i64 bP]) := by rw [hH, hP]; exact KA9.out
  have IFz : Hid (FrIn x9 (gq + 1) x9.heap.size S2 F2) := by rw [hF, hS]; exact ⟨(OF9.out.cn.mono (by have := hid8 L1 GA L2 HP L3 L4 Ggj L5; have := hid5 L6 Gga_ L7 L8 L9; omega) (by have := hid8 L1 GA L2 HP L3 L4 Ggj L5; have := hid5 L6 Gga_ L7 L8 L9; omega)), (OF9.out.sn.mono (by have := hid8 L1 GA L2 HP L3 L4 Ggj L5; have := hid5 L6 Gga_ L7 L8 L9; omega) (by have := hid8 L1 GA L2 HP L3 L4 Ggj L5; have := hid5 L6 Gga_ L7 L8 L9; omega)), (OF9.out.cookie.mono (by have := hid8 L1 GA L2 HP L3 L4 Ggj L5; have := hid5 L6 Gga_ L7 L8 L9; omega) (by have := hid8 L1 GA L2 HP L3 L4 Ggj L5; have := hid5 L6 Gga_ L7 L8 L9; omega)), (OF9.out.proof.mono (by have := hid8 L1 GA L2 HP L3 L4 Ggj L5; have := hid5 L6 Gga_ L7 L8 L9; omega) (by have := hid8 L1 GA L2 HP L3 L4 Ggj L5; have := hid5 L6 Gga_ L7 L8 L9; omega)), (OF9.out.body.mono (by have := hid8 L1 GA L2 HP L3 L4 Ggj L5; have := hid5 L6 Gga_ L7 L8 L9; omega) (by have := hid8 L1 GA L2 HP L3 L4 Ggj L5; have := hid5 L6 Gga_ L7 L8 L9; omega)), (OF9.out.tag.mono (by have := hid8 L1 GA L2 HP L3 L4 Ggj L5; have := hid5 L6 Gga_ L7 L8 L9; omega) (by have := hid8 L1 GA L2 HP L3 L4 Ggj L5; have := hid5 L6 Gga_ L7 L8 L9; omega))⟩
  have KJz := hid (KJ9.out)
  have KOz := hid (KO9.out)
  have KPz := hid (KP9.out)
  have KQz := hid (KQ9.out)
  have OEz : Hid (JaOwn x9 x2.heap.size x3.heap.size S0 D0) := OE9.out
  have Bz := hid (B9.out)
  have HSZz : Hid (w.heap.size ≤ go ∧ go + 1 = gp ∧ gp + 1 = gq ∧ gq + 1 ≤ x2.heap.size ∧ gq < gj ∧ gq < ga ∧ gq < gf) := by have := hid8 L1 GA L2 HP L3 L4 Ggj L5; have := hid5 L6 Gga_ L7 L8 L9; show _ ∧ _; omega
  clear hF hS hH hP
  obtain ⟨xz, hxz⟩ : ∃ z, z = x9 := ⟨_, rfl⟩
  subst hxz
 case' false =>
  cases ev1 : (v == 1)
  case' true =>
   obtain rfl : v = 1 := by simpa using ev1
   go_wp2_with fail
   refine (intOfList (R7.out.alloc _) x7.heap.size 4 [0, 1, 2, 10] rfl (ints_new x7 _) (by have := R7.out.hc.lt; omega) (by omega) (by omega)).mono ?_
   rintro e x8 ⟨z, rfl, vm, r, b0⟩
   have VMz : Hid (z ∈ ([0, 1, 2, 10] : List Int)) := vm
   have b : But p x7 x8 := ((But.refl p x7).alloc _).trans b0
   clear vm b0
   have L8 := hid (b.size)
   have KQ : Kept p (p + 1) x7 x8 := Kept.of_grown b
   have B8 : Hid (Below w.heap.size w x8) := But.below b B7.out (by have := hid8 L1 GA L2 HP L3 L4 Ggj L5; have := hid4 L6 Gga_ L7 L8; omega)
   have KO8 := hid (KO7.out.keep (KQ.block _ KO7.out.lt (by have := hid8 L1 GA L2 HP L3 L4 Ggj L5; have := hid4 L6 Gga_ L7 L8; omega)))
   have KP8 := hid (KP7.out.keep (KQ.block _ KP7.out.lt (by have := hid8 L1 GA L2 HP L3 L4 Ggj L5; have := hid4 L6 Gga_ L7 L8; omega)))
   have KQ8 := hid (KQ7.out.keep (KQ.block _ KQ7.out.lt (by have := hid8 L1 GA L2 HP L3 L4 Ggj L5; have := hid4 L6 Gga_ L7 L8; omega)))
   have R8 := hid (r)
   have OE8 := hid (OE7.out.carry KQ (by have := hid8 L1 GA L2 HP L3 L4 Ggj L5; have := hid4 L6 Gga_ L7 L8; omega))
   have KJ8 := hid (KJ7.out.keep (KQ.block _ KJ7.out.lt (by have := hid8 L1 GA L2 HP L3 L4 Ggj L5; have := hid4 L6 Gga_ L7 L8; omega)))
   have OF8 := hid (OF7.out.carry KQ (by have := hid8 L1 GA L2 HP L3 L4 Ggj L5; have := hid4 L6 Gga_ L7 L8; omega))
   have KA8 := hid (KA7.out.keep (KQ.block _ KA7.out.lt (by have := hid8 L1 GA L2 HP L3 L4 Ggj L5; have := hid4 L6 Gga_ L7 L8; omega)))
   have KF8 := hid (KF7.out.keep (KQ.block _ KF7.out.lt (by have := hid8 L1 GA L2 HP L3 L4 Ggj L5; have := hid4 L6 Gga_ L7 L8; omega)))
   clear B7 KO7 KP7 KQ7 R7 OE7 KJ7 OF7 KA7 KF7 b
   clear KQ r
   have co1 := KF8.out.cell 1 rfl
   have fo1 := KF8.out.frozen 1
   obtain ⟨x9, hx9⟩ : ∃ y, (x8.setCell ⟨gf, 1, none⟩ (.int .i64 z)) = y := ⟨_, rfl⟩
   have HW9 := hid (hx9)
   have L9 : Hid (x9.heap.size = x8.heap.size) := by rw [← hx9]; show _ = _; simp
   have KS : Blk x9 gf 35 [.int .i64 F.kind, .int .i64 z, .slice SF.cn.a SF.cn.n SF.cn.c, .slice SF.sn.a SF.sn.n SF.sn.c, .int .i64 F.tick, .slice SF.cookie.a SF.cookie.n SF.cookie.c, .slice SF.proof.a SF.proof.n SF.proof.c, .int .i64 F.epoch, .int .i64 F.seq, .slice SF.body.a SF.body.n SF.body.c, .slice SF.tag.a SF.tag.n SF.tag.c] := by rw [← hx9]; exact (KF8.out.set 1 _ (by simp [maxLen]))
   have KQ : Kept gf (gf + 1) x8 x9 := by rw [← hx9]; exact (Kept.setCell _ _ _ _)
   clear hx9
   have B9 := hid (B8.out.trans (KQ.below (by have := hid8 L1 GA L2 HP L3 L4 Ggj L5; have := hid5 L6 Gga_ L7 L8 L9; omega) B8.out.size))
   have KO9 := hid (KO8.out.keep (KQ.block _ KO8.out.lt (by have := hid8 L1 GA L2 HP L3 L4 Ggj L5; have := hid5 L6 Gga_ L7 L8 L9; omega)))
   have KP9 := hid (KP8.out.keep (KQ.block _ KP8.out.lt (by have := hid8 L1 GA L2 HP L3 L4 Ggj L5; have := hid5 L6 Gga_ L7 L8 L9; omega)))
   have KQ9 := hid (KQ8.out.keep (KQ.block _ KQ8.out.lt (by have := hid8 L1 GA L2 HP L3 L4 Ggj L5; have := hid5 L6 Gga_ L7 L8 L9; omega)))
   have R9 : Hid (Ready x1 a len cap l p x9) := rdyK R8.out KQ (by have := hid8 L1 GA L2 HP L3 L4 Ggj L5; have := hid5 L6 Gga_ L7 L8 L9; omega)
   have OE9 := hid (OE8.out.carry KQ (by have := hid8 L1 GA L2 HP L3 L4 Ggj L5; have := hid5 L6 Gga_ L7 L8 L9; omega))
   have KJ9 := hid (KJ8.out.keep (KQ.block _ KJ8.out.lt (by have := hid8 L1 GA L2 HP L3 L4 Ggj L5; have := hid5 L6 Gga_ L7 L8 L9; omega)))
   have OF9 := hid (OF8.out.carry KQ (by have := hid8 L1 GA L2 HP L3 L4 Ggj L5; have := hid5 L6 Gga_ L7 L8 L9; omega))
   have KA9 := hid (KA8.out.keep (KQ.block _ KA8.out.lt (by have := hid8 L1 GA L2 HP L3 L4 Ggj L5; have := hid5 L6 Gga_ L7 L8 L9; omega)))
   clear B8 KO8 KP8 KQ8 R8 OE8 KJ8 OF8 KA8 KQ
   clear KF8
   have KF9 := hid (KS)
   clear KS
   go_upto_region 19 with fail
   rw [HW9.out]
   clear HW9 co1 fo1
   obtain ⟨F2, hF⟩ : ∃ X : FrD, X = { F with id := z } := ⟨_, rfl⟩
   obtain ⟨S2, hS⟩ : ∃ X : FrS, X = SF := ⟨_, rfl⟩
   obtain ⟨bH, hH⟩ : ∃ X : Int, X = ah := ⟨_, rfl⟩
   obtain ⟨bP, hP⟩ : ∃ X : Int, X = ap := ⟨_, rfl⟩
   have KFz : Hid (Blk x9 gf 35 [.int .i64 F2.kind, .int .i64 F2.id, .slice S2.cn.a S2.cn.n S2.cn.c, .slice S2.sn.a S2.sn.n S2.sn.c, .int .i64 F2.tick, .slice S2.cookie.a S2.cookie.n S2.cookie.c, .slice S2.proof.a S2.proof.n S2.proof.c, .int .i64 F2.epoch, .int .i64 F2.seq, .slice S2.body.a S2.body.n S2.body.c, .slice S2.tag.a S2.tag.n S2.tag.c]) := by rw [hF, hS]; exact KF9.out
   have KAz : Hid (Blk x9 ga 27 [.int .i64 bH, .int .i64 bP]) := by rw [hH, hP]; exact KA9.out
   have IFz : Hid (FrIn x9 (gq + 1) x9.heap.size S2 F2) := by rw [hF, hS]; exact ⟨(OF9.out.cn.mono (by have := hid8 L1 GA L2 HP L3 L4 Ggj L5; have := hid5 L6 Gga_ L7 L8 L9; omega) (by have := hid8 L1 GA L2 HP L3 L4 Ggj L5; have := hid5 L6 Gga_ L7 L8 L9; omega)), (OF9.out.sn.mono (by have := hid8 L1 GA L2 HP L3 L4 Ggj L5; have := hid5 L6 Gga_ L7 L8 L9; omega) (by have := hid8 L1 GA L2 HP L3 L4 Ggj L5; have := hid5 L6 Gga_ L7 L8 L9; omega)), (OF9.out.cookie.mono (by have := hid8 L1 GA L2 HP L3 L4 Ggj L5; have := hid5 L6 Gga_ L7 L8 L9; omega) (by have := hid8 L1 GA L2 HP L3 L4 Ggj L5; have := hid5 L6 Gga_ L7 L8 L9; omega)), (OF9.out.proof.mono (by have := hid8 L1 GA L2 HP L3 L4 Ggj L5; have := hid5 L6 Gga_ L7 L8 L9; omega) (by have := hid8 L1 GA L2 HP L3 L4 Ggj L5; have := hid5 L6 Gga_ L7 L8 L9; omega)), (OF9.out.body.mono (by have := hid8 L1 GA L2 HP L3 L4 Ggj L5; have := hid5 L6 Gga_ L7 L8 L9; omega) (by have := hid8 L1 GA L2 HP L3 L4 Ggj L5; have := hid5 L6 Gga_ L7 L8 L9; omega)), (OF9.out.tag.mono (by have := hid8 L1 GA L2 HP L3 L4 Ggj L5; have := hid5 L6 Gga_ L7 L8 L9; omega) (by have := hid8 L1 GA L2 HP L3 L4 Ggj L5; have := hid5 L6 Gga_ L7 L8 L9; omega))⟩
   have KJz := hid (KJ9.out)
   have KOz := hid (KO9.out)
   have KPz := hid (KP9.out)
   have KQz := hid (KQ9.out)
   have OEz : Hid (JaOwn x9 x2.heap.size x3.heap.size S0 D0) := OE9.out
   have Bz := hid (B9.out)
   have HSZz : Hid (w.heap.size ≤ go ∧ go + 1 = gp ∧ gp + 1 = gq ∧ gq + 1 ≤ x2.heap.size ∧ gq < gj ∧ gq < ga ∧ gq < gf) := by have := hid8 L1 GA L2 HP L3 L4 Ggj L5; have := hid5 L6 Gga_ L7 L8 L9; show _ ∧ _; omega
   clear hF hS hH hP
   obtain ⟨xz, hxz⟩ : ∃ z, z = x9 := ⟨_, rfl⟩
   subst hxz
  case' false =>
   cases ev2 : (v == 2)
   case' true =>
    obtain rfl : v = 2 := by simpa using ev2
    have cb := KF7.out.cell 2 rfl
    go_wp2_with fail
    refine (l1Bend R7.out SF.cn.a SF.cn.n SF.cn.c F.cn OF7.out.cn.rd.len OF7.out.cn.rd.rd OF7.out.cn.rd.nil OF7.out.cn.rd.bytes (by have := OF7.out.cn.rd.len; have := HFL.out; omega)).mono ?_
    rintro e x8 ⟨gt, mt, ct, lt, rfl, el, _, hb, kg, row, r, b⟩
    have oN : SOwn x8 x7.heap.size x8.heap.size ⟨some ⟨gt, 0, none⟩, mt, ct⟩ lt := SOwn.row row el hb kg row.lt
    clear el hb kg row
    have L8 := hid (b.size)
    have KQ : Kept p (p + 1) x7 x8 := Kept.of_grown b
    have B8 : Hid (Below w.heap.size w x8) := But.below b B7.out (by have := hid8 L1 GA L2 HP L3 L4 Ggj L5; have := hid4 L6 Gga_ L7 L8; omega)
    have KO8 := hid (KO7.out.keep (KQ.block _ KO7.out.lt (by have := hid8 L1 GA L2 HP L3 L4 Ggj L5; have := hid4 L6 Gga_ L7 L8; omega)))
    have KP8 := hid (KP7.out.keep (KQ.block _ KP7.out.lt (by have := hid8 L1 GA L2 HP L3 L4 Ggj L5; have := hid4 L6 Gga_ L7 L8; omega)))
    have KQ8 := hid (KQ7.out.keep (KQ.block _ KQ7.out.lt (by have := hid8 L1 GA L2 HP L3 L4 Ggj L5; have := hid4 L6 Gga_ L7 L8; omega)))
    have R8 := hid (r)
    have OE8 := hid (OE7.out.carry KQ (by have := hid8 L1 GA L2 HP L3 L4 Ggj L5; have := hid4 L6 Gga_ L7 L8; omega))
    have KJ8 := hid (KJ7.out.keep (KQ.block _ KJ7.out.lt (by have := hid8 L1 GA L2 HP L3 L4 Ggj L5; have := hid4 L6 Gga_ L7 L8; omega)))
    have OF8 := hid (OF7.out.carry KQ (by have := hid8 L1 GA L2 HP L3 L4 Ggj L5; have := hid4 L6 Gga_ L7 L8; omega))
    have KA8 := hid (KA7.out.keep (KQ.block _ KA7.out.lt (by have := hid8 L1 GA L2 HP L3 L4 Ggj L5; have := hid4 L6 Gga_ L7 L8; omega)))
    have KF8 := hid (KF7.out.keep (KQ.block _ KF7.out.lt (by have := hid8 L1 GA L2 HP L3 L4 Ggj L5; have := hid4 L6 Gga_ L7 L8; omega)))
    clear B7 KO7 KP7 KQ7 R7 OE7 KJ7 OF7 KA7 KF7 b
    clear KQ r
    have Ot_8 := hid (oN)
    clear oN
    clear cb
    have co2 := KF8.out.cell 2 rfl
    have fo2 := KF8.out.frozen 2
    obtain ⟨x9, hx9⟩ : ∃ y, (x8.setCell ⟨gf, 2, none⟩ (.slice (some ⟨gt, 0, none⟩) mt ct)) = y := ⟨_, rfl⟩
    have HW9 := hid (hx9)
    have L9 : Hid (x9.heap.size = x8.heap.size) := by rw [← hx9]; show _ = _; simp
    have KS : Blk x9 gf 35 [.int .i64 F.kind, .int .i64 F.id, .slice (some ⟨gt, 0, none⟩) mt ct, .slice SF.sn.a SF.sn.n SF.sn.c, .int .i64 F.tick, .slice SF.cookie.a SF.cookie.n SF.cookie.c, .slice SF.proof.a SF.proof.n SF.proof.c, .int .i64 F.epoch, .int .i64 F.seq, .slice SF.body.a SF.body.n SF.body.c, .slice SF.tag.a SF.tag.n SF.tag.c] := by rw [← hx9]; exact (KF8.out.set 2 _ (by simp [maxLen]))
    have KQ : Kept gf (gf + 1) x8 x9 := by rw [← hx9]; exact (Kept.setCell _ _ _ _)
    clear hx9
    have B9 := hid (B8.out.trans (KQ.below (by have := hid8 L1 GA L2 HP L3 L4 Ggj L5; have := hid5 L6 Gga_ L7 L8 L9; omega) B8.out.size))
    have KO9 := hid (KO8.out.keep (KQ.block _ KO8.out.lt (by have := hid8 L1 GA L2 HP L3 L4 Ggj L5; have := hid5 L6 Gga_ L7 L8 L9; omega)))
    have KP9 := hid (KP8.out.keep (KQ.block _ KP8.out.lt (by have := hid8 L1 GA L2 HP L3 L4 Ggj L5; have := hid5 L6 Gga_ L7 L8 L9; omega)))
    have KQ9 := hid (KQ8.out.keep (KQ.block _ KQ8.out.lt (by have := hid8 L1 GA L2 HP L3 L4 Ggj L5; have := hid5 L6 Gga_ L7 L8 L9; omega)))
    have R9 : Hid (Ready x1 a len cap l p x9) := rdyK R8.out KQ (by have := hid8 L1 GA L2 HP L3 L4 Ggj L5; have := hid5 L6 Gga_ L7 L8 L9; omega)
    have OE9 := hid (OE8.out.carry KQ (by have := hid8 L1 GA L2 HP L3 L4 Ggj L5; have := hid5 L6 Gga_ L7 L8 L9; omega))
    have KJ9 := hid (KJ8.out.keep (KQ.block _ KJ8.out.lt (by have := hid8 L1 GA L2 HP L3 L4 Ggj L5; have := hid5 L6 Gga_ L7 L8 L9; omega)))
    have OF9 := hid (OF8.out.carry KQ (by have := hid8 L1 GA L2 HP L3 L4 Ggj L5; have := hid5 L6 Gga_ L7 L8 L9; omega))
    have KA9 := hid (KA8.out.keep (KQ.block _ KA8.out.lt (by have := hid8 L1 GA L2 HP L3 L4 Ggj L5; have := hid5 L6 Gga_ L7 L8 L9; omega)))
    have Ot_9 := hid (Ot_8.out.carry KQ (by have := hid8 L1 GA L2 HP L3 L4 Ggj L5; have := hid5 L6 Gga_ L7 L8 L9; omega))
    clear B8 KO8 KP8 KQ8 R8 OE8 KJ8 OF8 KA8 Ot_8 KQ
    clear KF8
    have KF9 := hid (KS)
    clear KS
    go_upto_region 19 with fail
    rw [HW9.out]
    clear HW9 co2 fo2
    obtain ⟨F2, hF⟩ : ∃ X : FrD, X = { F with cn := lt } := ⟨_, rfl⟩
    obtain ⟨S2, hS⟩ : ∃ X : FrS, X = { SF with cn := ⟨some ⟨gt, 0, none⟩, mt, ct⟩ } := ⟨_, rfl⟩
    obtain ⟨bH, hH⟩ : ∃ X : Int, X = ah := ⟨_, rfl⟩
    obtain ⟨bP, hP⟩ : ∃ X : Int, X = ap := ⟨_, rfl⟩
    have KFz : Hid (Blk x9 gf 35 [.int .i64 F2.kind, .int .i64 F2.id, .slice S2.cn.a S2.cn.n S2.cn.c, .slice S2.sn.a S2.sn.n S2.sn.c, .int .i64 F2.tick, .slice S2.cookie.a S2.cookie.n S2.cookie.c, .slice S2.proof.a S2.proof.n S2.proof.c, .int .i64 F2.epoch, .int .i64 F2.seq, .slice S2.body.a S2.body.n S2.body.c, .slice S2.tag.a S2.tag.n S2.tag.c]) := by rw [hF, hS]; exact KF9.out
    have KAz : Hid (Blk x9 ga 27 [.int .i64 bH, .int .i64 bP]) := by rw [hH, hP]; exact KA9.out
    have IFz : Hid (FrIn x9 (gq + 1) x9.heap.size S2 F2) := by rw [hF, hS]; exact ⟨(Ot_9.out.mono (by have := hid8 L1 GA L2 HP L3 L4 Ggj L5; have := hid5 L6 Gga_ L7 L8 L9; omega) (by have := hid8 L1 GA L2 HP L3 L4 Ggj L5; have := hid5 L6 Gga_ L7 L8 L9; omega)), (OF9.out.sn.mono (by have := hid8 L1 GA L2 HP L3 L4 Ggj L5; have := hid5 L6 Gga_ L7 L8 L9; omega) (by have := hid8 L1 GA L2 HP L3 L4 Ggj L5; have := hid5 L6 Gga_ L7 L8 L9; omega)), (OF9.out.cookie.mono (by have := hid8 L1 GA L2 HP L3 L4 Ggj L5; have := hid5 L6 Gga_ L7 L8 L9; omega) (by have := hid8 L1 GA L2 HP L3 L4 Ggj L5; have := hid5 L6 Gga_ L7 L8 L9; omega)), (OF9.out.proof.mono (by have := hid8 L1 GA L2 HP L3 L4 Ggj L5; have := hid5 L6 Gga_ L7 L8 L9; omega) (by have := hid8 L1 GA L2 HP L3 L4 Ggj L5; have := hid5 L6 Gga_ L7 L8 L9; omega)), (OF9.out.body.mono (by have := hid8 L1 GA L2 HP L3 L4 Ggj L5; have := hid5 L6 Gga_ L7 L8 L9; omega) (by have := hid8 L1 GA L2 HP L3 L4 Ggj L5; have := hid5 L6 Gga_ L7 L8 L9; omega)), (OF9.out.tag.mono (by have := hid8 L1 GA L2 HP L3 L4 Ggj L5; have := hid5 L6 Gga_ L7 L8 L9; omega) (by have := hid8 L1 GA L2 HP L3 L4 Ggj L5; have := hid5 L6 Gga_ L7 L8 L9; omega))⟩
    have KJz := hid (KJ9.out)
    have KOz := hid (KO9.out)
    have KPz := hid (KP9.out)
    have KQz := hid (KQ9.out)
    have OEz : Hid (JaOwn x9 x2.heap.size x3.heap.size S0 D0) := OE9.out
    have Bz := hid (B9.out)
    have HSZz : Hid (w.heap.size ≤ go ∧ go + 1 = gp ∧ gp + 1 = gq ∧ gq + 1 ≤ x2.heap.size ∧ gq < gj ∧ gq < ga ∧ gq < gf) := by have := hid8 L1 GA L2 HP L3 L4 Ggj L5; have := hid5 L6 Gga_ L7 L8 L9; show _ ∧ _; omega
    clear hF hS hH hP
    obtain ⟨xz, hxz⟩ : ∃ z, z = x9 := ⟨_, rfl⟩
    subst hxz
   case' false =>
    cases ev3 : (v == 3)
    case' true =>
     obtain rfl : v = 3 := by simpa using ev3
     have cb := KF7.out.cell 3 rfl
     go_wp2_with fail
     refine (l1Bend R7.out SF.sn.a SF.sn.n SF.sn.c F.sn OF7.out.sn.rd.len OF7.out.sn.rd.rd OF7.out.sn.rd.nil OF7.out.sn.rd.bytes (by have := OF7.out.sn.rd.len; have := HFL.out; omega)).mono ?_
     rintro e x8 ⟨gt, mt, ct, lt, rfl, el, _, hb, kg, row, r, b⟩
     have oN : SOwn x8 x7.heap.size x8.heap.size ⟨some ⟨gt, 0, none⟩, mt, ct⟩ lt := SOwn.row row el hb kg row.lt
     clear el hb kg row
     have L8 := hid (b.size)
     have KQ : Kept p (p + 1) x7 x8 := Kept.of_grown b
     have B8 : Hid (Below w.heap.size w x8) := But.below b B7.out (by have := hid8 L1 GA L2 HP L3 L4 Ggj L5; have := hid4 L6 Gga_ L7 L8; omega)
     have KO8 := hid (KO7.out.keep (KQ.block _ KO7.out.lt (by have := hid8 L1 GA L2 HP L3 L4 Ggj L5; have := hid4 L6 Gga_ L7 L8; omega)))
     have KP8 := hid (KP7.out.keep (KQ.block _ KP7.out.lt (by have := hid8 L1 GA L2 HP L3 L4 Ggj L5; have := hid4 L6 Gga_ L7 L8; omega)))
     have KQ8 := hid (KQ7.out.keep (KQ.block _ KQ7.out.lt (by have := hid8 L1 GA L2 HP L3 L4 Ggj L5; have := hid4 L6 Gga_ L7 L8; omega)))
     have R8 := hid (r)
     have OE8 := hid (OE7.out.carry KQ (by have := hid8 L1 GA L2 HP L3 L4 Ggj L5; have := hid4 L6 Gga_ L7 L8; omega))
     have KJ8 := hid (KJ7.out.keep (KQ.block _ KJ7.out.lt (by have := hid8 L1 GA L2 HP L3 L4 Ggj L5; have := hid4 L6 Gga_ L7 L8; omega)))
     have OF8 := hid (OF7.out.carry KQ (by have := hid8 L1 GA L2 HP L3 L4 Ggj L5; have := hid4 L6 Gga_ L7 L8; omega))
     have KA8 := hid (KA7.out.keep (KQ.block _ KA7.out.lt (by have := hid8 L1 GA L2 HP L3 L4 Ggj L5; have := hid4 L6 Gga_ L7 L8; omega)))
     have KF8 := hid (KF7.out.keep (KQ.block _ KF7.out.lt (by have := hid8 L1 GA L2 HP L3 L4 Ggj L5; have := hid4 L6 Gga_ L7 L8; omega)))
     clear B7 KO7 KP7 KQ7 R7 OE7 KJ7 OF7 KA7 KF7 b
     clear KQ r
     have Ot_8 := hid (oN)
     clear oN
     clear cb
     have co3 := KF8.out.cell 3 rfl
     have fo3 := KF8.out.frozen 3
     obtain ⟨x9, hx9⟩ : ∃ y, (x8.setCell ⟨gf, 3, none⟩ (.slice (some ⟨gt, 0, none⟩) mt ct)) = y := ⟨_, rfl⟩
     have HW9 := hid (hx9)
     have L9 : Hid (x9.heap.size = x8.heap.size) := by rw [← hx9]; show _ = _; simp
     have KS : Blk x9 gf 35 [.int .i64 F.kind, .int .i64 F.id, .slice SF.cn.a SF.cn.n SF.cn.c, .slice (some ⟨gt, 0, none⟩) mt ct, .int .i64 F.tick, .slice SF.cookie.a SF.cookie.n SF.cookie.c, .slice SF.proof.a SF.proof.n SF.proof.c, .int .i64 F.epoch, .int .i64 F.seq, .slice SF.body.a SF.body.n SF.body.c, .slice SF.tag.a SF.tag.n SF.tag.c] := by rw [← hx9]; exact (KF8.out.set 3 _ (by simp [maxLen]))
     have KQ : Kept gf (gf + 1) x8 x9 := by rw [← hx9]; exact (Kept.setCell _ _ _ _)
     clear hx9
     have B9 := hid (B8.out.trans (KQ.below (by have := hid8 L1 GA L2 HP L3 L4 Ggj L5; have := hid5 L6 Gga_ L7 L8 L9; omega) B8.out.size))
     have KO9 := hid (KO8.out.keep (KQ.block _ KO8.out.lt (by have := hid8 L1 GA L2 HP L3 L4 Ggj L5; have := hid5 L6 Gga_ L7 L8 L9; omega)))
     have KP9 := hid (KP8.out.keep (KQ.block _ KP8.out.lt (by have := hid8 L1 GA L2 HP L3 L4 Ggj L5; have := hid5 L6 Gga_ L7 L8 L9; omega)))
     have KQ9 := hid (KQ8.out.keep (KQ.block _ KQ8.out.lt (by have := hid8 L1 GA L2 HP L3 L4 Ggj L5; have := hid5 L6 Gga_ L7 L8 L9; omega)))
     have R9 : Hid (Ready x1 a len cap l p x9) := rdyK R8.out KQ (by have := hid8 L1 GA L2 HP L3 L4 Ggj L5; have := hid5 L6 Gga_ L7 L8 L9; omega)
     have OE9 := hid (OE8.out.carry KQ (by have := hid8 L1 GA L2 HP L3 L4 Ggj L5; have := hid5 L6 Gga_ L7 L8 L9; omega))
     have KJ9 := hid (KJ8.out.keep (KQ.block _ KJ8.out.lt (by have := hid8 L1 GA L2 HP L3 L4 Ggj L5; have := hid5 L6 Gga_ L7 L8 L9; omega)))
     have OF9 := hid (OF8.out.carry KQ (by have := hid8 L1 GA L2 HP L3 L4 Ggj L5; have := hid5 L6 Gga_ L7 L8 L9; omega))
     have KA9 := hid (KA8.out.keep (KQ.block _ KA8.out.lt (by have := hid8 L1 GA L2 HP L3 L4 Ggj L5; have := hid5 L6 Gga_ L7 L8 L9; omega)))
     have Ot_9 := hid (Ot_8.out.carry KQ (by have := hid8 L1 GA L2 HP L3 L4 Ggj L5; have := hid5 L6 Gga_ L7 L8 L9; omega))
     clear B8 KO8 KP8 KQ8 R8 OE8 KJ8 OF8 KA8 Ot_8 KQ
     clear KF8
     have KF9 := hid (KS)
     clear KS
     go_upto_region 19 with fail
     rw [HW9.out]
     clear HW9 co3 fo3
     obtain ⟨F2, hF⟩ : ∃ X : FrD, X = { F with sn := lt } := ⟨_, rfl⟩
     obtain ⟨S2, hS⟩ : ∃ X : FrS, X = { SF with sn := ⟨some ⟨gt, 0, none⟩, mt, ct⟩ } := ⟨_, rfl⟩
     obtain ⟨bH, hH⟩ : ∃ X : Int, X = ah := ⟨_, rfl⟩
     obtain ⟨bP, hP⟩ : ∃ X : Int, X = ap := ⟨_, rfl⟩
     have KFz : Hid (Blk x9 gf 35 [.int .i64 F2.kind, .int .i64 F2.id, .slice S2.cn.a S2.cn.n S2.cn.c, .slice S2.sn.a S2.sn.n S2.sn.c, .int .i64 F2.tick, .slice S2.cookie.a S2.cookie.n S2.cookie.c, .slice S2.proof.a S2.proof.n S2.proof.c, .int .i64 F2.epoch, .int .i64 F2.seq, .slice S2.body.a S2.body.n S2.body.c, .slice S2.tag.a S2.tag.n S2.tag.c]) := by rw [hF, hS]; exact KF9.out
     have KAz : Hid (Blk x9 ga 27 [.int .i64 bH, .int .i64 bP]) := by rw [hH, hP]; exact KA9.out
     have IFz : Hid (FrIn x9 (gq + 1) x9.heap.size S2 F2) := by rw [hF, hS]; exact ⟨(OF9.out.cn.mono (by have := hid8 L1 GA L2 HP L3 L4 Ggj L5; have := hid5 L6 Gga_ L7 L8 L9; omega) (by have := hid8 L1 GA L2 HP L3 L4 Ggj L5; have := hid5 L6 Gga_ L7 L8 L9; omega)), (Ot_9.out.mono (by have := hid8 L1 GA L2 HP L3 L4 Ggj L5; have := hid5 L6 Gga_ L7 L8 L9; omega) (by have := hid8 L1 GA L2 HP L3 L4 Ggj L5; have := hid5 L6 Gga_ L7 L8 L9; omega)), (OF9.out.cookie.mono (by have := hid8 L1 GA L2 HP L3 L4 Ggj L5; have := hid5 L6 Gga_ L7 L8 L9; omega) (by have := hid8 L1 GA L2 HP L3 L4 Ggj L5; have := hid5 L6 Gga_ L7 L8 L9; omega)), (OF9.out.proof.mono (by have := hid8 L1 GA L2 HP L3 L4 Ggj L5; have := hid5 L6 Gga_ L7 L8 L9; omega) (by have := hid8 L1 GA L2 HP L3 L4 Ggj L5; have := hid5 L6 Gga_ L7 L8 L9; omega)), (OF9.out.body.mono (by have := hid8 L1 GA L2 HP L3 L4 Ggj L5; have := hid5 L6 Gga_ L7 L8 L9; omega) (by have := hid8 L1 GA L2 HP L3 L4 Ggj L5; have := hid5 L6 Gga_ L7 L8 L9; omega)), (OF9.out.tag.mono (by have := hid8 L1 GA L2 HP L3 L4 Ggj L5; have := hid5 L6 Gga_ L7 L8 L9; omega) (by have := hid8 L1 GA L2 HP L3 L4 Ggj L5; have := hid5 L6 Gga_ L7 L8 L9; omega))⟩
     have KJz := hid (KJ9.out)
     have KOz := hid (KO9.out)
     have KPz := hid (KP9.out)
     have KQz := hid (KQ9.out)
     have OEz : Hid (JaOwn x9 x2.heap.size x3.heap.size S0 D0) := OE9.out
     have Bz := hid (B9.out)
     have HSZz : Hid (w.heap.size ≤ go ∧ go + 1 = gp ∧ gp + 1 = gq ∧ gq + 1 ≤ x2.heap.size ∧ gq < gj ∧ gq < ga ∧ gq < gf) := by have := hid8 L1 GA L2 HP L3 L4 Ggj L5; have := hid5 L6 Gga_ L7 L8 L9; show _ ∧ _; omega
     clear hF hS hH hP
     obtain ⟨xz, hxz⟩ : ∃ z, z = x9 := ⟨_, rfl⟩
     subst hxz
    case' false =>
     cases ev4 : (v == 4)
     case' true =>
      obtain rfl : v = 4 := by simpa using ev4
      have cb := KF7.out.cell 4 rfl
      have hw3 : IntKind.i64.wrap (F.tick + 1) = F.tick + 1 := by rw [IntKind.wrap_i64]; have := HFL.out; omega
      have co4 := KF7.out.cell 4 rfl
      have fo4 := KF7.out.frozen 4
      obtain ⟨x8, hx8⟩ : ∃ y, (x7.setCell ⟨gf, 4, none⟩ (.int .i64 (F.tick + 1))) = y := ⟨_, rfl⟩
      have HW8 := hid (hx8)
      have L8 : Hid (x8.heap.size = x7.heap.size) := by rw [← hx8]; show _ = _; simp
      have KS : Blk x8 gf 35 [.int .i64 F.kind, .int .i64 F.id, .slice SF.cn.a SF.cn.n SF.cn.c, .slice SF.sn.a SF.sn.n SF.sn.c, .int .i64 (F.tick + 1), .slice SF.cookie.a SF.cookie.n SF.cookie.c, .slice SF.proof.a SF.proof.n SF.proof.c, .int .i64 F.epoch, .int .i64 F.seq, .slice SF.body.a SF.body.n SF.body.c, .slice SF.tag.a SF.tag.n SF.tag.c] := by rw [← hx8]; exact (KF7.out.set 4 _ (by simp [maxLen]))
      have KQ : Kept gf (gf + 1) x7 x8 := by rw [← hx8]; exact (Kept.setCell _ _ _ _)
      clear hx8
      have B8 := hid (B7.out.trans (KQ.below (by have := hid8 L1 GA L2 HP L3 L4 Ggj L5; have := hid4 L6 Gga_ L7 L8; omega) B7.out.size))
      have KO8 := hid (KO7.out.keep (KQ.block _ KO7.out.lt (by have := hid8 L1 GA L2 HP L3 L4 Ggj L5; have := hid4 L6 Gga_ L7 L8; omega)))
      have KP8 := hid (KP7.out.keep (KQ.block _ KP7.out.lt (by have := hid8 L1 GA L2 HP L3 L4 Ggj L5; have := hid4 L6 Gga_ L7 L8; omega)))
      have KQ8 := hid (KQ7.out.keep (KQ.block _ KQ7.out.lt (by have := hid8 L1 GA L2 HP L3 L4 Ggj L5; have := hid4 L6 Gga_ L7 L8; omega)))
      have R8 : Hid (Ready x1 a len cap l p x8) := rdyK R7.out KQ (by have := hid8 L1 GA L2 HP L3 L4 Ggj L5; have := hid4 L6 Gga_ L7 L8; omega)
      have OE8 := hid (OE7.out.carry KQ (by have := hid8 L1 GA L2 HP L3 L4 Ggj L5; have := hid4 L6 Gga_ L7 L8; omega))
      have KJ8 := hid (KJ7.out.keep (KQ.block _ KJ7.out.lt (by have := hid8 L1 GA L2 HP L3 L4 Ggj L5; have := hid4 L6 Gga_ L7 L8; omega)))
      have OF8 := hid (OF7.out.carry KQ (by have := hid8 L1 GA L2 HP L3 L4 Ggj L5; have := hid4 L6 Gga_ L7 L8; omega))
      have KA8 := hid (KA7.out.keep (KQ.block _ KA7.out.lt (by have := hid8 L1 GA L2 HP L3 L4 Ggj L5; have := hid4 L6 Gga_ L7 L8; omega)))
      clear B7 KO7 KP7 KQ7 R7 OE7 KJ7 OF7 KA7 KQ
      clear KF7
      have KF8 := hid (KS)
      clear KS
      go_upto_region 19 with fail
      rw [HW8.out]
      clear HW8 co4 fo4
      obtain ⟨F2, hF⟩ : ∃ X : FrD, X = { F with tick := F.tick + 1 } := ⟨_, rfl⟩
      obtain ⟨S2, hS⟩ : ∃ X : FrS, X = SF := ⟨_, rfl⟩
      obtain ⟨bH, hH⟩ : ∃ X : Int, X = ah := ⟨_, rfl⟩
      obtain ⟨bP, hP⟩ : ∃ X : Int, X = ap := ⟨_, rfl⟩
      have KFz : Hid (Blk x8 gf 35 [.int .i64 F2.kind, .int .i64 F2.id, .slice S2.cn.a S2.cn.n S2.cn.c, .slice S2.sn.a S2.sn.n S2.sn.c, .int .i64 F2.tick, .slice S2.cookie.a S2.cookie.n S2.cookie.c, .slice S2.proof.a S2.proof.n S2.proof.c, .int .i64 F2.epoch, .int .i64 F2.seq, .slice S2.body.a S2.body.n S2.body.c, .slice S2.tag.a S2.tag.n S2.tag.c]) := by rw [hF, hS]; exact KF8.out
      have KAz : Hid (Blk x8 ga 27 [.int .i64 bH, .int .i64 bP]) := by rw [hH, hP]; exact KA8.out
      have IFz : Hid (FrIn x8 (gq + 1) x8.heap.size S2 F2) := by rw [hF, hS]; exact ⟨(OF8.out.cn.mono (by have := hid8 L1 GA L2 HP L3 L4 Ggj L5; have := hid4 L6 Gga_ L7 L8; omega) (by have := hid8 L1 GA L2 HP L3 L4 Ggj L5; have := hid4 L6 Gga_ L7 L8; omega)), (OF8.out.sn.mono (by have := hid8 L1 GA L2 HP L3 L4 Ggj L5; have := hid4 L6 Gga_ L7 L8; omega) (by have := hid8 L1 GA L2 HP L3 L4 Ggj L5; have := hid4 L6 Gga_ L7 L8; omega)), (OF8.out.cookie.mono (by have := hid8 L1 GA L2 HP L3 L4 Ggj L5; have := hid4 L6 Gga_ L7 L8; omega) (by have := hid8 L1 GA L2 HP L3 L4 Ggj L5; have := hid4 L6 Gga_ L7 L8; omega)), (OF8.out.proof.mono (by have := hid8 L1 GA L2 HP L3 L4 Ggj L5; have := hid4 L6 Gga_ L7 L8; omega) (by have := hid8 L1 GA L2 HP L3 L4 Ggj L5; have := hid4 L6 Gga_ L7 L8; omega)), (OF8.out.body.mono (by have := hid8 L1 GA L2 HP L3 L4 Ggj L5; have := hid4 L6 Gga_ L7 L8; omega) (by have := hid8 L1 GA L2 HP L3 L4 Ggj L5; have := hid4 L6 Gga_ L7 L8; omega)), (OF8.out.tag.mono (by have := hid8 L1 GA L2 HP L3 L4 Ggj L5; have := hid4 L6 Gga_ L7 L8; omega) (by have := hid8 L1 GA L2 HP L3 L4 Ggj L5; have := hid4 L6 Gga_ L7 L8; omega))⟩
      have KJz := hid (KJ8.out)
      have KOz := hid (KO8.out)
      have KPz := hid (KP8.out)
      have KQz := hid (KQ8.out)
      have OEz : Hid (JaOwn x8 x2.heap.size x3.heap.size S0 D0) := OE8.out
      have Bz := hid (B8.out)
      have HSZz : Hid (w.heap.size ≤ go ∧ go + 1 = gp ∧ gp + 1 = gq ∧ gq + 1 ≤ x2.heap.size ∧ gq < gj ∧ gq < ga ∧ gq < gf) := by have := hid8 L1 GA L2 HP L3 L4 Ggj L5; have := hid4 L6 Gga_ L7 L8; show _ ∧ _; omega
      clear hF hS hH hP
      obtain ⟨xz, hxz⟩ : ∃ z, z = x8 := ⟨_, rfl⟩
      subst hxz
     case' false =>
      cases ev5 : (v == 5)
      case' true =>
       obtain rfl : v = 5 := by simpa using ev5
       have cb := KF7.out.cell 5 rfl
       go_wp2_with fail
       refine (l1Bend R7.out SF.cookie.a SF.cookie.n SF.cookie.c F.cookie OF7.out.cookie.rd.len OF7.out.cookie.rd.rd OF7.out.cookie.rd.nil OF7.out.cookie.rd.bytes (by have := OF7.out.cookie.rd.len; have := HFL.out; omega)).mono ?_
       rintro e x8 ⟨gt, mt, ct, lt, rfl, el, _, hb, kg, row, r, b⟩
       have oN : SOwn x8 x7.heap.size x8.heap.size ⟨some ⟨gt, 0, none⟩, mt, ct⟩ lt := SOwn.row row el hb kg row.lt
       clear el hb kg row
       have L8 := hid (b.size)
       have KQ : Kept p (p + 1) x7 x8 := Kept.of_grown b
       have B8 : Hid (Below w.heap.size w x8) := But.below b B7.out (by have := hid8 L1 GA L2 HP L3 L4 Ggj L5; have := hid4 L6 Gga_ L7 L8; omega)
       have KO8 := hid (KO7.out.keep (KQ.block _ KO7.out.lt (by have := hid8 L1 GA L2 HP L3 L4 Ggj L5; have := hid4 L6 Gga_ L7 L8; omega)))
       have KP8 := hid (KP7.out.keep (KQ.block _ KP7.out.lt (by have := hid8 L1 GA L2 HP L3 L4 Ggj L5; have := hid4 L6 Gga_ L7 L8; omega)))
       have KQ8 := hid (KQ7.out.keep (KQ.block _ KQ7.out.lt (by have := hid8 L1 GA L2 HP L3 L4 Ggj L5; have := hid4 L6 Gga_ L7 L8; omega)))
       have R8 := hid (r)
       have OE8 := hid (OE7.out.carry KQ (by have := hid8 L1 GA L2 HP L3 L4 Ggj L5; have := hid4 L6 Gga_ L7 L8; omega))
       have KJ8 := hid (KJ7.out.keep (KQ.block _ KJ7.out.lt (by have := hid8 L1 GA L2 HP L3 L4 Ggj L5; have := hid4 L6 Gga_ L7 L8; omega)))
       have OF8 := hid (OF7.out.carry KQ (by have := hid8 L1 GA L2 HP L3 L4 Ggj L5; have := hid4 L6 Gga_ L7 L8; omega))
       have KA8 := hid (KA7.out.keep (KQ.block _ KA7.out.lt (by have := hid8 L1 GA L2 HP L3 L4 Ggj L5; have := hid4 L6 Gga_ L7 L8; omega)))
       have KF8 := hid (KF7.out.keep (KQ.block _ KF7.out.lt (by have := hid8 L1 GA L2 HP L3 L4 Ggj L5; have := hid4 L6 Gga_ L7 L8; omega)))
       clear B7 KO7 KP7 KQ7 R7 OE7 KJ7 OF7 KA7 KF7 b
       clear KQ r
       have Ot_8 := hid (oN)
       clear oN
       clear cb
       have co5 := KF8.out.cell 5 rfl
       have fo5 := KF8.out.frozen 5
       obtain ⟨x9, hx9⟩ : ∃ y, (x8.setCell ⟨gf, 5, none⟩ (.slice (some ⟨gt, 0, none⟩) mt ct)) = y := ⟨_, rfl⟩
       have HW9 := hid (hx9)
       have L9 : Hid (x9.heap.size = x8.heap.size) := by rw [← hx9]; show _ = _; simp
       have KS : Blk x9 gf 35 [.int .i64 F.kind, .int .i64 F.id, .slice SF.cn.a SF.cn.n SF.cn.c, .slice SF.sn.a SF.sn.n SF.sn.c, .int .i64 F.tick, .slice (some ⟨gt, 0, none⟩) mt ct, .slice SF.proof.a SF.proof.n SF.proof.c, .int .i64 F.epoch, .int .i64 F.seq, .slice SF.body.a SF.body.n SF.body.c, .slice SF.tag.a SF.tag.n SF.tag.c] := by rw [← hx9]; exact (KF8.out.set 5 _ (by simp [maxLen]))
       have KQ : Kept gf (gf + 1) x8 x9 := by rw [← hx9]; exact (Kept.setCell _ _ _ _)
       clear hx9
       have B9 := hid (B8.out.trans (KQ.below (by have := hid8 L1 GA L2 HP L3 L4 Ggj L5; have := hid5 L6 Gga_ L7 L8 L9; omega) B8.out.size))
       have KO9 := hid (KO8.out.keep (KQ.block _ KO8.out.lt (by have := hid8 L1 GA L2 HP L3 L4 Ggj L5; have := hid5 L6 Gga_ L7 L8 L9; omega)))
       have KP9 := hid (KP8.out.keep (KQ.block _ KP8.out.lt (by have := hid8 L1 GA L2 HP L3 L4 Ggj L5; have := hid5 L6 Gga_ L7 L8 L9; omega)))
       have KQ9 := hid (KQ8.out.keep (KQ.block _ KQ8.out.lt (by have := hid8 L1 GA L2 HP L3 L4 Ggj L5; have := hid5 L6 Gga_ L7 L8 L9; omega)))
       have R9 : Hid (Ready x1 a len cap l p x9) := rdyK R8.out KQ (by have := hid8 L1 GA L2 HP L3 L4 Ggj L5; have := hid5 L6 Gga_ L7 L8 L9; omega)
       have OE9 := hid (OE8.out.carry KQ (by have := hid8 L1 GA L2 HP L3 L4 Ggj L5; have := hid5 L6 Gga_ L7 L8 L9; omega))
       have KJ9 := hid (KJ8.out.keep (KQ.block _ KJ8.out.lt (by have := hid8 L1 GA L2 HP L3 L4 Ggj L5; have := hid5 L6 Gga_ L7 L8 L9; omega)))
       have OF9 := hid (OF8.out.carry KQ (by have := hid8 L1 GA L2 HP L3 L4 Ggj L5; have := hid5 L6 Gga_ L7 L8 L9; omega))
       have KA9 := hid (KA8.out.keep (KQ.block _ KA8.out.lt (by have := hid8 L1 GA L2 HP L3 L4 Ggj L5; have := hid5 L6 Gga_ L7 L8 L9; omega)))
       have Ot_9 := hid (Ot_8.out.carry KQ (by have := hid8 L1 GA L2 HP L3 L4 Ggj L5; have := hid5 L6 Gga_ L7 L8 L9; omega))
       clear B8 KO8 KP8 KQ8 R8 OE8 KJ8 OF8 KA8 Ot_8 KQ
       clear KF8
       have KF9 := hid (KS)
       clear KS
       go_upto_region 19 with fail
       rw [HW9.out]
       clear HW9 co5 fo5
       obtain ⟨F2, hF⟩ : ∃ X : FrD, X = { F with cookie := lt } := ⟨_, rfl⟩
       obtain ⟨S2, hS⟩ : ∃ X : FrS, X = { SF with cookie := ⟨some ⟨gt, 0, none⟩, mt, ct⟩ } := ⟨_, rfl⟩
       obtain ⟨bH, hH⟩ : ∃ X : Int, X = ah := ⟨_, rfl⟩
       obtain ⟨bP, hP⟩ : ∃ X : Int, X = ap := ⟨_, rfl⟩
       have KFz : Hid (Blk x9 gf 35 [.int .i64 F2.kind, .int .i64 F2.id, .slice S2.cn.a S2.cn.n S2.cn.c, .slice S2.sn.a S2.sn.n S2.sn.c, .int .i64 F2.tick, .slice S2.cookie.a S2.cookie.n S2.cookie.c, .slice S2.proof.a S2.proof.n S2.proof.c, .int .i64 F2.epoch, .int .i64 F2.seq, .slice S2.body.a S2.body.n S2.body.c, .slice S2.tag.a S2.tag.n S2.tag.c]) := by rw [hF, hS]; exact KF9.out
       have KAz : Hid (Blk x9 ga 27 [.int .i64 bH, .int .i64 bP]) := by rw [hH, hP]; exact KA9.out
       have IFz : Hid (FrIn x9 (gq + 1) x9.heap.size S2 F2) := by rw [hF, hS]; exact ⟨(OF9.out.cn.mono (by have := hid8 L1 GA L2 HP L3 L4 Ggj L5; have := hid5 L6 Gga_ L7 L8 L9; omega) (by have := hid8 L1 GA L2 HP L3 L4 Ggj L5; have := hid5 L6 Gga_ L7 L8 L9; omega)), (OF9.out.sn.mono (by have := hid8 L1 GA L2 HP L3 L4 Ggj L5; have := hid5 L6 Gga_ L7 L8 L9; omega) (by have := hid8 L1 GA L2 HP L3 L4 Ggj L5; have := hid5 L6 Gga_ L7 L8 L9; omega)), (Ot_9.out.mono (by have := hid8 L1 GA L2 HP L3 L4 Ggj L5; have := hid5 L6 Gga_ L7 L8 L9; omega) (by have := hid8 L1 GA L2 HP L3 L4 Ggj L5; have := hid5 L6 Gga_ L7 L8 L9; omega)), (OF9.out.proof.mono (by have := hid8 L1 GA L2 HP L3 L4 Ggj L5; have := hid5 L6 Gga_ L7 L8 L9; omega) (by have := hid8 L1 GA L2 HP L3 L4 Ggj L5; have := hid5 L6 Gga_ L7 L8 L9; omega)), (OF9.out.body.mono (by have := hid8 L1 GA L2 HP L3 L4 Ggj L5; have := hid5 L6 Gga_ L7 L8 L9; omega) (by have := hid8 L1 GA L2 HP L3 L4 Ggj L5; have := hid5 L6 Gga_ L7 L8 L9; omega)), (OF9.out.tag.mono (by have := hid8 L1 GA L2 HP L3 L4 Ggj L5; have := hid5 L6 Gga_ L7 L8 L9; omega) (by have := hid8 L1 GA L2 HP L3 L4 Ggj L5; have := hid5 L6 Gga_ L7 L8 L9; omega))⟩
       have KJz := hid (KJ9.out)
       have KOz := hid (KO9.out)
       have KPz := hid (KP9.out)
       have KQz := hid (KQ9.out)
       have OEz : Hid (JaOwn x9 x2.heap.size x3.heap.size S0 D0) := OE9.out
       have Bz := hid (B9.out)
       have HSZz : Hid (w.heap.size ≤ go ∧ go + 1 = gp ∧ gp + 1 = gq ∧ gq + 1 ≤ x2.heap.size ∧ gq < gj ∧ gq < ga ∧ gq < gf) := by have := hid8 L1 GA L2 HP L3 L4 Ggj L5; have := hid5 L6 Gga_ L7 L8 L9; show _ ∧ _; omega
       clear hF hS hH hP
       obtain ⟨xz, hxz⟩ : ∃ z, z = x9 := ⟨_, rfl⟩
       subst hxz
      case' false =>
       cases ev6 : (v == 6)
       case' true =>
        obtain rfl : v = 6 := by simpa using ev6
        go_wp2_with fail
        refine (l7Any R7.out).mono ?_
        rintro e x8 ⟨DG, SG, rfl, oi, r, b⟩
        unfold frV
        have L8 := hid (b.size)
        have KQ : Kept p (p + 1) x7 x8 := Kept.of_grown b
        have B8 : Hid (Below w.heap.size w x8) := But.below b B7.out (by have := hid8 L1 GA L2 HP L3 L4 Ggj L5; have := hid4 L6 Gga_ L7 L8; omega)
        have KO8 := hid (KO7.out.keep (KQ.block _ KO7.out.lt (by have := hid8 L1 GA L2 HP L3 L4 Ggj L5; have := hid4 L6 Gga_ L7 L8; omega)))
        have KP8 := hid (KP7.out.keep (KQ.block _ KP7.out.lt (by have := hid8 L1 GA L2 HP L3 L4 Ggj L5; have := hid4 L6 Gga_ L7 L8; omega)))
        have KQ8 := hid (KQ7.out.keep (KQ.block _ KQ7.out.lt (by have := hid8 L1 GA L2 HP L3 L4 Ggj L5; have := hid4 L6 Gga_ L7 L8; omega)))
        have R8 := hid (r)
        have OE8 := hid (OE7.out.carry KQ (by have := hid8 L1 GA L2 HP L3 L4 Ggj L5; have := hid4 L6 Gga_ L7 L8; omega))
        have KJ8 := hid (KJ7.out.keep (KQ.block _ KJ7.out.lt (by have := hid8 L1 GA L2 HP L3 L4 Ggj L5; have := hid4 L6 Gga_ L7 L8; omega)))
        have OF8 := hid (OF7.out.carry KQ (by have := hid8 L1 GA L2 HP L3 L4 Ggj L5; have := hid4 L6 Gga_ L7 L8; omega))
        have KA8 := hid (KA7.out.keep (KQ.block _ KA7.out.lt (by have := hid8 L1 GA L2 HP L3 L4 Ggj L5; have := hid4 L6 Gga_ L7 L8; omega)))
        have KF8 := hid (KF7.out.keep (KQ.block _ KF7.out.lt (by have := hid8 L1 GA L2 HP L3 L4 Ggj L5; have := hid4 L6 Gga_ L7 L8; omega)))
        clear B7 KO7 KP7 KQ7 R7 OE7 KJ7 OF7 KA7 KF7 b
        clear KQ r
        have OG8 := hid (oi)
        clear oi
        have co0 := KF8.out.cell 0 rfl
        have fo0 := KF8.out.frozen 0
        have co1 := KF8.out.cell 1 rfl
        have fo1 := KF8.out.frozen 1
        have co2 := KF8.out.cell 2 rfl
        have fo2 := KF8.out.frozen 2
        have co3 := KF8.out.cell 3 rfl
        have fo3 := KF8.out.frozen 3
        have co4 := KF8.out.cell 4 rfl
        have fo4 := KF8.out.frozen 4
        have co5 := KF8.out.cell 5 rfl
        have fo5 := KF8.out.frozen 5
        have co6 := KF8.out.cell 6 rfl
        have fo6 := KF8.out.frozen 6
        have co7 := KF8.out.cell 7 rfl
        have fo7 := KF8.out.frozen 7
        have co8 := KF8.out.cell 8 rfl
        have fo8 := KF8.out.frozen 8
        have co9 := KF8.out.cell 9 rfl
        have fo9 := KF8.out.frozen 9
        have co10 := KF8.out.cell 10 rfl
        have fo10 := KF8.out.frozen 10
        obtain ⟨x9, hx9⟩ : ∃ y, (((((((((((x8.setCell ⟨gf, 0, none⟩ (.int .i64 DG.kind)).setCell ⟨gf, 1, none⟩ (.int .i64 DG.id)).setCell ⟨gf, 2, none⟩ (.slice SG.cn.a SG.cn.n SG.cn.c)).setCell ⟨gf, 3, none⟩ (.slice SG.sn.a SG.sn.n SG.sn.c)).setCell ⟨gf, 4, none⟩ (.int .i64 DG.tick)).setCell ⟨gf, 5, none⟩ (.slice SG.cookie.a SG.cookie.n SG.cookie.c)).setCell ⟨gf, 6, none⟩ (.slice SG.proof.a SG.proof.n SG.proof.c)).setCell ⟨gf, 7, none⟩ (.int .i64 DG.epoch)).setCell ⟨gf, 8, none⟩ (.int .i64 DG.seq)).setCell ⟨gf, 9, none⟩ (.slice SG.body.a SG.body.n SG.body.c)).setCell ⟨gf, 10, none⟩ (.slice SG.tag.a SG.tag.n SG.tag.c)) = y := ⟨_, rfl⟩
        have HW9 := hid (hx9)
        have L9 : Hid (x9.heap.size = x8.heap.size) := by rw [← hx9]; show _ = _; simp
        have KS : Blk x9 gf 35 [.int .i64 DG.kind, .int .i64 DG.id, .slice SG.cn.a SG.cn.n SG.cn.c, .slice SG.sn.a SG.sn.n SG.sn.c, .int .i64 DG.tick, .slice SG.cookie.a SG.cookie.n SG.cookie.c, .slice SG.proof.a SG.proof.n SG.proof.c, .int .i64 DG.epoch, .int .i64 DG.seq, .slice SG.body.a SG.body.n SG.body.c, .slice SG.tag.a SG.tag.n SG.tag.c] := by rw [← hx9]; exact (((((((((((KF8.out.set 0 _ (by simp [maxLen])).set 1 _ (by simp [maxLen])).set 2 _ (by simp [maxLen])).set 3 _ (by simp [maxLen])).set 4 _ (by simp [maxLen])).set 5 _ (by simp [maxLen])).set 6 _ (by simp [maxLen])).set 7 _ (by simp [maxLen])).set 8 _ (by simp [maxLen])).set 9 _ (by simp [maxLen])).set 10 _ (by simp [maxLen]))
        have KQ : Kept gf (gf + 1) x8 x9 := by rw [← hx9]; exact (((((((((((Kept.setCell _ _ _ _).trans (Kept.setCell _ _ _ _)).trans (Kept.setCell _ _ _ _)).trans (Kept.setCell _ _ _ _)).trans (Kept.setCell _ _ _ _)).trans (Kept.setCell _ _ _ _)).trans (Kept.setCell _ _ _ _)).trans (Kept.setCell _ _ _ _)).trans (Kept.setCell _ _ _ _)).trans (Kept.setCell _ _ _ _)).trans (Kept.setCell _ _ _ _))
        clear hx9
        have B9 := hid (B8.out.trans (KQ.below (by have := hid8 L1 GA L2 HP L3 L4 Ggj L5; have := hid5 L6 Gga_ L7 L8 L9; omega) B8.out.size))
        have KO9 := hid (KO8.out.keep (KQ.block _ KO8.out.lt (by have := hid8 L1 GA L2 HP L3 L4 Ggj L5; have := hid5 L6 Gga_ L7 L8 L9; omega)))
        have KP9 := hid (KP8.out.keep (KQ.block _ KP8.out.lt (by have := hid8 L1 GA L2 HP L3 L4 Ggj L5; have := hid5 L6 Gga_ L7 L8 L9; omega)))
        have KQ9 := hid (KQ8.out.keep (KQ.block _ KQ8.out.lt (by have := hid8 L1 GA L2 HP L3 L4 Ggj L5; have := hid5 L6 Gga_ L7 L8 L9; omega)))
        have R9 : Hid (Ready x1 a len cap l p x9) := rdyK R8.out KQ (by have := hid8 L1 GA L2 HP L3 L4 Ggj L5; have := hid5 L6 Gga_ L7 L8 L9; omega)
        have OE9 := hid (OE8.out.carry KQ (by have := hid8 L1 GA L2 HP L3 L4 Ggj L5; have := hid5 L6 Gga_ L7 L8 L9; omega))
        have KJ9 := hid (KJ8.out.keep (KQ.block _ KJ8.out.lt (by have := hid8 L1 GA L2 HP L3 L4 Ggj L5; have := hid5 L6 Gga_ L7 L8 L9; omega)))
        have OF9 := hid (OF8.out.carry KQ (by have := hid8 L1 GA L2 HP L3 L4 Ggj L5; have := hid5 L6 Gga_ L7 L8 L9; omega))
        have KA9 := hid (KA8.out.keep (KQ.block _ KA8.out.lt (by have := hid8 L1 GA L2 HP L3 L4 Ggj L5; have := hid5 L6 Gga_ L7 L8 L9; omega)))
        have OG9 := hid (OG8.out.carry KQ (by have := hid8 L1 GA L2 HP L3 L4 Ggj L5; have := hid5 L6 Gga_ L7 L8 L9; omega))
        clear B8 KO8 KP8 KQ8 R8 OE8 KJ8 OF8 KA8 OG8 KQ
        clear KF8
        have KF9 := hid (KS)
        clear KS
        go_upto_region 19 with fail
        rw [HW9.out]
        clear HW9 co0 fo0 co1 fo1 co2 fo2 co3 fo3 co4 fo4 co5 fo5 co6 fo6 co7 fo7 co8 fo8 co9 fo9 co10 fo10
        obtain ⟨F2, hF⟩ : ∃ X : FrD, X = DG := ⟨_, rfl⟩
        obtain ⟨S2, hS⟩ : ∃ X : FrS, X = SG := ⟨_, rfl⟩
        obtain ⟨bH, hH⟩ : ∃ X : Int, X = ah := ⟨_, rfl⟩
        obtain ⟨bP, hP⟩ : ∃ X : Int, X = ap := ⟨_, rfl⟩
        have KFz : Hid (Blk x9 gf 35 [.int .i64 F2.kind, .int .i64 F2.id, .slice S2.cn.a S2.cn.n S2.cn.c, .slice S2.sn.a S2.sn.n S2.sn.c, .int .i64 F2.tick, .slice S2.cookie.a S2.cookie.n S2.cookie.c, .slice S2.proof.a S2.proof.n S2.proof.c, .int .i64 F2.epoch, .int .i64 F2.seq, .slice S2.body.a S2.body.n S2.body.c, .slice S2.tag.a S2.tag.n S2.tag.c]) := by rw [hF, hS]; exact KF9.out
        have KAz : Hid (Blk x9 ga 27 [.int .i64 bH, .int .i64 bP]) := by rw [hH, hP]; exact KA9.out
        have IFz : Hid (FrIn x9 (gq + 1) x9.heap.size S2 F2) := by rw [hF, hS]; exact OG9.out.mono (by have := hid8 L1 GA L2 HP L3 L4 Ggj L5; have := hid5 L6 Gga_ L7 L8 L9; omega) (by have := hid8 L1 GA L2 HP L3 L4 Ggj L5; have := hid5 L6 Gga_ L7 L8 L9; omega)
        have KJz := hid (KJ9.out)
        have KOz := hid (KO9.out)
        have KPz := hid (KP9.out)
        have KQz := hid (KQ9.out)
        have OEz : Hid (JaOwn x9 x2.heap.size x3.heap.size S0 D0) := OE9.out
        have Bz := hid (B9.out)
        have HSZz : Hid (w.heap.size ≤ go ∧ go + 1 = gp ∧ gp + 1 = gq ∧ gq + 1 ≤ x2.heap.size ∧ gq < gj ∧ gq < ga ∧ gq < gf) := by have := hid8 L1 GA L2 HP L3 L4 Ggj L5; have := hid5 L6 Gga_ L7 L8 L9; show _ ∧ _; omega
        clear hF hS hH hP
        obtain ⟨xz, hxz⟩ : ∃ z, z = x9 := ⟨_, rfl⟩
        subst hxz
       case' false =>
        go_upto_region 19 with fail
        obtain ⟨F2, hF⟩ : ∃ X : FrD, X = F := ⟨_, rfl⟩
        obtain ⟨S2, hS⟩ : ∃ X : FrS, X = SF := ⟨_, rfl⟩
        obtain ⟨bH, hH⟩ : ∃ X : Int, X = ah := ⟨_, rfl⟩
        obtain ⟨bP, hP⟩ : ∃ X : Int, X = ap := ⟨_, rfl⟩
        have KFz : Hid (Blk x7 gf 35 [.int .i64 F2.kind, .int .i64 F2.id, .slice S2.cn.a S2.cn.n S2.cn.c, .slice S2.sn.a S2.sn.n S2.sn.c, .int .i64 F2.tick, .slice S2.cookie.a S2.cookie.n S2.cookie.c, .slice S2.proof.a S2.proof.n S2.proof.c, .int .i64 F2.epoch, .int .i64 F2.seq, .slice S2.body.a S2.body.n S2.body.c, .slice S2.tag.a S2.tag.n S2.tag.c]) := by rw [hF, hS]; exact KF7.out
        have KAz : Hid (Blk x7 ga 27 [.int .i64 bH, .int .i64 bP]) := by rw [hH, hP]; exact KA7.out
        have IFz : Hid (FrIn x7 (gq + 1) x7.heap.size S2 F2) := by rw [hF, hS]; exact ⟨(OF7.out.cn.mono (by have := hid8 L1 GA L2 HP L3 L4 Ggj L5; have := hid3 L6 Gga_ L7; omega) (by have := hid8 L1 GA L2 HP L3 L4 Ggj L5; have := hid3 L6 Gga_ L7; omega)), (OF7.out.sn.mono (by have := hid8 L1 GA L2 HP L3 L4 Ggj L5; have := hid3 L6 Gga_ L7; omega) (by have := hid8 L1 GA L2 HP L3 L4 Ggj L5; have := hid3 L6 Gga_ L7; omega)), (OF7.out.cookie.mono (by have := hid8 L1 GA L2 HP L3 L4 Ggj L5; have := hid3 L6 Gga_ L7; omega) (by have := hid8 L1 GA L2 HP L3 L4 Ggj L5; have := hid3 L6 Gga_ L7; omega)), (OF7.out.proof.mono (by have := hid8 L1 GA L2 HP L3 L4 Ggj L5; have := hid3 L6 Gga_ L7; omega) (by have := hid8 L1 GA L2 HP L3 L4 Ggj L5; have := hid3 L6 Gga_ L7; omega)), (OF7.out.body.mono (by have := hid8 L1 GA L2 HP L3 L4 Ggj L5; have := hid3 L6 Gga_ L7; omega) (by have := hid8 L1 GA L2 HP L3 L4 Ggj L5; have := hid3 L6 Gga_ L7; omega)), (OF7.out.tag.mono (by have := hid8 L1 GA L2 HP L3 L4 Ggj L5; have := hid3 L6 Gga_ L7; omega) (by have := hid8 L1 GA L2 HP L3 L4 Ggj L5; have := hid3 L6 Gga_ L7; omega))⟩
        have KJz := hid (KJ7.out)
        have KOz := hid (KO7.out)
        have KPz := hid (KP7.out)
        have KQz := hid (KQ7.out)
        have OEz : Hid (JaOwn x7 x2.heap.size x3.heap.size S0 D0) := OE7.out
        have Bz := hid (B7.out)
        have HSZz : Hid (w.heap.size ≤ go ∧ go + 1 = gp ∧ gp + 1 = gq ∧ gq + 1 ≤ x2.heap.size ∧ gq < gj ∧ gq < ga ∧ gq < gf) := by have := hid8 L1 GA L2 HP L3 L4 Ggj L5; have := hid3 L6 Gga_ L7; show _ ∧ _; omega
        clear hF hS hH hP
        obtain ⟨xz, hxz⟩ : ∃ z, z = x7 := ⟨_, rfl⟩
        subst hxz
 all_goals
  have NEgj_go : gj ≠ go := by have := HSZz.out; omega
  have NEgj_gp : gj ≠ gp := by have := HSZz.out; omega
  have NEgj_gq : gj ≠ gq := by have := HSZz.out; omega
  have NEga_go : ga ≠ go := by have := HSZz.out; omega
  have NEga_gp : ga ≠ gp := by have := HSZz.out; omega
  have NEga_gq : ga ≠ gq := by have := HSZz.out; omega
  have NEgf_go : gf ≠ go := by have := HSZz.out; omega
  have NEgf_gp : gf ≠ gp := by have := HSZz.out; omega
  have NEgf_gq : gf ≠ gq := by have := HSZz.out; omega
  have NOgo_gp : go ≠ gp := by have := HSZz.out; omega
  have NOgo_gq : go ≠ gq := by have := HSZz.out; omega
  have NOgp_go : gp ≠ go := by have := HSZz.out; omega
  have NOgp_gq : gp ≠ gq := by have := HSZz.out; omega
  have NOgq_go : gq ≠ go := by have := HSZz.out; omega
  have NOgq_gp : gq ≠ gp := by have := HSZz.out; omega
  have z_Bgj := KJz.out
  have z_gj_0 := z_Bgj.cell 0 rfl
  clear z_Bgj
  have z_Bga := KAz.out
  have z_ga_0 := z_Bga.cell 0 rfl
  have z_ga_1 := z_Bga.cell 1 rfl
  clear z_Bga
  have z_Bgf := KFz.out
  obtain ⟨z_gf_0, z_gf_1, z_gf_2, z_gf_3, z_gf_4, z_gf_5, z_gf_6, z_gf_7, z_gf_8, z_gf_9, z_gf_10⟩ := cells11 z_Bgf
  clear z_Bgf
  have zd_Bgj := drewB KJz.out
  have zd_gj_0 := hide (zd_Bgj.cell 0 rfl)
  clear zd_Bgj
  have zd_Bga := drewB KAz.out
  have zd_ga_0 := hide (zd_Bga.cell 0 rfl)
  have zd_ga_1 := hide (zd_Bga.cell 1 rfl)
  clear zd_Bga
  have zd_Bgf := drewB KFz.out
  have zd_gf_0 := hide (zd_Bgf.cell 0 rfl)
  have zd_gf_1 := hide (zd_Bgf.cell 1 rfl)
  have zd_gf_2 := hide (zd_Bgf.cell 2 rfl)
  have zd_gf_3 := hide (zd_Bgf.cell 3 rfl)
  have zd_gf_4 := hide (zd_Bgf.cell 4 rfl)
  have zd_gf_5 := hide (zd_Bgf.cell 5 rfl)
  have zd_gf_6 := hide (zd_Bgf.cell 6 rfl)
  have zd_gf_7 := hide (zd_Bgf.cell 7 rfl)
  have zd_gf_8 := hide (zd_Bgf.cell 8 rfl)
  have zd_gf_9 := hide (zd_Bgf.cell 9 rfl)
  have zd_gf_10 := hide (zd_Bgf.cell 10 rfl)
  clear zd_Bgf
  have KZKO := KOz.out
  have uKO0 := KZKO.cell 0 rfl
  have vKO0 := KZKO.frozen 0
  have s0_Bgj := (Blk.other (a := ⟨go, 0, none⟩) KJz.out NEgj_go (.slice S0.secret.a S0.secret.n S0.secret.c))
  have s0_gj_0 := hide (s0_Bgj.cell 0 rfl)
  clear s0_Bgj
  have s0_Bga := (Blk.other (a := ⟨go, 0, none⟩) KAz.out NEga_go (.slice S0.secret.a S0.secret.n S0.secret.c))
  have s0_ga_0 := hide (s0_Bga.cell 0 rfl)
  have s0_ga_1 := hide (s0_Bga.cell 1 rfl)
  clear s0_Bga
  have s0_Bgf := (Blk.other (a := ⟨go, 0, none⟩) KFz.out NEgf_go (.slice S0.secret.a S0.secret.n S0.secret.c))
  have s0_gf_0 := hide (s0_Bgf.cell 0 rfl)
  have s0_gf_1 := hide (s0_Bgf.cell 1 rfl)
  have s0_gf_2 := hide (s0_Bgf.cell 2 rfl)
  have s0_gf_3 := hide (s0_Bgf.cell 3 rfl)
  have s0_gf_4 := hide (s0_Bgf.cell 4 rfl)
  have s0_gf_5 := hide (s0_Bgf.cell 5 rfl)
  have s0_gf_6 := hide (s0_Bgf.cell 6 rfl)
  have s0_gf_7 := hide (s0_Bgf.cell 7 rfl)
  have s0_gf_8 := hide (s0_Bgf.cell 8 rfl)
  have s0_gf_9 := hide (s0_Bgf.cell 9 rfl)
  have s0_gf_10 := hide (s0_Bgf.cell 10 rfl)
  clear s0_Bgf
  have sd0_Bgj := drewB ((Blk.other (a := ⟨go, 0, none⟩) KJz.out NEgj_go (.slice S0.secret.a S0.secret.n S0.secret.c)))
  have sd0_gj_0 := hide (sd0_Bgj.cell 0 rfl)
  clear sd0_Bgj
  have sd0_Bga := drewB ((Blk.other (a := ⟨go, 0, none⟩) KAz.out NEga_go (.slice S0.secret.a S0.secret.n S0.secret.c)))
  have sd0_ga_0 := hide (sd0_Bga.cell 0 rfl)
  have sd0_ga_1 := hide (sd0_Bga.cell 1 rfl)
  clear sd0_Bga
  have sd0_Bgf := drewB ((Blk.other (a := ⟨go, 0, none⟩) KFz.out NEgf_go (.slice S0.secret.a S0.secret.n S0.secret.c)))
  have sd0_gf_0 := hide (sd0_Bgf.cell 0 rfl)
  have sd0_gf_1 := hide (sd0_Bgf.cell 1 rfl)
  have sd0_gf_2 := hide (sd0_Bgf.cell 2 rfl)
  have sd0_gf_3 := hide (sd0_Bgf.cell 3 rfl)
  have sd0_gf_4 := hide (sd0_Bgf.cell 4 rfl)
  have sd0_gf_5 := hide (sd0_Bgf.cell 5 rfl)
  have sd0_gf_6 := hide (sd0_Bgf.cell 6 rfl)
  have sd0_gf_7 := hide (sd0_Bgf.cell 7 rfl)
  have sd0_gf_8 := hide (sd0_Bgf.cell 8 rfl)
  have sd0_gf_9 := hide (sd0_Bgf.cell 9 rfl)
  have sd0_gf_10 := hide (sd0_Bgf.cell 10 rfl)
  clear sd0_Bgf
  have KZKP := (Blk.other (a := ⟨go, 0, none⟩) KPz.out NOgp_go (.slice S0.secret.a S0.secret.n S0.secret.c))
  have uKP0 := KZKP.cell 0 rfl
  have vKP0 := KZKP.frozen 0
  have uKP1 := KZKP.cell 1 rfl
  have vKP1 := KZKP.frozen 1
  have s1_Bgj := (Blk.other (a := ⟨gp, 1, none⟩) (Blk.other (a := ⟨gp, 0, none⟩) (Blk.other (a := ⟨go, 0, none⟩) KJz.out NEgj_go (.slice S0.secret.a S0.secret.n S0.secret.c)) NEgj_gp (.int .i64 bH)) NEgj_gp (.int .i64 bP))
  have s1_gj_0 := hide (s1_Bgj.cell 0 rfl)
  clear s1_Bgj
  have s1_Bga := (Blk.other (a := ⟨gp, 1, none⟩) (Blk.other (a := ⟨gp, 0, none⟩) (Blk.other (a := ⟨go, 0, none⟩) KAz.out NEga_go (.slice S0.secret.a S0.secret.n S0.secret.c)) NEga_gp (.int .i64 bH)) NEga_gp (.int .i64 bP))
  have s1_ga_0 := hide (s1_Bga.cell 0 rfl)
  have s1_ga_1 := hide (s1_Bga.cell 1 rfl)
  clear s1_Bga
  have s1_Bgf := (Blk.other (a := ⟨gp, 1, none⟩) (Blk.other (a := ⟨gp, 0, none⟩) (Blk.other (a := ⟨go, 0, none⟩) KFz.out NEgf_go (.slice S0.secret.a S0.secret.n S0.secret.c)) NEgf_gp (.int .i64 bH)) NEgf_gp (.int .i64 bP))
  have s1_gf_0 := hide (s1_Bgf.cell 0 rfl)
  have s1_gf_1 := hide (s1_Bgf.cell 1 rfl)
  have s1_gf_2 := hide (s1_Bgf.cell 2 rfl)
  have s1_gf_3 := hide (s1_Bgf.cell 3 rfl)
  have s1_gf_4 := hide (s1_Bgf.cell 4 rfl)
  have s1_gf_5 := hide (s1_Bgf.cell 5 rfl)
  have s1_gf_6 := hide (s1_Bgf.cell 6 rfl)
  have s1_gf_7 := hide (s1_Bgf.cell 7 rfl)
  have s1_gf_8 := hide (s1_Bgf.cell 8 rfl)
  have s1_gf_9 := hide (s1_Bgf.cell 9 rfl)
  have s1_gf_10 := hide (s1_Bgf.cell 10 rfl)
  clear s1_Bgf
  have sd1_Bgj := drewB ((Blk.other (a := ⟨gp, 1, none⟩) (Blk.other (a := ⟨gp, 0, none⟩) (Blk.other (a := ⟨go, 0, none⟩) KJz.out NEgj_go (.slice S0.secret.a S0.secret.n S0.secret.c)) NEgj_gp (.int .i64 bH)) NEgj_gp (.int .i64 bP)))
  have sd1_gj_0 := hide (sd1_Bgj.cell 0 rfl)
  clear sd1_Bgj
  have sd1_Bga := drewB ((Blk.other (a := ⟨gp, 1, none⟩) (Blk.other (a := ⟨gp, 0, none⟩) (Blk.other (a := ⟨go, 0, none⟩) KAz.out NEga_go (.slice S0.secret.a S0.secret.n S0.secret.c)) NEga_gp (.int .i64 bH)) NEga_gp (.int .i64 bP)))
  have sd1_ga_0 := hide (sd1_Bga.cell 0 rfl)
  have sd1_ga_1 := hide (sd1_Bga.cell 1 rfl)
  clear sd1_Bga
  have sd1_Bgf := drewB ((Blk.other (a := ⟨gp, 1, none⟩) (Blk.other (a := ⟨gp, 0, none⟩) (Blk.other (a := ⟨go, 0, none⟩) KFz.out NEgf_go (.slice S0.secret.a S0.secret.n S0.secret.c)) NEgf_gp (.int .i64 bH)) NEgf_gp (.int .i64 bP)))
  have sd1_gf_0 := hide (sd1_Bgf.cell 0 rfl)
  have sd1_gf_1 := hide (sd1_Bgf.cell 1 rfl)
  have sd1_gf_2 := hide (sd1_Bgf.cell 2 rfl)
  have sd1_gf_3 := hide (sd1_Bgf.cell 3 rfl)
  have sd1_gf_4 := hide (sd1_Bgf.cell 4 rfl)
  have sd1_gf_5 := hide (sd1_Bgf.cell 5 rfl)
  have sd1_gf_6 := hide (sd1_Bgf.cell 6 rfl)
  have sd1_gf_7 := hide (sd1_Bgf.cell 7 rfl)
  have sd1_gf_8 := hide (sd1_Bgf.cell 8 rfl)
  have sd1_gf_9 := hide (sd1_Bgf.cell 9 rfl)
  have sd1_gf_10 := hide (sd1_Bgf.cell 10 rfl)
  clear sd1_Bgf
  have KZKQ := (Blk.other (a := ⟨gp, 1, none⟩) (Blk.other (a := ⟨gp, 0, none⟩) (Blk.other (a := ⟨go, 0, none⟩) KQz.out NOgq_go (.slice S0.secret.a S0.secret.n S0.secret.c)) NOgq_gp (.int .i64 bH)) NOgq_gp (.int .i64 bP))
  have uKQ0 := KZKQ.cell 0 rfl
  have vKQ0 := KZKQ.frozen 0
  have uKQ1 := KZKQ.cell 1 rfl
  have vKQ1 := KZKQ.frozen 1
  have uKQ2 := KZKQ.cell 2 rfl
  have vKQ2 := KZKQ.frozen 2
  have uKQ3 := KZKQ.cell 3 rfl
  have vKQ3 := KZKQ.frozen 3
  have uKQ4 := KZKQ.cell 4 rfl
  have vKQ4 := KZKQ.frozen 4
  have uKQ5 := KZKQ.cell 5 rfl
  have vKQ5 := KZKQ.frozen 5
  have uKQ6 := KZKQ.cell 6 rfl
  have vKQ6 := KZKQ.frozen 6
  have uKQ7 := KZKQ.cell 7 rfl
  have vKQ7 := KZKQ.frozen 7
  have uKQ8 := KZKQ.cell 8 rfl
  have vKQ8 := KZKQ.frozen 8
  have uKQ9 := KZKQ.cell 9 rfl
  have vKQ9 := KZKQ.frozen 9
  have uKQ10 := KZKQ.cell 10 rfl
  have vKQ10 := KZKQ.frozen 10
  have s2_Bgj := (Blk.other (a := ⟨gq, 10, none⟩) (Blk.other (a := ⟨gq, 9, none⟩) (Blk.other (a := ⟨gq, 8, none⟩) (Blk.other (a := ⟨gq, 7, none⟩) (Blk.other (a := ⟨gq, 6, none⟩) (Blk.other (a := ⟨gq, 5, none⟩) (Blk.other (a := ⟨gq, 4, none⟩) (Blk.other (a := ⟨gq, 3, none⟩) (Blk.other (a := ⟨gq, 2, none⟩) (Blk.other (a := ⟨gq, 1, none⟩) (Blk.other (a := ⟨gq, 0, none⟩) (Blk.other (a := ⟨gp, 1, none⟩) (Blk.other (a := ⟨gp, 0, none⟩) (Blk.other (a := ⟨go, 0, none⟩) KJz.out NEgj_go (.slice S0.secret.a S0.secret.n S0.secret.c)) NEgj_gp (.int .i64 bH)) NEgj_gp (.int .i64 bP)) NEgj_gq (.int .i64 F2.kind)) NEgj_gq (.int .i64 F2.id)) NEgj_gq (.slice S2.cn.a S2.cn.n S2.cn.c)) NEgj_gq (.slice S2.sn.a S2.sn.n S2.sn.c)) NEgj_gq (.int .i64 F2.tick)) NEgj_gq (.slice S2.cookie.a S2.cookie.n S2.cookie.c)) NEgj_gq (.slice S2.proof.a S2.proof.n S2.proof.c)) NEgj_gq (.int .i64 F2.epoch)) NEgj_gq (.int .i64 F2.seq)) NEgj_gq (.slice S2.body.a S2.body.n S2.body.c)) NEgj_gq (.slice S2.tag.a S2.tag.n S2.tag.c))
  have s2_gj_0 := hide (s2_Bgj.cell 0 rfl)
  clear s2_Bgj
  have s2_Bga := (Blk.other (a := ⟨gq, 10, none⟩) (Blk.other (a := ⟨gq, 9, none⟩) (Blk.other (a := ⟨gq, 8, none⟩) (Blk.other (a := ⟨gq, 7, none⟩) (Blk.other (a := ⟨gq, 6, none⟩) (Blk.other (a := ⟨gq, 5, none⟩) (Blk.other (a := ⟨gq, 4, none⟩) (Blk.other (a := ⟨gq, 3, none⟩) (Blk.other (a := ⟨gq, 2, none⟩) (Blk.other (a := ⟨gq, 1, none⟩) (Blk.other (a := ⟨gq, 0, none⟩) (Blk.other (a := ⟨gp, 1, none⟩) (Blk.other (a := ⟨gp, 0, none⟩) (Blk.other (a := ⟨go, 0, none⟩) KAz.out NEga_go (.slice S0.secret.a S0.secret.n S0.secret.c)) NEga_gp (.int .i64 bH)) NEga_gp (.int .i64 bP)) NEga_gq (.int .i64 F2.kind)) NEga_gq (.int .i64 F2.id)) NEga_gq (.slice S2.cn.a S2.cn.n S2.cn.c)) NEga_gq (.slice S2.sn.a S2.sn.n S2.sn.c)) NEga_gq (.int .i64 F2.tick)) NEga_gq (.slice S2.cookie.a S2.cookie.n S2.cookie.c)) NEga_gq (.slice S2.proof.a S2.proof.n S2.proof.c)) NEga_gq (.int .i64 F2.epoch)) NEga_gq (.int .i64 F2.seq)) NEga_gq (.slice S2.body.a S2.body.n S2.body.c)) NEga_gq (.slice S2.tag.a S2.tag.n S2.tag.c))
  have s2_ga_0 := hide (s2_Bga.cell 0 rfl)
  have s2_ga_1 := hide (s2_Bga.cell 1 rfl)
  clear s2_Bga
  have s2_Bgf := (Blk.other (a := ⟨gq, 10, none⟩) (Blk.other (a := ⟨gq, 9, none⟩) (Blk.other (a := ⟨gq, 8, none⟩) (Blk.other (a := ⟨gq, 7, none⟩) (Blk.other (a := ⟨gq, 6, none⟩) (Blk.other (a := ⟨gq, 5, none⟩) (Blk.other (a := ⟨gq, 4, none⟩) (Blk.other (a := ⟨gq, 3, none⟩) (Blk.other (a := ⟨gq, 2, none⟩) (Blk.other (a := ⟨gq, 1, none⟩) (Blk.other (a := ⟨gq, 0, none⟩) (Blk.other (a := ⟨gp, 1, none⟩) (Blk.other (a := ⟨gp, 0, none⟩) (Blk.other (a := ⟨go, 0, none⟩) KFz.out NEgf_go (.slice S0.secret.a S0.secret.n S0.secret.c)) NEgf_gp (.int .i64 bH)) NEgf_gp (.int .i64 bP)) NEgf_gq (.int .i64 F2.kind)) NEgf_gq (.int .i64 F2.id)) NEgf_gq (.slice S2.cn.a S2.cn.n S2.cn.c)) NEgf_gq (.slice S2.sn.a S2.sn.n S2.sn.c)) NEgf_gq (.int .i64 F2.tick)) NEgf_gq (.slice S2.cookie.a S2.cookie.n S2.cookie.c)) NEgf_gq (.slice S2.proof.a S2.proof.n S2.proof.c)) NEgf_gq (.int .i64 F2.epoch)) NEgf_gq (.int .i64 F2.seq)) NEgf_gq (.slice S2.body.a S2.body.n S2.body.c)) NEgf_gq (.slice S2.tag.a S2.tag.n S2.tag.c))
  have s2_gf_0 := hide (s2_Bgf.cell 0 rfl)
  have s2_gf_1 := hide (s2_Bgf.cell 1 rfl)
  have s2_gf_2 := hide (s2_Bgf.cell 2 rfl)
  have s2_gf_3 := hide (s2_Bgf.cell 3 rfl)
  have s2_gf_4 := hide (s2_Bgf.cell 4 rfl)
  have s2_gf_5 := hide (s2_Bgf.cell 5 rfl)
  have s2_gf_6 := hide (s2_Bgf.cell 6 rfl)
  have s2_gf_7 := hide (s2_Bgf.cell 7 rfl)
  have s2_gf_8 := hide (s2_Bgf.cell 8 rfl)
  have s2_gf_9 := hide (s2_Bgf.cell 9 rfl)
  have s2_gf_10 := hide (s2_Bgf.cell 10 rfl)
  clear s2_Bgf
  have sd2_Bgj := drewB ((Blk.other (a := ⟨gq, 10, none⟩) (Blk.other (a := ⟨gq, 9, none⟩) (Blk.other (a := ⟨gq, 8, none⟩) (Blk.other (a := ⟨gq, 7, none⟩) (Blk.other (a := ⟨gq, 6, none⟩) (Blk.other (a := ⟨gq, 5, none⟩) (Blk.other (a := ⟨gq, 4, none⟩) (Blk.other (a := ⟨gq, 3, none⟩) (Blk.other (a := ⟨gq, 2, none⟩) (Blk.other (a := ⟨gq, 1, none⟩) (Blk.other (a := ⟨gq, 0, none⟩) (Blk.other (a := ⟨gp, 1, none⟩) (Blk.other (a := ⟨gp, 0, none⟩) (Blk.other (a := ⟨go, 0, none⟩) KJz.out NEgj_go (.slice S0.secret.a S0.secret.n S0.secret.c)) NEgj_gp (.int .i64 bH)) NEgj_gp (.int .i64 bP)) NEgj_gq (.int .i64 F2.kind)) NEgj_gq (.int .i64 F2.id)) NEgj_gq (.slice S2.cn.a S2.cn.n S2.cn.c)) NEgj_gq (.slice S2.sn.a S2.sn.n S2.sn.c)) NEgj_gq (.int .i64 F2.tick)) NEgj_gq (.slice S2.cookie.a S2.cookie.n S2.cookie.c)) NEgj_gq (.slice S2.proof.a S2.proof.n S2.proof.c)) NEgj_gq (.int .i64 F2.epoch)) NEgj_gq (.int .i64 F2.seq)) NEgj_gq (.slice S2.body.a S2.body.n S2.body.c)) NEgj_gq (.slice S2.tag.a S2.tag.n S2.tag.c)))
  have sd2_gj_0 := hide (sd2_Bgj.cell 0 rfl)
  clear sd2_Bgj
  have sd2_Bga := drewB ((Blk.other (a := ⟨gq, 10, none⟩) (Blk.other (a := ⟨gq, 9, none⟩) (Blk.other (a := ⟨gq, 8, none⟩) (Blk.other (a := ⟨gq, 7, none⟩) (Blk.other (a := ⟨gq, 6, none⟩) (Blk.other (a := ⟨gq, 5, none⟩) (Blk.other (a := ⟨gq, 4, none⟩) (Blk.other (a := ⟨gq, 3, none⟩) (Blk.other (a := ⟨gq, 2, none⟩) (Blk.other (a := ⟨gq, 1, none⟩) (Blk.other (a := ⟨gq, 0, none⟩) (Blk.other (a := ⟨gp, 1, none⟩) (Blk.other (a := ⟨gp, 0, none⟩) (Blk.other (a := ⟨go, 0, none⟩) KAz.out NEga_go (.slice S0.secret.a S0.secret.n S0.secret.c)) NEga_gp (.int .i64 bH)) NEga_gp (.int .i64 bP)) NEga_gq (.int .i64 F2.kind)) NEga_gq (.int .i64 F2.id)) NEga_gq (.slice S2.cn.a S2.cn.n S2.cn.c)) NEga_gq (.slice S2.sn.a S2.sn.n S2.sn.c)) NEga_gq (.int .i64 F2.tick)) NEga_gq (.slice S2.cookie.a S2.cookie.n S2.cookie.c)) NEga_gq (.slice S2.proof.a S2.proof.n S2.proof.c)) NEga_gq (.int .i64 F2.epoch)) NEga_gq (.int .i64 F2.seq)) NEga_gq (.slice S2.body.a S2.body.n S2.body.c)) NEga_gq (.slice S2.tag.a S2.tag.n S2.tag.c)))
  have sd2_ga_0 := hide (sd2_Bga.cell 0 rfl)
  have sd2_ga_1 := hide (sd2_Bga.cell 1 rfl)
  clear sd2_Bga
  have sd2_Bgf := drewB ((Blk.other (a := ⟨gq, 10, none⟩) (Blk.other (a := ⟨gq, 9, none⟩) (Blk.other (a := ⟨gq, 8, none⟩) (Blk.other (a := ⟨gq, 7, none⟩) (Blk.other (a := ⟨gq, 6, none⟩) (Blk.other (a := ⟨gq, 5, none⟩) (Blk.other (a := ⟨gq, 4, none⟩) (Blk.other (a := ⟨gq, 3, none⟩) (Blk.other (a := ⟨gq, 2, none⟩) (Blk.other (a := ⟨gq, 1, none⟩) (Blk.other (a := ⟨gq, 0, none⟩) (Blk.other (a := ⟨gp, 1, none⟩) (Blk.other (a := ⟨gp, 0, none⟩) (Blk.other (a := ⟨go, 0, none⟩) KFz.out NEgf_go (.slice S0.secret.a S0.secret.n S0.secret.c)) NEgf_gp (.int .i64 bH)) NEgf_gp (.int .i64 bP)) NEgf_gq (.int .i64 F2.kind)) NEgf_gq (.int .i64 F2.id)) NEgf_gq (.slice S2.cn.a S2.cn.n S2.cn.c)) NEgf_gq (.slice S2.sn.a S2.sn.n S2.sn.c)) NEgf_gq (.int .i64 F2.tick)) NEgf_gq (.slice S2.cookie.a S2.cookie.n S2.cookie.c)) NEgf_gq (.slice S2.proof.a S2.proof.n S2.proof.c)) NEgf_gq (.int .i64 F2.epoch)) NEgf_gq (.int .i64 F2.seq)) NEgf_gq (.slice S2.body.a S2.body.n S2.body.c)) NEgf_gq (.slice S2.tag.a S2.tag.n S2.tag.c)))
  have sd2_gf_0 := hide (sd2_Bgf.cell 0 rfl)
  have sd2_gf_1 := hide (sd2_Bgf.cell 1 rfl)
  have sd2_gf_2 := hide (sd2_Bgf.cell 2 rfl)
  have sd2_gf_3 := hide (sd2_Bgf.cell 3 rfl)
  have sd2_gf_4 := hide (sd2_Bgf.cell 4 rfl)
  have sd2_gf_5 := hide (sd2_Bgf.cell 5 rfl)
  have sd2_gf_6 := hide (sd2_Bgf.cell 6 rfl)
  have sd2_gf_7 := hide (sd2_Bgf.cell 7 rfl)
  have sd2_gf_8 := hide (sd2_Bgf.cell 8 rfl)
  have sd2_gf_9 := hide (sd2_Bgf.cell 9 rfl)
  have sd2_gf_10 := hide (sd2_Bgf.cell 10 rfl)
  clear sd2_Bgf
  go_upto_region 19 with fail
  go_region_held3 (fun w' => w'.cell? ⟨gj, 0, none⟩ = some (.slice S0.secret.a S0.secret.n S0.secret.c) ∧ w'.cell? ⟨ga, 0, none⟩ = some (.int .i64 bH) ∧ w'.cell? ⟨ga, 1, none⟩ = some (.int .i64 bP) ∧ w'.cell? ⟨gf, 0, none⟩ = some (.int .i64 F2.kind) ∧ w'.cell? ⟨gf, 1, none⟩ = some (.int .i64 F2.id) ∧ w'.cell? ⟨gf, 2, none⟩ = some (.slice S2.cn.a S2.cn.n S2.cn.c) ∧ w'.cell? ⟨gf, 3, none⟩ = some (.slice S2.sn.a S2.sn.n S2.sn.c) ∧ w'.cell? ⟨gf, 4, none⟩ = some (.int .i64 F2.tick) ∧ w'.cell? ⟨gf, 5, none⟩ = some (.slice S2.cookie.a S2.cookie.n S2.cookie.c) ∧ w'.cell? ⟨gf, 6, none⟩ = some (.slice S2.proof.a S2.proof.n S2.proof.c) ∧ w'.cell? ⟨gf, 7, none⟩ = some (.int .i64 F2.epoch) ∧ w'.cell? ⟨gf, 8, none⟩ = some (.int .i64 F2.seq) ∧ w'.cell? ⟨gf, 9, none⟩ = some (.slice S2.body.a S2.body.n S2.body.c) ∧ w'.cell? ⟨gf, 10, none⟩ = some (.slice S2.tag.a S2.tag.n S2.tag.c)) (first | with_reducible exact ⟨sd2_gj_0.out, sd2_ga_0.out, sd2_ga_1.out, sd2_gf_0.out, sd2_gf_1.out, sd2_gf_2.out, sd2_gf_3.out, sd2_gf_4.out, sd2_gf_5.out, sd2_gf_6.out, sd2_gf_7.out, sd2_gf_8.out, sd2_gf_9.out, sd2_gf_10.out⟩ | with_reducible exact ⟨s2_gj_0.out, s2_ga_0.out, s2_ga_1.out, s2_gf_0.out, s2_gf_1.out, s2_gf_2.out, s2_gf_3.out, s2_gf_4.out, s2_gf_5.out, s2_gf_6.out, s2_gf_7.out, s2_gf_8.out, s2_gf_9.out, s2_gf_10.out⟩ | with_reducible exact ⟨sd1_gj_0.out, sd1_ga_0.out, sd1_ga_1.out, sd1_gf_0.out, sd1_gf_1.out, sd1_gf_2.out, sd1_gf_3.out, sd1_gf_4.out, sd1_gf_5.out, sd1_gf_6.out, sd1_gf_7.out, sd1_gf_8.out, sd1_gf_9.out, sd1_gf_10.out⟩ | with_reducible exact ⟨s1_gj_0.out, s1_ga_0.out, s1_ga_1.out, s1_gf_0.out, s1_gf_1.out, s1_gf_2.out, s1_gf_3.out, s1_gf_4.out, s1_gf_5.out, s1_gf_6.out, s1_gf_7.out, s1_gf_8.out, s1_gf_9.out, s1_gf_10.out⟩ | with_reducible exact ⟨sd0_gj_0.out, sd0_ga_0.out, sd0_ga_1.out, sd0_gf_0.out, sd0_gf_1.out, sd0_gf_2.out, sd0_gf_3.out, sd0_gf_4.out, sd0_gf_5.out, sd0_gf_6.out, sd0_gf_7.out, sd0_gf_8.out, sd0_gf_9.out, sd0_gf_10.out⟩ | with_reducible exact ⟨s0_gj_0.out, s0_ga_0.out, s0_ga_1.out, s0_gf_0.out, s0_gf_1.out, s0_gf_2.out, s0_gf_3.out, s0_gf_4.out, s0_gf_5.out, s0_gf_6.out, s0_gf_7.out, s0_gf_8.out, s0_gf_9.out, s0_gf_10.out⟩ | with_reducible exact ⟨zd_gj_0.out, zd_ga_0.out, zd_ga_1.out, zd_gf_0.out, zd_gf_1.out, zd_gf_2.out, zd_gf_3.out, zd_gf_4.out, zd_gf_5.out, zd_gf_6.out, zd_gf_7.out, zd_gf_8.out, zd_gf_9.out, zd_gf_10.out⟩ | with_reducible exact ⟨z_gj_0, z_ga_0, z_ga_1, z_gf_0, z_gf_1, z_gf_2, z_gf_3, z_gf_4, z_gf_5, z_gf_6, z_gf_7, z_gf_8, z_gf_9, z_gf_10⟩ | go_keep) (fail)
  clear z_gj_0 z_ga_0 z_ga_1 z_gf_0 z_gf_1 z_gf_2 z_gf_3 z_gf_4 z_gf_5 z_gf_6 z_gf_7 z_gf_8 z_gf_9 z_gf_10 zd_gj_0 zd_ga_0 zd_ga_1 zd_gf_0 zd_gf_1 zd_gf_2 zd_gf_3 zd_gf_4 zd_gf_5 zd_gf_6 zd_gf_7 zd_gf_8 zd_gf_9 zd_gf_10 uKO0 vKO0 s0_gj_0 s0_ga_0 s0_ga_1 s0_gf_0 s0_gf_1 s0_gf_2 s0_gf_3 s0_gf_4 s0_gf_5 s0_gf_6 s0_gf_7 s0_gf_8 s0_gf_9 s0_gf_10 sd0_gj_0 sd0_ga_0 sd0_ga_1 sd0_gf_0 sd0_gf_1 sd0_gf_2 sd0_gf_3 sd0_gf_4 sd0_gf_5 sd0_gf_6 sd0_gf_7 sd0_gf_8 sd0_gf_9 sd0_gf_10 uKP0 vKP0 uKP1 vKP1 s1_gj_0 s1_ga_0 s1_ga_1 s1_gf_0 s1_gf_1 s1_gf_2 s1_gf_3 s1_gf_4 s1_gf_5 s1_gf_6 s1_gf_7 s1_gf_8 s1_gf_9 s1_gf_10 sd1_gj_0 sd1_ga_0 sd1_ga_1 sd1_gf_0 sd1_gf_1 sd1_gf_2 sd1_gf_3 sd1_gf_4 sd1_gf_5 sd1_gf_6 sd1_gf_7 sd1_gf_8 sd1_gf_9 sd1_gf_10 uKQ0 vKQ0 uKQ1 vKQ1 uKQ2 vKQ2 uKQ3 vKQ3 uKQ4 vKQ4 uKQ5 vKQ5 uKQ6 vKQ6 uKQ7 vKQ7 uKQ8 vKQ8 uKQ9 vKQ9 uKQ10 vKQ10 s2_gj_0 s2_ga_0 s2_ga_1 s2_gf_0 s2_gf_1 s2_gf_2 s2_gf_3 s2_gf_4 s2_gf_5 s2_gf_6 s2_gf_7 s2_gf_8 s2_gf_9 s2_gf_10 sd2_gj_0 sd2_ga_0 sd2_ga_1 sd2_gf_0 sd2_gf_1 sd2_gf_2 sd2_gf_3 sd2_gf_4 sd2_gf_5 sd2_gf_6 sd2_gf_7 sd2_gf_8 sd2_gf_9 sd2_gf_10
  have KXKO := (Blk.other (a := ⟨gq, 10, none⟩) (Blk.other (a := ⟨gq, 9, none⟩) (Blk.other (a := ⟨gq, 8, none⟩) (Blk.other (a := ⟨gq, 7, none⟩) (Blk.other (a := ⟨gq, 6, none⟩) (Blk.other (a := ⟨gq, 5, none⟩) (Blk.other (a := ⟨gq, 4, none⟩) (Blk.other (a := ⟨gq, 3, none⟩) (Blk.other (a := ⟨gq, 2, none⟩) (Blk.other (a := ⟨gq, 1, none⟩) (Blk.other (a := ⟨gq, 0, none⟩) (Blk.other (a := ⟨gp, 1, none⟩) (Blk.other (a := ⟨gp, 0, none⟩) (KZKO.set 0 (.slice S0.secret.a S0.secret.n S0.secret.c) (by simp [maxLen])) NOgo_gp (.int .i64 bH)) NOgo_gp (.int .i64 bP)) NOgo_gq (.int .i64 F2.kind)) NOgo_gq (.int .i64 F2.id)) NOgo_gq (.slice S2.cn.a S2.cn.n S2.cn.c)) NOgo_gq (.slice S2.sn.a S2.sn.n S2.sn.c)) NOgo_gq (.int .i64 F2.tick)) NOgo_gq (.slice S2.cookie.a S2.cookie.n S2.cookie.c)) NOgo_gq (.slice S2.proof.a S2.proof.n S2.proof.c)) NOgo_gq (.int .i64 F2.epoch)) NOgo_gq (.int .i64 F2.seq)) NOgo_gq (.slice S2.body.a S2.body.n S2.body.c)) NOgo_gq (.slice S2.tag.a S2.tag.n S2.tag.c))
  have KXKP := (Blk.other (a := ⟨gq, 10, none⟩) (Blk.other (a := ⟨gq, 9, none⟩) (Blk.other (a := ⟨gq, 8, none⟩) (Blk.other (a := ⟨gq, 7, none⟩) (Blk.other (a := ⟨gq, 6, none⟩) (Blk.other (a := ⟨gq, 5, none⟩) (Blk.other (a := ⟨gq, 4, none⟩) (Blk.other (a := ⟨gq, 3, none⟩) (Blk.other (a := ⟨gq, 2, none⟩) (Blk.other (a := ⟨gq, 1, none⟩) (Blk.other (a := ⟨gq, 0, none⟩) ((KZKP.set 0 (.int .i64 bH) (by simp [maxLen])).set 1 (.int .i64 bP) (by simp [maxLen])) NOgp_gq (.int .i64 F2.kind)) NOgp_gq (.int .i64 F2.id)) NOgp_gq (.slice S2.cn.a S2.cn.n S2.cn.c)) NOgp_gq (.slice S2.sn.a S2.sn.n S2.sn.c)) NOgp_gq (.int .i64 F2.tick)) NOgp_gq (.slice S2.cookie.a S2.cookie.n S2.cookie.c)) NOgp_gq (.slice S2.proof.a S2.proof.n S2.proof.c)) NOgp_gq (.int .i64 F2.epoch)) NOgp_gq (.int .i64 F2.seq)) NOgp_gq (.slice S2.body.a S2.body.n S2.body.c)) NOgp_gq (.slice S2.tag.a S2.tag.n S2.tag.c))
  have KXKQ := (((((((((((KZKQ.set 0 (.int .i64 F2.kind) (by simp [maxLen])).set 1 (.int .i64 F2.id) (by simp [maxLen])).set 2 (.slice S2.cn.a S2.cn.n S2.cn.c) (by simp [maxLen])).set 3 (.slice S2.sn.a S2.sn.n S2.sn.c) (by simp [maxLen])).set 4 (.int .i64 F2.tick) (by simp [maxLen])).set 5 (.slice S2.cookie.a S2.cookie.n S2.cookie.c) (by simp [maxLen])).set 6 (.slice S2.proof.a S2.proof.n S2.proof.c) (by simp [maxLen])).set 7 (.int .i64 F2.epoch) (by simp [maxLen])).set 8 (.int .i64 F2.seq) (by simp [maxLen])).set 9 (.slice S2.body.a S2.body.n S2.body.c) (by simp [maxLen])).set 10 (.slice S2.tag.a S2.tag.n S2.tag.c) (by simp [maxLen]))
  go_wp2
  have HGG : Hid (go + 1 = gp ∧ gp + 1 = gq) := by have := HSZz.out; show _ ∧ _; omega
  have KZ := (show Kept go (gq + 1) xz ((((((((((((((xz.setCell ⟨go, 0, none⟩ (.slice S0.secret.a S0.secret.n S0.secret.c)).setCell ⟨gp, 0, none⟩ (.int .i64 bH)).setCell ⟨gp, 1, none⟩ (.int .i64 bP)).setCell ⟨gq, 0, none⟩ (.int .i64 F2.kind)).setCell ⟨gq, 1, none⟩ (.int .i64 F2.id)).setCell ⟨gq, 2, none⟩ (.slice S2.cn.a S2.cn.n S2.cn.c)).setCell ⟨gq, 3, none⟩ (.slice S2.sn.a S2.sn.n S2.sn.c)).setCell ⟨gq, 4, none⟩ (.int .i64 F2.tick)).setCell ⟨gq, 5, none⟩ (.slice S2.cookie.a S2.cookie.n S2.cookie.c)).setCell ⟨gq, 6, none⟩ (.slice S2.proof.a S2.proof.n S2.proof.c)).setCell ⟨gq, 7, none⟩ (.int .i64 F2.epoch)).setCell ⟨gq, 8, none⟩ (.int .i64 F2.seq)).setCell ⟨gq, 9, none⟩ (.slice S2.body.a S2.body.n S2.body.c)).setCell ⟨gq, 10, none⟩ (.slice S2.tag.a S2.tag.n S2.tag.c)) from ((((((((((((((Kept.mono (Kept.setCell _ go 0 (.slice S0.secret.a S0.secret.n S0.secret.c)) (by have := HGG.out; omega) (by have := HGG.out; omega)).trans (Kept.mono (Kept.setCell _ gp 0 (.int .i64 bH)) (by have := HGG.out; omega) (by have := HGG.out; omega))).trans (Kept.mono (Kept.setCell _ gp 1 (.int .i64 bP)) (by have := HGG.out; omega) (by have := HGG.out; omega))).trans (Kept.mono (Kept.setCell _ gq 0 (.int .i64 F2.kind)) (by have := HGG.out; omega) (by have := HGG.out; omega))).trans (Kept.mono (Kept.setCell _ gq 1 (.int .i64 F2.id)) (by have := HGG.out; omega) (by have := HGG.out; omega))).trans (Kept.mono (Kept.setCell _ gq 2 (.slice S2.cn.a S2.cn.n S2.cn.c)) (by have := HGG.out; omega) (by have := HGG.out; omega))).trans (Kept.mono (Kept.setCell _ gq 3 (.slice S2.sn.a S2.sn.n S2.sn.c)) (by have := HGG.out; omega) (by have := HGG.out; omega))).trans (Kept.mono (Kept.setCell _ gq 4 (.int .i64 F2.tick)) (by have := HGG.out; omega) (by have := HGG.out; omega))).trans (Kept.mono (Kept.setCell _ gq 5 (.slice S2.cookie.a S2.cookie.n S2.cookie.c)) (by have := HGG.out; omega) (by have := HGG.out; omega))).trans (Kept.mono (Kept.setCell _ gq 6 (.slice S2.proof.a S2.proof.n S2.proof.c)) (by have := HGG.out; omega) (by have := HGG.out; omega))).trans (Kept.mono (Kept.setCell _ gq 7 (.int .i64 F2.epoch)) (by have := HGG.out; omega) (by have := HGG.out; omega))).trans (Kept.mono (Kept.setCell _ gq 8 (.int .i64 F2.seq)) (by have := HGG.out; omega) (by have := HGG.out; omega))).trans (Kept.mono (Kept.setCell _ gq 9 (.slice S2.body.a S2.body.n S2.body.c)) (by have := HGG.out; omega) (by have := HGG.out; omega))).trans (Kept.mono (Kept.setCell _ gq 10 (.slice S2.tag.a S2.tag.n S2.tag.c)) (by have := HGG.out; omega) (by have := HGG.out; omega))))
  have KD : Below (((((((((((((((xz.setCell ⟨go, 0, none⟩ (.slice S0.secret.a S0.secret.n S0.secret.c)).setCell ⟨gp, 0, none⟩ (.int .i64 bH)).setCell ⟨gp, 1, none⟩ (.int .i64 bP)).setCell ⟨gq, 0, none⟩ (.int .i64 F2.kind)).setCell ⟨gq, 1, none⟩ (.int .i64 F2.id)).setCell ⟨gq, 2, none⟩ (.slice S2.cn.a S2.cn.n S2.cn.c)).setCell ⟨gq, 3, none⟩ (.slice S2.sn.a S2.sn.n S2.sn.c)).setCell ⟨gq, 4, none⟩ (.int .i64 F2.tick)).setCell ⟨gq, 5, none⟩ (.slice S2.cookie.a S2.cookie.n S2.cookie.c)).setCell ⟨gq, 6, none⟩ (.slice S2.proof.a S2.proof.n S2.proof.c)).setCell ⟨gq, 7, none⟩ (.int .i64 F2.epoch)).setCell ⟨gq, 8, none⟩ (.int .i64 F2.seq)).setCell ⟨gq, 9, none⟩ (.slice S2.body.a S2.body.n S2.body.c)).setCell ⟨gq, 10, none⟩ (.slice S2.tag.a S2.tag.n S2.tag.c))).heap.size (((((((((((((((xz.setCell ⟨go, 0, none⟩ (.slice S0.secret.a S0.secret.n S0.secret.c)).setCell ⟨gp, 0, none⟩ (.int .i64 bH)).setCell ⟨gp, 1, none⟩ (.int .i64 bP)).setCell ⟨gq, 0, none⟩ (.int .i64 F2.kind)).setCell ⟨gq, 1, none⟩ (.int .i64 F2.id)).setCell ⟨gq, 2, none⟩ (.slice S2.cn.a S2.cn.n S2.cn.c)).setCell ⟨gq, 3, none⟩ (.slice S2.sn.a S2.sn.n S2.sn.c)).setCell ⟨gq, 4, none⟩ (.int .i64 F2.tick)).setCell ⟨gq, 5, none⟩ (.slice S2.cookie.a S2.cookie.n S2.cookie.c)).setCell ⟨gq, 6, none⟩ (.slice S2.proof.a S2.proof.n S2.proof.c)).setCell ⟨gq, 7, none⟩ (.int .i64 F2.epoch)).setCell ⟨gq, 8, none⟩ (.int .i64 F2.seq)).setCell ⟨gq, 9, none⟩ (.slice S2.body.a S2.body.n S2.body.c)).setCell ⟨gq, 10, none⟩ (.slice S2.tag.a S2.tag.n S2.tag.c))) (((((((((((((((xz.setCell ⟨go, 0, none⟩ (.slice S0.secret.a S0.secret.n S0.secret.c)).setCell ⟨gp, 0, none⟩ (.int .i64 bH)).setCell ⟨gp, 1, none⟩ (.int .i64 bP)).setCell ⟨gq, 0, none⟩ (.int .i64 F2.kind)).setCell ⟨gq, 1, none⟩ (.int .i64 F2.id)).setCell ⟨gq, 2, none⟩ (.slice S2.cn.a S2.cn.n S2.cn.c)).setCell ⟨gq, 3, none⟩ (.slice S2.sn.a S2.sn.n S2.sn.c)).setCell ⟨gq, 4, none⟩ (.int .i64 F2.tick)).setCell ⟨gq, 5, none⟩ (.slice S2.cookie.a S2.cookie.n S2.cookie.c)).setCell ⟨gq, 6, none⟩ (.slice S2.proof.a S2.proof.n S2.proof.c)).setCell ⟨gq, 7, none⟩ (.int .i64 F2.epoch)).setCell ⟨gq, 8, none⟩ (.int .i64 F2.seq)).setCell ⟨gq, 9, none⟩ (.slice S2.body.a S2.body.n S2.body.c)).setCell ⟨gq, 10, none⟩ (.slice S2.tag.a S2.tag.n S2.tag.c))).drew := (Below.refl _ _).drew
  exact bodyPost_ret (v := .tuple #[jaV D0 S0, .int .i64 now, addrV bH bP, frV F2 S2]) (res4 rfl (is_cell rfl (drewB KXKO) aggJa) (is_tmp rfl) (is_cell rfl (drewB KXKP) aggA) (is_cell rfl (drewB KXKQ) aggFr)) rfl ⟨D0, S0, now, _, _, S2, F2, rfl, HS0.out, ((OEz.out.carry KZ (.inr (by have := HSZz.out; omega))).later KD).rd, ((IFz.out.carry KZ (.inr (Nat.le_refl _))).later KD).rd, (Bz.out.trans (KZ.below (by have := HSZz.out; omega) Bz.out.size)).drew⟩

end Go.Proofs.YtpgapjdejelajaaGreatDoor.DrCl
