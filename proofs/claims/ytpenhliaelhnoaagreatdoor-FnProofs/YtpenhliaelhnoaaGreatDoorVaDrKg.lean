/-
  What spec.DrawProofOk gives.
-/
import Derived.Test.YtpenhliaelhnoaaGreatDoorVaDrKf
import Derived.Test.YtpenhliaelhnoaaGreatDoorVaKeX
set_option maxRecDepth 100000
namespace Go.Proofs.YtpenhliaelhnoaaGreatDoor.DrKg
open Go.RowKit Mem App Blk Zone Draw DrawD Res DrN Shp FrZ FrL FrP FrDa KeP KeQ KeW DrKe DrKf
theorem fin_short (l : List Int) (id : Int) (F : FrD) (h1 : F.cn.length = 12) (h2 : F.sn.length = 12) (h3 : 0 ≤ F.tick ∧ F.tick < 300) (h4 : F.cookie.length = 16) : 0 ≤ (finD l id F).tick ∧ (finD l id F).tick ≤ 999999 ∧ (finD l id F).cn.length ≤ 16 ∧ (finD l id F).sn.length ≤ 16 ∧ (finD l id F).cookie.length ≤ 16 ∧ (finD l id F).proof.length ≤ 16 := by
 cases h : finF l id F with
 | false => rw [finD_no h]; exact ⟨by decide, by decide, by decide, by decide, by decide, by decide⟩
 | true => rw [finD_yes h]; exact ⟨h3.1, by have := h3.2; show F.tick ≤ 999999; omega, by show F.cn.length ≤ 16; omega, by show F.sn.length ≤ 16; omega, by show F.cookie.length ≤ 16; omega, by have := proofK_le l id F.cn F.sn F.tick F.cookie; show (proofK l id F.cn F.sn F.tick F.cookie).length ≤ 16; omega⟩

set_option maxHeartbeats 32000000 in
theorem drawProofOk (a : Option Addr) (len cap : Nat) (l : List Int) (w : World) (hl : len = l.length) (hr : Rd w a l) (hb : Bytes l) (hlen : len ≤ 1048576) :
  Calls Tryz.prog 10 #[.slice a len cap] w fun e w' => ∃ (P : Sl) (x : List Int) (SF : FrS) (F : FrD), e = .returned (.tuple #[.slice P.a P.n P.c, frV F SF]) ∧ x.length ≤ 33 ∧ SRd w' P x ∧ FrRd w' SF F ∧ Below w.heap.size w w' := by
 have HR := hid (hr)
 have HL : Hid (len = l.length) := hl
 have HB := hid (hb)
 clear hr hl hb
 have B0 : Hid (Below w.heap.size w w) := Below.refl _ _
 obtain ⟨x1, hx1⟩ : ∃ x1, (w.alloc (.cells #[.int .i64 0, .int .i64 0, .slice none 0 0, .slice none 0 0, .int .i64 0, .slice none 0 0, .slice none 0 0, .int .i64 0, .int .i64 0, .slice none 0 0, .slice none 0 0] 25)) = x1 := ⟨_, rfl⟩
 have HWA := hid (hx1)
 have b1 : Below w.heap.size w x1 := by rw [← hx1]; exact ((Below.refl _ _).alloc (Nat.le_refl _) _)
 have KON : Blk x1 (w.heap.size) 25 [.int .i64 0, .int .i64 0, .slice none 0 0, .slice none 0 0, .int .i64 0, .slice none 0 0, .slice none 0 0, .int .i64 0, .int .i64 0, .slice none 0 0, .slice none 0 0] := by
  have q := (Blk.new w 25 [.int .i64 0, .int .i64 0, .slice none 0 0, .slice none 0 0, .int .i64 0, .slice none 0 0, .slice none 0 0, .int .i64 0, .int .i64 0, .slice none 0 0, .slice none 0 0])
  skip
  rw [← hx1]; exact q
 have SZA : x1.heap.size = w.heap.size + 1 := by rw [← hx1]; simp
 clear hx1
 have L1 := hid (b1.size)
 have B1 := hid (B0.out.trans (b1.mono B0.out.size))
 clear B0 b1
 go_enter Tryz.func10, Tryz.ntmps10
 go_upto_region 1 with fail
 rw [HWA.out]
 obtain ⟨go, hgo⟩ : ∃ g, w.heap.size = g := ⟨_, rfl⟩
 have GA : Hid (w.heap.size = go ∧ x1.heap.size = go + 1) := ⟨hgo, by omega⟩
 rw [hgo] at KON
 rw [hgo]
 clear HWA SZA hgo
 have KO1 := hid (KON)
 clear KON
 go_wp2_with fail
 refine (newCur a len cap l x1 HL.out (HR.out.later B1.out (Nat.le_refl _)) HB.out hlen).mono ?_
 rintro e x2 ⟨p, rfl, r⟩
 have b := r.hB
 have HP : Hid (x1.heap.size ≤ p ∧ p < x2.heap.size) := ⟨r.hp, r.hc.lt⟩
 have L2 := hid (b.size)
 have B2 := hid (B1.out.trans (b.mono B1.out.size))
 have KO2 := hid (KO1.out.later b)
 clear B1 KO1 b
 have R2 := hid (r)
 clear r
 go_wp2_with fail
 refine (l12Psk R2.out).mono ?_
 rintro e x3 ⟨P, lp, rfl, pl, o, r, b⟩
 have HPL : Hid (lp.length ≤ 33) := pl
 clear pl
 have L3 := hid (b.size)
 have KQ : Kept p (p + 1) x2 x3 := Kept.of_grown b
 have B3 : Hid (Below w.heap.size w x3) := But.below b B2.out (by have := hid5 L1 GA L2 HP L3; omega)
 have KO3 := hid (KO2.out.keep (KQ.block _ KO2.out.lt (by have := hid5 L1 GA L2 HP L3; omega)))
 have R3 := hid (r)
 clear B2 KO2 R2 b
 clear KQ r
 have OP3 := hid (o)
 clear o
 go_wp2_with fail
 refine (Draw.below R3.out 3 (by omega) (by omega)).mono ?_
 rintro e x4 ⟨u, rfl, va, vb, r, b⟩
 have VBu : Hid (0 ≤ u ∧ u < 3) := ⟨va, vb⟩
 clear va vb
 have L4 := hid (b.size)
 have KQ : Kept p (p + 1) x3 x4 := Kept.of_grown b
 have B4 : Hid (Below w.heap.size w x4) := But.below b B3.out (by have := hid6 L1 GA L2 HP L3 L4; omega)
 have KO4 := hid (KO3.out.keep (KQ.block _ KO3.out.lt (by have := hid6 L1 GA L2 HP L3 L4; omega)))
 have R4 := hid (r)
 have OP4 := hid (OP3.out.carry KQ (by have := hid6 L1 GA L2 HP L3 L4; omega))
 clear B3 KO3 R3 OP3 b
 clear KQ r
 have hw : IntKind.i64.wrap (1 + u) = 1 + u := by rw [IntKind.wrap_i64]; have := VBu.out; omega
 go_wp2_with fail
 refine (l12Cookie R4.out).mono ?_
 rintro e x5 ⟨S0, F0, rfl, fk, fi, r, b⟩
 have L5 := hid (b.size)
 have KQ : Kept p (p + 1) x4 x5 := Kept.of_grown b
 have B5 : Hid (Below w.heap.size w x5) := But.below b B4.out (by have := hid7 L1 GA L2 HP L3 L4 L5; omega)
 have KO5 := hid (KO4.out.keep (KQ.block _ KO4.out.lt (by have := hid7 L1 GA L2 HP L3 L4 L5; omega)))
 have R5 := hid (r)
 have OP5 := hid (OP4.out.carry KQ (by have := hid7 L1 GA L2 HP L3 L4 L5; omega))
 clear B4 KO4 R4 OP4 b
 clear KQ r
 have OF05 := hid (fi)
 obtain ⟨F, hF⟩ : ∃ X : FrD, finD lp (1 + u) F0 = X := ⟨_, rfl⟩
 have HFE : Hid (finD lp (1 + u) F0 = F) := hF
 obtain ⟨vb, hvb⟩ : ∃ X, finF lp (1 + u) F0 = X := ⟨_, rfl⟩
 have HVB : Hid (finF lp (1 + u) F0 = vb) := hvb
 have HFL : Hid (0 ≤ F.tick ∧ F.tick ≤ 999999 ∧ F.cn.length ≤ 16 ∧ F.sn.length ≤ 16 ∧ F.cookie.length ≤ 16 ∧ F.proof.length ≤ 16) := by rw [← HFE.out]; exact fin_short lp (1 + u) F0 fk.2.1 fk.2.2.1 fk.2.2.2.1 fk.2.2.2.2.1
 clear fi fk hF hvb
 go_wp2_with fail
 refine (KeX.specFinishOf P lp (1 + u) S0 F0 x5 OP5.out.rd OF05.out.rd).mono ?_
 unfold KeX.AnsF
 rw [HFE.out, HVB.out]
 rintro e x6 ⟨SF, rfl, o, b⟩
 have L6 := hid (b.size)
 have B6 := hid (B5.out.trans (b.mono B5.out.size))
 have KO6 := hid (KO5.out.later b)
 have R6 : Hid (Ready x1 a len cap l p x6) := rdyL R5.out b
 have OP6 := hid (OP5.out.later b)
 have OF06 := hid (OF05.out.later b)
 clear B5 KO5 R5 OP5 OF05 b
 have OF6 : Hid (FrIn x6 x5.heap.size x6.heap.size SF F) := FrIn.of o
 clear o hw
 clear OF06
 obtain ⟨x7, hx7⟩ : ∃ x7, x6.alloc (.cells #[.int .i64 F.kind, .int .i64 F.id, .slice SF.cn.a SF.cn.n SF.cn.c, .slice SF.sn.a SF.sn.n SF.sn.c, .int .i64 F.tick, .slice SF.cookie.a SF.cookie.n SF.cookie.c, .slice SF.proof.a SF.proof.n SF.proof.c, .int .i64 F.epoch, .int .i64 F.seq, .slice SF.body.a SF.body.n SF.body.c, .slice SF.tag.a SF.tag.n SF.tag.c] 25) = x7 := ⟨_, rfl⟩
 have HW7 := hid (hx7)
 have b7 : Below x6.heap.size x6 x7 := by rw [← hx7]; exact (Below.refl _ _).alloc (Nat.le_refl _) _
 have KN : Blk x7 x6.heap.size 25 [.int .i64 F.kind, .int .i64 F.id, .slice SF.cn.a SF.cn.n SF.cn.c, .slice SF.sn.a SF.sn.n SF.sn.c, .int .i64 F.tick, .slice SF.cookie.a SF.cookie.n SF.cookie.c, .slice SF.proof.a SF.proof.n SF.proof.c, .int .i64 F.epoch, .int .i64 F.seq, .slice SF.body.a SF.body.n SF.body.c, .slice SF.tag.a SF.tag.n SF.tag.c] := by rw [← hx7]; exact Blk.new x6 _ _
 have HSZ7 : Hid (x7.heap.size = x6.heap.size + 1) := by rw [← hx7]; show _ = _; simp
 clear hx7
 have L7 := hid (b7.size)
 have B7 := hid (B6.out.trans (b7.mono B6.out.size))
 have KO7 := hid (KO6.out.later b7)
 have R7 : Hid (Ready x1 a len cap l p x7) := rdyL R6.out b7
 have OP7 := hid (OP6.out.later b7)
 have OF7 := hid (OF6.out.later b7)
 clear B6 KO6 R6 OP6 OF6 b7
 unfold frV
 go_upto_region 4 with fail
 rw [HW7.out]
 obtain ⟨gf, hgf⟩ : ∃ g, x6.heap.size = g := ⟨_, rfl⟩
 have Ggf : Hid (x6.heap.size = gf ∧ x7.heap.size = gf + 1) := ⟨hgf, by rw [← hgf]; exact HSZ7.out⟩
 rw [hgf] at KN ⊢
 clear HW7 HSZ7 hgf
 have KF7 := hid (KN)
 clear KN
 go_wp2_with fail
 refine (Draw.below R7.out 10 (by omega) (by omega)).mono ?_
 rintro e x8 ⟨v, rfl, va, vb, r, b⟩
 have VBv : Hid (0 ≤ v ∧ v < 10) := ⟨va, vb⟩
 clear va vb
 have L8 := hid (b.size)
 have KQ : Kept p (p + 1) x7 x8 := Kept.of_grown b
 have B8 : Hid (Below w.heap.size w x8) := But.below b B7.out (by have := hid8 L1 GA L2 HP L3 L4 L5 L6; have := hid3 L7 Ggf L8; omega)
 have KO8 := hid (KO7.out.keep (KQ.block _ KO7.out.lt (by have := hid8 L1 GA L2 HP L3 L4 L5 L6; have := hid3 L7 Ggf L8; omega)))
 have R8 := hid (r)
 have OP8 := hid (OP7.out.carry KQ (by have := hid8 L1 GA L2 HP L3 L4 L5 L6; have := hid3 L7 Ggf L8; omega))
 have OF8 := hid (OF7.out.carry KQ (by have := hid8 L1 GA L2 HP L3 L4 L5 L6; have := hid3 L7 Ggf L8; omega))
 have KF8 := hid (KF7.out.keep (KQ.block _ KF7.out.lt (by have := hid8 L1 GA L2 HP L3 L4 L5 L6; have := hid3 L7 Ggf L8; omega)))
 clear B7 KO7 R7 OP7 OF7 KF7 b
 clear KQ r
 cases ev0 : (v == 0)
 case' true =>
  obtain rfl : v = 0 := by simpa using ev0
  go_wp2_with fail
  refine (Draw.below R8.out 9 (by omega) (by omega)).mono ?_
  rintro e x9 ⟨z, rfl, va, vb, r, b⟩
  have VBz : Hid (0 ≤ z ∧ z < 9) := ⟨va, vb⟩
  clear va vb
  have L9 := hid (b.size)
  have KQ : Kept p (p + 1) x8 x9 := Kept.of_grown b
  have B9 : Hid (Below w.heap.size w x9) := But.below b B8.out (by have := hid8 L1 GA L2 HP L3 L4 L5 L6; have := hid4 L7 Ggf L8 L9; omega)
  have KO9 := hid (KO8.out.keep (KQ.block _ KO8.out.lt (by have := hid8 L1 GA L2 HP L3 L4 L5 L6; have := hid4 L7 Ggf L8 L9; omega)))
  have R9 := hid (r)
  have OP9 := hid (OP8.out.carry KQ (by have := hid8 L1 GA L2 HP L3 L4 L5 L6; have := hid4 L7 Ggf L8 L9; omega))
  have OF9 := hid (OF8.out.carry KQ (by have := hid8 L1 GA L2 HP L3 L4 L5 L6; have := hid4 L7 Ggf L8 L9; omega))
  have KF9 := hid (KF8.out.keep (KQ.block _ KF8.out.lt (by have := hid8 L1 GA L2 HP L3 L4 L5 L6; have := hid4 L7 Ggf L8 L9; omega)))
  clear B8 KO8 R8 OP8 OF8 KF8 b
  clear KQ r
  have hw2 : IntKind.i64.wrap (1 + z) = 1 + z := by rw [IntKind.wrap_i64]; have := VBz.out; omega
  have co1 := KF9.out.cell 1 rfl
  have fo1 := KF9.out.frozen 1
  obtain ⟨x10, hx10⟩ : ∃ y, (x9.setCell ⟨gf, 1, none⟩ (.int .i64 (1 + z))) = y := ⟨_, rfl⟩
  have HW10 := hid (hx10)
  have L10 : Hid (x10.heap.size = x9.heap.size) := by rw [← hx10]; show _ = _; simp
  have KS : Blk x10 gf 25 [.int .i64 F.kind, .int .i64 (1 + z), .slice SF.cn.a SF.cn.n SF.cn.c, .slice SF.sn.a SF.sn.n SF.sn.c, .int .i64 F.tick, .slice SF.cookie.a SF.cookie.n SF.cookie.c, .slice SF.proof.a SF.proof.n SF.proof.c, .int .i64 F.epoch, .int .i64 F.seq, .slice SF.body.a SF.body.n SF.body.c, .slice SF.tag.a SF.tag.n SF.tag.c] := by rw [← hx10]; exact (KF9.out.set 1 _ (by simp [maxLen]))
  have KQ : Kept gf (gf + 1) x9 x10 := by rw [← hx10]; exact (Kept.setCell _ _ _ _)
  clear hx10
  have B10 := hid (B9.out.trans (KQ.below (by have := hid8 L1 GA L2 HP L3 L4 L5 L6; have := hid5 L7 Ggf L8 L9 L10; omega) B9.out.size))
  have KO10 := hid (KO9.out.keep (KQ.block _ KO9.out.lt (by have := hid8 L1 GA L2 HP L3 L4 L5 L6; have := hid5 L7 Ggf L8 L9 L10; omega)))
  have R10 : Hid (Ready x1 a len cap l p x10) := rdyK R9.out KQ (by have := hid8 L1 GA L2 HP L3 L4 L5 L6; have := hid5 L7 Ggf L8 L9 L10; omega)
  have OP10 := hid (OP9.out.carry KQ (by have := hid8 L1 GA L2 HP L3 L4 L5 L6; have := hid5 L7 Ggf L8 L9 L10; omega))
  have OF10 := hid (OF9.out.carry KQ (by have := hid8 L1 GA L2 HP L3 L4 L5 L6; have := hid5 L7 Ggf L8 L9 L10; omega))
  clear B9 KO9 R9 OP9 OF9 KQ
  clear KF9
  have KF10 := hid (KS)
  clear KS
  go_upto_region 19 with fail
  rw [HW10.out]
  clear HW10 co1 fo1
  obtain ⟨F2, hF⟩ : ∃ X : FrD, X = { F with id := 1 + z } := ⟨_, rfl⟩
  obtain ⟨S2, hS⟩ : ∃ X : FrS, X = SF := ⟨_, rfl⟩
  have KFz : Hid (Blk x10 gf 25 [.int .i64 F2.kind, .int .i64 F2.id, .slice S2.cn.a S2.cn.n S2.cn.c, .slice S2.sn.a S2.sn.n S2.sn.c, .int .i64 F2.tick, .slice S2.cookie.a S2.cookie.n S2.cookie.c, .slice S2.proof.a S2.proof.n S2.proof.c, .int .i64 F2.epoch, .int .i64 F2.seq, .slice S2.body.a S2.body.n S2.body.c, .slice S2.tag.a S2.tag.n S2.tag.c]) := by rw [hF, hS]; exact KF10.out
  have IFz : Hid (FrIn x10 (go + 1) x10.heap.size S2 F2) := by rw [hF, hS]; exact ⟨(OF10.out.cn.mono (by have := hid8 L1 GA L2 HP L3 L4 L5 L6; have := hid5 L7 Ggf L8 L9 L10; omega) (by have := hid8 L1 GA L2 HP L3 L4 L5 L6; have := hid5 L7 Ggf L8 L9 L10; omega)), (OF10.out.sn.mono (by have := hid8 L1 GA L2 HP L3 L4 L5 L6; have := hid5 L7 Ggf L8 L9 L10; omega) (by have := hid8 L1 GA L2 HP L3 L4 L5 L6; have := hid5 L7 Ggf L8 L9 L10; omega)), (OF10.out.cookie.mono (by have := hid8 L1 GA L2 HP L3 L4 L5 L6; have := hid5 L7 Ggf L8 L9 L10; omega) (by have := hid8 L1 GA L2 HP L3 L4 L5 L6; have := hid5 L7 Ggf L8 L9 L10; omega)), (OF10.out.proof.mono (by have := hid8 L1 GA L2 HP L3 L4 L5 L6; have := hid5 L7 Ggf L8 L9 L10; omega) (by have := hid8 L1 GA L2 HP L3 L4 L5 L6; have := hid5 L7 Ggf L8 L9 L10; omega)), (OF10.out.body.mono (by have := hid8 L1 GA L2 HP L3 L4 L5 L6; have := hid5 L7 Ggf L8 L9 L10; omega) (by have := hid8 L1 GA L2 HP L3 L4 L5 L6; have := hid5 L7 Ggf L8 L9 L10; omega)), (OF10.out.tag.mono (by have := hid8 L1 GA L2 HP L3 L4 L5 L6; have := hid5 L7 Ggf L8 L9 L10; omega) (by have := hid8 L1 GA L2 HP L3 L4 L5 L6; have := hid5 L7 Ggf L8 L9 L10; omega))⟩
  have KOz := hid (KO10.out)
  have OPz := hid (OP10.out)
  have Bz := hid (B10.out)
  have HSZz : Hid (w.heap.size ≤ go ∧ go + 1 ≤ x2.heap.size ∧ go < gf) := by have := hid8 L1 GA L2 HP L3 L4 L5 L6; have := hid5 L7 Ggf L8 L9 L10; show _ ∧ _; omega
  clear hF hS
  obtain ⟨xz, hxz⟩ : ∃ z, z = x10 := ⟨_, rfl⟩
  subst hxz
 case' false =>
  cases ev1 : (v == 1)
  case' true =>
   obtain rfl : v = 1 := by simpa using ev1
   have cb := KF8.out.cell 2 rfl
   go_wp2_with fail
   refine (l1Bend R8.out SF.cn.a SF.cn.n SF.cn.c F.cn OF8.out.cn.rd.len OF8.out.cn.rd.rd OF8.out.cn.rd.nil OF8.out.cn.rd.bytes (by have := OF8.out.cn.rd.len; have := HFL.out; omega)).mono ?_
   rintro e x9 ⟨gt, mt, ct, lt, rfl, el, _, hb, kg, row, r, b⟩
   have oN : SOwn x9 x8.heap.size x9.heap.size ⟨some ⟨gt, 0, none⟩, mt, ct⟩ lt := SOwn.row row el hb kg row.lt
   clear el hb kg row
   have L9 := hid (b.size)
   have KQ : Kept p (p + 1) x8 x9 := Kept.of_grown b
   have B9 : Hid (Below w.heap.size w x9) := But.below b B8.out (by have := hid8 L1 GA L2 HP L3 L4 L5 L6; have := hid4 L7 Ggf L8 L9; omega)
   have KO9 := hid (KO8.out.keep (KQ.block _ KO8.out.lt (by have := hid8 L1 GA L2 HP L3 L4 L5 L6; have := hid4 L7 Ggf L8 L9; omega)))
   have R9 := hid (r)
   have OP9 := hid (OP8.out.carry KQ (by have := hid8 L1 GA L2 HP L3 L4 L5 L6; have := hid4 L7 Ggf L8 L9; omega))
   have OF9 := hid (OF8.out.carry KQ (by have := hid8 L1 GA L2 HP L3 L4 L5 L6; have := hid4 L7 Ggf L8 L9; omega))
   have KF9 := hid (KF8.out.keep (KQ.block _ KF8.out.lt (by have := hid8 L1 GA L2 HP L3 L4 L5 L6; have := hid4 L7 Ggf L8 L9; omega)))
   clear B8 KO8 R8 OP8 OF8 KF8 b
   clear KQ r
   have Ot_9 := hid (oN)
   clear oN
   clear cb
   have co2 := KF9.out.cell 2 rfl
   have fo2 := KF9.out.frozen 2
   obtain ⟨x10, hx10⟩ : ∃ y, (x9.setCell ⟨gf, 2, none⟩ (.slice (some ⟨gt, 0, none⟩) mt ct)) = y := ⟨_, rfl⟩
   have HW10 := hid (hx10)
   have L10 : Hid (x10.heap.size = x9.heap.size) := by rw [← hx10]; show _ = _; simp
   have KS : Blk x10 gf 25 [.int .i64 F.kind, .int .i64 F.id, .slice (some ⟨gt, 0, none⟩) mt ct, .slice SF.sn.a SF.sn.n SF.sn.c, .int .i64 F.tick, .slice SF.cookie.a SF.cookie.n SF.cookie.c, .slice SF.proof.a SF.proof.n SF.proof.c, .int .i64 F.epoch, .int .i64 F.seq, .slice SF.body.a SF.body.n SF.body.c, .slice SF.tag.a SF.tag.n SF.tag.c] := by rw [← hx10]; exact (KF9.out.set 2 _ (by simp [maxLen]))
   have KQ : Kept gf (gf + 1) x9 x10 := by rw [← hx10]; exact (Kept.setCell _ _ _ _)
   clear hx10
   have B10 := hid (B9.out.trans (KQ.below (by have := hid8 L1 GA L2 HP L3 L4 L5 L6; have := hid5 L7 Ggf L8 L9 L10; omega) B9.out.size))
   have KO10 := hid (KO9.out.keep (KQ.block _ KO9.out.lt (by have := hid8 L1 GA L2 HP L3 L4 L5 L6; have := hid5 L7 Ggf L8 L9 L10; omega)))
   have R10 : Hid (Ready x1 a len cap l p x10) := rdyK R9.out KQ (by have := hid8 L1 GA L2 HP L3 L4 L5 L6; have := hid5 L7 Ggf L8 L9 L10; omega)
   have OP10 := hid (OP9.out.carry KQ (by have := hid8 L1 GA L2 HP L3 L4 L5 L6; have := hid5 L7 Ggf L8 L9 L10; omega))
   have OF10 := hid (OF9.out.carry KQ (by have := hid8 L1 GA L2 HP L3 L4 L5 L6; have := hid5 L7 Ggf L8 L9 L10; omega))
   have Ot_10 := hid (Ot_9.out.carry KQ (by have := hid8 L1 GA L2 HP L3 L4 L5 L6; have := hid5 L7 Ggf L8 L9 L10; omega))
   clear B9 KO9 R9 OP9 OF9 Ot_9 KQ
   clear KF9
   have KF10 := hid (KS)
   clear KS
   go_upto_region 19 with fail
   rw [HW10.out]
   clear HW10 co2 fo2
   obtain ⟨F2, hF⟩ : ∃ X : FrD, X = { F with cn := lt } := ⟨_, rfl⟩
   obtain ⟨S2, hS⟩ : ∃ X : FrS, X = { SF with cn := ⟨some ⟨gt, 0, none⟩, mt, ct⟩ } := ⟨_, rfl⟩
   have KFz : Hid (Blk x10 gf 25 [.int .i64 F2.kind, .int .i64 F2.id, .slice S2.cn.a S2.cn.n S2.cn.c, .slice S2.sn.a S2.sn.n S2.sn.c, .int .i64 F2.tick, .slice S2.cookie.a S2.cookie.n S2.cookie.c, .slice S2.proof.a S2.proof.n S2.proof.c, .int .i64 F2.epoch, .int .i64 F2.seq, .slice S2.body.a S2.body.n S2.body.c, .slice S2.tag.a S2.tag.n S2.tag.c]) := by rw [hF, hS]; exact KF10.out
   have IFz : Hid (FrIn x10 (go + 1) x10.heap.size S2 F2) := by rw [hF, hS]; exact ⟨(Ot_10.out.mono (by have := hid8 L1 GA L2 HP L3 L4 L5 L6; have := hid5 L7 Ggf L8 L9 L10; omega) (by have := hid8 L1 GA L2 HP L3 L4 L5 L6; have := hid5 L7 Ggf L8 L9 L10; omega)), (OF10.out.sn.mono (by have := hid8 L1 GA L2 HP L3 L4 L5 L6; have := hid5 L7 Ggf L8 L9 L10; omega) (by have := hid8 L1 GA L2 HP L3 L4 L5 L6; have := hid5 L7 Ggf L8 L9 L10; omega)), (OF10.out.cookie.mono (by have := hid8 L1 GA L2 HP L3 L4 L5 L6; have := hid5 L7 Ggf L8 L9 L10; omega) (by have := hid8 L1 GA L2 HP L3 L4 L5 L6; have := hid5 L7 Ggf L8 L9 L10; omega)), (OF10.out.proof.mono (by have := hid8 L1 GA L2 HP L3 L4 L5 L6; have := hid5 L7 Ggf L8 L9 L10; omega) (by have := hid8 L1 GA L2 HP L3 L4 L5 L6; have := hid5 L7 Ggf L8 L9 L10; omega)), (OF10.out.body.mono (by have := hid8 L1 GA L2 HP L3 L4 L5 L6; have := hid5 L7 Ggf L8 L9 L10; omega) (by have := hid8 L1 GA L2 HP L3 L4 L5 L6; have := hid5 L7 Ggf L8 L9 L10; omega)), (OF10.out.tag.mono (by have := hid8 L1 GA L2 HP L3 L4 L5 L6; have := hid5 L7 Ggf L8 L9 L10; omega) (by have := hid8 L1 GA L2 HP L3 L4 L5 L6; have := hid5 L7 Ggf L8 L9 L10; omega))⟩
   have KOz := hid (KO10.out)
   have OPz := hid (OP10.out)
   have Bz := hid (B10.out)
   have HSZz : Hid (w.heap.size ≤ go ∧ go + 1 ≤ x2.heap.size ∧ go < gf) := by have := hid8 L1 GA L2 HP L3 L4 L5 L6; have := hid5 L7 Ggf L8 L9 L10; show _ ∧ _; omega
   clear hF hS
   obtain ⟨xz, hxz⟩ : ∃ z, z = x10 := ⟨_, rfl⟩
   subst hxz
  case' false =>
   cases ev2 : (v == 2)
   case' true =>
    obtain rfl : v = 2 := by simpa using ev2
    have cb := KF8.out.cell 3 rfl
    go_wp2_with fail
    refine (l1Bend R8.out SF.sn.a SF.sn.n SF.sn.c F.sn OF8.out.sn.rd.len OF8.out.sn.rd.rd OF8.out.sn.rd.nil OF8.out.sn.rd.bytes (by have := OF8.out.sn.rd.len; have := HFL.out; omega)).mono ?_
    rintro e x9 ⟨gt, mt, ct, lt, rfl, el, _, hb, kg, row, r, b⟩
    have oN : SOwn x9 x8.heap.size x9.heap.size ⟨some ⟨gt, 0, none⟩, mt, ct⟩ lt := SOwn.row row el hb kg row.lt
    clear el hb kg row
    have L9 := hid (b.size)
    have KQ : Kept p (p + 1) x8 x9 := Kept.of_grown b
    have B9 : Hid (Below w.heap.size w x9) := But.below b B8.out (by have := hid8 L1 GA L2 HP L3 L4 L5 L6; have := hid4 L7 Ggf L8 L9; omega)
    have KO9 := hid (KO8.out.keep (KQ.block _ KO8.out.lt (by have := hid8 L1 GA L2 HP L3 L4 L5 L6; have := hid4 L7 Ggf L8 L9; omega)))
    have R9 := hid (r)
    have OP9 := hid (OP8.out.carry KQ (by have := hid8 L1 GA L2 HP L3 L4 L5 L6; have := hid4 L7 Ggf L8 L9; omega))
    have OF9 := hid (OF8.out.carry KQ (by have := hid8 L1 GA L2 HP L3 L4 L5 L6; have := hid4 L7 Ggf L8 L9; omega))
    have KF9 := hid (KF8.out.keep (KQ.block _ KF8.out.lt (by have := hid8 L1 GA L2 HP L3 L4 L5 L6; have := hid4 L7 Ggf L8 L9; omega)))
    clear B8 KO8 R8 OP8 OF8 KF8 b
    clear KQ r
    have Ot_9 := hid (oN)
    clear oN
    clear cb
    have co3 := KF9.out.cell 3 rfl
    have fo3 := KF9.out.frozen 3
    obtain ⟨x10, hx10⟩ : ∃ y, (x9.setCell ⟨gf, 3, none⟩ (.slice (some ⟨gt, 0, none⟩) mt ct)) = y := ⟨_, rfl⟩
    have HW10 := hid (hx10)
    have L10 : Hid (x10.heap.size = x9.heap.size) := by rw [← hx10]; show _ = _; simp
    have KS : Blk x10 gf 25 [.int .i64 F.kind, .int .i64 F.id, .slice SF.cn.a SF.cn.n SF.cn.c, .slice (some ⟨gt, 0, none⟩) mt ct, .int .i64 F.tick, .slice SF.cookie.a SF.cookie.n SF.cookie.c, .slice SF.proof.a SF.proof.n SF.proof.c, .int .i64 F.epoch, .int .i64 F.seq, .slice SF.body.a SF.body.n SF.body.c, .slice SF.tag.a SF.tag.n SF.tag.c] := by rw [← hx10]; exact (KF9.out.set 3 _ (by simp [maxLen]))
    have KQ : Kept gf (gf + 1) x9 x10 := by rw [← hx10]; exact (Kept.setCell _ _ _ _)
    clear hx10
    have B10 := hid (B9.out.trans (KQ.below (by have := hid8 L1 GA L2 HP L3 L4 L5 L6; have := hid5 L7 Ggf L8 L9 L10; omega) B9.out.size))
    have KO10 := hid (KO9.out.keep (KQ.block _ KO9.out.lt (by have := hid8 L1 GA L2 HP L3 L4 L5 L6; have := hid5 L7 Ggf L8 L9 L10; omega)))
    have R10 : Hid (Ready x1 a len cap l p x10) := rdyK R9.out KQ (by have := hid8 L1 GA L2 HP L3 L4 L5 L6; have := hid5 L7 Ggf L8 L9 L10; omega)
    have OP10 := hid (OP9.out.carry KQ (by have := hid8 L1 GA L2 HP L3 L4 L5 L6; have := hid5 L7 Ggf L8 L9 L10; omega))
    have OF10 := hid (OF9.out.carry KQ (by have := hid8 L1 GA L2 HP L3 L4 L5 L6; have := hid5 L7 Ggf L8 L9 L10; omega))
    have Ot_10 := hid (Ot_9.out.carry KQ (by have := hid8 L1 GA L2 HP L3 L4 L5 L6; have := hid5 L7 Ggf L8 L9 L10; omega))
    clear B9 KO9 R9 OP9 OF9 Ot_9 KQ
    clear KF9
    have KF10 := hid (KS)
    clear KS
    go_upto_region 19 with fail
    rw [HW10.out]
    clear HW10 co3 fo3
    obtain ⟨F2, hF⟩ : ∃ X : FrD, X = { F with sn := lt } := ⟨_, rfl⟩
    obtain ⟨S2, hS⟩ : ∃ X : FrS, X = { SF with sn := ⟨some ⟨gt, 0, none⟩, mt, ct⟩ } := ⟨_, rfl⟩
    have KFz : Hid (Blk x10 gf 25 [.int .i64 F2.kind, .int .i64 F2.id, .slice S2.cn.a S2.cn.n S2.cn.c, .slice S2.sn.a S2.sn.n S2.sn.c, .int .i64 F2.tick, .slice S2.cookie.a S2.cookie.n S2.cookie.c, .slice S2.proof.a S2.proof.n S2.proof.c, .int .i64 F2.epoch, .int .i64 F2.seq, .slice S2.body.a S2.body.n S2.body.c, .slice S2.tag.a S2.tag.n S2.tag.c]) := by rw [hF, hS]; exact KF10.out
    have IFz : Hid (FrIn x10 (go + 1) x10.heap.size S2 F2) := by rw [hF, hS]; exact ⟨(OF10.out.cn.mono (by have := hid8 L1 GA L2 HP L3 L4 L5 L6; have := hid5 L7 Ggf L8 L9 L10; omega) (by have := hid8 L1 GA L2 HP L3 L4 L5 L6; have := hid5 L7 Ggf L8 L9 L10; omega)), (Ot_10.out.mono (by have := hid8 L1 GA L2 HP L3 L4 L5 L6; have := hid5 L7 Ggf L8 L9 L10; omega) (by have := hid8 L1 GA L2 HP L3 L4 L5 L6; have := hid5 L7 Ggf L8 L9 L10; omega)), (OF10.out.cookie.mono (by have := hid8 L1 GA L2 HP L3 L4 L5 L6; have := hid5 L7 Ggf L8 L9 L10; omega) (by have := hid8 L1 GA L2 HP L3 L4 L5 L6; have := hid5 L7 Ggf L8 L9 L10; omega)), (OF10.out.proof.mono (by have := hid8 L1 GA L2 HP L3 L4 L5 L6; have := hid5 L7 Ggf L8 L9 L10; omega) (by have := hid8 L1 GA L2 HP L3 L4 L5 L6; have := hid5 L7 Ggf L8 L9 L10; omega)), (OF10.out.body.mono (by have := hid8 L1 GA L2 HP L3 L4 L5 L6; have := hid5 L7 Ggf L8 L9 L10; omega) (by have := hid8 L1 GA L2 HP L3 L4 L5 L6; have := hid5 L7 Ggf L8 L9 L10; omega)), (OF10.out.tag.mono (by have := hid8 L1 GA L2 HP L3 L4 L5 L6; have := hid5 L7 Ggf L8 L9 L10; omega) (by have := hid8 L1 GA L2 HP L3 L4 L5 L6; have := hid5 L7 Ggf L8 L9 L10; omega))⟩
    have KOz := hid (KO10.out)
    have OPz := hid (OP10.out)
    have Bz := hid (B10.out)
    have HSZz : Hid (w.heap.size ≤ go ∧ go + 1 ≤ x2.heap.size ∧ go < gf) := by have := hid8 L1 GA L2 HP L3 L4 L5 L6; have := hid5 L7 Ggf L8 L9 L10; show _ ∧ _; omega
    clear hF hS
    obtain ⟨xz, hxz⟩ : ∃ z, z = x10 := ⟨_, rfl⟩
    subst hxz
   case' false =>
    cases ev3 : (v == 3)
    case' true =>
     obtain rfl : v = 3 := by simpa using ev3
     have cb := KF8.out.cell 4 rfl
     have hw3 : IntKind.i64.wrap (F.tick + 1) = F.tick + 1 := by rw [IntKind.wrap_i64]; have := HFL.out; omega
     have co4 := KF8.out.cell 4 rfl
     have fo4 := KF8.out.frozen 4
     obtain ⟨x9, hx9⟩ : ∃ y, (x8.setCell ⟨gf, 4, none⟩ (.int .i64 (F.tick + 1))) = y := ⟨_, rfl⟩
     have HW9 := hid (hx9)
     have L9 : Hid (x9.heap.size = x8.heap.size) := by rw [← hx9]; show _ = _; simp
     have KS : Blk x9 gf 25 [.int .i64 F.kind, .int .i64 F.id, .slice SF.cn.a SF.cn.n SF.cn.c, .slice SF.sn.a SF.sn.n SF.sn.c, .int .i64 (F.tick + 1), .slice SF.cookie.a SF.cookie.n SF.cookie.c, .slice SF.proof.a SF.proof.n SF.proof.c, .int .i64 F.epoch, .int .i64 F.seq, .slice SF.body.a SF.body.n SF.body.c, .slice SF.tag.a SF.tag.n SF.tag.c] := by rw [← hx9]; exact (KF8.out.set 4 _ (by simp [maxLen]))
     have KQ : Kept gf (gf + 1) x8 x9 := by rw [← hx9]; exact (Kept.setCell _ _ _ _)
     clear hx9
     have B9 := hid (B8.out.trans (KQ.below (by have := hid8 L1 GA L2 HP L3 L4 L5 L6; have := hid4 L7 Ggf L8 L9; omega) B8.out.size))
     have KO9 := hid (KO8.out.keep (KQ.block _ KO8.out.lt (by have := hid8 L1 GA L2 HP L3 L4 L5 L6; have := hid4 L7 Ggf L8 L9; omega)))
     have R9 : Hid (Ready x1 a len cap l p x9) := rdyK R8.out KQ (by have := hid8 L1 GA L2 HP L3 L4 L5 L6; have := hid4 L7 Ggf L8 L9; omega)
     have OP9 := hid (OP8.out.carry KQ (by have := hid8 L1 GA L2 HP L3 L4 L5 L6; have := hid4 L7 Ggf L8 L9; omega))
     have OF9 := hid (OF8.out.carry KQ (by have := hid8 L1 GA L2 HP L3 L4 L5 L6; have := hid4 L7 Ggf L8 L9; omega))
     clear B8 KO8 R8 OP8 OF8 KQ
     clear KF8
     have KF9 := hid (KS)
     clear KS
     go_upto_region 19 with fail
     rw [HW9.out]
     clear HW9 co4 fo4
     obtain ⟨F2, hF⟩ : ∃ X : FrD, X = { F with tick := F.tick + 1 } := ⟨_, rfl⟩
     obtain ⟨S2, hS⟩ : ∃ X : FrS, X = SF := ⟨_, rfl⟩
     have KFz : Hid (Blk x9 gf 25 [.int .i64 F2.kind, .int .i64 F2.id, .slice S2.cn.a S2.cn.n S2.cn.c, .slice S2.sn.a S2.sn.n S2.sn.c, .int .i64 F2.tick, .slice S2.cookie.a S2.cookie.n S2.cookie.c, .slice S2.proof.a S2.proof.n S2.proof.c, .int .i64 F2.epoch, .int .i64 F2.seq, .slice S2.body.a S2.body.n S2.body.c, .slice S2.tag.a S2.tag.n S2.tag.c]) := by rw [hF, hS]; exact KF9.out
     have IFz : Hid (FrIn x9 (go + 1) x9.heap.size S2 F2) := by rw [hF, hS]; exact ⟨(OF9.out.cn.mono (by have := hid8 L1 GA L2 HP L3 L4 L5 L6; have := hid4 L7 Ggf L8 L9; omega) (by have := hid8 L1 GA L2 HP L3 L4 L5 L6; have := hid4 L7 Ggf L8 L9; omega)), (OF9.out.sn.mono (by have := hid8 L1 GA L2 HP L3 L4 L5 L6; have := hid4 L7 Ggf L8 L9; omega) (by have := hid8 L1 GA L2 HP L3 L4 L5 L6; have := hid4 L7 Ggf L8 L9; omega)), (OF9.out.cookie.mono (by have := hid8 L1 GA L2 HP L3 L4 L5 L6; have := hid4 L7 Ggf L8 L9; omega) (by have := hid8 L1 GA L2 HP L3 L4 L5 L6; have := hid4 L7 Ggf L8 L9; omega)), (OF9.out.proof.mono (by have := hid8 L1 GA L2 HP L3 L4 L5 L6; have := hid4 L7 Ggf L8 L9; omega) (by have := hid8 L1 GA L2 HP L3 L4 L5 L6; have := hid4 L7 Ggf L8 L9; omega)), (OF9.out.body.mono (by have := hid8 L1 GA L2 HP L3 L4 L5 L6; have := hid4 L7 Ggf L8 L9; omega) (by have := hid8 L1 GA L2 HP L3 L4 L5 L6; have := hid4 L7 Ggf L8 L9; omega)), (OF9.out.tag.mono (by have := hid8 L1 GA L2 HP L3 L4 L5 L6; have := hid4 L7 Ggf L8 L9; omega) (by have := hid8 L1 GA L2 HP L3 L4 L5 L6; have := hid4 L7 Ggf L8 L9; omega))⟩
     have KOz := hid (KO9.out)
     have OPz := hid (OP9.out)
     have Bz := hid (B9.out)
     have HSZz : Hid (w.heap.size ≤ go ∧ go + 1 ≤ x2.heap.size ∧ go < gf) := by have := hid8 L1 GA L2 HP L3 L4 L5 L6; have := hid4 L7 Ggf L8 L9; show _ ∧ _; omega
     clear hF hS
     obtain ⟨xz, hxz⟩ : ∃ z, z = x9 := ⟨_, rfl⟩
     subst hxz
    case' false =>
     cases ev4 : (v == 4)
     case' true =>
      obtain rfl : v = 4 := by simpa using ev4
      have cb := KF8.out.cell 5 rfl
      go_wp2_with fail
      refine (l1Bend R8.out SF.cookie.a SF.cookie.n SF.cookie.c F.cookie OF8.out.cookie.rd.len OF8.out.cookie.rd.rd OF8.out.cookie.rd.nil OF8.out.cookie.rd.bytes (by have := OF8.out.cookie.rd.len; have := HFL.out; omega)).mono ?_
      rintro e x9 ⟨gt, mt, ct, lt, rfl, el, _, hb, kg, row, r, b⟩
      have oN : SOwn x9 x8.heap.size x9.heap.size ⟨some ⟨gt, 0, none⟩, mt, ct⟩ lt := SOwn.row row el hb kg row.lt
      clear el hb kg row
      have L9 := hid (b.size)
      have KQ : Kept p (p + 1) x8 x9 := Kept.of_grown b
      have B9 : Hid (Below w.heap.size w x9) := But.below b B8.out (by have := hid8 L1 GA L2 HP L3 L4 L5 L6; have := hid4 L7 Ggf L8 L9; omega)
      have KO9 := hid (KO8.out.keep (KQ.block _ KO8.out.lt (by have := hid8 L1 GA L2 HP L3 L4 L5 L6; have := hid4 L7 Ggf L8 L9; omega)))
      have R9 := hid (r)
      have OP9 := hid (OP8.out.carry KQ (by have := hid8 L1 GA L2 HP L3 L4 L5 L6; have := hid4 L7 Ggf L8 L9; omega))
      have OF9 := hid (OF8.out.carry KQ (by have := hid8 L1 GA L2 HP L3 L4 L5 L6; have := hid4 L7 Ggf L8 L9; omega))
      have KF9 := hid (KF8.out.keep (KQ.block _ KF8.out.lt (by have := hid8 L1 GA L2 HP L3 L4 L5 L6; have := hid4 L7 Ggf L8 L9; omega)))
      clear B8 KO8 R8 OP8 OF8 KF8 b
      clear KQ r
      have Ot_9 := hid (oN)
      clear oN
      clear cb
      have co5 := KF9.out.cell 5 rfl
      have fo5 := KF9.out.frozen 5
      obtain ⟨x10, hx10⟩ : ∃ y, (x9.setCell ⟨gf, 5, none⟩ (.slice (some ⟨gt, 0, none⟩) mt ct)) = y := ⟨_, rfl⟩
      have HW10 := hid (hx10)
      have L10 : Hid (x10.heap.size = x9.heap.size) := by rw [← hx10]; show _ = _; simp
      have KS : Blk x10 gf 25 [.int .i64 F.kind, .int .i64 F.id, .slice SF.cn.a SF.cn.n SF.cn.c, .slice SF.sn.a SF.sn.n SF.sn.c, .int .i64 F.tick, .slice (some ⟨gt, 0, none⟩) mt ct, .slice SF.proof.a SF.proof.n SF.proof.c, .int .i64 F.epoch, .int .i64 F.seq, .slice SF.body.a SF.body.n SF.body.c, .slice SF.tag.a SF.tag.n SF.tag.c] := by rw [← hx10]; exact (KF9.out.set 5 _ (by simp [maxLen]))
      have KQ : Kept gf (gf + 1) x9 x10 := by rw [← hx10]; exact (Kept.setCell _ _ _ _)
      clear hx10
      have B10 := hid (B9.out.trans (KQ.below (by have := hid8 L1 GA L2 HP L3 L4 L5 L6; have := hid5 L7 Ggf L8 L9 L10; omega) B9.out.size))
      have KO10 := hid (KO9.out.keep (KQ.block _ KO9.out.lt (by have := hid8 L1 GA L2 HP L3 L4 L5 L6; have := hid5 L7 Ggf L8 L9 L10; omega)))
      have R10 : Hid (Ready x1 a len cap l p x10) := rdyK R9.out KQ (by have := hid8 L1 GA L2 HP L3 L4 L5 L6; have := hid5 L7 Ggf L8 L9 L10; omega)
      have OP10 := hid (OP9.out.carry KQ (by have := hid8 L1 GA L2 HP L3 L4 L5 L6; have := hid5 L7 Ggf L8 L9 L10; omega))
      have OF10 := hid (OF9.out.carry KQ (by have := hid8 L1 GA L2 HP L3 L4 L5 L6; have := hid5 L7 Ggf L8 L9 L10; omega))
      have Ot_10 := hid (Ot_9.out.carry KQ (by have := hid8 L1 GA L2 HP L3 L4 L5 L6; have := hid5 L7 Ggf L8 L9 L10; omega))
      clear B9 KO9 R9 OP9 OF9 Ot_9 KQ
      clear KF9
      have KF10 := hid (KS)
      clear KS
      go_upto_region 19 with fail
      rw [HW10.out]
      clear HW10 co5 fo5
      obtain ⟨F2, hF⟩ : ∃ X : FrD, X = { F with cookie := lt } := ⟨_, rfl⟩
      obtain ⟨S2, hS⟩ : ∃ X : FrS, X = { SF with cookie := ⟨some ⟨gt, 0, none⟩, mt, ct⟩ } := ⟨_, rfl⟩
      have KFz : Hid (Blk x10 gf 25 [.int .i64 F2.kind, .int .i64 F2.id, .slice S2.cn.a S2.cn.n S2.cn.c, .slice S2.sn.a S2.sn.n S2.sn.c, .int .i64 F2.tick, .slice S2.cookie.a S2.cookie.n S2.cookie.c, .slice S2.proof.a S2.proof.n S2.proof.c, .int .i64 F2.epoch, .int .i64 F2.seq, .slice S2.body.a S2.body.n S2.body.c, .slice S2.tag.a S2.tag.n S2.tag.c]) := by rw [hF, hS]; exact KF10.out
      have IFz : Hid (FrIn x10 (go + 1) x10.heap.size S2 F2) := by rw [hF, hS]; exact ⟨(OF10.out.cn.mono (by have := hid8 L1 GA L2 HP L3 L4 L5 L6; have := hid5 L7 Ggf L8 L9 L10; omega) (by have := hid8 L1 GA L2 HP L3 L4 L5 L6; have := hid5 L7 Ggf L8 L9 L10; omega)), (OF10.out.sn.mono (by have := hid8 L1 GA L2 HP L3 L4 L5 L6; have := hid5 L7 Ggf L8 L9 L10; omega) (by have := hid8 L1 GA L2 HP L3 L4 L5 L6; have := hid5 L7 Ggf L8 L9 L10; omega)), (Ot_10.out.mono (by have := hid8 L1 GA L2 HP L3 L4 L5 L6; have := hid5 L7 Ggf L8 L9 L10; omega) (by have := hid8 L1 GA L2 HP L3 L4 L5 L6; have := hid5 L7 Ggf L8 L9 L10; omega)), (OF10.out.proof.mono (by have := hid8 L1 GA L2 HP L3 L4 L5 L6; have := hid5 L7 Ggf L8 L9 L10; omega) (by have := hid8 L1 GA L2 HP L3 L4 L5 L6; have := hid5 L7 Ggf L8 L9 L10; omega)), (OF10.out.body.mono (by have := hid8 L1 GA L2 HP L3 L4 L5 L6; have := hid5 L7 Ggf L8 L9 L10; omega) (by have := hid8 L1 GA L2 HP L3 L4 L5 L6; have := hid5 L7 Ggf L8 L9 L10; omega)), (OF10.out.tag.mono (by have := hid8 L1 GA L2 HP L3 L4 L5 L6; have := hid5 L7 Ggf L8 L9 L10; omega) (by have := hid8 L1 GA L2 HP L3 L4 L5 L6; have := hid5 L7 Ggf L8 L9 L10; omega))⟩
      have KOz := hid (KO10.out)
      have OPz := hid (OP10.out)
      have Bz := hid (B10.out)
      have HSZz : Hid (w.heap.size ≤ go ∧ go + 1 ≤ x2.heap.size ∧ go < gf) := by have := hid8 L1 GA L2 HP L3 L4 L5 L6; have := hid5 L7 Ggf L8 L9 L10; show _ ∧ _; omega
      clear hF hS
      obtain ⟨xz, hxz⟩ : ∃ z, z = x10 := ⟨_, rfl⟩
      subst hxz
     case' false =>
      cases ev5 : (v == 5)
      case' true =>
       obtain rfl : v = 5 := by simpa using ev5
       have cb := KF8.out.cell 6 rfl
       go_wp2_with fail
       refine (l1Bend R8.out SF.proof.a SF.proof.n SF.proof.c F.proof OF8.out.proof.rd.len OF8.out.proof.rd.rd OF8.out.proof.rd.nil OF8.out.proof.rd.bytes (by have := OF8.out.proof.rd.len; have := HFL.out; omega)).mono ?_
       rintro e x9 ⟨gt, mt, ct, lt, rfl, el, _, hb, kg, row, r, b⟩
       have oN : SOwn x9 x8.heap.size x9.heap.size ⟨some ⟨gt, 0, none⟩, mt, ct⟩ lt := SOwn.row row el hb kg row.lt
       clear el hb kg row
       have L9 := hid (b.size)
       have KQ : Kept p (p + 1) x8 x9 := Kept.of_grown b
       have B9 : Hid (Below w.heap.size w x9) := But.below b B8.out (by have := hid8 L1 GA L2 HP L3 L4 L5 L6; have := hid4 L7 Ggf L8 L9; omega)
       have KO9 := hid (KO8.out.keep (KQ.block _ KO8.out.lt (by have := hid8 L1 GA L2 HP L3 L4 L5 L6; have := hid4 L7 Ggf L8 L9; omega)))
       have R9 := hid (r)
       have OP9 := hid (OP8.out.carry KQ (by have := hid8 L1 GA L2 HP L3 L4 L5 L6; have := hid4 L7 Ggf L8 L9; omega))
       have OF9 := hid (OF8.out.carry KQ (by have := hid8 L1 GA L2 HP L3 L4 L5 L6; have := hid4 L7 Ggf L8 L9; omega))
       have KF9 := hid (KF8.out.keep (KQ.block _ KF8.out.lt (by have := hid8 L1 GA L2 HP L3 L4 L5 L6; have := hid4 L7 Ggf L8 L9; omega)))
       clear B8 KO8 R8 OP8 OF8 KF8 b
       clear KQ r
       have Ot_9 := hid (oN)
       clear oN
       clear cb
       have co6 := KF9.out.cell 6 rfl
       have fo6 := KF9.out.frozen 6
       obtain ⟨x10, hx10⟩ : ∃ y, (x9.setCell ⟨gf, 6, none⟩ (.slice (some ⟨gt, 0, none⟩) mt ct)) = y := ⟨_, rfl⟩
       have HW10 := hid (hx10)
       have L10 : Hid (x10.heap.size = x9.heap.size) := by rw [← hx10]; show _ = _; simp
       have KS : Blk x10 gf 25 [.int .i64 F.kind, .int .i64 F.id, .slice SF.cn.a SF.cn.n SF.cn.c, .slice SF.sn.a SF.sn.n SF.sn.c, .int .i64 F.tick, .slice SF.cookie.a SF.cookie.n SF.cookie.c, .slice (some ⟨gt, 0, none⟩) mt ct, .int .i64 F.epoch, .int .i64 F.seq, .slice SF.body.a SF.body.n SF.body.c, .slice SF.tag.a SF.tag.n SF.tag.c] := by rw [← hx10]; exact (KF9.out.set 6 _ (by simp [maxLen]))
       have KQ : Kept gf (gf + 1) x9 x10 := by rw [← hx10]; exact (Kept.setCell _ _ _ _)
       clear hx10
       have B10 := hid (B9.out.trans (KQ.below (by have := hid8 L1 GA L2 HP L3 L4 L5 L6; have := hid5 L7 Ggf L8 L9 L10; omega) B9.out.size))
       have KO10 := hid (KO9.out.keep (KQ.block _ KO9.out.lt (by have := hid8 L1 GA L2 HP L3 L4 L5 L6; have := hid5 L7 Ggf L8 L9 L10; omega)))
       have R10 : Hid (Ready x1 a len cap l p x10) := rdyK R9.out KQ (by have := hid8 L1 GA L2 HP L3 L4 L5 L6; have := hid5 L7 Ggf L8 L9 L10; omega)
       have OP10 := hid (OP9.out.carry KQ (by have := hid8 L1 GA L2 HP L3 L4 L5 L6; have := hid5 L7 Ggf L8 L9 L10; omega))
       have OF10 := hid (OF9.out.carry KQ (by have := hid8 L1 GA L2 HP L3 L4 L5 L6; have := hid5 L7 Ggf L8 L9 L10; omega))
       have Ot_10 := hid (Ot_9.out.carry KQ (by have := hid8 L1 GA L2 HP L3 L4 L5 L6; have := hid5 L7 Ggf L8 L9 L10; omega))
       clear B9 KO9 R9 OP9 OF9 Ot_9 KQ
       clear KF9
       have KF10 := hid (KS)
       clear KS
       go_upto_region 19 with fail
       rw [HW10.out]
       clear HW10 co6 fo6
       obtain ⟨F2, hF⟩ : ∃ X : FrD, X = { F with proof := lt } := ⟨_, rfl⟩
       obtain ⟨S2, hS⟩ : ∃ X : FrS, X = { SF with proof := ⟨some ⟨gt, 0, none⟩, mt, ct⟩ } := ⟨_, rfl⟩
       have KFz : Hid (Blk x10 gf 25 [.int .i64 F2.kind, .int .i64 F2.id, .slice S2.cn.a S2.cn.n S2.cn.c, .slice S2.sn.a S2.sn.n S2.sn.c, .int .i64 F2.tick, .slice S2.cookie.a S2.cookie.n S2.cookie.c, .slice S2.proof.a S2.proof.n S2.proof.c, .int .i64 F2.epoch, .int .i64 F2.seq, .slice S2.body.a S2.body.n S2.body.c, .slice S2.tag.a S2.tag.n S2.tag.c]) := by rw [hF, hS]; exact KF10.out
       have IFz : Hid (FrIn x10 (go + 1) x10.heap.size S2 F2) := by rw [hF, hS]; exact ⟨(OF10.out.cn.mono (by have := hid8 L1 GA L2 HP L3 L4 L5 L6; have := hid5 L7 Ggf L8 L9 L10; omega) (by have := hid8 L1 GA L2 HP L3 L4 L5 L6; have := hid5 L7 Ggf L8 L9 L10; omega)), (OF10.out.sn.mono (by have := hid8 L1 GA L2 HP L3 L4 L5 L6; have := hid5 L7 Ggf L8 L9 L10; omega) (by have := hid8 L1 GA L2 HP L3 L4 L5 L6; have := hid5 L7 Ggf L8 L9 L10; omega)), (OF10.out.cookie.mono (by have := hid8 L1 GA L2 HP L3 L4 L5 L6; have := hid5 L7 Ggf L8 L9 L10; omega) (by have := hid8 L1 GA L2 HP L3 L4 L5 L6; have := hid5 L7 Ggf L8 L9 L10; omega)), (Ot_10.out.mono (by have := hid8 L1 GA L2 HP L3 L4 L5 L6; have := hid5 L7 Ggf L8 L9 L10; omega) (by have := hid8 L1 GA L2 HP L3 L4 L5 L6; have := hid5 L7 Ggf L8 L9 L10; omega)), (OF10.out.body.mono (by have := hid8 L1 GA L2 HP L3 L4 L5 L6; have := hid5 L7 Ggf L8 L9 L10; omega) (by have := hid8 L1 GA L2 HP L3 L4 L5 L6; have := hid5 L7 Ggf L8 L9 L10; omega)), (OF10.out.tag.mono (by have := hid8 L1 GA L2 HP L3 L4 L5 L6; have := hid5 L7 Ggf L8 L9 L10; omega) (by have := hid8 L1 GA L2 HP L3 L4 L5 L6; have := hid5 L7 Ggf L8 L9 L10; omega))⟩
       have KOz := hid (KO10.out)
       have OPz := hid (OP10.out)
       have Bz := hid (B10.out)
       have HSZz : Hid (w.heap.size ≤ go ∧ go + 1 ≤ x2.heap.size ∧ go < gf) := by have := hid8 L1 GA L2 HP L3 L4 L5 L6; have := hid5 L7 Ggf L8 L9 L10; show _ ∧ _; omega
       clear hF hS
       obtain ⟨xz, hxz⟩ : ∃ z, z = x10 := ⟨_, rfl⟩
       subst hxz
      case' false =>
       cases ev6 : (v == 6)
       case' true =>
        obtain rfl : v = 6 := by simpa using ev6
        go_wp2_with fail
        refine (l7Any R8.out).mono ?_
        rintro e x9 ⟨DG, SG, rfl, oi, r, b⟩
        unfold frV
        have L9 := hid (b.size)
        have KQ : Kept p (p + 1) x8 x9 := Kept.of_grown b
        have B9 : Hid (Below w.heap.size w x9) := But.below b B8.out (by have := hid8 L1 GA L2 HP L3 L4 L5 L6; have := hid4 L7 Ggf L8 L9; omega)
        have KO9 := hid (KO8.out.keep (KQ.block _ KO8.out.lt (by have := hid8 L1 GA L2 HP L3 L4 L5 L6; have := hid4 L7 Ggf L8 L9; omega)))
        have R9 := hid (r)
        have OP9 := hid (OP8.out.carry KQ (by have := hid8 L1 GA L2 HP L3 L4 L5 L6; have := hid4 L7 Ggf L8 L9; omega))
        have OF9 := hid (OF8.out.carry KQ (by have := hid8 L1 GA L2 HP L3 L4 L5 L6; have := hid4 L7 Ggf L8 L9; omega))
        have KF9 := hid (KF8.out.keep (KQ.block _ KF8.out.lt (by have := hid8 L1 GA L2 HP L3 L4 L5 L6; have := hid4 L7 Ggf L8 L9; omega)))
        clear B8 KO8 R8 OP8 OF8 KF8 b
        clear KQ r
        have OG9 := hid (oi)
        clear oi
        have co0 := KF9.out.cell 0 rfl
        have fo0 := KF9.out.frozen 0
        have co1 := KF9.out.cell 1 rfl
        have fo1 := KF9.out.frozen 1
        have co2 := KF9.out.cell 2 rfl
        have fo2 := KF9.out.frozen 2
        have co3 := KF9.out.cell 3 rfl
        have fo3 := KF9.out.frozen 3
        have co4 := KF9.out.cell 4 rfl
        have fo4 := KF9.out.frozen 4
        have co5 := KF9.out.cell 5 rfl
        have fo5 := KF9.out.frozen 5
        have co6 := KF9.out.cell 6 rfl
        have fo6 := KF9.out.frozen 6
        have co7 := KF9.out.cell 7 rfl
        have fo7 := KF9.out.frozen 7
        have co8 := KF9.out.cell 8 rfl
        have fo8 := KF9.out.frozen 8
        have co9 := KF9.out.cell 9 rfl
        have fo9 := KF9.out.frozen 9
        have co10 := KF9.out.cell 10 rfl
        have fo10 := KF9.out.frozen 10
        obtain ⟨x10, hx10⟩ : ∃ y, (((((((((((x9.setCell ⟨gf, 0, none⟩ (.int .i64 DG.kind)).setCell ⟨gf, 1, none⟩ (.int .i64 DG.id)).setCell ⟨gf, 2, none⟩ (.slice SG.cn.a SG.cn.n SG.cn.c)).setCell ⟨gf, 3, none⟩ (.slice SG.sn.a SG.sn.n SG.sn.c)).setCell ⟨gf, 4, none⟩ (.int .i64 DG.tick)).setCell ⟨gf, 5, none⟩ (.slice SG.cookie.a SG.cookie.n SG.cookie.c)).setCell ⟨gf, 6, none⟩ (.slice SG.proof.a SG.proof.n SG.proof.c)).setCell ⟨gf, 7, none⟩ (.int .i64 DG.epoch)).setCell ⟨gf, 8, none⟩ (.int .i64 DG.seq)).setCell ⟨gf, 9, none⟩ (.slice SG.body.a SG.body.n SG.body.c)).setCell ⟨gf, 10, none⟩ (.slice SG.tag.a SG.tag.n SG.tag.c)) = y := ⟨_, rfl⟩
        have HW10 := hid (hx10)
        have L10 : Hid (x10.heap.size = x9.heap.size) := by rw [← hx10]; show _ = _; simp
        have KS : Blk x10 gf 25 [.int .i64 DG.kind, .int .i64 DG.id, .slice SG.cn.a SG.cn.n SG.cn.c, .slice SG.sn.a SG.sn.n SG.sn.c, .int .i64 DG.tick, .slice SG.cookie.a SG.cookie.n SG.cookie.c, .slice SG.proof.a SG.proof.n SG.proof.c, .int .i64 DG.epoch, .int .i64 DG.seq, .slice SG.body.a SG.body.n SG.body.c, .slice SG.tag.a SG.tag.n SG.tag.c] := by rw [← hx10]; exact (((((((((((KF9.out.set 0 _ (by simp [maxLen])).set 1 _ (by simp [maxLen])).set 2 _ (by simp [maxLen])).set 3 _ (by simp [maxLen])).set 4 _ (by simp [maxLen])).set 5 _ (by simp [maxLen])).set 6 _ (by simp [maxLen])).set 7 _ (by simp [maxLen])).set 8 _ (by simp [maxLen])).set 9 _ (by simp [maxLen])).set 10 _ (by simp [maxLen]))
        have KQ : Kept gf (gf + 1) x9 x10 := by rw [← hx10]; exact (((((((((((Kept.setCell _ _ _ _).trans (Kept.setCell _ _ _ _)).trans (Kept.setCell _ _ _ _)).trans (Kept.setCell _ _ _ _)).trans (Kept.setCell _ _ _ _)).trans (Kept.setCell _ _ _ _)).trans (Kept.setCell _ _ _ _)).trans (Kept.setCell _ _ _ _)).trans (Kept.setCell _ _ _ _)).trans (Kept.setCell _ _ _ _)).trans (Kept.setCell _ _ _ _))
        clear hx10
        have B10 := hid (B9.out.trans (KQ.below (by have := hid8 L1 GA L2 HP L3 L4 L5 L6; have := hid5 L7 Ggf L8 L9 L10; omega) B9.out.size))
        have KO10 := hid (KO9.out.keep (KQ.block _ KO9.out.lt (by have := hid8 L1 GA L2 HP L3 L4 L5 L6; have := hid5 L7 Ggf L8 L9 L10; omega)))
        have R10 : Hid (Ready x1 a len cap l p x10) := rdyK R9.out KQ (by have := hid8 L1 GA L2 HP L3 L4 L5 L6; have := hid5 L7 Ggf L8 L9 L10; omega)
        have OP10 := hid (OP9.out.carry KQ (by have := hid8 L1 GA L2 HP L3 L4 L5 L6; have := hid5 L7 Ggf L8 L9 L10; omega))
        have OF10 := hid (OF9.out.carry KQ (by have := hid8 L1 GA L2 HP L3 L4 L5 L6; have := hid5 L7 Ggf L8 L9 L10; omega))
        have OG10 := hid (OG9.out.carry KQ (by have := hid8 L1 GA L2 HP L3 L4 L5 L6; have := hid5 L7 Ggf L8 L9 L10; omega))
        clear B9 KO9 R9 OP9 OF9 OG9 KQ
        clear KF9
        have KF10 := hid (KS)
        clear KS
        go_upto_region 19 with fail
        rw [HW10.out]
        clear HW10 co0 fo0 co1 fo1 co2 fo2 co3 fo3 co4 fo4 co5 fo5 co6 fo6 co7 fo7 co8 fo8 co9 fo9 co10 fo10
        obtain ⟨F2, hF⟩ : ∃ X : FrD, X = DG := ⟨_, rfl⟩
        obtain ⟨S2, hS⟩ : ∃ X : FrS, X = SG := ⟨_, rfl⟩
        have KFz : Hid (Blk x10 gf 25 [.int .i64 F2.kind, .int .i64 F2.id, .slice S2.cn.a S2.cn.n S2.cn.c, .slice S2.sn.a S2.sn.n S2.sn.c, .int .i64 F2.tick, .slice S2.cookie.a S2.cookie.n S2.cookie.c, .slice S2.proof.a S2.proof.n S2.proof.c, .int .i64 F2.epoch, .int .i64 F2.seq, .slice S2.body.a S2.body.n S2.body.c, .slice S2.tag.a S2.tag.n S2.tag.c]) := by rw [hF, hS]; exact KF10.out
        have IFz : Hid (FrIn x10 (go + 1) x10.heap.size S2 F2) := by rw [hF, hS]; exact OG10.out.mono (by have := hid8 L1 GA L2 HP L3 L4 L5 L6; have := hid5 L7 Ggf L8 L9 L10; omega) (by have := hid8 L1 GA L2 HP L3 L4 L5 L6; have := hid5 L7 Ggf L8 L9 L10; omega)
        have KOz := hid (KO10.out)
        have OPz := hid (OP10.out)
        have Bz := hid (B10.out)
        have HSZz : Hid (w.heap.size ≤ go ∧ go + 1 ≤ x2.heap.size ∧ go < gf) := by have := hid8 L1 GA L2 HP L3 L4 L5 L6; have := hid5 L7 Ggf L8 L9 L10; show _ ∧ _; omega
        clear hF hS
        obtain ⟨xz, hxz⟩ : ∃ z, z = x10 := ⟨_, rfl⟩
        subst hxz
       case' false =>
        go_upto_region 19 with fail
        obtain ⟨F2, hF⟩ : ∃ X : FrD, X = F := ⟨_, rfl⟩
        obtain ⟨S2, hS⟩ : ∃ X : FrS, X = SF := ⟨_, rfl⟩
        have KFz : Hid (Blk x8 gf 25 [.int .i64 F2.kind, .int .i64 F2.id, .slice S2.cn.a S2.cn.n S2.cn.c, .slice S2.sn.a S2.sn.n S2.sn.c, .int .i64 F2.tick, .slice S2.cookie.a S2.cookie.n S2.cookie.c, .slice S2.proof.a S2.proof.n S2.proof.c, .int .i64 F2.epoch, .int .i64 F2.seq, .slice S2.body.a S2.body.n S2.body.c, .slice S2.tag.a S2.tag.n S2.tag.c]) := by rw [hF, hS]; exact KF8.out
        have IFz : Hid (FrIn x8 (go + 1) x8.heap.size S2 F2) := by rw [hF, hS]; exact ⟨(OF8.out.cn.mono (by have := hid8 L1 GA L2 HP L3 L4 L5 L6; have := hid3 L7 Ggf L8; omega) (by have := hid8 L1 GA L2 HP L3 L4 L5 L6; have := hid3 L7 Ggf L8; omega)), (OF8.out.sn.mono (by have := hid8 L1 GA L2 HP L3 L4 L5 L6; have := hid3 L7 Ggf L8; omega) (by have := hid8 L1 GA L2 HP L3 L4 L5 L6; have := hid3 L7 Ggf L8; omega)), (OF8.out.cookie.mono (by have := hid8 L1 GA L2 HP L3 L4 L5 L6; have := hid3 L7 Ggf L8; omega) (by have := hid8 L1 GA L2 HP L3 L4 L5 L6; have := hid3 L7 Ggf L8; omega)), (OF8.out.proof.mono (by have := hid8 L1 GA L2 HP L3 L4 L5 L6; have := hid3 L7 Ggf L8; omega) (by have := hid8 L1 GA L2 HP L3 L4 L5 L6; have := hid3 L7 Ggf L8; omega)), (OF8.out.body.mono (by have := hid8 L1 GA L2 HP L3 L4 L5 L6; have := hid3 L7 Ggf L8; omega) (by have := hid8 L1 GA L2 HP L3 L4 L5 L6; have := hid3 L7 Ggf L8; omega)), (OF8.out.tag.mono (by have := hid8 L1 GA L2 HP L3 L4 L5 L6; have := hid3 L7 Ggf L8; omega) (by have := hid8 L1 GA L2 HP L3 L4 L5 L6; have := hid3 L7 Ggf L8; omega))⟩
        have KOz := hid (KO8.out)
        have OPz := hid (OP8.out)
        have Bz := hid (B8.out)
        have HSZz : Hid (w.heap.size ≤ go ∧ go + 1 ≤ x2.heap.size ∧ go < gf) := by have := hid8 L1 GA L2 HP L3 L4 L5 L6; have := hid3 L7 Ggf L8; show _ ∧ _; omega
        clear hF hS
        obtain ⟨xz, hxz⟩ : ∃ z, z = x8 := ⟨_, rfl⟩
        subst hxz
 all_goals
  have NEgf_go : gf ≠ go := by have := HSZz.out; omega
  have z_Bgf := KFz.out
  obtain ⟨z_gf_0, z_gf_1, z_gf_2, z_gf_3, z_gf_4, z_gf_5, z_gf_6, z_gf_7, z_gf_8, z_gf_9, z_gf_10⟩ := cells11 z_Bgf
  clear z_Bgf
  have zd_Bgf := drewB KFz.out
  have zd_gf_0 := hide (zd_Bgf.cell 0 rfl)
  have zd_gf_1 := hide (zd_Bgf.cell 1 rfl)
  have zd_gf_2 := hide (zd_Bgf.cell 2 rfl)
  have zd_gf_3 := hide (zd_Bgf.cell 3 rfl)
  have zd_gf_4 := hide (zd_Bgf.cell 4 rfl)
  have zd_gf_5 := hide (zd_Bgf.cell 5 rfl)
  have zd_gf_6 := hide (zd_Bgf.cell 6 rfl)
  have zd_gf_7 := hide (zd_Bgf.cell 7 rfl)
  have zd_gf_8 := hide (zd_Bgf.cell 8 rfl)
  have zd_gf_9 := hide (zd_Bgf.cell 9 rfl)
  have zd_gf_10 := hide (zd_Bgf.cell 10 rfl)
  clear zd_Bgf
  have KZKO := KOz.out
  have uKO0 := KZKO.cell 0 rfl
  have vKO0 := KZKO.frozen 0
  have uKO1 := KZKO.cell 1 rfl
  have vKO1 := KZKO.frozen 1
  have uKO2 := KZKO.cell 2 rfl
  have vKO2 := KZKO.frozen 2
  have uKO3 := KZKO.cell 3 rfl
  have vKO3 := KZKO.frozen 3
  have uKO4 := KZKO.cell 4 rfl
  have vKO4 := KZKO.frozen 4
  have uKO5 := KZKO.cell 5 rfl
  have vKO5 := KZKO.frozen 5
  have uKO6 := KZKO.cell 6 rfl
  have vKO6 := KZKO.frozen 6
  have uKO7 := KZKO.cell 7 rfl
  have vKO7 := KZKO.frozen 7
  have uKO8 := KZKO.cell 8 rfl
  have vKO8 := KZKO.frozen 8
  have uKO9 := KZKO.cell 9 rfl
  have vKO9 := KZKO.frozen 9
  have uKO10 := KZKO.cell 10 rfl
  have vKO10 := KZKO.frozen 10
  have s0_Bgf := (Blk.other (a := ⟨go, 10, none⟩) (Blk.other (a := ⟨go, 9, none⟩) (Blk.other (a := ⟨go, 8, none⟩) (Blk.other (a := ⟨go, 7, none⟩) (Blk.other (a := ⟨go, 6, none⟩) (Blk.other (a := ⟨go, 5, none⟩) (Blk.other (a := ⟨go, 4, none⟩) (Blk.other (a := ⟨go, 3, none⟩) (Blk.other (a := ⟨go, 2, none⟩) (Blk.other (a := ⟨go, 1, none⟩) (Blk.other (a := ⟨go, 0, none⟩) KFz.out NEgf_go (.int .i64 F2.kind)) NEgf_go (.int .i64 F2.id)) NEgf_go (.slice S2.cn.a S2.cn.n S2.cn.c)) NEgf_go (.slice S2.sn.a S2.sn.n S2.sn.c)) NEgf_go (.int .i64 F2.tick)) NEgf_go (.slice S2.cookie.a S2.cookie.n S2.cookie.c)) NEgf_go (.slice S2.proof.a S2.proof.n S2.proof.c)) NEgf_go (.int .i64 F2.epoch)) NEgf_go (.int .i64 F2.seq)) NEgf_go (.slice S2.body.a S2.body.n S2.body.c)) NEgf_go (.slice S2.tag.a S2.tag.n S2.tag.c))
  have s0_gf_0 := hide (s0_Bgf.cell 0 rfl)
  have s0_gf_1 := hide (s0_Bgf.cell 1 rfl)
  have s0_gf_2 := hide (s0_Bgf.cell 2 rfl)
  have s0_gf_3 := hide (s0_Bgf.cell 3 rfl)
  have s0_gf_4 := hide (s0_Bgf.cell 4 rfl)
  have s0_gf_5 := hide (s0_Bgf.cell 5 rfl)
  have s0_gf_6 := hide (s0_Bgf.cell 6 rfl)
  have s0_gf_7 := hide (s0_Bgf.cell 7 rfl)
  have s0_gf_8 := hide (s0_Bgf.cell 8 rfl)
  have s0_gf_9 := hide (s0_Bgf.cell 9 rfl)
  have s0_gf_10 := hide (s0_Bgf.cell 10 rfl)
  clear s0_Bgf
  have sd0_Bgf := drewB ((Blk.other (a := ⟨go, 10, none⟩) (Blk.other (a := ⟨go, 9, none⟩) (Blk.other (a := ⟨go, 8, none⟩) (Blk.other (a := ⟨go, 7, none⟩) (Blk.other (a := ⟨go, 6, none⟩) (Blk.other (a := ⟨go, 5, none⟩) (Blk.other (a := ⟨go, 4, none⟩) (Blk.other (a := ⟨go, 3, none⟩) (Blk.other (a := ⟨go, 2, none⟩) (Blk.other (a := ⟨go, 1, none⟩) (Blk.other (a := ⟨go, 0, none⟩) KFz.out NEgf_go (.int .i64 F2.kind)) NEgf_go (.int .i64 F2.id)) NEgf_go (.slice S2.cn.a S2.cn.n S2.cn.c)) NEgf_go (.slice S2.sn.a S2.sn.n S2.sn.c)) NEgf_go (.int .i64 F2.tick)) NEgf_go (.slice S2.cookie.a S2.cookie.n S2.cookie.c)) NEgf_go (.slice S2.proof.a S2.proof.n S2.proof.c)) NEgf_go (.int .i64 F2.epoch)) NEgf_go (.int .i64 F2.seq)) NEgf_go (.slice S2.body.a S2.body.n S2.body.c)) NEgf_go (.slice S2.tag.a S2.tag.n S2.tag.c)))
  have sd0_gf_0 := hide (sd0_Bgf.cell 0 rfl)
  have sd0_gf_1 := hide (sd0_Bgf.cell 1 rfl)
  have sd0_gf_2 := hide (sd0_Bgf.cell 2 rfl)
  have sd0_gf_3 := hide (sd0_Bgf.cell 3 rfl)
  have sd0_gf_4 := hide (sd0_Bgf.cell 4 rfl)
  have sd0_gf_5 := hide (sd0_Bgf.cell 5 rfl)
  have sd0_gf_6 := hide (sd0_Bgf.cell 6 rfl)
  have sd0_gf_7 := hide (sd0_Bgf.cell 7 rfl)
  have sd0_gf_8 := hide (sd0_Bgf.cell 8 rfl)
  have sd0_gf_9 := hide (sd0_Bgf.cell 9 rfl)
  have sd0_gf_10 := hide (sd0_Bgf.cell 10 rfl)
  clear sd0_Bgf
  go_upto_region 19 with fail
  go_region_held3 (fun w' => w'.cell? ⟨gf, 0, none⟩ = some (.int .i64 F2.kind) ∧ w'.cell? ⟨gf, 1, none⟩ = some (.int .i64 F2.id) ∧ w'.cell? ⟨gf, 2, none⟩ = some (.slice S2.cn.a S2.cn.n S2.cn.c) ∧ w'.cell? ⟨gf, 3, none⟩ = some (.slice S2.sn.a S2.sn.n S2.sn.c) ∧ w'.cell? ⟨gf, 4, none⟩ = some (.int .i64 F2.tick) ∧ w'.cell? ⟨gf, 5, none⟩ = some (.slice S2.cookie.a S2.cookie.n S2.cookie.c) ∧ w'.cell? ⟨gf, 6, none⟩ = some (.slice S2.proof.a S2.proof.n S2.proof.c) ∧ w'.cell? ⟨gf, 7, none⟩ = some (.int .i64 F2.epoch) ∧ w'.cell? ⟨gf, 8, none⟩ = some (.int .i64 F2.seq) ∧ w'.cell? ⟨gf, 9, none⟩ = some (.slice S2.body.a S2.body.n S2.body.c) ∧ w'.cell? ⟨gf, 10, none⟩ = some (.slice S2.tag.a S2.tag.n S2.tag.c)) (first | with_reducible exact ⟨sd0_gf_0.out, sd0_gf_1.out, sd0_gf_2.out, sd0_gf_3.out, sd0_gf_4.out, sd0_gf_5.out, sd0_gf_6.out, sd0_gf_7.out, sd0_gf_8.out, sd0_gf_9.out, sd0_gf_10.out⟩ | with_reducible exact ⟨s0_gf_0.out, s0_gf_1.out, s0_gf_2.out, s0_gf_3.out, s0_gf_4.out, s0_gf_5.out, s0_gf_6.out, s0_gf_7.out, s0_gf_8.out, s0_gf_9.out, s0_gf_10.out⟩ | with_reducible exact ⟨zd_gf_0.out, zd_gf_1.out, zd_gf_2.out, zd_gf_3.out, zd_gf_4.out, zd_gf_5.out, zd_gf_6.out, zd_gf_7.out, zd_gf_8.out, zd_gf_9.out, zd_gf_10.out⟩ | with_reducible exact ⟨z_gf_0, z_gf_1, z_gf_2, z_gf_3, z_gf_4, z_gf_5, z_gf_6, z_gf_7, z_gf_8, z_gf_9, z_gf_10⟩ | go_keep) (fail)
  clear z_gf_0 z_gf_1 z_gf_2 z_gf_3 z_gf_4 z_gf_5 z_gf_6 z_gf_7 z_gf_8 z_gf_9 z_gf_10 zd_gf_0 zd_gf_1 zd_gf_2 zd_gf_3 zd_gf_4 zd_gf_5 zd_gf_6 zd_gf_7 zd_gf_8 zd_gf_9 zd_gf_10 uKO0 vKO0 uKO1 vKO1 uKO2 vKO2 uKO3 vKO3 uKO4 vKO4 uKO5 vKO5 uKO6 vKO6 uKO7 vKO7 uKO8 vKO8 uKO9 vKO9 uKO10 vKO10 s0_gf_0 s0_gf_1 s0_gf_2 s0_gf_3 s0_gf_4 s0_gf_5 s0_gf_6 s0_gf_7 s0_gf_8 s0_gf_9 s0_gf_10 sd0_gf_0 sd0_gf_1 sd0_gf_2 sd0_gf_3 sd0_gf_4 sd0_gf_5 sd0_gf_6 sd0_gf_7 sd0_gf_8 sd0_gf_9 sd0_gf_10
  have KXKO := (((((((((((KZKO.set 0 (.int .i64 F2.kind) (by simp [maxLen])).set 1 (.int .i64 F2.id) (by simp [maxLen])).set 2 (.slice S2.cn.a S2.cn.n S2.cn.c) (by simp [maxLen])).set 3 (.slice S2.sn.a S2.sn.n S2.sn.c) (by simp [maxLen])).set 4 (.int .i64 F2.tick) (by simp [maxLen])).set 5 (.slice S2.cookie.a S2.cookie.n S2.cookie.c) (by simp [maxLen])).set 6 (.slice S2.proof.a S2.proof.n S2.proof.c) (by simp [maxLen])).set 7 (.int .i64 F2.epoch) (by simp [maxLen])).set 8 (.int .i64 F2.seq) (by simp [maxLen])).set 9 (.slice S2.body.a S2.body.n S2.body.c) (by simp [maxLen])).set 10 (.slice S2.tag.a S2.tag.n S2.tag.c) (by simp [maxLen]))
  go_wp2
  have KZ := (show Kept go (go + 1) xz (((((((((((xz.setCell ⟨go, 0, none⟩ (.int .i64 F2.kind)).setCell ⟨go, 1, none⟩ (.int .i64 F2.id)).setCell ⟨go, 2, none⟩ (.slice S2.cn.a S2.cn.n S2.cn.c)).setCell ⟨go, 3, none⟩ (.slice S2.sn.a S2.sn.n S2.sn.c)).setCell ⟨go, 4, none⟩ (.int .i64 F2.tick)).setCell ⟨go, 5, none⟩ (.slice S2.cookie.a S2.cookie.n S2.cookie.c)).setCell ⟨go, 6, none⟩ (.slice S2.proof.a S2.proof.n S2.proof.c)).setCell ⟨go, 7, none⟩ (.int .i64 F2.epoch)).setCell ⟨go, 8, none⟩ (.int .i64 F2.seq)).setCell ⟨go, 9, none⟩ (.slice S2.body.a S2.body.n S2.body.c)).setCell ⟨go, 10, none⟩ (.slice S2.tag.a S2.tag.n S2.tag.c)) from (((((((((((Kept.mono (Kept.setCell _ go 0 (.int .i64 F2.kind)) (by omega) (by omega)).trans (Kept.mono (Kept.setCell _ go 1 (.int .i64 F2.id)) (by omega) (by omega))).trans (Kept.mono (Kept.setCell _ go 2 (.slice S2.cn.a S2.cn.n S2.cn.c)) (by omega) (by omega))).trans (Kept.mono (Kept.setCell _ go 3 (.slice S2.sn.a S2.sn.n S2.sn.c)) (by omega) (by omega))).trans (Kept.mono (Kept.setCell _ go 4 (.int .i64 F2.tick)) (by omega) (by omega))).trans (Kept.mono (Kept.setCell _ go 5 (.slice S2.cookie.a S2.cookie.n S2.cookie.c)) (by omega) (by omega))).trans (Kept.mono (Kept.setCell _ go 6 (.slice S2.proof.a S2.proof.n S2.proof.c)) (by omega) (by omega))).trans (Kept.mono (Kept.setCell _ go 7 (.int .i64 F2.epoch)) (by omega) (by omega))).trans (Kept.mono (Kept.setCell _ go 8 (.int .i64 F2.seq)) (by omega) (by omega))).trans (Kept.mono (Kept.setCell _ go 9 (.slice S2.body.a S2.body.n S2.body.c)) (by omega) (by omega))).trans (Kept.mono (Kept.setCell _ go 10 (.slice S2.tag.a S2.tag.n S2.tag.c)) (by omega) (by omega))))
  have KD : Below ((((((((((((xz.setCell ⟨go, 0, none⟩ (.int .i64 F2.kind)).setCell ⟨go, 1, none⟩ (.int .i64 F2.id)).setCell ⟨go, 2, none⟩ (.slice S2.cn.a S2.cn.n S2.cn.c)).setCell ⟨go, 3, none⟩ (.slice S2.sn.a S2.sn.n S2.sn.c)).setCell ⟨go, 4, none⟩ (.int .i64 F2.tick)).setCell ⟨go, 5, none⟩ (.slice S2.cookie.a S2.cookie.n S2.cookie.c)).setCell ⟨go, 6, none⟩ (.slice S2.proof.a S2.proof.n S2.proof.c)).setCell ⟨go, 7, none⟩ (.int .i64 F2.epoch)).setCell ⟨go, 8, none⟩ (.int .i64 F2.seq)).setCell ⟨go, 9, none⟩ (.slice S2.body.a S2.body.n S2.body.c)).setCell ⟨go, 10, none⟩ (.slice S2.tag.a S2.tag.n S2.tag.c))).heap.size ((((((((((((xz.setCell ⟨go, 0, none⟩ (.int .i64 F2.kind)).setCell ⟨go, 1, none⟩ (.int .i64 F2.id)).setCell ⟨go, 2, none⟩ (.slice S2.cn.a S2.cn.n S2.cn.c)).setCell ⟨go, 3, none⟩ (.slice S2.sn.a S2.sn.n S2.sn.c)).setCell ⟨go, 4, none⟩ (.int .i64 F2.tick)).setCell ⟨go, 5, none⟩ (.slice S2.cookie.a S2.cookie.n S2.cookie.c)).setCell ⟨go, 6, none⟩ (.slice S2.proof.a S2.proof.n S2.proof.c)).setCell ⟨go, 7, none⟩ (.int .i64 F2.epoch)).setCell ⟨go, 8, none⟩ (.int .i64 F2.seq)).setCell ⟨go, 9, none⟩ (.slice S2.body.a S2.body.n S2.body.c)).setCell ⟨go, 10, none⟩ (.slice S2.tag.a S2.tag.n S2.tag.c))) ((((((((((((xz.setCell ⟨go, 0, none⟩ (.int .i64 F2.kind)).setCell ⟨go, 1, none⟩ (.int .i64 F2.id)).setCell ⟨go, 2, none⟩ (.slice S2.cn.a S2.cn.n S2.cn.c)).setCell ⟨go, 3, none⟩ (.slice S2.sn.a S2.sn.n S2.sn.c)).setCell ⟨go, 4, none⟩ (.int .i64 F2.tick)).setCell ⟨go, 5, none⟩ (.slice S2.cookie.a S2.cookie.n S2.cookie.c)).setCell ⟨go, 6, none⟩ (.slice S2.proof.a S2.proof.n S2.proof.c)).setCell ⟨go, 7, none⟩ (.int .i64 F2.epoch)).setCell ⟨go, 8, none⟩ (.int .i64 F2.seq)).setCell ⟨go, 9, none⟩ (.slice S2.body.a S2.body.n S2.body.c)).setCell ⟨go, 10, none⟩ (.slice S2.tag.a S2.tag.n S2.tag.c))).drew := (Below.refl _ _).drew
  exact bodyPost_ret (v := .tuple #[.slice P.a P.n P.c, frV F2 S2]) (res2 rfl (is_tmp rfl) (is_cell rfl (drewB KXKO) aggFr)) rfl ⟨P, lp, S2, F2, rfl, HPL.out, ((OPz.out.carry KZ (.inr (by have := HSZz.out; omega))).later KD).rd, ((IFz.out.carry KZ (.inr (Nat.le_refl _))).later KD).rd, (Bz.out.trans (KZ.below (by have := HSZz.out; omega) Bz.out.size)).drew⟩

end Go.Proofs.YtpenhliaelhnoaaGreatDoor.DrKg
