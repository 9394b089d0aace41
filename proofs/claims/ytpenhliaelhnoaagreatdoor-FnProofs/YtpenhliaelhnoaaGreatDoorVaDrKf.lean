/-
  What spec.l12Cookie and spec.DrawFinishOf give.
-/
import Derived.Test.YtpenhliaelhnoaaGreatDoorVaDrKe
import Derived.Test.YtpenhliaelhnoaaGreatDoorVaFrDa
import Derived.Test.YtpenhliaelhnoaaGreatDoorVaGz16
import Derived.Test.YtpenhliaelhnoaaGreatDoorVaDrawD
import Derived.Deep.RegionHeld3
set_option maxRecDepth 100000
namespace Go.Proofs.YtpenhliaelhnoaaGreatDoor.DrKf
open Go.RowKit Mem App Blk Zone Draw DrawD Res DrN Shp FrZ FrL FrP FrDa DrKe
theorem hide {p : Prop} (h : p) : Hid p := h
theorem drewB {w : World} {g : Nat} {t : TypeId} {cs : List Value} (h : Blk w g t cs) : Blk w.drew g t cs := h
theorem ints_at (w : World) (L : List Int) (g : Nat) (h : g = w.heap.size) : IntsAt (w.alloc (.cells (L.map (Value.int .i64)).toArray 3)) g L := h ▸ ints_new w L
def DrewC (W0 : World) (a : Option Addr) (len cap : Nat) (l : List Int) (p : Nat) (w : World) : Ending → World → Prop := fun e w' => ∃ (SF : FrS) (F : FrD), e = .returned (frV F SF) ∧ (F.kind = 2 ∧ F.cn.length = 12 ∧ F.sn.length = 12 ∧ (0 ≤ F.tick ∧ F.tick < 300) ∧ F.cookie.length = 16 ∧ F.proof = []) ∧ FrIn w' w.heap.size w'.heap.size SF F ∧ Ready W0 a len cap l p w' ∧ But p w w'
set_option maxHeartbeats 8000000 in
theorem l12Cookie {W0 : World} {a : Option Addr} {len cap : Nat} {l : List Int} {p : Nat} {w : World} (h : Ready W0 a len cap l p w) :
  Calls Tryz.prog 27 #[.pointer (some ⟨p, 0, none⟩)] w (DrewC W0 a len cap l p w) := by
 have HP : Hid (p < w.heap.size ∧ W0.heap.size ≤ p) := ⟨h.hc.lt, h.hp⟩
 have R0 := hid (h)
 have B0 : Hid (But p w w) := But.refl p w
 clear h
 obtain ⟨x1, hx1⟩ : ∃ x1, (w.alloc (.cells #[.int .i64 0, .int .i64 0, .slice none 0 0, .slice none 0 0, .int .i64 0, .slice none 0 0, .slice none 0 0, .int .i64 0, .int .i64 0, .slice none 0 0, .slice none 0 0] 25)) = x1 := ⟨_, rfl⟩
 have HWA := hid (hx1)
 have b1 : Below w.heap.size w x1 := by rw [← hx1]; exact ((Below.refl _ _).alloc (Nat.le_refl _) _)
 have KON : Blk x1 (w.heap.size) 25 [.int .i64 0, .int .i64 0, .slice none 0 0, .slice none 0 0, .int .i64 0, .slice none 0 0, .slice none 0 0, .int .i64 0, .int .i64 0, .slice none 0 0, .slice none 0 0] := by
  have q := (Blk.new w 25 [.int .i64 0, .int .i64 0, .slice none 0 0, .slice none 0 0, .int .i64 0, .slice none 0 0, .slice none 0 0, .int .i64 0, .int .i64 0, .slice none 0 0, .slice none 0 0])
  skip
  rw [← hx1]; exact q
 have SZA : x1.heap.size = w.heap.size + 1 := by rw [← hx1]; simp
 clear hx1
 have L1 := hid (b1.size)
 have R1 : Hid (Ready W0 a len cap l p x1) := rdyL R0.out b1
 have B1 : Hid (But p w x1) := butL B0.out b1
 clear R0 B0 b1
 go_enter Tryz.func27, Tryz.ntmps27
 go_upto_region 1 with fail
 rw [HWA.out]
 obtain ⟨go, hgo⟩ : ∃ g, w.heap.size = g := ⟨_, rfl⟩
 have GA : Hid (w.heap.size = go ∧ x1.heap.size = go + 1) := ⟨hgo, by omega⟩
 rw [hgo] at KON
 rw [hgo]
 clear HWA SZA hgo
 have KO1 := hid (KON)
 clear KON
 go_wp2_with fail
 refine (bytesOf R1.out 12 (by omega)).mono ?_
 rintro e x2 ⟨gn, cn, ln, rfl, el, hb, kg, row, r, b⟩
 have oN : SOwn x2 x1.heap.size x2.heap.size ⟨some ⟨gn, 0, none⟩, 12, cn⟩ ln := SOwn.row row el hb kg row.lt
 have ELn : Hid (12 = ln.length) := el
 clear el hb kg row
 have L2 := hid (b.size)
 have KQ : Kept p (p + 1) x1 x2 := Kept.of_grown b
 have R2 := hid (r)
 have B2 := hid (B1.out.trans b)
 have KO2 := hid (KO1.out.keep (KQ.block _ KO1.out.lt (by have := hid4 HP L1 GA L2; omega)))
 clear R1 B1 KO1 b
 clear KQ r
 have On_2 := hid (oN)
 clear oN
 go_wp2_with fail
 refine (bytesOf R2.out 12 (by omega)).mono ?_
 rintro e x3 ⟨gs, cs, ls, rfl, el, hb, kg, row, r, b⟩
 have oN : SOwn x3 x2.heap.size x3.heap.size ⟨some ⟨gs, 0, none⟩, 12, cs⟩ ls := SOwn.row row el hb kg row.lt
 have ELs : Hid (12 = ls.length) := el
 clear el hb kg row
 have L3 := hid (b.size)
 have KQ : Kept p (p + 1) x2 x3 := Kept.of_grown b
 have R3 := hid (r)
 have B3 := hid (B2.out.trans b)
 have KO3 := hid (KO2.out.keep (KQ.block _ KO2.out.lt (by have := hid5 HP L1 GA L2 L3; omega)))
 have On_3 := hid (On_2.out.carry KQ (by have := hid5 HP L1 GA L2 L3; omega))
 clear R2 B2 KO2 On_2 b
 clear KQ r
 have Os_3 := hid (oN)
 clear oN
 go_wp2_with fail
 refine (Draw.below R3.out 300 (by omega) (by omega)).mono ?_
 rintro e x4 ⟨v, rfl, va, vb, r, b⟩
 have VBv : Hid (0 ≤ v ∧ v < 300) := ⟨va, vb⟩
 clear va vb
 have L4 := hid (b.size)
 have KQ : Kept p (p + 1) x3 x4 := Kept.of_grown b
 have R4 := hid (r)
 have B4 := hid (B3.out.trans b)
 have KO4 := hid (KO3.out.keep (KQ.block _ KO3.out.lt (by have := hid6 HP L1 GA L2 L3 L4; omega)))
 have On_4 := hid (On_3.out.carry KQ (by have := hid6 HP L1 GA L2 L3 L4; omega))
 have Os_4 := hid (Os_3.out.carry KQ (by have := hid6 HP L1 GA L2 L3 L4; omega))
 clear R3 B3 KO3 On_3 Os_3 b
 clear KQ r
 go_wp2_with fail
 refine (bytesOf R4.out 16 (by omega)).mono ?_
 rintro e x5 ⟨gq, cq, lq, rfl, el, hb, kg, row, r, b⟩
 have oN : SOwn x5 x4.heap.size x5.heap.size ⟨some ⟨gq, 0, none⟩, 16, cq⟩ lq := SOwn.row row el hb kg row.lt
 have ELq : Hid (16 = lq.length) := el
 clear el hb kg row
 have L5 := hid (b.size)
 have KQ : Kept p (p + 1) x4 x5 := Kept.of_grown b
 have R5 := hid (r)
 have B5 := hid (B4.out.trans b)
 have KO5 := hid (KO4.out.keep (KQ.block _ KO4.out.lt (by have := hid7 HP L1 GA L2 L3 L4 L5; omega)))
 have On_5 := hid (On_4.out.carry KQ (by have := hid7 HP L1 GA L2 L3 L4 L5; omega))
 have Os_5 := hid (Os_4.out.carry KQ (by have := hid7 HP L1 GA L2 L3 L4 L5; omega))
 clear R4 B4 KO4 On_4 Os_4 b
 clear KQ r
 have Oq_5 := hid (oN)
 clear oN
 have co0 := KO5.out.cell 0 rfl
 have fo0 := KO5.out.frozen 0
 have co1 := KO5.out.cell 1 rfl
 have fo1 := KO5.out.frozen 1
 have co2 := KO5.out.cell 2 rfl
 have fo2 := KO5.out.frozen 2
 have co3 := KO5.out.cell 3 rfl
 have fo3 := KO5.out.frozen 3
 have co4 := KO5.out.cell 4 rfl
 have fo4 := KO5.out.frozen 4
 have co5 := KO5.out.cell 5 rfl
 have fo5 := KO5.out.frozen 5
 have co6 := KO5.out.cell 6 rfl
 have fo6 := KO5.out.frozen 6
 have co7 := KO5.out.cell 7 rfl
 have fo7 := KO5.out.frozen 7
 have co8 := KO5.out.cell 8 rfl
 have fo8 := KO5.out.frozen 8
 have co9 := KO5.out.cell 9 rfl
 have fo9 := KO5.out.frozen 9
 have co10 := KO5.out.cell 10 rfl
 have fo10 := KO5.out.frozen 10
 go_wp2
 have k1 := (((((((((((KO5.out.set 0 (.int .i64 2) (by simp [maxLen])).set 1 (.int .i64 0) (by simp [maxLen])).set 2 (.slice (some ⟨gn, 0, none⟩) 12 cn) (by simp [maxLen])).set 3 (.slice (some ⟨gs, 0, none⟩) 12 cs) (by simp [maxLen])).set 4 (.int .i64 v) (by simp [maxLen])).set 5 (.slice (some ⟨gq, 0, none⟩) 16 cq) (by simp [maxLen])).set 6 (.slice none 0 0) (by simp [maxLen])).set 7 (.int .i64 0) (by simp [maxLen])).set 8 (.int .i64 0) (by simp [maxLen])).set 9 (.slice none 0 0) (by simp [maxLen])).set 10 (.slice none 0 0) (by simp [maxLen]))
 have KP := fr_kept x5 go (.int .i64 2) (.int .i64 0) (.slice (some ⟨gn, 0, none⟩) 12 cn) (.slice (some ⟨gs, 0, none⟩) 12 cs) (.int .i64 v) (.slice (some ⟨gq, 0, none⟩) 16 cq) (.slice none 0 0) (.int .i64 0) (.int .i64 0) (.slice none 0 0) (.slice none 0 0)
 have SZF : Hid (go + 1 ≤ x5.heap.size ∧ w.heap.size ≤ go) := by have := hid7 HP L1 GA L2 L3 L4 L5; show _ ∧ _; omega
 exact bodyPost_ret (v := frV (⟨2, 0, ln, ls, v, lq, [], 0, 0, [], []⟩ : FrD) (⟨⟨some ⟨gn, 0, none⟩, 12, cn⟩, ⟨some ⟨gs, 0, none⟩, 12, cs⟩, ⟨some ⟨gq, 0, none⟩, 16, cq⟩, ⟨none, 0, 0⟩, ⟨none, 0, 0⟩, ⟨none, 0, 0⟩⟩ : FrS)) (res1 rfl (is_cell rfl k1 aggFr)) rfl ⟨(⟨⟨some ⟨gn, 0, none⟩, 12, cn⟩, ⟨some ⟨gs, 0, none⟩, 12, cs⟩, ⟨some ⟨gq, 0, none⟩, 16, cq⟩, ⟨none, 0, 0⟩, ⟨none, 0, 0⟩, ⟨none, 0, 0⟩⟩ : FrS), (⟨2, 0, ln, ls, v, lq, [], 0, 0, [], []⟩ : FrD), rfl, ⟨rfl, ELn.out.symm, ELs.out.symm, VBv.out, ELq.out.symm, rfl⟩, ⟨(On_5.out.carry KP (.inr (by have := hid7 HP L1 GA L2 L3 L4 L5; omega))).mono (by have := hid7 HP L1 GA L2 L3 L4 L5; omega) (by rw [fr_size]; have := hid7 HP L1 GA L2 L3 L4 L5; omega), (Os_5.out.carry KP (.inr (by have := hid7 HP L1 GA L2 L3 L4 L5; omega))).mono (by have := hid7 HP L1 GA L2 L3 L4 L5; omega) (by rw [fr_size]; have := hid7 HP L1 GA L2 L3 L4 L5; omega), (Oq_5.out.carry KP (.inr (by have := hid7 HP L1 GA L2 L3 L4 L5; omega))).mono (by have := hid7 HP L1 GA L2 L3 L4 L5; omega) (by rw [fr_size]; have := hid7 HP L1 GA L2 L3 L4 L5; omega), SOwn.nil _ _ _, SOwn.nil _ _ _, SOwn.nil _ _ _⟩, rdyK R5.out KP (by have := hid7 HP L1 GA L2 L3 L4 L5; omega), butK B5.out KP (by have := hid7 HP L1 GA L2 L3 L4 L5; omega)⟩

set_option maxHeartbeats 16000000 in
theorem drawFinishOf (a : Option Addr) (len cap : Nat) (l : List Int) (w : World) (hl : len = l.length) (hr : Rd w a l) (hb : Bytes l) (hlen : len ≤ 1048576) :
  Calls Tryz.prog 7 #[.slice a len cap] w fun e w' => ∃ (P : Sl) (x : List Int) (id : Int) (SF : FrS) (F : FrD), e = .returned (.tuple #[.slice P.a P.n P.c, .int .i64 id, frV F SF]) ∧ x.length ≤ 33 ∧ SRd w' P x ∧ FrRd w' SF F ∧ Below w.heap.size w w' := by
 have HR := hid (hr)
 have HL : Hid (len = l.length) := hl
 have HB := hid (hb)
 clear hr hl hb
 have B0 : Hid (Below w.heap.size w w) := Below.refl _ _
 obtain ⟨x1, hx1⟩ : ∃ x1, (w.alloc (.cells #[.int .i64 0, .int .i64 0, .slice none 0 0, .slice none 0 0, .int .i64 0, .slice none 0 0, .slice none 0 0, .int .i64 0, .int .i64 0, .slice none 0 0, .slice none 0 0] 25)) = x1 := ⟨_, rfl⟩
 have HWA := hid (hx1)
 have b1 : Below w.heap.size w x1 := by rw [← hx1]; exact ((Below.refl _ _).alloc (Nat.le_refl _) _)
 have KON : Blk x1 (w.heap.size) 25 [.int .i64 0, .int .i64 0, .slice none 0 0, .slice none 0 0, .int .i64 0, .slice none 0 0, .slice none 0 0, .int .i64 0, .int .i64 0, .slice none 0 0, .slice none 0 0] := by
  have q := (Blk.new w 25 [.int .i64 0, .int .i64 0, .slice none 0 0, .slice none 0 0, .int .i64 0, .slice none 0 0, .slice none 0 0, .int .i64 0, .int .i64 0, .slice none 0 0, .slice none 0 0])
  skip
  rw [← hx1]; exact q
 have SZA : x1.heap.size = w.heap.size + 1 := by rw [← hx1]; simp
 clear hx1
 have L1 := hid (b1.size)
 have B1 := hid (B0.out.trans (b1.mono B0.out.size))
 clear B0 b1
 go_enter Tryz.func7, Tryz.ntmps7
 go_upto_region 1 with fail
 rw [HWA.out]
 obtain ⟨go, hgo⟩ : ∃ g, w.heap.size = g := ⟨_, rfl⟩
 have GA : Hid (w.heap.size = go ∧ x1.heap.size = go + 1) := ⟨hgo, by omega⟩
 rw [hgo] at KON
 rw [hgo]
 clear HWA SZA hgo
 have KO1 := hid (KON)
 clear KON
 go_wp2_with fail
 refine (newCur a len cap l x1 HL.out (HR.out.later B1.out (Nat.le_refl _)) HB.out hlen).mono ?_
 rintro e x2 ⟨p, rfl, r⟩
 have b := r.hB
 have HP : Hid (x1.heap.size ≤ p ∧ p < x2.heap.size) := ⟨r.hp, r.hc.lt⟩
 have L2 := hid (b.size)
 have B2 := hid (B1.out.trans (b.mono B1.out.size))
 have KO2 := hid (KO1.out.later b)
 clear B1 KO1 b
 have R2 := hid (r)
 clear r
 go_wp2_with fail
 refine (l12Psk R2.out).mono ?_
 rintro e x3 ⟨P, lp, rfl, pl, o, r, b⟩
 have HPL : Hid (lp.length ≤ 33) := pl
 clear pl
 have L3 := hid (b.size)
 have KQ : Kept p (p + 1) x2 x3 := Kept.of_grown b
 have B3 : Hid (Below w.heap.size w x3) := But.below b B2.out (by have := hid5 L1 GA L2 HP L3; omega)
 have KO3 := hid (KO2.out.keep (KQ.block _ KO2.out.lt (by have := hid5 L1 GA L2 HP L3; omega)))
 have R3 := hid (r)
 clear B2 KO2 R2 b
 clear KQ r
 have OP3 := hid (o)
 clear o
 go_wp2_with fail
 refine (l12Cookie R3.out).mono ?_
 rintro e x4 ⟨SF, F, rfl, fk, fi, r, b⟩
 have L4 := hid (b.size)
 have KQ : Kept p (p + 1) x3 x4 := Kept.of_grown b
 have B4 : Hid (Below w.heap.size w x4) := But.below b B3.out (by have := hid6 L1 GA L2 HP L3 L4; omega)
 have KO4 := hid (KO3.out.keep (KQ.block _ KO3.out.lt (by have := hid6 L1 GA L2 HP L3 L4; omega)))
 have R4 := hid (r)
 have OP4 := hid (OP3.out.carry KQ (by have := hid6 L1 GA L2 HP L3 L4; omega))
 clear B3 KO3 R3 OP3 b
 clear KQ r
 have OF4 := hid (fi)
 clear fi fk
 obtain ⟨x5, hx5⟩ : ∃ x5, x4.alloc (.cells #[.int .i64 F.kind, .int .i64 F.id, .slice SF.cn.a SF.cn.n SF.cn.c, .slice SF.sn.a SF.sn.n SF.sn.c, .int .i64 F.tick, .slice SF.cookie.a SF.cookie.n SF.cookie.c, .slice SF.proof.a SF.proof.n SF.proof.c, .int .i64 F.epoch, .int .i64 F.seq, .slice SF.body.a SF.body.n SF.body.c, .slice SF.tag.a SF.tag.n SF.tag.c] 25) = x5 := ⟨_, rfl⟩
 have HW5 := hid (hx5)
 have b5 : Below x4.heap.size x4 x5 := by rw [← hx5]; exact (Below.refl _ _).alloc (Nat.le_refl _) _
 have KN : Blk x5 x4.heap.size 25 [.int .i64 F.kind, .int .i64 F.id, .slice SF.cn.a SF.cn.n SF.cn.c, .slice SF.sn.a SF.sn.n SF.sn.c, .int .i64 F.tick, .slice SF.cookie.a SF.cookie.n SF.cookie.c, .slice SF.proof.a SF.proof.n SF.proof.c, .int .i64 F.epoch, .int .i64 F.seq, .slice SF.body.a SF.body.n SF.body.c, .slice SF.tag.a SF.tag.n SF.tag.c] := by rw [← hx5]; exact Blk.new x4 _ _
 have HSZ5 : Hid (x5.heap.size = x4.heap.size + 1) := by rw [← hx5]; show _ = _; simp
 clear hx5
 have L5 := hid (b5.size)
 have B5 := hid (B4.out.trans (b5.mono B4.out.size))
 have KO5 := hid (KO4.out.later b5)
 have R5 : Hid (Ready x1 a len cap l p x5) := rdyL R4.out b5
 have OP5 := hid (OP4.out.later b5)
 have OF5 := hid (OF4.out.later b5)
 clear B4 KO4 R4 OP4 OF4 b5
 unfold frV
 go_upto_region 4 with fail
 rw [HW5.out]
 obtain ⟨gf, hgf⟩ : ∃ g, x4.heap.size = g := ⟨_, rfl⟩
 have Ggf : Hid (x4.heap.size = gf ∧ x5.heap.size = gf + 1) := ⟨hgf, by rw [← hgf]; exact HSZ5.out⟩
 rw [hgf] at KN ⊢
 clear HW5 HSZ5 hgf
 have KF5 := hid (KN)
 clear KN
 go_wp2_with fail
 refine (Draw.once R5.out 5 (by omega) (by omega)).mono ?_
 rintro e x6 ⟨o1, rfl, r, b⟩
 have L6 := hid (b.size)
 have KQ : Kept p (p + 1) x5 x6 := Kept.of_grown b
 have B6 : Hid (Below w.heap.size w x6) := But.below b B5.out (by have := hid8 L1 GA L2 HP L3 L4 L5 Ggf; have := L6.out; omega)
 have KO6 := hid (KO5.out.keep (KQ.block _ KO5.out.lt (by have := hid8 L1 GA L2 HP L3 L4 L5 Ggf; have := L6.out; omega)))
 have R6 := hid (r)
 have OP6 := hid (OP5.out.carry KQ (by have := hid8 L1 GA L2 HP L3 L4 L5 Ggf; have := L6.out; omega))
 have OF6 := hid (OF5.out.carry KQ (by have := hid8 L1 GA L2 HP L3 L4 L5 Ggf; have := L6.out; omega))
 have KF6 := hid (KF5.out.keep (KQ.block _ KF5.out.lt (by have := hid8 L1 GA L2 HP L3 L4 L5 Ggf; have := L6.out; omega)))
 clear B5 KO5 R5 OP5 OF5 KF5 b
 clear KQ r
 cases o1 with
 | true =>
  go_wp2_with fail
  refine (l7Any R6.out).mono ?_
  rintro e x7 ⟨DG, SG, rfl, oi, r, b⟩
  unfold frV
  have L7 := hid (b.size)
  have KQ : Kept p (p + 1) x6 x7 := Kept.of_grown b
  have B7 : Hid (Below w.heap.size w x7) := But.below b B6.out (by have := hid8 L1 GA L2 HP L3 L4 L5 Ggf; have := hid2 L6 L7; omega)
  have KO7 := hid (KO6.out.keep (KQ.block _ KO6.out.lt (by have := hid8 L1 GA L2 HP L3 L4 L5 Ggf; have := hid2 L6 L7; omega)))
  have R7 := hid (r)
  have OP7 := hid (OP6.out.carry KQ (by have := hid8 L1 GA L2 HP L3 L4 L5 Ggf; have := hid2 L6 L7; omega))
  have OF7 := hid (OF6.out.carry KQ (by have := hid8 L1 GA L2 HP L3 L4 L5 Ggf; have := hid2 L6 L7; omega))
  have KF7 := hid (KF6.out.keep (KQ.block _ KF6.out.lt (by have := hid8 L1 GA L2 HP L3 L4 L5 Ggf; have := hid2 L6 L7; omega)))
  clear B6 KO6 R6 OP6 OF6 KF6 b
  clear KQ r
  have OG7 := hid (oi)
  clear oi
  have co0 := KF7.out.cell 0 rfl
  have fo0 := KF7.out.frozen 0
  have co1 := KF7.out.cell 1 rfl
  have fo1 := KF7.out.frozen 1
  have co2 := KF7.out.cell 2 rfl
  have fo2 := KF7.out.frozen 2
  have co3 := KF7.out.cell 3 rfl
  have fo3 := KF7.out.frozen 3
  have co4 := KF7.out.cell 4 rfl
  have fo4 := KF7.out.frozen 4
  have co5 := KF7.out.cell 5 rfl
  have fo5 := KF7.out.frozen 5
  have co6 := KF7.out.cell 6 rfl
  have fo6 := KF7.out.frozen 6
  have co7 := KF7.out.cell 7 rfl
  have fo7 := KF7.out.frozen 7
  have co8 := KF7.out.cell 8 rfl
  have fo8 := KF7.out.frozen 8
  have co9 := KF7.out.cell 9 rfl
  have fo9 := KF7.out.frozen 9
  have co10 := KF7.out.cell 10 rfl
  have fo10 := KF7.out.frozen 10
  obtain ⟨x8, hx8⟩ : ∃ y, (((((((((((x7.setCell ⟨gf, 0, none⟩ (.int .i64 DG.kind)).setCell ⟨gf, 1, none⟩ (.int .i64 DG.id)).setCell ⟨gf, 2, none⟩ (.slice SG.cn.a SG.cn.n SG.cn.c)).setCell ⟨gf, 3, none⟩ (.slice SG.sn.a SG.sn.n SG.sn.c)).setCell ⟨gf, 4, none⟩ (.int .i64 DG.tick)).setCell ⟨gf, 5, none⟩ (.slice SG.cookie.a SG.cookie.n SG.cookie.c)).setCell ⟨gf, 6, none⟩ (.slice SG.proof.a SG.proof.n SG.proof.c)).setCell ⟨gf, 7, none⟩ (.int .i64 DG.epoch)).setCell ⟨gf, 8, none⟩ (.int .i64 DG.seq)).setCell ⟨gf, 9, none⟩ (.slice SG.body.a SG.body.n SG.body.c)).setCell ⟨gf, 10, none⟩ (.slice SG.tag.a SG.tag.n SG.tag.c)) = y := ⟨_, rfl⟩
  have HW8 := hid (hx8)
  have L8 : Hid (x8.heap.size = x7.heap.size) := by rw [← hx8]; show _ = _; simp
  have KS : Blk x8 gf 25 [.int .i64 DG.kind, .int .i64 DG.id, .slice SG.cn.a SG.cn.n SG.cn.c, .slice SG.sn.a SG.sn.n SG.sn.c, .int .i64 DG.tick, .slice SG.cookie.a SG.cookie.n SG.cookie.c, .slice SG.proof.a SG.proof.n SG.proof.c, .int .i64 DG.epoch, .int .i64 DG.seq, .slice SG.body.a SG.body.n SG.body.c, .slice SG.tag.a SG.tag.n SG.tag.c] := by rw [← hx8]; exact (((((((((((KF7.out.set 0 _ (by simp [maxLen])).set 1 _ (by simp [maxLen])).set 2 _ (by simp [maxLen])).set 3 _ (by simp [maxLen])).set 4 _ (by simp [maxLen])).set 5 _ (by simp [maxLen])).set 6 _ (by simp [maxLen])).set 7 _ (by simp [maxLen])).set 8 _ (by simp [maxLen])).set 9 _ (by simp [maxLen])).set 10 _ (by simp [maxLen]))
  have KQ : Kept gf (gf + 1) x7 x8 := by rw [← hx8]; exact (((((((((((Kept.setCell _ _ _ _).trans (Kept.setCell _ _ _ _)).trans (Kept.setCell _ _ _ _)).trans (Kept.setCell _ _ _ _)).trans (Kept.setCell _ _ _ _)).trans (Kept.setCell _ _ _ _)).trans (Kept.setCell _ _ _ _)).trans (Kept.setCell _ _ _ _)).trans (Kept.setCell _ _ _ _)).trans (Kept.setCell _ _ _ _)).trans (Kept.setCell _ _ _ _))
  clear hx8
  have B8 := hid (B7.out.trans (KQ.below (by have := hid8 L1 GA L2 HP L3 L4 L5 Ggf; have := hid3 L6 L7 L8; omega) B7.out.size))
  have KO8 := hid (KO7.out.keep (KQ.block _ KO7.out.lt (by have := hid8 L1 GA L2 HP L3 L4 L5 Ggf; have := hid3 L6 L7 L8; omega)))
  have R8 : Hid (Ready x1 a len cap l p x8) := rdyK R7.out KQ (by have := hid8 L1 GA L2 HP L3 L4 L5 Ggf; have := hid3 L6 L7 L8; omega)
  have OP8 := hid (OP7.out.carry KQ (by have := hid8 L1 GA L2 HP L3 L4 L5 Ggf; have := hid3 L6 L7 L8; omega))
  have OF8 := hid (OF7.out.carry KQ (by have := hid8 L1 GA L2 HP L3 L4 L5 Ggf; have := hid3 L6 L7 L8; omega))
  have OG8 := hid (OG7.out.carry KQ (by have := hid8 L1 GA L2 HP L3 L4 L5 Ggf; have := hid3 L6 L7 L8; omega))
  clear B7 KO7 R7 OP7 OF7 OG7 KQ
  clear KF7
  have KF8 := hid (KS)
  clear KS
  go_upto_region 6 with fail
  rw [HW8.out]
  clear HW8 co0 fo0 co1 fo1 co2 fo2 co3 fo3 co4 fo4 co5 fo5 co6 fo6 co7 fo7 co8 fo8 co9 fo9 co10 fo10
  have RDX := hid (R8.out)
  have BTX : Hid (But p x8 x8) := But.refl p x8
  have PX : Hid (p < x8.heap.size) := R8.out.hc.lt
  have NPgf : Hid (gf ≠ p) := by have := hid8 L1 GA L2 HP L3 L4 L5 Ggf; have := hid3 L6 L7 L8; show _ ≠ _; omega
  have NPgo : Hid (go ≠ p) := by have := hid8 L1 GA L2 HP L3 L4 L5 Ggf; have := hid3 L6 L7 L8; show _ ≠ _; omega
  have NEgf_go : gf ≠ go := by have := hid8 L1 GA L2 HP L3 L4 L5 Ggf; have := hid3 L6 L7 L8; omega
  obtain ⟨z_gf_0, z_gf_1, z_gf_2, z_gf_3, z_gf_4, z_gf_5, z_gf_6, z_gf_7, z_gf_8, z_gf_9, z_gf_10⟩ := cells11 (KF8.out)
  have zd_gf_0 := hide ((KF8.out.later ((Below.refl _ _).drew)).cell 0 rfl)
  have zd_gf_1 := hide ((KF8.out.later ((Below.refl _ _).drew)).cell 1 rfl)
  have zd_gf_2 := hide ((KF8.out.later ((Below.refl _ _).drew)).cell 2 rfl)
  have zd_gf_3 := hide ((KF8.out.later ((Below.refl _ _).drew)).cell 3 rfl)
  have zd_gf_4 := hide ((KF8.out.later ((Below.refl _ _).drew)).cell 4 rfl)
  have zd_gf_5 := hide ((KF8.out.later ((Below.refl _ _).drew)).cell 5 rfl)
  have zd_gf_6 := hide ((KF8.out.later ((Below.refl _ _).drew)).cell 6 rfl)
  have zd_gf_7 := hide ((KF8.out.later ((Below.refl _ _).drew)).cell 7 rfl)
  have zd_gf_8 := hide ((KF8.out.later ((Below.refl _ _).drew)).cell 8 rfl)
  have zd_gf_9 := hide ((KF8.out.later ((Below.refl _ _).drew)).cell 9 rfl)
  have zd_gf_10 := hide ((KF8.out.later ((Below.refl _ _).drew)).cell 10 rfl)
  have za0_gf_0 := hide ((((KF8.out).alloc (.cells #[.int .i64 1, .int .i64 2, .int .i64 9, .int .i64 1, .int .i64 2, .int .i64 0, .int .i64 10] 3))).cell 0 rfl)
  have za0_gf_1 := hide ((((KF8.out).alloc (.cells #[.int .i64 1, .int .i64 2, .int .i64 9, .int .i64 1, .int .i64 2, .int .i64 0, .int .i64 10] 3))).cell 1 rfl)
  have za0_gf_2 := hide ((((KF8.out).alloc (.cells #[.int .i64 1, .int .i64 2, .int .i64 9, .int .i64 1, .int .i64 2, .int .i64 0, .int .i64 10] 3))).cell 2 rfl)
  have za0_gf_3 := hide ((((KF8.out).alloc (.cells #[.int .i64 1, .int .i64 2, .int .i64 9, .int .i64 1, .int .i64 2, .int .i64 0, .int .i64 10] 3))).cell 3 rfl)
  have za0_gf_4 := hide ((((KF8.out).alloc (.cells #[.int .i64 1, .int .i64 2, .int .i64 9, .int .i64 1, .int .i64 2, .int .i64 0, .int .i64 10] 3))).cell 4 rfl)
  have za0_gf_5 := hide ((((KF8.out).alloc (.cells #[.int .i64 1, .int .i64 2, .int .i64 9, .int .i64 1, .int .i64 2, .int .i64 0, .int .i64 10] 3))).cell 5 rfl)
  have za0_gf_6 := hide ((((KF8.out).alloc (.cells #[.int .i64 1, .int .i64 2, .int .i64 9, .int .i64 1, .int .i64 2, .int .i64 0, .int .i64 10] 3))).cell 6 rfl)
  have za0_gf_7 := hide ((((KF8.out).alloc (.cells #[.int .i64 1, .int .i64 2, .int .i64 9, .int .i64 1, .int .i64 2, .int .i64 0, .int .i64 10] 3))).cell 7 rfl)
  have za0_gf_8 := hide ((((KF8.out).alloc (.cells #[.int .i64 1, .int .i64 2, .int .i64 9, .int .i64 1, .int .i64 2, .int .i64 0, .int .i64 10] 3))).cell 8 rfl)
  have za0_gf_9 := hide ((((KF8.out).alloc (.cells #[.int .i64 1, .int .i64 2, .int .i64 9, .int .i64 1, .int .i64 2, .int .i64 0, .int .i64 10] 3))).cell 9 rfl)
  have za0_gf_10 := hide ((((KF8.out).alloc (.cells #[.int .i64 1, .int .i64 2, .int .i64 9, .int .i64 1, .int .i64 2, .int .i64 0, .int .i64 10] 3))).cell 10 rfl)
  have za0d_gf_0 := hide (((((KF8.out).alloc (.cells #[.int .i64 1, .int .i64 2, .int .i64 9, .int .i64 1, .int .i64 2, .int .i64 0, .int .i64 10] 3))).later ((Below.refl _ _).drew)).cell 0 rfl)
  have za0d_gf_1 := hide (((((KF8.out).alloc (.cells #[.int .i64 1, .int .i64 2, .int .i64 9, .int .i64 1, .int .i64 2, .int .i64 0, .int .i64 10] 3))).later ((Below.refl _ _).drew)).cell 1 rfl)
  have za0d_gf_2 := hide (((((KF8.out).alloc (.cells #[.int .i64 1, .int .i64 2, .int .i64 9, .int .i64 1, .int .i64 2, .int .i64 0, .int .i64 10] 3))).later ((Below.refl _ _).drew)).cell 2 rfl)
  have za0d_gf_3 := hide (((((KF8.out).alloc (.cells #[.int .i64 1, .int .i64 2, .int .i64 9, .int .i64 1, .int .i64 2, .int .i64 0, .int .i64 10] 3))).later ((Below.refl _ _).drew)).cell 3 rfl)
  have za0d_gf_4 := hide (((((KF8.out).alloc (.cells #[.int .i64 1, .int .i64 2, .int .i64 9, .int .i64 1, .int .i64 2, .int .i64 0, .int .i64 10] 3))).later ((Below.refl _ _).drew)).cell 4 rfl)
  have za0d_gf_5 := hide (((((KF8.out).alloc (.cells #[.int .i64 1, .int .i64 2, .int .i64 9, .int .i64 1, .int .i64 2, .int .i64 0, .int .i64 10] 3))).later ((Below.refl _ _).drew)).cell 5 rfl)
  have za0d_gf_6 := hide (((((KF8.out).alloc (.cells #[.int .i64 1, .int .i64 2, .int .i64 9, .int .i64 1, .int .i64 2, .int .i64 0, .int .i64 10] 3))).later ((Below.refl _ _).drew)).cell 6 rfl)
  have za0d_gf_7 := hide (((((KF8.out).alloc (.cells #[.int .i64 1, .int .i64 2, .int .i64 9, .int .i64 1, .int .i64 2, .int .i64 0, .int .i64 10] 3))).later ((Below.refl _ _).drew)).cell 7 rfl)
  have za0d_gf_8 := hide (((((KF8.out).alloc (.cells #[.int .i64 1, .int .i64 2, .int .i64 9, .int .i64 1, .int .i64 2, .int .i64 0, .int .i64 10] 3))).later ((Below.refl _ _).drew)).cell 8 rfl)
  have za0d_gf_9 := hide (((((KF8.out).alloc (.cells #[.int .i64 1, .int .i64 2, .int .i64 9, .int .i64 1, .int .i64 2, .int .i64 0, .int .i64 10] 3))).later ((Below.refl _ _).drew)).cell 9 rfl)
  have za0d_gf_10 := hide (((((KF8.out).alloc (.cells #[.int .i64 1, .int .i64 2, .int .i64 9, .int .i64 1, .int .i64 2, .int .i64 0, .int .i64 10] 3))).later ((Below.refl _ _).drew)).cell 10 rfl)
  go_upto_region 6 with fail
  go_region_held3 (fun w' => w'.cell? ⟨gf, 0, none⟩ = some (.int .i64 DG.kind) ∧ w'.cell? ⟨gf, 1, none⟩ = some (.int .i64 DG.id) ∧ w'.cell? ⟨gf, 2, none⟩ = some (.slice SG.cn.a SG.cn.n SG.cn.c) ∧ w'.cell? ⟨gf, 3, none⟩ = some (.slice SG.sn.a SG.sn.n SG.sn.c) ∧ w'.cell? ⟨gf, 4, none⟩ = some (.int .i64 DG.tick) ∧ w'.cell? ⟨gf, 5, none⟩ = some (.slice SG.cookie.a SG.cookie.n SG.cookie.c) ∧ w'.cell? ⟨gf, 6, none⟩ = some (.slice SG.proof.a SG.proof.n SG.proof.c) ∧ w'.cell? ⟨gf, 7, none⟩ = some (.int .i64 DG.epoch) ∧ w'.cell? ⟨gf, 8, none⟩ = some (.int .i64 DG.seq) ∧ w'.cell? ⟨gf, 9, none⟩ = some (.slice SG.body.a SG.body.n SG.body.c) ∧ w'.cell? ⟨gf, 10, none⟩ = some (.slice SG.tag.a SG.tag.n SG.tag.c)) (first | with_reducible exact ⟨s0a0c0_gf_0.out, s0a0c0_gf_1.out, s0a0c0_gf_2.out, s0a0c0_gf_3.out, s0a0c0_gf_4.out, s0a0c0_gf_5.out, s0a0c0_gf_6.out, s0a0c0_gf_7.out, s0a0c0_gf_8.out, s0a0c0_gf_9.out, s0a0c0_gf_10.out⟩ | with_reducible exact ⟨ka0c0_gf_0, ka0c0_gf_1, ka0c0_gf_2, ka0c0_gf_3, ka0c0_gf_4, ka0c0_gf_5, ka0c0_gf_6, ka0c0_gf_7, ka0c0_gf_8, ka0c0_gf_9, ka0c0_gf_10⟩ | with_reducible exact ⟨za0d_gf_0.out, za0d_gf_1.out, za0d_gf_2.out, za0d_gf_3.out, za0d_gf_4.out, za0d_gf_5.out, za0d_gf_6.out, za0d_gf_7.out, za0d_gf_8.out, za0d_gf_9.out, za0d_gf_10.out⟩ | with_reducible exact ⟨za0_gf_0.out, za0_gf_1.out, za0_gf_2.out, za0_gf_3.out, za0_gf_4.out, za0_gf_5.out, za0_gf_6.out, za0_gf_7.out, za0_gf_8.out, za0_gf_9.out, za0_gf_10.out⟩ | with_reducible exact ⟨zd_gf_0.out, zd_gf_1.out, zd_gf_2.out, zd_gf_3.out, zd_gf_4.out, zd_gf_5.out, zd_gf_6.out, zd_gf_7.out, zd_gf_8.out, zd_gf_9.out, zd_gf_10.out⟩ | with_reducible exact ⟨z_gf_0, z_gf_1, z_gf_2, z_gf_3, z_gf_4, z_gf_5, z_gf_6, z_gf_7, z_gf_8, z_gf_9, z_gf_10⟩ | go_keep)
   (first
    | (go_at_call 30; (with_reducible (show Calls _ _ _ (x8.alloc (.cells #[.int .i64 1, .int .i64 2, .int .i64 9, .int .i64 1, .int .i64 2, .int .i64 0, .int .i64 10] 3)).drew _)); have hRd : Ready x1 a len cap l p (x8.alloc (.cells #[.int .i64 1, .int .i64 2, .int .i64 9, .int .i64 1, .int .i64 2, .int .i64 0, .int .i64 10] 3)).drew := (rdyL (RDX.out.alloc _) ((Below.refl _ _).drew)); have hIn : IntsAt (x8.alloc (.cells #[.int .i64 1, .int .i64 2, .int .i64 9, .int .i64 1, .int .i64 2, .int .i64 0, .int .i64 10] 3)) (x8.heap.size) [1, 2, 9, 1, 2, 0, 10] := (ints_at x8 [1, 2, 9, 1, 2, 0, 10] (x8.heap.size) (by rfl)); have hI2 : IntsAt (x8.alloc (.cells #[.int .i64 1, .int .i64 2, .int .i64 9, .int .i64 1, .int .i64 2, .int .i64 0, .int .i64 10] 3)).drew (x8.heap.size) [1, 2, 9, 1, 2, 0, 10] := hIn; have hNe : (x8.heap.size) ≠ p := (by have := PX.out; have := World.size_alloc x8 (.cells #[.int .i64 1, .int .i64 2, .int .i64 9, .int .i64 1, .int .i64 2, .int .i64 0, .int .i64 10] 3); show _ ≠ _; omega); refine (intOfList hRd (x8.heap.size) 7 [1, 2, 9, 1, 2, 0, 10] rfl hI2 hNe (by omega) (by omega)).mono ?_; rintro e ya0c0 ⟨id, rfl, vm, r, b0⟩; have VMid : Hid (id ∈ ([1, 2, 9, 1, 2, 0, 10] : List Int)) := vm; have RDa0c0 := hid (r); have BTa0c0 : Hid (But p x8 ya0c0) := (But.drew (BTX.out.alloc _)).trans b0; have KQa0c0 : Hid (Kept p (p + 1) x8 ya0c0) := Kept.of_grown BTa0c0.out; have KS : Kept p (p + 1) (x8.alloc (.cells #[.int .i64 1, .int .i64 2, .int .i64 9, .int .i64 1, .int .i64 2, .int .i64 0, .int .i64 10] 3)).drew ya0c0 := Kept.of_grown b0; have ka0c0_gf_0 := (KF8.out.keep (KQa0c0.out.block gf KF8.out.lt (by have := NPgf.out; omega))).cell 0 rfl; have ka0c0_gf_1 := (KF8.out.keep (KQa0c0.out.block gf KF8.out.lt (by have := NPgf.out; omega))).cell 1 rfl; have ka0c0_gf_2 := (KF8.out.keep (KQa0c0.out.block gf KF8.out.lt (by have := NPgf.out; omega))).cell 2 rfl; have ka0c0_gf_3 := (KF8.out.keep (KQa0c0.out.block gf KF8.out.lt (by have := NPgf.out; omega))).cell 3 rfl; have ka0c0_gf_4 := (KF8.out.keep (KQa0c0.out.block gf KF8.out.lt (by have := NPgf.out; omega))).cell 4 rfl; have ka0c0_gf_5 := (KF8.out.keep (KQa0c0.out.block gf KF8.out.lt (by have := NPgf.out; omega))).cell 5 rfl; have ka0c0_gf_6 := (KF8.out.keep (KQa0c0.out.block gf KF8.out.lt (by have := NPgf.out; omega))).cell 6 rfl; have ka0c0_gf_7 := (KF8.out.keep (KQa0c0.out.block gf KF8.out.lt (by have := NPgf.out; omega))).cell 7 rfl; have ka0c0_gf_8 := (KF8.out.keep (KQa0c0.out.block gf KF8.out.lt (by have := NPgf.out; omega))).cell 8 rfl; have ka0c0_gf_9 := (KF8.out.keep (KQa0c0.out.block gf KF8.out.lt (by have := NPgf.out; omega))).cell 9 rfl; have ka0c0_gf_10 := (KF8.out.keep (KQa0c0.out.block gf KF8.out.lt (by have := NPgf.out; omega))).cell 10 rfl; have KYKO := KO8.out.keep (KQa0c0.out.block go KO8.out.lt (by have := NPgo.out; omega)); have qKO0 := KYKO.cell 0 rfl; have rKO0 := KYKO.frozen 0; have qKO1 := KYKO.cell 1 rfl; have rKO1 := KYKO.frozen 1; have qKO2 := KYKO.cell 2 rfl; have rKO2 := KYKO.frozen 2; have qKO3 := KYKO.cell 3 rfl; have rKO3 := KYKO.frozen 3; have qKO4 := KYKO.cell 4 rfl; have rKO4 := KYKO.frozen 4; have qKO5 := KYKO.cell 5 rfl; have rKO5 := KYKO.frozen 5; have qKO6 := KYKO.cell 6 rfl; have rKO6 := KYKO.frozen 6; have qKO7 := KYKO.cell 7 rfl; have rKO7 := KYKO.frozen 7; have qKO8 := KYKO.cell 8 rfl; have rKO8 := KYKO.frozen 8; have qKO9 := KYKO.cell 9 rfl; have rKO9 := KYKO.frozen 9; have qKO10 := KYKO.cell 10 rfl; have rKO10 := KYKO.frozen 10; have s0a0c0_gf_0 := hide (((Blk.other (a := ⟨go, 10, none⟩) (Blk.other (a := ⟨go, 9, none⟩) (Blk.other (a := ⟨go, 8, none⟩) (Blk.other (a := ⟨go, 7, none⟩) (Blk.other (a := ⟨go, 6, none⟩) (Blk.other (a := ⟨go, 5, none⟩) (Blk.other (a := ⟨go, 4, none⟩) (Blk.other (a := ⟨go, 3, none⟩) (Blk.other (a := ⟨go, 2, none⟩) (Blk.other (a := ⟨go, 1, none⟩) (Blk.other (a := ⟨go, 0, none⟩) (KF8.out.keep (KQa0c0.out.block gf KF8.out.lt (by have := NPgf.out; omega))) NEgf_go (.int .i64 DG.kind)) NEgf_go (.int .i64 DG.id)) NEgf_go (.slice SG.cn.a SG.cn.n SG.cn.c)) NEgf_go (.slice SG.sn.a SG.sn.n SG.sn.c)) NEgf_go (.int .i64 DG.tick)) NEgf_go (.slice SG.cookie.a SG.cookie.n SG.cookie.c)) NEgf_go (.slice SG.proof.a SG.proof.n SG.proof.c)) NEgf_go (.int .i64 DG.epoch)) NEgf_go (.int .i64 DG.seq)) NEgf_go (.slice SG.body.a SG.body.n SG.body.c)) NEgf_go (.slice SG.tag.a SG.tag.n SG.tag.c))).cell 0 rfl); have s0a0c0_gf_1 := hide (((Blk.other (a := ⟨go, 10, none⟩) (Blk.other (a := ⟨go, 9, none⟩) (Blk.other (a := ⟨go, 8, none⟩) (Blk.other (a := ⟨go, 7, none⟩) (Blk.other (a := ⟨go, 6, none⟩) (Blk.other (a := ⟨go, 5, none⟩) (Blk.other (a := ⟨go, 4, none⟩) (Blk.other (a := ⟨go, 3, none⟩) (Blk.other (a := ⟨go, 2, none⟩) (Blk.other (a := ⟨go, 1, none⟩) (Blk.other (a := ⟨go, 0, none⟩) (KF8.out.keep (KQa0c0.out.block gf KF8.out.lt (by have := NPgf.out; omega))) NEgf_go (.int .i64 DG.kind)) NEgf_go (.int .i64 DG.id)) NEgf_go (.slice SG.cn.a SG.cn.n SG.cn.c)) NEgf_go (.slice SG.sn.a SG.sn.n SG.sn.c)) NEgf_go (.int .i64 DG.tick)) NEgf_go (.slice SG.cookie.a SG.cookie.n SG.cookie.c)) NEgf_go (.slice SG.proof.a SG.proof.n SG.proof.c)) NEgf_go (.int .i64 DG.epoch)) NEgf_go (.int .i64 DG.seq)) NEgf_go (.slice SG.body.a SG.body.n SG.body.c)) NEgf_go (.slice SG.tag.a SG.tag.n SG.tag.c))).cell 1 rfl); have s0a0c0_gf_2 := hide (((Blk.other (a := ⟨go, 10, none⟩) (Blk.other (a := ⟨go, 9, none⟩) (Blk.other (a := ⟨go, 8, none⟩) (Blk.other (a := ⟨go, 7, none⟩) (Blk.other (a := ⟨go, 6, none⟩) (Blk.other (a := ⟨go, 5, none⟩) (Blk.other (a := ⟨go, 4, none⟩) (Blk.other (a := ⟨go, 3, none⟩) (Blk.other (a := ⟨go, 2, none⟩) (Blk.other (a := ⟨go, 1, none⟩) (Blk.other (a := ⟨go, 0, none⟩) (KF8.out.keep (KQa0c0.out.block gf KF8.out.lt (by have := NPgf.out; omega))) NEgf_go (.int .i64 DG.kind)) NEgf_go (.int .i64 DG.id)) NEgf_go (.slice SG.cn.a SG.cn.n SG.cn.c)) NEgf_go (.slice SG.sn.a SG.sn.n SG.sn.c)) NEgf_go (.int .i64 DG.tick)) NEgf_go (.slice SG.cookie.a SG.cookie.n SG.cookie.c)) NEgf_go (.slice SG.proof.a SG.proof.n SG.proof.c)) NEgf_go (.int .i64 DG.epoch)) NEgf_go (.int .i64 DG.seq)) NEgf_go (.slice SG.body.a SG.body.n SG.body.c)) NEgf_go (.slice SG.tag.a SG.tag.n SG.tag.c))).cell 2 rfl); have s0a0c0_gf_3 := hide (((Blk.other (a := ⟨go, 10, none⟩) (Blk.other (a := ⟨go, 9, none⟩) (Blk.other (a := ⟨go, 8, none⟩) (Blk.other (a := ⟨go, 7, none⟩) (Blk.other (a := ⟨go, 6, none⟩) (Blk.other (a := ⟨go, 5, none⟩) (Blk.other (a := ⟨go, 4, none⟩) (Blk.other (a := ⟨go, 3, none⟩) (Blk.other (a := ⟨go, 2, none⟩) (Blk.other (a := ⟨go, 1, none⟩) (Blk.other (a := ⟨go, 0, none⟩) (KF8.out.keep (KQa0c0.out.block gf KF8.out.lt (by have := NPgf.out; omega))) NEgf_go (.int .i64 DG.kind)) NEgf_go (.int .i64 DG.id)) NEgf_go (.slice SG.cn.a SG.cn.n SG.cn.c)) NEgf_go (.slice SG.sn.a SG.sn.n SG.sn.c)) NEgf_go (.int .i64 DG.tick)) NEgf_go (.slice SG.cookie.a SG.cookie.n SG.cookie.c)) NEgf_go (.slice SG.proof.a SG.proof.n SG.proof.c)) NEgf_go (.int .i64 DG.epoch)) NEgf_go (.int .i64 DG.seq)) NEgf_go (.slice SG.body.a SG.body.n SG.body.c)) NEgf_go (.slice SG.tag.a SG.tag.n SG.tag.c))).cell 3 rfl); have s0a0c0_gf_4 := hide (((Blk.other (a := ⟨go, 10, none⟩) (Blk.other (a := ⟨go, 9, none⟩) (Blk.other (a := ⟨go, 8, none⟩) (Blk.other (a := ⟨go, 7, none⟩) (Blk.other (a := ⟨go, 6, none⟩) (Blk.other (a := ⟨go, 5, none⟩) (Blk.other (a := ⟨go, 4, none⟩) (Blk.other (a := ⟨go, 3, none⟩) (Blk.other (a := ⟨go, 2, none⟩) (Blk.other (a := ⟨go, 1, none⟩) (Blk.other (a := ⟨go, 0, none⟩) (KF8.out.keep (KQa0c0.out.block gf KF8.out.lt (by have := NPgf.out; omega))) NEgf_go (.int .i64 DG.kind)) NEgf_go (.int .i64 DG.id)) NEgf_go (.slice SG.cn.a SG.cn.n SG.cn.c)) NEgf_go (.slice SG.sn.a SG.sn.n SG.sn.c)) NEgf_go (.int .i64 DG.tick)) NEgf_go (.slice SG.cookie.a SG.cookie.n SG.cookie.c)) NEgf_go (.slice SG.proof.a SG.proof.n SG.proof.c)) NEgf_go (.int .i64 DG.epoch)) NEgf_go (.int .i64 DG.seq)) NEgf_go (.slice SG.body.a SG.body.n SG.body.c)) NEgf_go (.slice SG.tag.a SG.tag.n SG.tag.c))).cell 4 rfl); have s0a0c0_gf_5 := hide (((Blk.other (a := ⟨go, 10, none⟩) (Blk.other (a := ⟨go, 9, none⟩) (Blk.other (a := ⟨go, 8, none⟩) (Blk.other (a := ⟨go, 7, none⟩) (Blk.other (a := ⟨go, 6, none⟩) (Blk.other (a := ⟨go, 5, none⟩) (Blk.other (a := ⟨go, 4, none⟩) (Blk.other (a := ⟨go, 3, none⟩) (Blk.other (a := ⟨go, 2, none⟩) (Blk.other (a := ⟨go, 1, none⟩) (Blk.other (a := ⟨go, 0, none⟩) (KF8.out.keep (KQa0c0.out.block gf KF8.out.lt (by have := NPgf.out; omega))) NEgf_go (.int .i64 DG.kind)) NEgf_go (.int .i64 DG.id)) NEgf_go (.slice SG.cn.a SG.cn.n SG.cn.c)) NEgf_go (.slice SG.sn.a SG.sn.n SG.sn.c)) NEgf_go (.int .i64 DG.tick)) NEgf_go (.slice SG.cookie.a SG.cookie.n SG.cookie.c)) NEgf_go (.slice SG.proof.a SG.proof.n SG.proof.c)) NEgf_go (.int .i64 DG.epoch)) NEgf_go (.int .i64 DG.seq)) NEgf_go (.slice SG.body.a SG.body.n SG.body.c)) NEgf_go (.slice SG.tag.a SG.tag.n SG.tag.c))).cell 5 rfl); have s0a0c0_gf_6 := hide (((Blk.other (a := ⟨go, 10, none⟩) (Blk.other (a := ⟨go, 9, none⟩) (Blk.other (a := ⟨go, 8, none⟩) (Blk.other (a := ⟨go, 7, none⟩) (Blk.other (a := ⟨go, 6, none⟩) (Blk.other (a := ⟨go, 5, none⟩) (Blk.other (a := ⟨go, 4, none⟩) (Blk.other (a := ⟨go, 3, none⟩) (Blk.other (a := ⟨go, 2, none⟩) (Blk.other (a := ⟨go, 1, none⟩) (Blk.other (a := ⟨go, 0, none⟩) (KF8.out.keep (KQa0c0.out.block gf KF8.out.lt (by have := NPgf.out; omega))) NEgf_go (.int .i64 DG.kind)) NEgf_go (.int .i64 DG.id)) NEgf_go (.slice SG.cn.a SG.cn.n SG.cn.c)) NEgf_go (.slice SG.sn.a SG.sn.n SG.sn.c)) NEgf_go (.int .i64 DG.tick)) NEgf_go (.slice SG.cookie.a SG.cookie.n SG.cookie.c)) NEgf_go (.slice SG.proof.a SG.proof.n SG.proof.c)) NEgf_go (.int .i64 DG.epoch)) NEgf_go (.int .i64 DG.seq)) NEgf_go (.slice SG.body.a SG.body.n SG.body.c)) NEgf_go (.slice SG.tag.a SG.tag.n SG.tag.c))).cell 6 rfl); have s0a0c0_gf_7 := hide (((Blk.other (a := ⟨go, 10, none⟩) (Blk.other (a := ⟨go, 9, none⟩) (Blk.other (a := ⟨go, 8, none⟩) (Blk.other (a := ⟨go, 7, none⟩) (Blk.other (a := ⟨go, 6, none⟩) (Blk.other (a := ⟨go, 5, none⟩) (Blk.other (a := ⟨go, 4, none⟩) (Blk.other (a := ⟨go, 3, none⟩) (Blk.other (a := ⟨go, 2, none⟩) (Blk.other (a := ⟨go, 1, none⟩) (Blk.other (a := ⟨go, 0, none⟩) (KF8.out.keep (KQa0c0.out.block gf KF8.out.lt (by have := NPgf.out; omega))) NEgf_go (.int .i64 DG.kind)) NEgf_go (.int .i64 DG.id)) NEgf_go (.slice SG.cn.a SG.cn.n SG.cn.c)) NEgf_go (.slice SG.sn.a SG.sn.n SG.sn.c)) NEgf_go (.int .i64 DG.tick)) NEgf_go (.slice SG.cookie.a SG.cookie.n SG.cookie.c)) NEgf_go (.slice SG.proof.a SG.proof.n SG.proof.c)) NEgf_go (.int .i64 DG.epoch)) NEgf_go (.int .i64 DG.seq)) NEgf_go (.slice SG.body.a SG.body.n SG.body.c)) NEgf_go (.slice SG.tag.a SG.tag.n SG.tag.c))).cell 7 rfl); have s0a0c0_gf_8 := hide (((Blk.other (a := ⟨go, 10, none⟩) (Blk.other (a := ⟨go, 9, none⟩) (Blk.other (a := ⟨go, 8, none⟩) (Blk.other (a := ⟨go, 7, none⟩) (Blk.other (a := ⟨go, 6, none⟩) (Blk.other (a := ⟨go, 5, none⟩) (Blk.other (a := ⟨go, 4, none⟩) (Blk.other (a := ⟨go, 3, none⟩) (Blk.other (a := ⟨go, 2, none⟩) (Blk.other (a := ⟨go, 1, none⟩) (Blk.other (a := ⟨go, 0, none⟩) (KF8.out.keep (KQa0c0.out.block gf KF8.out.lt (by have := NPgf.out; omega))) NEgf_go (.int .i64 DG.kind)) NEgf_go (.int .i64 DG.id)) NEgf_go (.slice SG.cn.a SG.cn.n SG.cn.c)) NEgf_go (.slice SG.sn.a SG.sn.n SG.sn.c)) NEgf_go (.int .i64 DG.tick)) NEgf_go (.slice SG.cookie.a SG.cookie.n SG.cookie.c)) NEgf_go (.slice SG.proof.a SG.proof.n SG.proof.c)) NEgf_go (.int .i64 DG.epoch)) NEgf_go (.int .i64 DG.seq)) NEgf_go (.slice SG.body.a SG.body.n SG.body.c)) NEgf_go (.slice SG.tag.a SG.tag.n SG.tag.c))).cell 8 rfl); have s0a0c0_gf_9 := hide (((Blk.other (a := ⟨go, 10, none⟩) (Blk.other (a := ⟨go, 9, none⟩) (Blk.other (a := ⟨go, 8, none⟩) (Blk.other (a := ⟨go, 7, none⟩) (Blk.other (a := ⟨go, 6, none⟩) (Blk.other (a := ⟨go, 5, none⟩) (Blk.other (a := ⟨go, 4, none⟩) (Blk.other (a := ⟨go, 3, none⟩) (Blk.other (a := ⟨go, 2, none⟩) (Blk.other (a := ⟨go, 1, none⟩) (Blk.other (a := ⟨go, 0, none⟩) (KF8.out.keep (KQa0c0.out.block gf KF8.out.lt (by have := NPgf.out; omega))) NEgf_go (.int .i64 DG.kind)) NEgf_go (.int .i64 DG.id)) NEgf_go (.slice SG.cn.a SG.cn.n SG.cn.c)) NEgf_go (.slice SG.sn.a SG.sn.n SG.sn.c)) NEgf_go (.int .i64 DG.tick)) NEgf_go (.slice SG.cookie.a SG.cookie.n SG.cookie.c)) NEgf_go (.slice SG.proof.a SG.proof.n SG.proof.c)) NEgf_go (.int .i64 DG.epoch)) NEgf_go (.int .i64 DG.seq)) NEgf_go (.slice SG.body.a SG.body.n SG.body.c)) NEgf_go (.slice SG.tag.a SG.tag.n SG.tag.c))).cell 9 rfl); have s0a0c0_gf_10 := hide (((Blk.other (a := ⟨go, 10, none⟩) (Blk.other (a := ⟨go, 9, none⟩) (Blk.other (a := ⟨go, 8, none⟩) (Blk.other (a := ⟨go, 7, none⟩) (Blk.other (a := ⟨go, 6, none⟩) (Blk.other (a := ⟨go, 5, none⟩) (Blk.other (a := ⟨go, 4, none⟩) (Blk.other (a := ⟨go, 3, none⟩) (Blk.other (a := ⟨go, 2, none⟩) (Blk.other (a := ⟨go, 1, none⟩) (Blk.other (a := ⟨go, 0, none⟩) (KF8.out.keep (KQa0c0.out.block gf KF8.out.lt (by have := NPgf.out; omega))) NEgf_go (.int .i64 DG.kind)) NEgf_go (.int .i64 DG.id)) NEgf_go (.slice SG.cn.a SG.cn.n SG.cn.c)) NEgf_go (.slice SG.sn.a SG.sn.n SG.sn.c)) NEgf_go (.int .i64 DG.tick)) NEgf_go (.slice SG.cookie.a SG.cookie.n SG.cookie.c)) NEgf_go (.slice SG.proof.a SG.proof.n SG.proof.c)) NEgf_go (.int .i64 DG.epoch)) NEgf_go (.int .i64 DG.seq)) NEgf_go (.slice SG.body.a SG.body.n SG.body.c)) NEgf_go (.slice SG.tag.a SG.tag.n SG.tag.c))).cell 10 rfl); clear b0 KS vm r hRd hIn hI2 hNe))
  ·
   skip
   have bQ := BTa0c0.out
   have rQ := RDa0c0.out
   have L9 := hid (bQ.size)
   have KQ : Kept p (p + 1) x8 ya0c0 := Kept.of_grown bQ
   have B9 : Hid (Below w.heap.size w ya0c0) := But.below bQ B8.out (by have := hid8 L1 GA L2 HP L3 L4 L5 Ggf; have := hid4 L6 L7 L8 L9; omega)
   have KO9 := hid (KO8.out.keep (KQ.block _ KO8.out.lt (by have := hid8 L1 GA L2 HP L3 L4 L5 Ggf; have := hid4 L6 L7 L8 L9; omega)))
   have R9 := hid (rQ)
   have OP9 := hid (OP8.out.carry KQ (by have := hid8 L1 GA L2 HP L3 L4 L5 Ggf; have := hid4 L6 L7 L8 L9; omega))
   have OF9 := hid (OF8.out.carry KQ (by have := hid8 L1 GA L2 HP L3 L4 L5 Ggf; have := hid4 L6 L7 L8 L9; omega))
   have OG9 := hid (OG8.out.carry KQ (by have := hid8 L1 GA L2 HP L3 L4 L5 Ggf; have := hid4 L6 L7 L8 L9; omega))
   have KF9 := hid (KF8.out.keep (KQ.block _ KF8.out.lt (by have := hid8 L1 GA L2 HP L3 L4 L5 Ggf; have := hid4 L6 L7 L8 L9; omega)))
   clear B8 KO8 R8 OP8 OF8 OG8 KF8 bQ
   clear KQ rQ
   go_wp2
   have k1 := ((((((((((KO9.out.set 0 (.int .i64 DG.kind) (by simp [maxLen])).set 1 (.int .i64 DG.id) (by simp [maxLen])).set 2 (.slice SG.cn.a SG.cn.n SG.cn.c) (by simp [maxLen])).set 3 (.slice SG.sn.a SG.sn.n SG.sn.c) (by simp [maxLen])).set 4 (.int .i64 DG.tick) (by simp [maxLen])).set 5 (.slice SG.cookie.a SG.cookie.n SG.cookie.c) (by simp [maxLen])).set 6 (.slice SG.proof.a SG.proof.n SG.proof.c) (by simp [maxLen])).set 7 (.int .i64 DG.epoch) (by simp [maxLen])).set 8 (.int .i64 DG.seq) (by simp [maxLen])).set 9 (.slice SG.body.a SG.body.n SG.body.c) (by simp [maxLen])).set 10 (.slice SG.tag.a SG.tag.n SG.tag.c) (by simp [maxLen])
   have KZ := fr_kept ya0c0 go (.int .i64 DG.kind) (.int .i64 DG.id) (.slice SG.cn.a SG.cn.n SG.cn.c) (.slice SG.sn.a SG.sn.n SG.sn.c) (.int .i64 DG.tick) (.slice SG.cookie.a SG.cookie.n SG.cookie.c) (.slice SG.proof.a SG.proof.n SG.proof.c) (.int .i64 DG.epoch) (.int .i64 DG.seq) (.slice SG.body.a SG.body.n SG.body.c) (.slice SG.tag.a SG.tag.n SG.tag.c)
   exact bodyPost_ret (v := .tuple #[.slice P.a P.n P.c, .int .i64 id, frV DG SG]) (res3 rfl (is_tmp rfl) (is_tmp rfl) (is_cell rfl k1 aggFr)) rfl ⟨P, lp, id, SG, DG, rfl, HPL.out, (OP9.out.carry KZ (.inr (by have := hid8 L1 GA L2 HP L3 L4 L5 Ggf; have := hid4 L6 L7 L8 L9; omega))).rd, (OG9.out.carry KZ (.inr (by have := hid8 L1 GA L2 HP L3 L4 L5 Ggf; have := hid4 L6 L7 L8 L9; omega))).rd, B9.out.trans (KZ.below (by have := hid8 L1 GA L2 HP L3 L4 L5 Ggf; have := hid4 L6 L7 L8 L9; omega) B9.out.size)⟩
 | false =>
  go_upto_region 6 with fail
  have RDX := hid (R6.out)
  have BTX : Hid (But p x6 x6) := But.refl p x6
  have PX : Hid (p < x6.heap.size) := R6.out.hc.lt
  have NPgf : Hid (gf ≠ p) := by have := hid8 L1 GA L2 HP L3 L4 L5 Ggf; have := L6.out; show _ ≠ _; omega
  have NPgo : Hid (go ≠ p) := by have := hid8 L1 GA L2 HP L3 L4 L5 Ggf; have := L6.out; show _ ≠ _; omega
  have NEgf_go : gf ≠ go := by have := hid8 L1 GA L2 HP L3 L4 L5 Ggf; have := L6.out; omega
  obtain ⟨z_gf_0, z_gf_1, z_gf_2, z_gf_3, z_gf_4, z_gf_5, z_gf_6, z_gf_7, z_gf_8, z_gf_9, z_gf_10⟩ := cells11 (KF6.out)
  have zd_gf_0 := hide ((KF6.out.later ((Below.refl _ _).drew)).cell 0 rfl)
  have zd_gf_1 := hide ((KF6.out.later ((Below.refl _ _).drew)).cell 1 rfl)
  have zd_gf_2 := hide ((KF6.out.later ((Below.refl _ _).drew)).cell 2 rfl)
  have zd_gf_3 := hide ((KF6.out.later ((Below.refl _ _).drew)).cell 3 rfl)
  have zd_gf_4 := hide ((KF6.out.later ((Below.refl _ _).drew)).cell 4 rfl)
  have zd_gf_5 := hide ((KF6.out.later ((Below.refl _ _).drew)).cell 5 rfl)
  have zd_gf_6 := hide ((KF6.out.later ((Below.refl _ _).drew)).cell 6 rfl)
  have zd_gf_7 := hide ((KF6.out.later ((Below.refl _ _).drew)).cell 7 rfl)
  have zd_gf_8 := hide ((KF6.out.later ((Below.refl _ _).drew)).cell 8 rfl)
  have zd_gf_9 := hide ((KF6.out.later ((Below.refl _ _).drew)).cell 9 rfl)
  have zd_gf_10 := hide ((KF6.out.later ((Below.refl _ _).drew)).cell 10 rfl)
  have za0_gf_0 := hide ((((KF6.out).alloc (.cells #[.int .i64 1, .int .i64 2, .int .i64 9, .int .i64 1, .int .i64 2, .int .i64 0, .int .i64 10] 3))).cell 0 rfl)
  have za0_gf_1 := hide ((((KF6.out).alloc (.cells #[.int .i64 1, .int .i64 2, .int .i64 9, .int .i64 1, .int .i64 2, .int .i64 0, .int .i64 10] 3))).cell 1 rfl)
  have za0_gf_2 := hide ((((KF6.out).alloc (.cells #[.int .i64 1, .int .i64 2, .int .i64 9, .int .i64 1, .int .i64 2, .int .i64 0, .int .i64 10] 3))).cell 2 rfl)
  have za0_gf_3 := hide ((((KF6.out).alloc (.cells #[.int .i64 1, .int .i64 2, .int .i64 9, .int .i64 1, .int .i64 2, .int .i64 0, .int .i64 10] 3))).cell 3 rfl)
  have za0_gf_4 := hide ((((KF6.out).alloc (.cells #[.int .i64 1, .int .i64 2, .int .i64 9, .int .i64 1, .int .i64 2, .int .i64 0, .int .i64 10] 3))).cell 4 rfl)
  have za0_gf_5 := hide ((((KF6.out).alloc (.cells #[.int .i64 1, .int .i64 2, .int .i64 9, .int .i64 1, .int .i64 2, .int .i64 0, .int .i64 10] 3))).cell 5 rfl)
  have za0_gf_6 := hide ((((KF6.out).alloc (.cells #[.int .i64 1, .int .i64 2, .int .i64 9, .int .i64 1, .int .i64 2, .int .i64 0, .int .i64 10] 3))).cell 6 rfl)
  have za0_gf_7 := hide ((((KF6.out).alloc (.cells #[.int .i64 1, .int .i64 2, .int .i64 9, .int .i64 1, .int .i64 2, .int .i64 0, .int .i64 10] 3))).cell 7 rfl)
  have za0_gf_8 := hide ((((KF6.out).alloc (.cells #[.int .i64 1, .int .i64 2, .int .i64 9, .int .i64 1, .int .i64 2, .int .i64 0, .int .i64 10] 3))).cell 8 rfl)
  have za0_gf_9 := hide ((((KF6.out).alloc (.cells #[.int .i64 1, .int .i64 2, .int .i64 9, .int .i64 1, .int .i64 2, .int .i64 0, .int .i64 10] 3))).cell 9 rfl)
  have za0_gf_10 := hide ((((KF6.out).alloc (.cells #[.int .i64 1, .int .i64 2, .int .i64 9, .int .i64 1, .int .i64 2, .int .i64 0, .int .i64 10] 3))).cell 10 rfl)
  have za0d_gf_0 := hide (((((KF6.out).alloc (.cells #[.int .i64 1, .int .i64 2, .int .i64 9, .int .i64 1, .int .i64 2, .int .i64 0, .int .i64 10] 3))).later ((Below.refl _ _).drew)).cell 0 rfl)
  have za0d_gf_1 := hide (((((KF6.out).alloc (.cells #[.int .i64 1, .int .i64 2, .int .i64 9, .int .i64 1, .int .i64 2, .int .i64 0, .int .i64 10] 3))).later ((Below.refl _ _).drew)).cell 1 rfl)
  have za0d_gf_2 := hide (((((KF6.out).alloc (.cells #[.int .i64 1, .int .i64 2, .int .i64 9, .int .i64 1, .int .i64 2, .int .i64 0, .int .i64 10] 3))).later ((Below.refl _ _).drew)).cell 2 rfl)
  have za0d_gf_3 := hide (((((KF6.out).alloc (.cells #[.int .i64 1, .int .i64 2, .int .i64 9, .int .i64 1, .int .i64 2, .int .i64 0, .int .i64 10] 3))).later ((Below.refl _ _).drew)).cell 3 rfl)
  have za0d_gf_4 := hide (((((KF6.out).alloc (.cells #[.int .i64 1, .int .i64 2, .int .i64 9, .int .i64 1, .int .i64 2, .int .i64 0, .int .i64 10] 3))).later ((Below.refl _ _).drew)).cell 4 rfl)
  have za0d_gf_5 := hide (((((KF6.out).alloc (.cells #[.int .i64 1, .int .i64 2, .int .i64 9, .int .i64 1, .int .i64 2, .int .i64 0, .int .i64 10] 3))).later ((Below.refl _ _).drew)).cell 5 rfl)
  have za0d_gf_6 := hide (((((KF6.out).alloc (.cells #[.int .i64 1, .int .i64 2, .int .i64 9, .int .i64 1, .int .i64 2, .int .i64 0, .int .i64 10] 3))).later ((Below.refl _ _).drew)).cell 6 rfl)
  have za0d_gf_7 := hide (((((KF6.out).alloc (.cells #[.int .i64 1, .int .i64 2, .int .i64 9, .int .i64 1, .int .i64 2, .int .i64 0, .int .i64 10] 3))).later ((Below.refl _ _).drew)).cell 7 rfl)
  have za0d_gf_8 := hide (((((KF6.out).alloc (.cells #[.int .i64 1, .int .i64 2, .int .i64 9, .int .i64 1, .int .i64 2, .int .i64 0, .int .i64 10] 3))).later ((Below.refl _ _).drew)).cell 8 rfl)
  have za0d_gf_9 := hide (((((KF6.out).alloc (.cells #[.int .i64 1, .int .i64 2, .int .i64 9, .int .i64 1, .int .i64 2, .int .i64 0, .int .i64 10] 3))).later ((Below.refl _ _).drew)).cell 9 rfl)
  have za0d_gf_10 := hide (((((KF6.out).alloc (.cells #[.int .i64 1, .int .i64 2, .int .i64 9, .int .i64 1, .int .i64 2, .int .i64 0, .int .i64 10] 3))).later ((Below.refl _ _).drew)).cell 10 rfl)
  go_upto_region 6 with fail
  go_region_held3 (fun w' => w'.cell? ⟨gf, 0, none⟩ = some (.int .i64 F.kind) ∧ w'.cell? ⟨gf, 1, none⟩ = some (.int .i64 F.id) ∧ w'.cell? ⟨gf, 2, none⟩ = some (.slice SF.cn.a SF.cn.n SF.cn.c) ∧ w'.cell? ⟨gf, 3, none⟩ = some (.slice SF.sn.a SF.sn.n SF.sn.c) ∧ w'.cell? ⟨gf, 4, none⟩ = some (.int .i64 F.tick) ∧ w'.cell? ⟨gf, 5, none⟩ = some (.slice SF.cookie.a SF.cookie.n SF.cookie.c) ∧ w'.cell? ⟨gf, 6, none⟩ = some (.slice SF.proof.a SF.proof.n SF.proof.c) ∧ w'.cell? ⟨gf, 7, none⟩ = some (.int .i64 F.epoch) ∧ w'.cell? ⟨gf, 8, none⟩ = some (.int .i64 F.seq) ∧ w'.cell? ⟨gf, 9, none⟩ = some (.slice SF.body.a SF.body.n SF.body.c) ∧ w'.cell? ⟨gf, 10, none⟩ = some (.slice SF.tag.a SF.tag.n SF.tag.c)) (first | with_reducible exact ⟨s0a0c0_gf_0.out, s0a0c0_gf_1.out, s0a0c0_gf_2.out, s0a0c0_gf_3.out, s0a0c0_gf_4.out, s0a0c0_gf_5.out, s0a0c0_gf_6.out, s0a0c0_gf_7.out, s0a0c0_gf_8.out, s0a0c0_gf_9.out, s0a0c0_gf_10.out⟩ | with_reducible exact ⟨ka0c0_gf_0, ka0c0_gf_1, ka0c0_gf_2, ka0c0_gf_3, ka0c0_gf_4, ka0c0_gf_5, ka0c0_gf_6, ka0c0_gf_7, ka0c0_gf_8, ka0c0_gf_9, ka0c0_gf_10⟩ | with_reducible exact ⟨za0d_gf_0.out, za0d_gf_1.out, za0d_gf_2.out, za0d_gf_3.out, za0d_gf_4.out, za0d_gf_5.out, za0d_gf_6.out, za0d_gf_7.out, za0d_gf_8.out, za0d_gf_9.out, za0d_gf_10.out⟩ | with_reducible exact ⟨za0_gf_0.out, za0_gf_1.out, za0_gf_2.out, za0_gf_3.out, za0_gf_4.out, za0_gf_5.out, za0_gf_6.out, za0_gf_7.out, za0_gf_8.out, za0_gf_9.out, za0_gf_10.out⟩ | with_reducible exact ⟨zd_gf_0.out, zd_gf_1.out, zd_gf_2.out, zd_gf_3.out, zd_gf_4.out, zd_gf_5.out, zd_gf_6.out, zd_gf_7.out, zd_gf_8.out, zd_gf_9.out, zd_gf_10.out⟩ | with_reducible exact ⟨z_gf_0, z_gf_1, z_gf_2, z_gf_3, z_gf_4, z_gf_5, z_gf_6, z_gf_7, z_gf_8, z_gf_9, z_gf_10⟩ | go_keep)
   (first
    | (go_at_call 30; (with_reducible (show Calls _ _ _ (x6.alloc (.cells #[.int .i64 1, .int .i64 2, .int .i64 9, .int .i64 1, .int .i64 2, .int .i64 0, .int .i64 10] 3)).drew _)); have hRd : Ready x1 a len cap l p (x6.alloc (.cells #[.int .i64 1, .int .i64 2, .int .i64 9, .int .i64 1, .int .i64 2, .int .i64 0, .int .i64 10] 3)).drew := (rdyL (RDX.out.alloc _) ((Below.refl _ _).drew)); have hIn : IntsAt (x6.alloc (.cells #[.int .i64 1, .int .i64 2, .int .i64 9, .int .i64 1, .int .i64 2, .int .i64 0, .int .i64 10] 3)) (x6.heap.size) [1, 2, 9, 1, 2, 0, 10] := (ints_at x6 [1, 2, 9, 1, 2, 0, 10] (x6.heap.size) (by rfl)); have hI2 : IntsAt (x6.alloc (.cells #[.int .i64 1, .int .i64 2, .int .i64 9, .int .i64 1, .int .i64 2, .int .i64 0, .int .i64 10] 3)).drew (x6.heap.size) [1, 2, 9, 1, 2, 0, 10] := hIn; have hNe : (x6.heap.size) ≠ p := (by have := PX.out; have := World.size_alloc x6 (.cells #[.int .i64 1, .int .i64 2, .int .i64 9, .int .i64 1, .int .i64 2, .int .i64 0, .int .i64 10] 3); show _ ≠ _; omega); refine (intOfList hRd (x6.heap.size) 7 [1, 2, 9, 1, 2, 0, 10] rfl hI2 hNe (by omega) (by omega)).mono ?_; rintro e ya0c0 ⟨id, rfl, vm, r, b0⟩; have VMid : Hid (id ∈ ([1, 2, 9, 1, 2, 0, 10] : List Int)) := vm; have RDa0c0 := hid (r); have BTa0c0 : Hid (But p x6 ya0c0) := (But.drew (BTX.out.alloc _)).trans b0; have KQa0c0 : Hid (Kept p (p + 1) x6 ya0c0) := Kept.of_grown BTa0c0.out; have KS : Kept p (p + 1) (x6.alloc (.cells #[.int .i64 1, .int .i64 2, .int .i64 9, .int .i64 1, .int .i64 2, .int .i64 0, .int .i64 10] 3)).drew ya0c0 := Kept.of_grown b0; have ka0c0_gf_0 := (KF6.out.keep (KQa0c0.out.block gf KF6.out.lt (by have := NPgf.out; omega))).cell 0 rfl; have ka0c0_gf_1 := (KF6.out.keep (KQa0c0.out.block gf KF6.out.lt (by have := NPgf.out; omega))).cell 1 rfl; have ka0c0_gf_2 := (KF6.out.keep (KQa0c0.out.block gf KF6.out.lt (by have := NPgf.out; omega))).cell 2 rfl; have ka0c0_gf_3 := (KF6.out.keep (KQa0c0.out.block gf KF6.out.lt (by have := NPgf.out; omega))).cell 3 rfl; have ka0c0_gf_4 := (KF6.out.keep (KQa0c0.out.block gf KF6.out.lt (by have := NPgf.out; omega))).cell 4 rfl; have ka0c0_gf_5 := (KF6.out.keep (KQa0c0.out.block gf KF6.out.lt (by have := NPgf.out; omega))).cell 5 rfl; have ka0c0_gf_6 := (KF6.out.keep (KQa0c0.out.block gf KF6.out.lt (by have := NPgf.out; omega))).cell 6 rfl; have ka0c0_gf_7 := (KF6.out.keep (KQa0c0.out.block gf KF6.out.lt (by have := NPgf.out; omega))).cell 7 rfl; have ka0c0_gf_8 := (KF6.out.keep (KQa0c0.out.block gf KF6.out.lt (by have := NPgf.out; omega))).cell 8 rfl; have ka0c0_gf_9 := (KF6.out.keep (KQa0c0.out.block gf KF6.out.lt (by have := NPgf.out; omega))).cell 9 rfl; have ka0c0_gf_10 := (KF6.out.keep (KQa0c0.out.block gf KF6.out.lt (by have := NPgf.out; omega))).cell 10 rfl; have KYKO := KO6.out.keep (KQa0c0.out.block go KO6.out.lt (by have := NPgo.out; omega)); have qKO0 := KYKO.cell 0 rfl; have rKO0 := KYKO.frozen 0; have qKO1 := KYKO.cell 1 rfl; have rKO1 := KYKO.frozen 1; have qKO2 := KYKO.cell 2 rfl; have rKO2 := KYKO.frozen 2; have qKO3 := KYKO.cell 3 rfl; have rKO3 := KYKO.frozen 3; have qKO4 := KYKO.cell 4 rfl; have rKO4 := KYKO.frozen 4; have qKO5 := KYKO.cell 5 rfl; have rKO5 := KYKO.frozen 5; have qKO6 := KYKO.cell 6 rfl; have rKO6 := KYKO.frozen 6; have qKO7 := KYKO.cell 7 rfl; have rKO7 := KYKO.frozen 7; have qKO8 := KYKO.cell 8 rfl; have rKO8 := KYKO.frozen 8; have qKO9 := KYKO.cell 9 rfl; have rKO9 := KYKO.frozen 9; have qKO10 := KYKO.cell 10 rfl; have rKO10 := KYKO.frozen 10; have s0a0c0_gf_0 := hide (((Blk.other (a := ⟨go, 10, none⟩) (Blk.other (a := ⟨go, 9, none⟩) (Blk.other (a := ⟨go, 8, none⟩) (Blk.other (a := ⟨go, 7, none⟩) (Blk.other (a := ⟨go, 6, none⟩) (Blk.other (a := ⟨go, 5, none⟩) (Blk.other (a := ⟨go, 4, none⟩) (Blk.other (a := ⟨go, 3, none⟩) (Blk.other (a := ⟨go, 2, none⟩) (Blk.other (a := ⟨go, 1, none⟩) (Blk.other (a := ⟨go, 0, none⟩) (KF6.out.keep (KQa0c0.out.block gf KF6.out.lt (by have := NPgf.out; omega))) NEgf_go (.int .i64 F.kind)) NEgf_go (.int .i64 F.id)) NEgf_go (.slice SF.cn.a SF.cn.n SF.cn.c)) NEgf_go (.slice SF.sn.a SF.sn.n SF.sn.c)) NEgf_go (.int .i64 F.tick)) NEgf_go (.slice SF.cookie.a SF.cookie.n SF.cookie.c)) NEgf_go (.slice SF.proof.a SF.proof.n SF.proof.c)) NEgf_go (.int .i64 F.epoch)) NEgf_go (.int .i64 F.seq)) NEgf_go (.slice SF.body.a SF.body.n SF.body.c)) NEgf_go (.slice SF.tag.a SF.tag.n SF.tag.c))).cell 0 rfl); have s0a0c0_gf_1 := hide (((Blk.other (a := ⟨go, 10, none⟩) (Blk.other (a := ⟨go, 9, none⟩) (Blk.other (a := ⟨go, 8, none⟩) (Blk.other (a := ⟨go, 7, none⟩) (Blk.other (a := ⟨go, 6, none⟩) (Blk.other (a := ⟨go, 5, none⟩) (Blk.other (a := ⟨go, 4, none⟩) (Blk.other (a := ⟨go, 3, none⟩) (Blk.other (a := ⟨go, 2, none⟩) (Blk.other (a := ⟨go, 1, none⟩) (Blk.other (a := ⟨go, 0, none⟩) (KF6.out.keep (KQa0c0.out.block gf KF6.out.lt (by have := NPgf.out; omega))) NEgf_go (.int .i64 F.kind)) NEgf_go (.int .i64 F.id)) NEgf_go (.slice SF.cn.a SF.cn.n SF.cn.c)) NEgf_go (.slice SF.sn.a SF.sn.n SF.sn.c)) NEgf_go (.int .i64 F.tick)) NEgf_go (.slice SF.cookie.a SF.cookie.n SF.cookie.c)) NEgf_go (.slice SF.proof.a SF.proof.n SF.proof.c)) NEgf_go (.int .i64 F.epoch)) NEgf_go (.int .i64 F.seq)) NEgf_go (.slice SF.body.a SF.body.n SF.body.c)) NEgf_go (.slice SF.tag.a SF.tag.n SF.tag.c))).cell 1 rfl); have s0a0c0_gf_2 := hide (((Blk.other (a := ⟨go, 10, none⟩) (Blk.other (a := ⟨go, 9, none⟩) (Blk.other (a := ⟨go, 8, none⟩) (Blk.other (a := ⟨go, 7, none⟩) (Blk.other (a := ⟨go, 6, none⟩) (Blk.other (a := ⟨go, 5, none⟩) (Blk.other (a := ⟨go, 4, none⟩) (Blk.other (a := ⟨go, 3, none⟩) (Blk.other (a := ⟨go, 2, none⟩) (Blk.other (a := ⟨go, 1, none⟩) (Blk.other (a := ⟨go, 0, none⟩) (KF6.out.keep (KQa0c0.out.block gf KF6.out.lt (by have := NPgf.out; omega))) NEgf_go (.int .i64 F.kind)) NEgf_go (.int .i64 F.id)) NEgf_go (.slice SF.cn.a SF.cn.n SF.cn.c)) NEgf_go (.slice SF.sn.a SF.sn.n SF.sn.c)) NEgf_go (.int .i64 F.tick)) NEgf_go (.slice SF.cookie.a SF.cookie.n SF.cookie.c)) NEgf_go (.slice SF.proof.a SF.proof.n SF.proof.c)) NEgf_go (.int .i64 F.epoch)) NEgf_go (.int .i64 F.seq)) NEgf_go (.slice SF.body.a SF.body.n SF.body.c)) NEgf_go (.slice SF.tag.a SF.tag.n SF.tag.c))).cell 2 rfl); have s0a0c0_gf_3 := hide (((Blk.other (a := ⟨go, 10, none⟩) (Blk.other (a := ⟨go, 9, none⟩) (Blk.other (a := ⟨go, 8, none⟩) (Blk.other (a := ⟨go, 7, none⟩) (Blk.other (a := ⟨go, 6, none⟩) (Blk.other (a := ⟨go, 5, none⟩) (Blk.other (a := ⟨go, 4, none⟩) (Blk.other (a := ⟨go, 3, none⟩) (Blk.other (a := ⟨go, 2, none⟩) (Blk.other (a := ⟨go, 1, none⟩) (Blk.other (a := ⟨go, 0, none⟩) (KF6.out.keep (KQa0c0.out.block gf KF6.out.lt (by have := NPgf.out; omega))) NEgf_go (.int .i64 F.kind)) NEgf_go (.int .i64 F.id)) NEgf_go (.slice SF.cn.a SF.cn.n SF.cn.c)) NEgf_go (.slice SF.sn.a SF.sn.n SF.sn.c)) NEgf_go (.int .i64 F.tick)) NEgf_go (.slice SF.cookie.a SF.cookie.n SF.cookie.c)) NEgf_go (.slice SF.proof.a SF.proof.n SF.proof.c)) NEgf_go (.int .i64 F.epoch)) NEgf_go (.int .i64 F.seq)) NEgf_go (.slice SF.body.a SF.body.n SF.body.c)) NEgf_go (.slice SF.tag.a SF.tag.n SF.tag.c))).cell 3 rfl); have s0a0c0_gf_4 := hide (((Blk.other (a := ⟨go, 10, none⟩) (Blk.other (a := ⟨go, 9, none⟩) (Blk.other (a := ⟨go, 8, none⟩) (Blk.other (a := ⟨go, 7, none⟩) (Blk.other (a := ⟨go, 6, none⟩) (Blk.other (a := ⟨go, 5, none⟩) (Blk.other (a := ⟨go, 4, none⟩) (Blk.other (a := ⟨go, 3, none⟩) (Blk.other (a := ⟨go, 2, none⟩) (Blk.other (a := ⟨go, 1, none⟩) (Blk.other (a := ⟨go, 0, none⟩) (KF6.out.keep (KQa0c0.out.block gf KF6.out.lt (by have := NPgf.out; omega))) NEgf_go (.int .i64 F.kind)) NEgf_go (.int .i64 F.id)) NEgf_go (.slice SF.cn.a SF.cn.n SF.cn.c)) NEgf_go (.slice SF.sn.a SF.sn.n SF.sn.c)) NEgf_go (.int .i64 F.tick)) NEgf_go (.slice SF.cookie.a SF.cookie.n SF.cookie.c)) NEgf_go (.slice SF.proof.a SF.proof.n SF.proof.c)) NEgf_go (.int .i64 F.epoch)) NEgf_go (.int .i64 F.seq)) NEgf_go (.slice SF.body.a SF.body.n SF.body.c)) NEgf_go (.slice SF.tag.a SF.tag.n SF.tag.c))).cell 4 rfl); have s0a0c0_gf_5 := hide (((Blk.other (a := ⟨go, 10, none⟩) (Blk.other (a := ⟨go, 9, none⟩) (Blk.other (a := ⟨go, 8, none⟩) (Blk.other (a := ⟨go, 7, none⟩) (Blk.other (a := ⟨go, 6, none⟩) (Blk.other (a := ⟨go, 5, none⟩) (Blk.other (a := ⟨go, 4, none⟩) (Blk.other (a := ⟨go, 3, none⟩) (Blk.other (a := ⟨go, 2, none⟩) (Blk.other (a := ⟨go, 1, none⟩) (Blk.other (a := ⟨go, 0, none⟩) (KF6.out.keep (KQa0c0.out.block gf KF6.out.lt (by have := NPgf.out; omega))) NEgf_go (.int .i64 F.kind)) NEgf_go (.int .i64 F.id)) NEgf_go (.slice SF.cn.a SF.cn.n SF.cn.c)) NEgf_go (.slice SF.sn.a SF.sn.n SF.sn.c)) NEgf_go (.int .i64 F.tick)) NEgf_go (.slice SF.cookie.a SF.cookie.n SF.cookie.c)) NEgf_go (.slice SF.proof.a SF.proof.n SF.proof.c)) NEgf_go (.int .i64 F.epoch)) NEgf_go (.int .i64 F.seq)) NEgf_go (.slice SF.body.a SF.body.n SF.body.c)) NEgf_go (.slice SF.tag.a SF.tag.n SF.tag.c))).cell 5 rfl); have s0a0c0_gf_6 := hide (((Blk.other (a := ⟨go, 10, none⟩) (Blk.other (a := ⟨go, 9, none⟩) (Blk.other (a := ⟨go, 8, none⟩) (Blk.other (a := ⟨go, 7, none⟩) (Blk.other (a := ⟨go, 6, none⟩) (Blk.other (a := ⟨go, 5, none⟩) (Blk.other (a := ⟨go, 4, none⟩) (Blk.other (a := ⟨go, 3, none⟩) (Blk.other (a := ⟨go, 2, none⟩) (Blk.other (a := ⟨go, 1, none⟩) (Blk.other (a := ⟨go, 0, none⟩) (KF6.out.keep (KQa0c0.out.block gf KF6.out.lt (by have := NPgf.out; omega))) NEgf_go (.int .i64 F.kind)) NEgf_go (.int .i64 F.id)) NEgf_go (.slice SF.cn.a SF.cn.n SF.cn.c)) NEgf_go (.slice SF.sn.a SF.sn.n SF.sn.c)) NEgf_go (.int .i64 F.tick)) NEgf_go (.slice SF.cookie.a SF.cookie.n SF.cookie.c)) NEgf_go (.slice SF.proof.a SF.proof.n SF.proof.c)) NEgf_go (.int .i64 F.epoch)) NEgf_go (.int .i64 F.seq)) NEgf_go (.slice SF.body.a SF.body.n SF.body.c)) NEgf_go (.slice SF.tag.a SF.tag.n SF.tag.c))).cell 6 rfl); have s0a0c0_gf_7 := hide (((Blk.other (a := ⟨go, 10, none⟩) (Blk.other (a := ⟨go, 9, none⟩) (Blk.other (a := ⟨go, 8, none⟩) (Blk.other (a := ⟨go, 7, none⟩) (Blk.other (a := ⟨go, 6, none⟩) (Blk.other (a := ⟨go, 5, none⟩) (Blk.other (a := ⟨go, 4, none⟩) (Blk.other (a := ⟨go, 3, none⟩) (Blk.other (a := ⟨go, 2, none⟩) (Blk.other (a := ⟨go, 1, none⟩) (Blk.other (a := ⟨go, 0, none⟩) (KF6.out.keep (KQa0c0.out.block gf KF6.out.lt (by have := NPgf.out; omega))) NEgf_go (.int .i64 F.kind)) NEgf_go (.int .i64 F.id)) NEgf_go (.slice SF.cn.a SF.cn.n SF.cn.c)) NEgf_go (.slice SF.sn.a SF.sn.n SF.sn.c)) NEgf_go (.int .i64 F.tick)) NEgf_go (.slice SF.cookie.a SF.cookie.n SF.cookie.c)) NEgf_go (.slice SF.proof.a SF.proof.n SF.proof.c)) NEgf_go (.int .i64 F.epoch)) NEgf_go (.int .i64 F.seq)) NEgf_go (.slice SF.body.a SF.body.n SF.body.c)) NEgf_go (.slice SF.tag.a SF.tag.n SF.tag.c))).cell 7 rfl); have s0a0c0_gf_8 := hide (((Blk.other (a := ⟨go, 10, none⟩) (Blk.other (a := ⟨go, 9, none⟩) (Blk.other (a := ⟨go, 8, none⟩) (Blk.other (a := ⟨go, 7, none⟩) (Blk.other (a := ⟨go, 6, none⟩) (Blk.other (a := ⟨go, 5, none⟩) (Blk.other (a := ⟨go, 4, none⟩) (Blk.other (a := ⟨go, 3, none⟩) (Blk.other (a := ⟨go, 2, none⟩) (Blk.other (a := ⟨go, 1, none⟩) (Blk.other (a := ⟨go, 0, none⟩) (KF6.out.keep (KQa0c0.out.block gf KF6.out.lt (by have := NPgf.out; omega))) NEgf_go (.int .i64 F.kind)) NEgf_go (.int .i64 F.id)) NEgf_go (.slice SF.cn.a SF.cn.n SF.cn.c)) NEgf_go (.slice SF.sn.a SF.sn.n SF.sn.c)) NEgf_go (.int .i64 F.tick)) NEgf_go (.slice SF.cookie.a SF.cookie.n SF.cookie.c)) NEgf_go (.slice SF.proof.a SF.proof.n SF.proof.c)) NEgf_go (.int .i64 F.epoch)) NEgf_go (.int .i64 F.seq)) NEgf_go (.slice SF.body.a SF.body.n SF.body.c)) NEgf_go (.slice SF.tag.a SF.tag.n SF.tag.c))).cell 8 rfl); have s0a0c0_gf_9 := hide (((Blk.other (a := ⟨go, 10, none⟩) (Blk.other (a := ⟨go, 9, none⟩) (Blk.other (a := ⟨go, 8, none⟩) (Blk.other (a := ⟨go, 7, none⟩) (Blk.other (a := ⟨go, 6, none⟩) (Blk.other (a := ⟨go, 5, none⟩) (Blk.other (a := ⟨go, 4, none⟩) (Blk.other (a := ⟨go, 3, none⟩) (Blk.other (a := ⟨go, 2, none⟩) (Blk.other (a := ⟨go, 1, none⟩) (Blk.other (a := ⟨go, 0, none⟩) (KF6.out.keep (KQa0c0.out.block gf KF6.out.lt (by have := NPgf.out; omega))) NEgf_go (.int .i64 F.kind)) NEgf_go (.int .i64 F.id)) NEgf_go (.slice SF.cn.a SF.cn.n SF.cn.c)) NEgf_go (.slice SF.sn.a SF.sn.n SF.sn.c)) NEgf_go (.int .i64 F.tick)) NEgf_go (.slice SF.cookie.a SF.cookie.n SF.cookie.c)) NEgf_go (.slice SF.proof.a SF.proof.n SF.proof.c)) NEgf_go (.int .i64 F.epoch)) NEgf_go (.int .i64 F.seq)) NEgf_go (.slice SF.body.a SF.body.n SF.body.c)) NEgf_go (.slice SF.tag.a SF.tag.n SF.tag.c))).cell 9 rfl); have s0a0c0_gf_10 := hide (((Blk.other (a := ⟨go, 10, none⟩) (Blk.other (a := ⟨go, 9, none⟩) (Blk.other (a := ⟨go, 8, none⟩) (Blk.other (a := ⟨go, 7, none⟩) (Blk.other (a := ⟨go, 6, none⟩) (Blk.other (a := ⟨go, 5, none⟩) (Blk.other (a := ⟨go, 4, none⟩) (Blk.other (a := ⟨go, 3, none⟩) (Blk.other (a := ⟨go, 2, none⟩) (Blk.other (a := ⟨go, 1, none⟩) (Blk.other (a := ⟨go, 0, none⟩) (KF6.out.keep (KQa0c0.out.block gf KF6.out.lt (by have := NPgf.out; omega))) NEgf_go (.int .i64 F.kind)) NEgf_go (.int .i64 F.id)) NEgf_go (.slice SF.cn.a SF.cn.n SF.cn.c)) NEgf_go (.slice SF.sn.a SF.sn.n SF.sn.c)) NEgf_go (.int .i64 F.tick)) NEgf_go (.slice SF.cookie.a SF.cookie.n SF.cookie.c)) NEgf_go (.slice SF.proof.a SF.proof.n SF.proof.c)) NEgf_go (.int .i64 F.epoch)) NEgf_go (.int .i64 F.seq)) NEgf_go (.slice SF.body.a SF.body.n SF.body.c)) NEgf_go (.slice SF.tag.a SF.tag.n SF.tag.c))).cell 10 rfl); clear b0 KS vm r hRd hIn hI2 hNe))
  ·
   skip
   have bQ := BTa0c0.out
   have rQ := RDa0c0.out
   have L7 := hid (bQ.size)
   have KQ : Kept p (p + 1) x6 ya0c0 := Kept.of_grown bQ
   have B7 : Hid (Below w.heap.size w ya0c0) := But.below bQ B6.out (by have := hid8 L1 GA L2 HP L3 L4 L5 Ggf; have := hid2 L6 L7; omega)
   have KO7 := hid (KO6.out.keep (KQ.block _ KO6.out.lt (by have := hid8 L1 GA L2 HP L3 L4 L5 Ggf; have := hid2 L6 L7; omega)))
   have R7 := hid (rQ)
   have OP7 := hid (OP6.out.carry KQ (by have := hid8 L1 GA L2 HP L3 L4 L5 Ggf; have := hid2 L6 L7; omega))
   have OF7 := hid (OF6.out.carry KQ (by have := hid8 L1 GA L2 HP L3 L4 L5 Ggf; have := hid2 L6 L7; omega))
   have KF7 := hid (KF6.out.keep (KQ.block _ KF6.out.lt (by have := hid8 L1 GA L2 HP L3 L4 L5 Ggf; have := hid2 L6 L7; omega)))
   clear B6 KO6 R6 OP6 OF6 KF6 bQ
   clear KQ rQ
   go_wp2
   have k1 := ((((((((((KO7.out.set 0 (.int .i64 F.kind) (by simp [maxLen])).set 1 (.int .i64 F.id) (by simp [maxLen])).set 2 (.slice SF.cn.a SF.cn.n SF.cn.c) (by simp [maxLen])).set 3 (.slice SF.sn.a SF.sn.n SF.sn.c) (by simp [maxLen])).set 4 (.int .i64 F.tick) (by simp [maxLen])).set 5 (.slice SF.cookie.a SF.cookie.n SF.cookie.c) (by simp [maxLen])).set 6 (.slice SF.proof.a SF.proof.n SF.proof.c) (by simp [maxLen])).set 7 (.int .i64 F.epoch) (by simp [maxLen])).set 8 (.int .i64 F.seq) (by simp [maxLen])).set 9 (.slice SF.body.a SF.body.n SF.body.c) (by simp [maxLen])).set 10 (.slice SF.tag.a SF.tag.n SF.tag.c) (by simp [maxLen])
   have KZ := fr_kept ya0c0 go (.int .i64 F.kind) (.int .i64 F.id) (.slice SF.cn.a SF.cn.n SF.cn.c) (.slice SF.sn.a SF.sn.n SF.sn.c) (.int .i64 F.tick) (.slice SF.cookie.a SF.cookie.n SF.cookie.c) (.slice SF.proof.a SF.proof.n SF.proof.c) (.int .i64 F.epoch) (.int .i64 F.seq) (.slice SF.body.a SF.body.n SF.body.c) (.slice SF.tag.a SF.tag.n SF.tag.c)
   exact bodyPost_ret (v := .tuple #[.slice P.a P.n P.c, .int .i64 id, frV F SF]) (res3 rfl (is_tmp rfl) (is_tmp rfl) (is_cell rfl k1 aggFr)) rfl ⟨P, lp, id, SF, F, rfl, HPL.out, (OP7.out.carry KZ (.inr (by have := hid8 L1 GA L2 HP L3 L4 L5 Ggf; have := hid2 L6 L7; omega))).rd, (OF7.out.carry KZ (.inr (by have := hid8 L1 GA L2 HP L3 L4 L5 Ggf; have := hid2 L6 L7; omega))).rd, B7.out.trans (KZ.below (by have := hid8 L1 GA L2 HP L3 L4 L5 Ggf; have := hid2 L6 L7; omega) B7.out.size)⟩

end Go.Proofs.YtpenhliaelhnoaaGreatDoor.DrKf
