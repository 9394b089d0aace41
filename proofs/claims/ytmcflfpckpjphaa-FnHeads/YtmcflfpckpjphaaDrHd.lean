/-
  What spec.DrawHeadOf and spec.DrawTagInput give.
-/
import Derived.Test.YtmcflfpckpjphaaFrDa
import Derived.Test.YtmcflfpckpjphaaHs6
import Derived.Test.YtmcflfpckpjphaaHs9
import Derived.Test.YtmcflfpckpjphaaHs8
import Derived.Deep.RegionHeld3
namespace Go.Proofs.Ytmcflfpckpjphaa.DrHd
open Go.RowKit Go.Proofs.Ytmcflfpckpjphaa.Mem Go.Proofs.Ytmcflfpckpjphaa.App Go.Proofs.Ytmcflfpckpjphaa.Blk Go.Proofs.Ytmcflfpckpjphaa.Draw Go.Proofs.Ytmcflfpckpjphaa.Zone Go.Proofs.Ytmcflfpckpjphaa.Res Go.Proofs.Ytmcflfpckpjphaa.Words Go.Proofs.Ytmcflfpckpjphaa.FrZ Go.Proofs.Ytmcflfpckpjphaa.FrP Go.Proofs.Ytmcflfpckpjphaa.FrG Go.Proofs.Ytmcflfpckpjphaa.FrL Go.Proofs.Ytmcflfpckpjphaa.FrDa Go.Proofs.Ytmcflfpckpjphaa.DrN Go.Proofs.Ytmcflfpckpjphaa.SlP Go.Proofs.Ytmcflfpckpjphaa.SlQ Go.Proofs.Ytmcflfpckpjphaa.SealS
set_option maxRecDepth 100000 in
theorem hide {p : Prop} (h : p) : Hid p := h
set_option maxRecDepth 100000 in
theorem drewB {w : World} {g : Nat} {t : TypeId} {cs : List Value} (h : Blk w g t cs) : Blk w.drew g t cs := h
set_option maxRecDepth 100000 in
theorem FrIn.own {w : World} {lo hi : Nat} {S : FrS} {D : FrD} (h : FrOwn w lo hi S D) : FrIn w lo hi S D := FrIn.of h
set_option maxRecDepth 100000 in
theorem fr_low {a w : World} {B g : Nat} (h : Below B a w) (hg : B ≤ g) (v0 v1 v2 v3 v4 v5 v6 v7 v8 v9 v10 : Value) : Below B a (((((((((((w.setCell ⟨g, 0, none⟩ v0).setCell ⟨g, 1, none⟩ v1).setCell ⟨g, 2, none⟩ v2).setCell ⟨g, 3, none⟩ v3).setCell ⟨g, 4, none⟩ v4).setCell ⟨g, 5, none⟩ v5).setCell ⟨g, 6, none⟩ v6).setCell ⟨g, 7, none⟩ v7).setCell ⟨g, 8, none⟩ v8).setCell ⟨g, 9, none⟩ v9).setCell ⟨g, 10, none⟩ v10) := (((((((((((h.setCell hg _).setCell hg _).setCell hg _).setCell hg _).setCell hg _).setCell hg _).setCell hg _).setCell hg _).setCell hg _).setCell hg _).setCell hg _)
set_option maxRecDepth 100000 in
theorem fr_put {w : World} {g : Nat} {t : TypeId} {u0 u1 u2 u3 u4 u5 u6 u7 u8 u9 u10 : Value} (k : Blk w g t [u0, u1, u2, u3, u4, u5, u6, u7, u8, u9, u10]) (v0 v1 v2 v3 v4 v5 v6 v7 v8 v9 v10 : Value) : Blk (((((((((((w.setCell ⟨g, 0, none⟩ v0).setCell ⟨g, 1, none⟩ v1).setCell ⟨g, 2, none⟩ v2).setCell ⟨g, 3, none⟩ v3).setCell ⟨g, 4, none⟩ v4).setCell ⟨g, 5, none⟩ v5).setCell ⟨g, 6, none⟩ v6).setCell ⟨g, 7, none⟩ v7).setCell ⟨g, 8, none⟩ v8).setCell ⟨g, 9, none⟩ v9).setCell ⟨g, 10, none⟩ v10) g t [v0, v1, v2, v3, v4, v5, v6, v7, v8, v9, v10] := (((((((((((k.set 0 _ (by simp [maxLen])).set 1 _ (by simp [maxLen])).set 2 _ (by simp [maxLen])).set 3 _ (by simp [maxLen])).set 4 _ (by simp [maxLen])).set 5 _ (by simp [maxLen])).set 6 _ (by simp [maxLen])).set 7 _ (by simp [maxLen])).set 8 _ (by simp [maxLen])).set 9 _ (by simp [maxLen])).set 10 _ (by simp [maxLen]))

set_option maxRecDepth 100000 in
set_option maxHeartbeats 4000000 in
theorem drawHeadOf (a : Option Addr) (len cap : Nat) (l : List Int) (w : World) (hl : len = l.length) (hr : Rd w a l) (hb : Bytes l) (hlen : len ≤ 1048576) :
    Calls Try.prog 19 #[.slice a len cap] w fun e w' => ∃ (z : Int) (S : Sl) (x : List Int) (ep sq : Int), e = .returned (.tuple #[.int .i64 z, .slice S.a S.n S.c, .int .i64 ep, .int .i64 sq]) ∧ SRd w' S x ∧ Below w.heap.size w w' := by
  have HR : Hid (Rd w a l) := hr
  have HL : Hid (len = l.length) := hl
  have HB : Hid (Bytes l) := hb
  clear hr hl hb
  have B0 : Hid (Below w.heap.size w w) := Below.refl _ _
  go_enter Try.func19, Try.ntmps19
  go_wp2_with fail
  refine (newCur a len cap l w HL.out (HR.out.later B0.out (Nat.le_refl _)) HB.out hlen).mono ?_
  rintro e x1 ⟨p, rfl, r⟩
  have b := r.hB
  have HP : Hid (w.heap.size ≤ p ∧ p < x1.heap.size) := ⟨r.hp, r.hc.lt⟩
  have L1 : Hid (w.heap.size ≤ x1.heap.size) := b.size
  have B1 : Hid (Below w.heap.size w x1) := B0.out.trans (b.mono B0.out.size)
  clear B0 b
  have R1 : Hid (Ready w a len cap l p x1) := r
  clear r
  go_wp2_with fail
  refine (intOfList (R1.out.alloc _) x1.heap.size 6 [0, 1, 0, 1, 2, -1] rfl (ints_new x1 _) (by have := R1.out.hc.lt; omega) (by omega) (by omega)).mono ?_
  rintro e x2 ⟨ro, rfl, vm, r, b0⟩
  have VMro : Hid (ro ∈ ([0, 1, 0, 1, 2, -1] : List Int)) := vm
  have b : But p x1 x2 := ((But.refl p x1).alloc _).trans b0
  clear vm b0
  have L2 : Hid (x1.heap.size ≤ x2.heap.size) := b.size
  have KQ : Kept p (p + 1) x1 x2 := Kept.of_grown b
  have B2 : Hid (Below w.heap.size w x2) := But.below b B1.out (by have := L1.out; have := HP.out; have := L2.out; omega)
  have R2 : Hid (Ready w a len cap l p x2) := r
  clear B1 R1 b
  clear KQ r
  go_wp2_with fail
  refine (intOfList (R2.out.alloc _) x2.heap.size 6 [12, 12, 12, 12, 11, 13] rfl (ints_new x2 _) (by have := R2.out.hc.lt; omega) (by omega) (by omega)).mono ?_
  rintro e x3 ⟨sz, rfl, vm, r, b0⟩
  have VMsz : Hid (sz ∈ ([12, 12, 12, 12, 11, 13] : List Int)) := vm
  have b : But p x2 x3 := ((But.refl p x2).alloc _).trans b0
  clear vm b0
  have L3 : Hid (x2.heap.size ≤ x3.heap.size) := b.size
  have KQ : Kept p (p + 1) x2 x3 := Kept.of_grown b
  have B3 : Hid (Below w.heap.size w x3) := But.below b B2.out (by have := L1.out; have := HP.out; have := L2.out; have := L3.out; omega)
  have R3 : Hid (Ready w a len cap l p x3) := r
  clear B2 R2 b
  clear KQ r
  have hv : 0 ≤ sz ∧ sz ≤ 13 := by have q := VMsz.out; simp only [List.mem_cons, List.mem_nil_iff, or_false] at q; omega
  obtain ⟨Z, rfl⟩ := Int.eq_ofNat_of_zero_le hv.1
  have HNZ : Hid (Z ≤ 13) := by have := hv.2; show _ ≤ _; omega
  clear hv
  go_wp2_with fail
  refine (bytesOf R3.out Z (by have := HNZ.out; omega)).mono ?_
  rintro e x4 ⟨gs, cs, ls, rfl, el, hb, kg, row, r, b⟩
  have oN : SOwn x4 x3.heap.size x4.heap.size ⟨some ⟨gs, 0, none⟩, Z, cs⟩ ls := SOwn.row row el hb kg row.lt
  have ELs : Hid (Z = ls.length) := el
  clear el hb kg row
  have L4 : Hid (x3.heap.size ≤ x4.heap.size) := b.size
  have KQ : Kept p (p + 1) x3 x4 := Kept.of_grown b
  have B4 : Hid (Below w.heap.size w x4) := But.below b B3.out (by have := L1.out; have := HP.out; have := L2.out; have := L3.out; have := L4.out; omega)
  have R4 : Hid (Ready w a len cap l p x4) := r
  clear B3 R3 b
  clear KQ r
  have Os_4 : Hid (SOwn x4 x3.heap.size x4.heap.size ⟨some ⟨gs, 0, none⟩, Z, cs⟩ ls) := oN
  clear oN
  go_wp2_with fail
  refine (intOfList (R4.out.alloc _) x4.heap.size 6 [0, 1, 4294967295, 4294967296, -1, 7] rfl (ints_new x4 _) (by have := R4.out.hc.lt; omega) (by omega) (by omega)).mono ?_
  rintro e x5 ⟨ep, rfl, vm, r, b0⟩
  have VMep : Hid (ep ∈ ([0, 1, 4294967295, 4294967296, -1, 7] : List Int)) := vm
  have b : But p x4 x5 := ((But.refl p x4).alloc _).trans b0
  clear vm b0
  have L5 : Hid (x4.heap.size ≤ x5.heap.size) := b.size
  have KQ : Kept p (p + 1) x4 x5 := Kept.of_grown b
  have B5 : Hid (Below w.heap.size w x5) := But.below b B4.out (by have := L1.out; have := HP.out; have := L2.out; have := L3.out; have := L4.out; have := L5.out; omega)
  have R5 : Hid (Ready w a len cap l p x5) := r
  have Os_5 : Hid (SOwn x5 x3.heap.size x4.heap.size ⟨some ⟨gs, 0, none⟩, Z, cs⟩ ls) := Os_4.out.carry KQ (by have := L1.out; have := HP.out; have := L2.out; have := L3.out; have := L4.out; have := L5.out; omega)
  clear B4 R4 Os_4 b
  clear KQ r
  go_wp2_with fail
  refine (intOfList (R5.out.alloc _) x5.heap.size 6 [0, 1, 300, 281474976710655, 281474976710656, -1] rfl (ints_new x5 _) (by have := R5.out.hc.lt; omega) (by omega) (by omega)).mono ?_
  rintro e x6 ⟨sq, rfl, vm, r, b0⟩
  have VMsq : Hid (sq ∈ ([0, 1, 300, 281474976710655, 281474976710656, -1] : List Int)) := vm
  have b : But p x5 x6 := ((But.refl p x5).alloc _).trans b0
  clear vm b0
  have L6 : Hid (x5.heap.size ≤ x6.heap.size) := b.size
  have KQ : Kept p (p + 1) x5 x6 := Kept.of_grown b
  have B6 : Hid (Below w.heap.size w x6) := But.below b B5.out (by have := L1.out; have := HP.out; have := L2.out; have := L3.out; have := L4.out; have := L5.out; have := L6.out; omega)
  have R6 : Hid (Ready w a len cap l p x6) := r
  have Os_6 : Hid (SOwn x6 x3.heap.size x4.heap.size ⟨some ⟨gs, 0, none⟩, Z, cs⟩ ls) := Os_5.out.carry KQ (by have := L1.out; have := HP.out; have := L2.out; have := L3.out; have := L4.out; have := L5.out; have := L6.out; omega)
  clear B5 R5 Os_5 b
  clear KQ r
  go_wp2
  exact bodyPost_ret (v := .tuple #[.int .i64 ro, .slice (some ⟨gs, 0, none⟩) Z cs, .int .i64 ep, .int .i64 sq]) (res4 rfl (is_tmp rfl) (is_tmp rfl) (is_tmp rfl) (is_tmp rfl)) rfl ⟨ro, ⟨some ⟨gs, 0, none⟩, Z, cs⟩, ls, ep, sq, rfl, Os_6.out.rd, B6.out⟩

set_option maxRecDepth 100000 in
set_option maxHeartbeats 8000000 in
theorem drawTagInput (a : Option Addr) (len cap : Nat) (l : List Int) (w : World) (hl : len = l.length) (hr : Rd w a l) (hb : Bytes l) (hlen : len ≤ 1048576) :
    Calls Try.prog 21 #[.slice a len cap] w fun e w' => ∃ (z : Int) (D : FrD) (S : FrS), e = .returned (.tuple #[.int .i64 z, frV D S]) ∧ FrRd w' S D ∧ Below w.heap.size w w' := by
  have HR : Hid (Rd w a l) := hr
  have HL : Hid (len = l.length) := hl
  have HB : Hid (Bytes l) := hb
  clear hr hl hb
  have B0 : Hid (Below w.heap.size w w) := Below.refl _ _
  obtain ⟨x1, hx1⟩ : ∃ x1, (w.alloc (.cells #[.int .i64 0, .int .i64 0, .slice none 0 0, .slice none 0 0, .int .i64 0, .slice none 0 0, .slice none 0 0, .int .i64 0, .int .i64 0, .slice none 0 0, .slice none 0 0] 39)) = x1 := ⟨_, rfl⟩
  have HWA : Hid ((w.alloc (.cells #[.int .i64 0, .int .i64 0, .slice none 0 0, .slice none 0 0, .int .i64 0, .slice none 0 0, .slice none 0 0, .int .i64 0, .int .i64 0, .slice none 0 0, .slice none 0 0] 39)) = x1) := hx1
  have b1 : Below w.heap.size w x1 := by rw [← hx1]; exact ((Below.refl _ _).alloc (Nat.le_refl _) _)
  have KON : Blk x1 (w.heap.size) 39 [.int .i64 0, .int .i64 0, .slice none 0 0, .slice none 0 0, .int .i64 0, .slice none 0 0, .slice none 0 0, .int .i64 0, .int .i64 0, .slice none 0 0, .slice none 0 0] := by
    have q := (Blk.new w 39 [.int .i64 0, .int .i64 0, .slice none 0 0, .slice none 0 0, .int .i64 0, .slice none 0 0, .slice none 0 0, .int .i64 0, .int .i64 0, .slice none 0 0, .slice none 0 0])
    skip
    rw [← hx1]; exact q
  have SZA : x1.heap.size = w.heap.size + 1 := by rw [← hx1]; simp
  clear hx1
  have L1 : Hid (w.heap.size ≤ x1.heap.size) := b1.size
  have B1 : Hid (Below w.heap.size w x1) := B0.out.trans (b1.mono B0.out.size)
  clear B0 b1
  go_enter Try.func21, Try.ntmps21
  go_upto_region 1 with fail
  rw [HWA.out]
  obtain ⟨go, hgo⟩ : ∃ g, w.heap.size = g := ⟨_, rfl⟩
  have GA : Hid (w.heap.size = go ∧ x1.heap.size = go + 1) := ⟨hgo, by omega⟩
  rw [hgo] at KON
  rw [hgo]
  clear HWA SZA hgo
  have KO1 : Hid (Blk x1 go 39 [.int .i64 0, .int .i64 0, .slice none 0 0, .slice none 0 0, .int .i64 0, .slice none 0 0, .slice none 0 0, .int .i64 0, .int .i64 0, .slice none 0 0, .slice none 0 0]) := KON
  clear KON
  go_wp2_with fail
  refine (newCur a len cap l x1 HL.out (HR.out.later B1.out (Nat.le_refl _)) HB.out hlen).mono ?_
  rintro e x2 ⟨p, rfl, r⟩
  have b := r.hB
  have HP : Hid (x1.heap.size ≤ p ∧ p < x2.heap.size) := ⟨r.hp, r.hc.lt⟩
  have L2 : Hid (x1.heap.size ≤ x2.heap.size) := b.size
  have B2 : Hid (Below w.heap.size w x2) := B1.out.trans (b.mono B1.out.size)
  have KO2 : Hid (Blk x2 go 39 [.int .i64 0, .int .i64 0, .slice none 0 0, .slice none 0 0, .int .i64 0, .slice none 0 0, .slice none 0 0, .int .i64 0, .int .i64 0, .slice none 0 0, .slice none 0 0]) := KO1.out.later b
  clear B1 KO1 b
  have R2 : Hid (Ready x1 a len cap l p x2) := r
  clear r
  go_wp2_with fail
  refine (intOfList (R2.out.alloc _) x2.heap.size 8 [0, 1, 0, 1, 0, 1, 2, -1] rfl (ints_new x2 _) (by have := R2.out.hc.lt; omega) (by omega) (by omega)).mono ?_
  rintro e x3 ⟨ro, rfl, vm, r, b0⟩
  have VMro : Hid (ro ∈ ([0, 1, 0, 1, 0, 1, 2, -1] : List Int)) := vm
  have b : But p x2 x3 := ((But.refl p x2).alloc _).trans b0
  clear vm b0
  have L3 : Hid (x2.heap.size ≤ x3.heap.size) := b.size
  have KQ : Kept p (p + 1) x2 x3 := Kept.of_grown b
  have B3 : Hid (Below w.heap.size w x3) := But.below b B2.out (by have := L1.out; have := GA.out; have := L2.out; have := HP.out; have := L3.out; omega)
  have KO3 : Hid (Blk x3 go 39 [.int .i64 0, .int .i64 0, .slice none 0 0, .slice none 0 0, .int .i64 0, .slice none 0 0, .slice none 0 0, .int .i64 0, .int .i64 0, .slice none 0 0, .slice none 0 0]) := KO2.out.keep (KQ.block _ KO2.out.lt (by have := L1.out; have := GA.out; have := L2.out; have := HP.out; have := L3.out; omega))
  have R3 : Hid (Ready x1 a len cap l p x3) := r
  clear B2 KO2 R2 b
  clear KQ r
  go_wp2_with fail
  refine (l7Any R3.out).mono ?_
  rintro e x4 ⟨DF, SF, rfl, oi, r, b⟩
  have L4 : Hid (x3.heap.size ≤ x4.heap.size) := b.size
  have KQ : Kept p (p + 1) x3 x4 := Kept.of_grown b
  have B4 : Hid (Below w.heap.size w x4) := But.below b B3.out (by have := L1.out; have := GA.out; have := L2.out; have := HP.out; have := L3.out; have := L4.out; omega)
  have KO4 : Hid (Blk x4 go 39 [.int .i64 0, .int .i64 0, .slice none 0 0, .slice none 0 0, .int .i64 0, .slice none 0 0, .slice none 0 0, .int .i64 0, .int .i64 0, .slice none 0 0, .slice none 0 0]) := KO3.out.keep (KQ.block _ KO3.out.lt (by have := L1.out; have := GA.out; have := L2.out; have := HP.out; have := L3.out; have := L4.out; omega))
  have R4 : Hid (Ready x1 a len cap l p x4) := r
  clear B3 KO3 R3 b
  clear KQ r
  have OI4 : Hid (FrIn x4 x3.heap.size x4.heap.size SF DF) := oi
  clear oi
  obtain ⟨x5, hx5⟩ : ∃ x5, x4.alloc (.cells #[.int .i64 DF.kind, .int .i64 DF.id, .slice SF.cn.a SF.cn.n SF.cn.c, .slice SF.sn.a SF.sn.n SF.sn.c, .int .i64 DF.tick, .slice SF.cookie.a SF.cookie.n SF.cookie.c, .slice SF.proof.a SF.proof.n SF.proof.c, .int .i64 DF.epoch, .int .i64 DF.seq, .slice SF.body.a SF.body.n SF.body.c, .slice SF.tag.a SF.tag.n SF.tag.c] 39) = x5 := ⟨_, rfl⟩
  have HW5 : Hid (x4.alloc (.cells #[.int .i64 DF.kind, .int .i64 DF.id, .slice SF.cn.a SF.cn.n SF.cn.c, .slice SF.sn.a SF.sn.n SF.sn.c, .int .i64 DF.tick, .slice SF.cookie.a SF.cookie.n SF.cookie.c, .slice SF.proof.a SF.proof.n SF.proof.c, .int .i64 DF.epoch, .int .i64 DF.seq, .slice SF.body.a SF.body.n SF.body.c, .slice SF.tag.a SF.tag.n SF.tag.c] 39) = x5) := hx5
  have b5 : Below x4.heap.size x4 x5 := by rw [← hx5]; exact (Below.refl _ _).alloc (Nat.le_refl _) _
  have KN : Blk x5 x4.heap.size 39 [.int .i64 DF.kind, .int .i64 DF.id, .slice SF.cn.a SF.cn.n SF.cn.c, .slice SF.sn.a SF.sn.n SF.sn.c, .int .i64 DF.tick, .slice SF.cookie.a SF.cookie.n SF.cookie.c, .slice SF.proof.a SF.proof.n SF.proof.c, .int .i64 DF.epoch, .int .i64 DF.seq, .slice SF.body.a SF.body.n SF.body.c, .slice SF.tag.a SF.tag.n SF.tag.c] := by rw [← hx5]; exact Blk.new x4 _ _
  have HSZ5 : Hid (x5.heap.size = x4.heap.size + 1) := by rw [← hx5]; show _ = _; simp
  clear hx5
  have L5 : Hid (x4.heap.size ≤ x5.heap.size) := b5.size
  have B5 : Hid (Below w.heap.size w x5) := B4.out.trans (b5.mono B4.out.size)
  have KO5 : Hid (Blk x5 go 39 [.int .i64 0, .int .i64 0, .slice none 0 0, .slice none 0 0, .int .i64 0, .slice none 0 0, .slice none 0 0, .int .i64 0, .int .i64 0, .slice none 0 0, .slice none 0 0]) := KO4.out.later b5
  have R5 : Hid (Ready x1 a len cap l p x5) := rdyL R4.out b5
  have OI5 : Hid (FrIn x5 x3.heap.size x4.heap.size SF DF) := OI4.out.later b5
  clear B4 KO4 R4 OI4 b5
  unfold frV
  go_upto_region 4 with fail
  rw [HW5.out]
  obtain ⟨gf, hgf⟩ : ∃ g, x4.heap.size = g := ⟨_, rfl⟩
  have Ggf : Hid (x4.heap.size = gf ∧ x5.heap.size = gf + 1) := ⟨hgf, by rw [← hgf]; exact HSZ5.out⟩
  rw [hgf] at KN ⊢
  clear HW5 HSZ5 hgf
  have KF5 : Hid (Blk x5 gf 39 [.int .i64 DF.kind, .int .i64 DF.id, .slice SF.cn.a SF.cn.n SF.cn.c, .slice SF.sn.a SF.sn.n SF.sn.c, .int .i64 DF.tick, .slice SF.cookie.a SF.cookie.n SF.cookie.c, .slice SF.proof.a SF.proof.n SF.proof.c, .int .i64 DF.epoch, .int .i64 DF.seq, .slice SF.body.a SF.body.n SF.body.c, .slice SF.tag.a SF.tag.n SF.tag.c]) := KN
  clear KN
  have ka := KF5.out.cell 0 rfl
  go_wp2_with fail
  refine (FrS.specSealed DF.kind x5).mono ?_
  rintro e y ⟨rfl, rfl⟩
  clear ka
  cases hk : isIn DF.kind 4 8 with
  | true =>
    go_upto_region 6 with fail
    have NE : gf ≠ go := by have := L1.out; have := GA.out; have := L2.out; have := HP.out; have := L3.out; have := L4.out; have := L5.out; have := Ggf.out; omega
    have xf0 := hide ((drewB KF5.out).cell 0 rfl)
    have zf0 := KF5.out.cell 0 rfl
    have vo0 := KO5.out.cell 0 rfl
    have vp0 := KO5.out.frozen 0
    have xf1 := hide ((drewB KF5.out).cell 1 rfl)
    have zf1 := KF5.out.cell 1 rfl
    have vo1 := KO5.out.cell 1 rfl
    have vp1 := KO5.out.frozen 1
    have xf2 := hide ((drewB KF5.out).cell 2 rfl)
    have zf2 := KF5.out.cell 2 rfl
    have vo2 := KO5.out.cell 2 rfl
    have vp2 := KO5.out.frozen 2
    have xf3 := hide ((drewB KF5.out).cell 3 rfl)
    have zf3 := KF5.out.cell 3 rfl
    have vo3 := KO5.out.cell 3 rfl
    have vp3 := KO5.out.frozen 3
    have xf4 := hide ((drewB KF5.out).cell 4 rfl)
    have zf4 := KF5.out.cell 4 rfl
    have vo4 := KO5.out.cell 4 rfl
    have vp4 := KO5.out.frozen 4
    have xf5 := hide ((drewB KF5.out).cell 5 rfl)
    have zf5 := KF5.out.cell 5 rfl
    have vo5 := KO5.out.cell 5 rfl
    have vp5 := KO5.out.frozen 5
    have xf6 := hide ((drewB KF5.out).cell 6 rfl)
    have zf6 := KF5.out.cell 6 rfl
    have vo6 := KO5.out.cell 6 rfl
    have vp6 := KO5.out.frozen 6
    have xf7 := hide ((drewB KF5.out).cell 7 rfl)
    have zf7 := KF5.out.cell 7 rfl
    have vo7 := KO5.out.cell 7 rfl
    have vp7 := KO5.out.frozen 7
    have xf8 := hide ((drewB KF5.out).cell 8 rfl)
    have zf8 := KF5.out.cell 8 rfl
    have vo8 := KO5.out.cell 8 rfl
    have vp8 := KO5.out.frozen 8
    have xf9 := hide ((drewB KF5.out).cell 9 rfl)
    have zf9 := KF5.out.cell 9 rfl
    have vo9 := KO5.out.cell 9 rfl
    have vp9 := KO5.out.frozen 9
    have xf10 := hide ((drewB KF5.out).cell 10 rfl)
    have zf10 := KF5.out.cell 10 rfl
    have vo10 := KO5.out.cell 10 rfl
    have vp10 := KO5.out.frozen 10
    have zN := fr_other KF5.out NE (.int .i64 DF.kind) (.int .i64 DF.id) (.slice SF.cn.a SF.cn.n SF.cn.c) (.slice SF.sn.a SF.sn.n SF.sn.c) (.int .i64 DF.tick) (.slice SF.cookie.a SF.cookie.n SF.cookie.c) (.slice SF.proof.a SF.proof.n SF.proof.c) (.int .i64 DF.epoch) (.int .i64 DF.seq) (.slice SF.body.a SF.body.n SF.body.c) (.slice SF.tag.a SF.tag.n SF.tag.c)
    have zm0 := hide ((drewB zN).cell 0 rfl)
    have zm1 := hide ((drewB zN).cell 1 rfl)
    have zm2 := hide ((drewB zN).cell 2 rfl)
    have zm3 := hide ((drewB zN).cell 3 rfl)
    have zm4 := hide ((drewB zN).cell 4 rfl)
    have zm5 := hide ((drewB zN).cell 5 rfl)
    have zm6 := hide ((drewB zN).cell 6 rfl)
    have zm7 := hide ((drewB zN).cell 7 rfl)
    have zm8 := hide ((drewB zN).cell 8 rfl)
    have zm9 := hide ((drewB zN).cell 9 rfl)
    have zm10 := hide ((drewB zN).cell 10 rfl)
    clear zN
    go_region_held3 (fun w' => w'.cell? ⟨gf, 0, none⟩ = some (.int .i64 DF.kind) ∧ w'.cell? ⟨gf, 1, none⟩ = some (.int .i64 DF.id) ∧ w'.cell? ⟨gf, 2, none⟩ = some (.slice SF.cn.a SF.cn.n SF.cn.c) ∧ w'.cell? ⟨gf, 3, none⟩ = some (.slice SF.sn.a SF.sn.n SF.sn.c) ∧ w'.cell? ⟨gf, 4, none⟩ = some (.int .i64 DF.tick) ∧ w'.cell? ⟨gf, 5, none⟩ = some (.slice SF.cookie.a SF.cookie.n SF.cookie.c) ∧ w'.cell? ⟨gf, 6, none⟩ = some (.slice SF.proof.a SF.proof.n SF.proof.c) ∧ w'.cell? ⟨gf, 7, none⟩ = some (.int .i64 DF.epoch) ∧ w'.cell? ⟨gf, 8, none⟩ = some (.int .i64 DF.seq) ∧ w'.cell? ⟨gf, 9, none⟩ = some (.slice SF.body.a SF.body.n SF.body.c) ∧ w'.cell? ⟨gf, 10, none⟩ = some (.slice SF.tag.a SF.tag.n SF.tag.c)) (first | with_reducible exact ⟨zm0.out, zm1.out, zm2.out, zm3.out, zm4.out, zm5.out, zm6.out, zm7.out, zm8.out, zm9.out, zm10.out⟩ | with_reducible exact ⟨zf0, zf1, zf2, zf3, zf4, zf5, zf6, zf7, zf8, zf9, zf10⟩ | with_reducible exact ⟨xf0.out, xf1.out, xf2.out, xf3.out, xf4.out, xf5.out, xf6.out, xf7.out, xf8.out, xf9.out, xf10.out⟩ | go_keep) (fail)
    clear xf0 zf0 zm0 vo0 vp0 xf1 zf1 zm1 vo1 vp1 xf2 zf2 zm2 vo2 vp2 xf3 zf3 zm3 vo3 vp3 xf4 zf4 zm4 vo4 vp4 xf5 zf5 zm5 vo5 vp5 xf6 zf6 zm6 vo6 vp6 xf7 zf7 zm7 vo7 vp7 xf8 zf8 zm8 vo8 vp8 xf9 zf9 zm9 vo9 vp9 xf10 zf10 zm10 vo10 vp10
    go_wp2
    have k1 := fr_put KO5.out (.int .i64 DF.kind) (.int .i64 DF.id) (.slice SF.cn.a SF.cn.n SF.cn.c) (.slice SF.sn.a SF.sn.n SF.sn.c) (.int .i64 DF.tick) (.slice SF.cookie.a SF.cookie.n SF.cookie.c) (.slice SF.proof.a SF.proof.n SF.proof.c) (.int .i64 DF.epoch) (.int .i64 DF.seq) (.slice SF.body.a SF.body.n SF.body.c) (.slice SF.tag.a SF.tag.n SF.tag.c)
    have SZF : Hid (w.heap.size ≤ go ∧ go + 1 ≤ x3.heap.size ∧ x3.heap.size ≤ x4.heap.size ∧ x4.heap.size ≤ x5.heap.size) := by have := L1.out; have := GA.out; have := L2.out; have := HP.out; have := L3.out; have := L4.out; have := L5.out; have := Ggf.out; show _ ∧ _; omega
    have o1 := OI5.out.carry (fr_kept _ go (.int .i64 DF.kind) (.int .i64 DF.id) (.slice SF.cn.a SF.cn.n SF.cn.c) (.slice SF.sn.a SF.sn.n SF.sn.c) (.int .i64 DF.tick) (.slice SF.cookie.a SF.cookie.n SF.cookie.c) (.slice SF.proof.a SF.proof.n SF.proof.c) (.int .i64 DF.epoch) (.int .i64 DF.seq) (.slice SF.body.a SF.body.n SF.body.c) (.slice SF.tag.a SF.tag.n SF.tag.c)) (.inr (by have := SZF.out; omega))
    have b1 := fr_low B5.out (g := go) (by have := SZF.out; omega) (.int .i64 DF.kind) (.int .i64 DF.id) (.slice SF.cn.a SF.cn.n SF.cn.c) (.slice SF.sn.a SF.sn.n SF.sn.c) (.int .i64 DF.tick) (.slice SF.cookie.a SF.cookie.n SF.cookie.c) (.slice SF.proof.a SF.proof.n SF.proof.c) (.int .i64 DF.epoch) (.int .i64 DF.seq) (.slice SF.body.a SF.body.n SF.body.c) (.slice SF.tag.a SF.tag.n SF.tag.c)
    exact bodyPost_ret (v := .tuple #[.int .i64 ro, frV DF SF]) (res2 rfl (is_tmp rfl) (is_cell rfl (drewB k1) aggFr)) rfl ⟨ro, DF, SF, rfl, (o1.later ((Below.refl _ _).drew)).rd, b1.drew⟩
  | false =>
    go_wp2_with fail
    refine (Draw.once R5.out 6 (by omega) (by omega)).mono ?_
    rintro e x6 ⟨o1, rfl, r, b⟩
    have L6 : Hid (x5.heap.size ≤ x6.heap.size) := b.size
    have KQ : Kept p (p + 1) x5 x6 := Kept.of_grown b
    have B6 : Hid (Below w.heap.size w x6) := But.below b B5.out (by have := L1.out; have := GA.out; have := L2.out; have := HP.out; have := L3.out; have := L4.out; have := L5.out; have := Ggf.out; have := L6.out; omega)
    have KO6 : Hid (Blk x6 go 39 [.int .i64 0, .int .i64 0, .slice none 0 0, .slice none 0 0, .int .i64 0, .slice none 0 0, .slice none 0 0, .int .i64 0, .int .i64 0, .slice none 0 0, .slice none 0 0]) := KO5.out.keep (KQ.block _ KO5.out.lt (by have := L1.out; have := GA.out; have := L2.out; have := HP.out; have := L3.out; have := L4.out; have := L5.out; have := Ggf.out; have := L6.out; omega))
    have R6 : Hid (Ready x1 a len cap l p x6) := r
    have OI6 : Hid (FrIn x6 x3.heap.size x4.heap.size SF DF) := OI5.out.carry KQ (by have := L1.out; have := GA.out; have := L2.out; have := HP.out; have := L3.out; have := L4.out; have := L5.out; have := Ggf.out; have := L6.out; omega)
    have KF6 : Hid (Blk x6 gf 39 [.int .i64 DF.kind, .int .i64 DF.id, .slice SF.cn.a SF.cn.n SF.cn.c, .slice SF.sn.a SF.sn.n SF.sn.c, .int .i64 DF.tick, .slice SF.cookie.a SF.cookie.n SF.cookie.c, .slice SF.proof.a SF.proof.n SF.proof.c, .int .i64 DF.epoch, .int .i64 DF.seq, .slice SF.body.a SF.body.n SF.body.c, .slice SF.tag.a SF.tag.n SF.tag.c]) := KF5.out.keep (KQ.block _ KF5.out.lt (by have := L1.out; have := GA.out; have := L2.out; have := HP.out; have := L3.out; have := L4.out; have := L5.out; have := Ggf.out; have := L6.out; omega))
    clear B5 KO5 R5 OI5 KF5 b
    clear KQ r
    cases o1 with
    | true =>
      go_upto_region 6 with fail
      have NE : gf ≠ go := by have := L1.out; have := GA.out; have := L2.out; have := HP.out; have := L3.out; have := L4.out; have := L5.out; have := Ggf.out; have := L6.out; omega
      have xf0 := hide ((drewB KF6.out).cell 0 rfl)
      have zf0 := KF6.out.cell 0 rfl
      have vo0 := KO6.out.cell 0 rfl
      have vp0 := KO6.out.frozen 0
      have xf1 := hide ((drewB KF6.out).cell 1 rfl)
      have zf1 := KF6.out.cell 1 rfl
      have vo1 := KO6.out.cell 1 rfl
      have vp1 := KO6.out.frozen 1
      have xf2 := hide ((drewB KF6.out).cell 2 rfl)
      have zf2 := KF6.out.cell 2 rfl
      have vo2 := KO6.out.cell 2 rfl
      have vp2 := KO6.out.frozen 2
      have xf3 := hide ((drewB KF6.out).cell 3 rfl)
      have zf3 := KF6.out.cell 3 rfl
      have vo3 := KO6.out.cell 3 rfl
      have vp3 := KO6.out.frozen 3
      have xf4 := hide ((drewB KF6.out).cell 4 rfl)
      have zf4 := KF6.out.cell 4 rfl
      have vo4 := KO6.out.cell 4 rfl
      have vp4 := KO6.out.frozen 4
      have xf5 := hide ((drewB KF6.out).cell 5 rfl)
      have zf5 := KF6.out.cell 5 rfl
      have vo5 := KO6.out.cell 5 rfl
      have vp5 := KO6.out.frozen 5
      have xf6 := hide ((drewB KF6.out).cell 6 rfl)
      have zf6 := KF6.out.cell 6 rfl
      have vo6 := KO6.out.cell 6 rfl
      have vp6 := KO6.out.frozen 6
      have xf7 := hide ((drewB KF6.out).cell 7 rfl)
      have zf7 := KF6.out.cell 7 rfl
      have vo7 := KO6.out.cell 7 rfl
      have vp7 := KO6.out.frozen 7
      have xf8 := hide ((drewB KF6.out).cell 8 rfl)
      have zf8 := KF6.out.cell 8 rfl
      have vo8 := KO6.out.cell 8 rfl
      have vp8 := KO6.out.frozen 8
      have xf9 := hide ((drewB KF6.out).cell 9 rfl)
      have zf9 := KF6.out.cell 9 rfl
      have vo9 := KO6.out.cell 9 rfl
      have vp9 := KO6.out.frozen 9
      have xf10 := hide ((drewB KF6.out).cell 10 rfl)
      have zf10 := KF6.out.cell 10 rfl
      have vo10 := KO6.out.cell 10 rfl
      have vp10 := KO6.out.frozen 10
      have zN := fr_other KF6.out NE (.int .i64 DF.kind) (.int .i64 DF.id) (.slice SF.cn.a SF.cn.n SF.cn.c) (.slice SF.sn.a SF.sn.n SF.sn.c) (.int .i64 DF.tick) (.slice SF.cookie.a SF.cookie.n SF.cookie.c) (.slice SF.proof.a SF.proof.n SF.proof.c) (.int .i64 DF.epoch) (.int .i64 DF.seq) (.slice SF.body.a SF.body.n SF.body.c) (.slice SF.tag.a SF.tag.n SF.tag.c)
      have zm0 := hide ((drewB zN).cell 0 rfl)
      have zm1 := hide ((drewB zN).cell 1 rfl)
      have zm2 := hide ((drewB zN).cell 2 rfl)
      have zm3 := hide ((drewB zN).cell 3 rfl)
      have zm4 := hide ((drewB zN).cell 4 rfl)
      have zm5 := hide ((drewB zN).cell 5 rfl)
      have zm6 := hide ((drewB zN).cell 6 rfl)
      have zm7 := hide ((drewB zN).cell 7 rfl)
      have zm8 := hide ((drewB zN).cell 8 rfl)
      have zm9 := hide ((drewB zN).cell 9 rfl)
      have zm10 := hide ((drewB zN).cell 10 rfl)
      clear zN
      go_region_held3 (fun w' => w'.cell? ⟨gf, 0, none⟩ = some (.int .i64 DF.kind) ∧ w'.cell? ⟨gf, 1, none⟩ = some (.int .i64 DF.id) ∧ w'.cell? ⟨gf, 2, none⟩ = some (.slice SF.cn.a SF.cn.n SF.cn.c) ∧ w'.cell? ⟨gf, 3, none⟩ = some (.slice SF.sn.a SF.sn.n SF.sn.c) ∧ w'.cell? ⟨gf, 4, none⟩ = some (.int .i64 DF.tick) ∧ w'.cell? ⟨gf, 5, none⟩ = some (.slice SF.cookie.a SF.cookie.n SF.cookie.c) ∧ w'.cell? ⟨gf, 6, none⟩ = some (.slice SF.proof.a SF.proof.n SF.proof.c) ∧ w'.cell? ⟨gf, 7, none⟩ = some (.int .i64 DF.epoch) ∧ w'.cell? ⟨gf, 8, none⟩ = some (.int .i64 DF.seq) ∧ w'.cell? ⟨gf, 9, none⟩ = some (.slice SF.body.a SF.body.n SF.body.c) ∧ w'.cell? ⟨gf, 10, none⟩ = some (.slice SF.tag.a SF.tag.n SF.tag.c)) (first | with_reducible exact ⟨zm0.out, zm1.out, zm2.out, zm3.out, zm4.out, zm5.out, zm6.out, zm7.out, zm8.out, zm9.out, zm10.out⟩ | with_reducible exact ⟨zf0, zf1, zf2, zf3, zf4, zf5, zf6, zf7, zf8, zf9, zf10⟩ | with_reducible exact ⟨xf0.out, xf1.out, xf2.out, xf3.out, xf4.out, xf5.out, xf6.out, xf7.out, xf8.out, xf9.out, xf10.out⟩ | go_keep) (fail)
      clear xf0 zf0 zm0 vo0 vp0 xf1 zf1 zm1 vo1 vp1 xf2 zf2 zm2 vo2 vp2 xf3 zf3 zm3 vo3 vp3 xf4 zf4 zm4 vo4 vp4 xf5 zf5 zm5 vo5 vp5 xf6 zf6 zm6 vo6 vp6 xf7 zf7 zm7 vo7 vp7 xf8 zf8 zm8 vo8 vp8 xf9 zf9 zm9 vo9 vp9 xf10 zf10 zm10 vo10 vp10
      go_wp2
      have k1 := fr_put KO6.out (.int .i64 DF.kind) (.int .i64 DF.id) (.slice SF.cn.a SF.cn.n SF.cn.c) (.slice SF.sn.a SF.sn.n SF.sn.c) (.int .i64 DF.tick) (.slice SF.cookie.a SF.cookie.n SF.cookie.c) (.slice SF.proof.a SF.proof.n SF.proof.c) (.int .i64 DF.epoch) (.int .i64 DF.seq) (.slice SF.body.a SF.body.n SF.body.c) (.slice SF.tag.a SF.tag.n SF.tag.c)
      have SZF : Hid (w.heap.size ≤ go ∧ go + 1 ≤ x3.heap.size ∧ x3.heap.size ≤ x4.heap.size ∧ x4.heap.size ≤ x6.heap.size) := by have := L1.out; have := GA.out; have := L2.out; have := HP.out; have := L3.out; have := L4.out; have := L5.out; have := Ggf.out; have := L6.out; show _ ∧ _; omega
      have o1 := OI6.out.carry (fr_kept _ go (.int .i64 DF.kind) (.int .i64 DF.id) (.slice SF.cn.a SF.cn.n SF.cn.c) (.slice SF.sn.a SF.sn.n SF.sn.c) (.int .i64 DF.tick) (.slice SF.cookie.a SF.cookie.n SF.cookie.c) (.slice SF.proof.a SF.proof.n SF.proof.c) (.int .i64 DF.epoch) (.int .i64 DF.seq) (.slice SF.body.a SF.body.n SF.body.c) (.slice SF.tag.a SF.tag.n SF.tag.c)) (.inr (by have := SZF.out; omega))
      have b1 := fr_low B6.out (g := go) (by have := SZF.out; omega) (.int .i64 DF.kind) (.int .i64 DF.id) (.slice SF.cn.a SF.cn.n SF.cn.c) (.slice SF.sn.a SF.sn.n SF.sn.c) (.int .i64 DF.tick) (.slice SF.cookie.a SF.cookie.n SF.cookie.c) (.slice SF.proof.a SF.proof.n SF.proof.c) (.int .i64 DF.epoch) (.int .i64 DF.seq) (.slice SF.body.a SF.body.n SF.body.c) (.slice SF.tag.a SF.tag.n SF.tag.c)
      exact bodyPost_ret (v := .tuple #[.int .i64 ro, frV DF SF]) (res2 rfl (is_tmp rfl) (is_cell rfl (drewB k1) aggFr)) rfl ⟨ro, DF, SF, rfl, (o1.later ((Below.refl _ _).drew)).rd, b1.drew⟩
    | false =>
      go_wp2_with fail
      refine (bytesOf R6.out 32 (by omega)).mono ?_
      rintro e x7 ⟨gk, ck, lk, rfl, el, hb, kg, row, r, b⟩
      have oN : SOwn x7 x6.heap.size x7.heap.size ⟨some ⟨gk, 0, none⟩, 32, ck⟩ lk := SOwn.row row el hb kg row.lt
      have ELk : Hid (32 = lk.length) := el
      clear el hb kg row
      have L7 : Hid (x6.heap.size ≤ x7.heap.size) := b.size
      have KQ : Kept p (p + 1) x6 x7 := Kept.of_grown b
      have B7 : Hid (Below w.heap.size w x7) := But.below b B6.out (by have := L1.out; have := GA.out; have := L2.out; have := HP.out; have := L3.out; have := L4.out; have := L5.out; have := Ggf.out; have := L6.out; have := L7.out; omega)
      have KO7 : Hid (Blk x7 go 39 [.int .i64 0, .int .i64 0, .slice none 0 0, .slice none 0 0, .int .i64 0, .slice none 0 0, .slice none 0 0, .int .i64 0, .int .i64 0, .slice none 0 0, .slice none 0 0]) := KO6.out.keep (KQ.block _ KO6.out.lt (by have := L1.out; have := GA.out; have := L2.out; have := HP.out; have := L3.out; have := L4.out; have := L5.out; have := Ggf.out; have := L6.out; have := L7.out; omega))
      have R7 : Hid (Ready x1 a len cap l p x7) := r
      have OI7 : Hid (FrIn x7 x3.heap.size x4.heap.size SF DF) := OI6.out.carry KQ (by have := L1.out; have := GA.out; have := L2.out; have := HP.out; have := L3.out; have := L4.out; have := L5.out; have := Ggf.out; have := L6.out; have := L7.out; omega)
      have KF7 : Hid (Blk x7 gf 39 [.int .i64 DF.kind, .int .i64 DF.id, .slice SF.cn.a SF.cn.n SF.cn.c, .slice SF.sn.a SF.sn.n SF.sn.c, .int .i64 DF.tick, .slice SF.cookie.a SF.cookie.n SF.cookie.c, .slice SF.proof.a SF.proof.n SF.proof.c, .int .i64 DF.epoch, .int .i64 DF.seq, .slice SF.body.a SF.body.n SF.body.c, .slice SF.tag.a SF.tag.n SF.tag.c]) := KF6.out.keep (KQ.block _ KF6.out.lt (by have := L1.out; have := GA.out; have := L2.out; have := HP.out; have := L3.out; have := L4.out; have := L5.out; have := Ggf.out; have := L6.out; have := L7.out; omega))
      clear B6 KO6 R6 OI6 KF6 b
      clear KQ r
      have Ok_7 : Hid (SOwn x7 x6.heap.size x7.heap.size ⟨some ⟨gk, 0, none⟩, 32, ck⟩ lk) := oN
      clear oN
      go_wp2_with fail
      refine (bytesOf R7.out 12 (by omega)).mono ?_
      rintro e x8 ⟨gn, cn, ln, rfl, el, hb, kg, row, r, b⟩
      have oN : SOwn x8 x7.heap.size x8.heap.size ⟨some ⟨gn, 0, none⟩, 12, cn⟩ ln := SOwn.row row el hb kg row.lt
      have ELn : Hid (12 = ln.length) := el
      clear el hb kg row
      have L8 : Hid (x7.heap.size ≤ x8.heap.size) := b.size
      have KQ : Kept p (p + 1) x7 x8 := Kept.of_grown b
      have B8 : Hid (Below w.heap.size w x8) := But.below b B7.out (by have := L1.out; have := GA.out; have := L2.out; have := HP.out; have := L3.out; have := L4.out; have := L5.out; have := Ggf.out; have := L6.out; have := L7.out; have := L8.out; omega)
      have KO8 : Hid (Blk x8 go 39 [.int .i64 0, .int .i64 0, .slice none 0 0, .slice none 0 0, .int .i64 0, .slice none 0 0, .slice none 0 0, .int .i64 0, .int .i64 0, .slice none 0 0, .slice none 0 0]) := KO7.out.keep (KQ.block _ KO7.out.lt (by have := L1.out; have := GA.out; have := L2.out; have := HP.out; have := L3.out; have := L4.out; have := L5.out; have := Ggf.out; have := L6.out; have := L7.out; have := L8.out; omega))
      have R8 : Hid (Ready x1 a len cap l p x8) := r
      have OI8 : Hid (FrIn x8 x3.heap.size x4.heap.size SF DF) := OI7.out.carry KQ (by have := L1.out; have := GA.out; have := L2.out; have := HP.out; have := L3.out; have := L4.out; have := L5.out; have := Ggf.out; have := L6.out; have := L7.out; have := L8.out; omega)
      have KF8 : Hid (Blk x8 gf 39 [.int .i64 DF.kind, .int .i64 DF.id, .slice SF.cn.a SF.cn.n SF.cn.c, .slice SF.sn.a SF.sn.n SF.sn.c, .int .i64 DF.tick, .slice SF.cookie.a SF.cookie.n SF.cookie.c, .slice SF.proof.a SF.proof.n SF.proof.c, .int .i64 DF.epoch, .int .i64 DF.seq, .slice SF.body.a SF.body.n SF.body.c, .slice SF.tag.a SF.tag.n SF.tag.c]) := KF7.out.keep (KQ.block _ KF7.out.lt (by have := L1.out; have := GA.out; have := L2.out; have := HP.out; have := L3.out; have := L4.out; have := L5.out; have := Ggf.out; have := L6.out; have := L7.out; have := L8.out; omega))
      have Ok_8 : Hid (SOwn x8 x6.heap.size x7.heap.size ⟨some ⟨gk, 0, none⟩, 32, ck⟩ lk) := Ok_7.out.carry KQ (by have := L1.out; have := GA.out; have := L2.out; have := HP.out; have := L3.out; have := L4.out; have := L5.out; have := Ggf.out; have := L6.out; have := L7.out; have := L8.out; omega)
      clear B7 KO7 R7 OI7 KF7 Ok_7 b
      clear KQ r
      have On_8 : Hid (SOwn x8 x7.heap.size x8.heap.size ⟨some ⟨gn, 0, none⟩, 12, cn⟩ ln) := oN
      clear oN
      go_wp2_with fail
      refine (bytesOf R8.out 3 (by omega)).mono ?_
      rintro e x9 ⟨gb, cb, lb, rfl, el, hb, kg, row, r, b⟩
      have oN : SOwn x9 x8.heap.size x9.heap.size ⟨some ⟨gb, 0, none⟩, 3, cb⟩ lb := SOwn.row row el hb kg row.lt
      have ELb : Hid (3 = lb.length) := el
      clear el hb kg row
      have L9 : Hid (x8.heap.size ≤ x9.heap.size) := b.size
      have KQ : Kept p (p + 1) x8 x9 := Kept.of_grown b
      have B9 : Hid (Below w.heap.size w x9) := But.below b B8.out (by have := L1.out; have := GA.out; have := L2.out; have := HP.out; have := L3.out; have := L4.out; have := L5.out; have := Ggf.out; have := L6.out; have := L7.out; have := L8.out; have := L9.out; omega)
      have KO9 : Hid (Blk x9 go 39 [.int .i64 0, .int .i64 0, .slice none 0 0, .slice none 0 0, .int .i64 0, .slice none 0 0, .slice none 0 0, .int .i64 0, .int .i64 0, .slice none 0 0, .slice none 0 0]) := KO8.out.keep (KQ.block _ KO8.out.lt (by have := L1.out; have := GA.out; have := L2.out; have := HP.out; have := L3.out; have := L4.out; have := L5.out; have := Ggf.out; have := L6.out; have := L7.out; have := L8.out; have := L9.out; omega))
      have R9 : Hid (Ready x1 a len cap l p x9) := r
      have OI9 : Hid (FrIn x9 x3.heap.size x4.heap.size SF DF) := OI8.out.carry KQ (by have := L1.out; have := GA.out; have := L2.out; have := HP.out; have := L3.out; have := L4.out; have := L5.out; have := Ggf.out; have := L6.out; have := L7.out; have := L8.out; have := L9.out; omega)
      have KF9 : Hid (Blk x9 gf 39 [.int .i64 DF.kind, .int .i64 DF.id, .slice SF.cn.a SF.cn.n SF.cn.c, .slice SF.sn.a SF.sn.n SF.sn.c, .int .i64 DF.tick, .slice SF.cookie.a SF.cookie.n SF.cookie.c, .slice SF.proof.a SF.proof.n SF.proof.c, .int .i64 DF.epoch, .int .i64 DF.seq, .slice SF.body.a SF.body.n SF.body.c, .slice SF.tag.a SF.tag.n SF.tag.c]) := KF8.out.keep (KQ.block _ KF8.out.lt (by have := L1.out; have := GA.out; have := L2.out; have := HP.out; have := L3.out; have := L4.out; have := L5.out; have := Ggf.out; have := L6.out; have := L7.out; have := L8.out; have := L9.out; omega))
      have Ok_9 : Hid (SOwn x9 x6.heap.size x7.heap.size ⟨some ⟨gk, 0, none⟩, 32, ck⟩ lk) := Ok_8.out.carry KQ (by have := L1.out; have := GA.out; have := L2.out; have := HP.out; have := L3.out; have := L4.out; have := L5.out; have := Ggf.out; have := L6.out; have := L7.out; have := L8.out; have := L9.out; omega)
      have On_9 : Hid (SOwn x9 x7.heap.size x8.heap.size ⟨some ⟨gn, 0, none⟩, 12, cn⟩ ln) := On_8.out.carry KQ (by have := L1.out; have := GA.out; have := L2.out; have := HP.out; have := L3.out; have := L4.out; have := L5.out; have := Ggf.out; have := L6.out; have := L7.out; have := L8.out; have := L9.out; omega)
      clear B8 KO8 R8 OI8 KF8 Ok_8 On_8 b
      clear KQ r
      have Ob_9 : Hid (SOwn x9 x8.heap.size x9.heap.size ⟨some ⟨gb, 0, none⟩, 3, cb⟩ lb) := oN
      clear oN
      go_wp2_with fail
      refine (specSeal ⟨some ⟨gk, 0, none⟩, 32, ck⟩ ⟨some ⟨gn, 0, none⟩, 12, cn⟩ ⟨some ⟨gb, 0, none⟩, 3, cb⟩ lk ln lb 0 1 2 4 x9 Ok_9.out.rd On_9.out.rd Ob_9.out.rd).mono ?_
      unfold AnsS
      rintro e x10 ⟨S2, rfl, o, b⟩
      have L10 : Hid (x9.heap.size ≤ x10.heap.size) := b.size
      have B10 : Hid (Below w.heap.size w x10) := B9.out.trans (b.mono B9.out.size)
      have KO10 : Hid (Blk x10 go 39 [.int .i64 0, .int .i64 0, .slice none 0 0, .slice none 0 0, .int .i64 0, .slice none 0 0, .slice none 0 0, .int .i64 0, .int .i64 0, .slice none 0 0, .slice none 0 0]) := KO9.out.later b
      have R10 : Hid (Ready x1 a len cap l p x10) := rdyL R9.out b
      have OI10 : Hid (FrIn x10 x3.heap.size x4.heap.size SF DF) := OI9.out.later b
      have KF10 : Hid (Blk x10 gf 39 [.int .i64 DF.kind, .int .i64 DF.id, .slice SF.cn.a SF.cn.n SF.cn.c, .slice SF.sn.a SF.sn.n SF.sn.c, .int .i64 DF.tick, .slice SF.cookie.a SF.cookie.n SF.cookie.c, .slice SF.proof.a SF.proof.n SF.proof.c, .int .i64 DF.epoch, .int .i64 DF.seq, .slice SF.body.a SF.body.n SF.body.c, .slice SF.tag.a SF.tag.n SF.tag.c]) := KF9.out.later b
      have Ok_10 : Hid (SOwn x10 x6.heap.size x7.heap.size ⟨some ⟨gk, 0, none⟩, 32, ck⟩ lk) := Ok_9.out.later b
      have On_10 : Hid (SOwn x10 x7.heap.size x8.heap.size ⟨some ⟨gn, 0, none⟩, 12, cn⟩ ln) := On_9.out.later b
      have Ob_10 : Hid (SOwn x10 x8.heap.size x9.heap.size ⟨some ⟨gb, 0, none⟩, 3, cb⟩ lb) := Ob_9.out.later b
      clear B9 KO9 R9 OI9 KF9 Ok_9 On_9 Ob_9 b
      generalize sealF lk 0 ln 1 2 4 lb = D2 at *
      have O210 : Hid (FrIn x10 x9.heap.size x10.heap.size S2 D2) := FrIn.of o
      clear o
      have va0 := KF10.out.cell 0 rfl
      have vb0 := KF10.out.frozen 0
      have va1 := KF10.out.cell 1 rfl
      have vb1 := KF10.out.frozen 1
      have va2 := KF10.out.cell 2 rfl
      have vb2 := KF10.out.frozen 2
      have va3 := KF10.out.cell 3 rfl
      have vb3 := KF10.out.frozen 3
      have va4 := KF10.out.cell 4 rfl
      have vb4 := KF10.out.frozen 4
      have va5 := KF10.out.cell 5 rfl
      have vb5 := KF10.out.frozen 5
      have va6 := KF10.out.cell 6 rfl
      have vb6 := KF10.out.frozen 6
      have va7 := KF10.out.cell 7 rfl
      have vb7 := KF10.out.frozen 7
      have va8 := KF10.out.cell 8 rfl
      have vb8 := KF10.out.frozen 8
      have va9 := KF10.out.cell 9 rfl
      have vb9 := KF10.out.frozen 9
      have va10 := KF10.out.cell 10 rfl
      have vb10 := KF10.out.frozen 10
      obtain ⟨x11, hx11⟩ : ∃ y, (((((((((((x10.setCell ⟨gf, 0, none⟩ (.int .i64 D2.kind)).setCell ⟨gf, 1, none⟩ (.int .i64 D2.id)).setCell ⟨gf, 2, none⟩ (.slice S2.cn.a S2.cn.n S2.cn.c)).setCell ⟨gf, 3, none⟩ (.slice S2.sn.a S2.sn.n S2.sn.c)).setCell ⟨gf, 4, none⟩ (.int .i64 D2.tick)).setCell ⟨gf, 5, none⟩ (.slice S2.cookie.a S2.cookie.n S2.cookie.c)).setCell ⟨gf, 6, none⟩ (.slice S2.proof.a S2.proof.n S2.proof.c)).setCell ⟨gf, 7, none⟩ (.int .i64 D2.epoch)).setCell ⟨gf, 8, none⟩ (.int .i64 D2.seq)).setCell ⟨gf, 9, none⟩ (.slice S2.body.a S2.body.n S2.body.c)).setCell ⟨gf, 10, none⟩ (.slice S2.tag.a S2.tag.n S2.tag.c)) = y := ⟨_, rfl⟩
      have HW11 : Hid ((((((((((((x10.setCell ⟨gf, 0, none⟩ (.int .i64 D2.kind)).setCell ⟨gf, 1, none⟩ (.int .i64 D2.id)).setCell ⟨gf, 2, none⟩ (.slice S2.cn.a S2.cn.n S2.cn.c)).setCell ⟨gf, 3, none⟩ (.slice S2.sn.a S2.sn.n S2.sn.c)).setCell ⟨gf, 4, none⟩ (.int .i64 D2.tick)).setCell ⟨gf, 5, none⟩ (.slice S2.cookie.a S2.cookie.n S2.cookie.c)).setCell ⟨gf, 6, none⟩ (.slice S2.proof.a S2.proof.n S2.proof.c)).setCell ⟨gf, 7, none⟩ (.int .i64 D2.epoch)).setCell ⟨gf, 8, none⟩ (.int .i64 D2.seq)).setCell ⟨gf, 9, none⟩ (.slice S2.body.a S2.body.n S2.body.c)).setCell ⟨gf, 10, none⟩ (.slice S2.tag.a S2.tag.n S2.tag.c)) = x11) := hx11
      have KS : Blk x11 gf 39 [.int .i64 D2.kind, .int .i64 D2.id, .slice S2.cn.a S2.cn.n S2.cn.c, .slice S2.sn.a S2.sn.n S2.sn.c, .int .i64 D2.tick, .slice S2.cookie.a S2.cookie.n S2.cookie.c, .slice S2.proof.a S2.proof.n S2.proof.c, .int .i64 D2.epoch, .int .i64 D2.seq, .slice S2.body.a S2.body.n S2.body.c, .slice S2.tag.a S2.tag.n S2.tag.c] := by rw [← hx11]; exact fr_put KF10.out (.int .i64 D2.kind) (.int .i64 D2.id) (.slice S2.cn.a S2.cn.n S2.cn.c) (.slice S2.sn.a S2.sn.n S2.sn.c) (.int .i64 D2.tick) (.slice S2.cookie.a S2.cookie.n S2.cookie.c) (.slice S2.proof.a S2.proof.n S2.proof.c) (.int .i64 D2.epoch) (.int .i64 D2.seq) (.slice S2.body.a S2.body.n S2.body.c) (.slice S2.tag.a S2.tag.n S2.tag.c)
      have KQ : Kept gf (gf + 1) x10 x11 := by rw [← hx11]; exact fr_kept _ _ (.int .i64 D2.kind) (.int .i64 D2.id) (.slice S2.cn.a S2.cn.n S2.cn.c) (.slice S2.sn.a S2.sn.n S2.sn.c) (.int .i64 D2.tick) (.slice S2.cookie.a S2.cookie.n S2.cookie.c) (.slice S2.proof.a S2.proof.n S2.proof.c) (.int .i64 D2.epoch) (.int .i64 D2.seq) (.slice S2.body.a S2.body.n S2.body.c) (.slice S2.tag.a S2.tag.n S2.tag.c)
      have L11 : Hid (x11.heap.size = x10.heap.size) := by rw [← hx11]; exact fr_size _ _ (.int .i64 D2.kind) (.int .i64 D2.id) (.slice S2.cn.a S2.cn.n S2.cn.c) (.slice S2.sn.a S2.sn.n S2.sn.c) (.int .i64 D2.tick) (.slice S2.cookie.a S2.cookie.n S2.cookie.c) (.slice S2.proof.a S2.proof.n S2.proof.c) (.int .i64 D2.epoch) (.int .i64 D2.seq) (.slice S2.body.a S2.body.n S2.body.c) (.slice S2.tag.a S2.tag.n S2.tag.c)
      clear hx11
      clear OI10
      have B11 : Hid (Below w.heap.size w x11) := B10.out.trans (KQ.below (by have := L1.out; have := GA.out; have := L2.out; have := HP.out; have := L3.out; have := L4.out; have := L5.out; have := Ggf.out; have := L6.out; have := L7.out; have := L8.out; have := L9.out; have := L10.out; have := L11.out; omega) B10.out.size)
      have KO11 : Hid (Blk x11 go 39 [.int .i64 0, .int .i64 0, .slice none 0 0, .slice none 0 0, .int .i64 0, .slice none 0 0, .slice none 0 0, .int .i64 0, .int .i64 0, .slice none 0 0, .slice none 0 0]) := KO10.out.keep (KQ.block _ KO10.out.lt (by have := L1.out; have := GA.out; have := L2.out; have := HP.out; have := L3.out; have := L4.out; have := L5.out; have := Ggf.out; have := L6.out; have := L7.out; have := L8.out; have := L9.out; have := L10.out; have := L11.out; omega))
      have R11 : Hid (Ready x1 a len cap l p x11) := rdyK R10.out KQ (by have := L1.out; have := GA.out; have := L2.out; have := HP.out; have := L3.out; have := L4.out; have := L5.out; have := Ggf.out; have := L6.out; have := L7.out; have := L8.out; have := L9.out; have := L10.out; have := L11.out; omega)
      have Ok_11 : Hid (SOwn x11 x6.heap.size x7.heap.size ⟨some ⟨gk, 0, none⟩, 32, ck⟩ lk) := Ok_10.out.carry KQ (by have := L1.out; have := GA.out; have := L2.out; have := HP.out; have := L3.out; have := L4.out; have := L5.out; have := Ggf.out; have := L6.out; have := L7.out; have := L8.out; have := L9.out; have := L10.out; have := L11.out; omega)
      have On_11 : Hid (SOwn x11 x7.heap.size x8.heap.size ⟨some ⟨gn, 0, none⟩, 12, cn⟩ ln) := On_10.out.carry KQ (by have := L1.out; have := GA.out; have := L2.out; have := HP.out; have := L3.out; have := L4.out; have := L5.out; have := Ggf.out; have := L6.out; have := L7.out; have := L8.out; have := L9.out; have := L10.out; have := L11.out; omega)
      have Ob_11 : Hid (SOwn x11 x8.heap.size x9.heap.size ⟨some ⟨gb, 0, none⟩, 3, cb⟩ lb) := Ob_10.out.carry KQ (by have := L1.out; have := GA.out; have := L2.out; have := HP.out; have := L3.out; have := L4.out; have := L5.out; have := Ggf.out; have := L6.out; have := L7.out; have := L8.out; have := L9.out; have := L10.out; have := L11.out; omega)
      have O211 : Hid (FrIn x11 x9.heap.size x10.heap.size S2 D2) := O210.out.carry KQ (by have := L1.out; have := GA.out; have := L2.out; have := HP.out; have := L3.out; have := L4.out; have := L5.out; have := Ggf.out; have := L6.out; have := L7.out; have := L8.out; have := L9.out; have := L10.out; have := L11.out; omega)
      clear B10 KO10 R10 Ok_10 On_10 Ob_10 O210 KQ
      clear KF10
      have KF11 : Hid (Blk x11 gf 39 [.int .i64 D2.kind, .int .i64 D2.id, .slice S2.cn.a S2.cn.n S2.cn.c, .slice S2.sn.a S2.sn.n S2.sn.c, .int .i64 D2.tick, .slice S2.cookie.a S2.cookie.n S2.cookie.c, .slice S2.proof.a S2.proof.n S2.proof.c, .int .i64 D2.epoch, .int .i64 D2.seq, .slice S2.body.a S2.body.n S2.body.c, .slice S2.tag.a S2.tag.n S2.tag.c]) := KS
      clear KS
      unfold frV
      go_upto_region 6 with fail
      rw [HW11.out]
      clear HW11 va0 vb0 va1 vb1 va2 vb2 va3 vb3 va4 vb4 va5 vb5 va6 vb6 va7 vb7 va8 vb8 va9 vb9 va10 vb10
      have NE : gf ≠ go := by have := L1.out; have := GA.out; have := L2.out; have := HP.out; have := L3.out; have := L4.out; have := L5.out; have := Ggf.out; have := L6.out; have := L7.out; have := L8.out; have := L9.out; have := L10.out; have := L11.out; omega
      have xf0 := hide ((drewB KF11.out).cell 0 rfl)
      have zf0 := KF11.out.cell 0 rfl
      have vo0 := KO11.out.cell 0 rfl
      have vp0 := KO11.out.frozen 0
      have xf1 := hide ((drewB KF11.out).cell 1 rfl)
      have zf1 := KF11.out.cell 1 rfl
      have vo1 := KO11.out.cell 1 rfl
      have vp1 := KO11.out.frozen 1
      have xf2 := hide ((drewB KF11.out).cell 2 rfl)
      have zf2 := KF11.out.cell 2 rfl
      have vo2 := KO11.out.cell 2 rfl
      have vp2 := KO11.out.frozen 2
      have xf3 := hide ((drewB KF11.out).cell 3 rfl)
      have zf3 := KF11.out.cell 3 rfl
      have vo3 := KO11.out.cell 3 rfl
      have vp3 := KO11.out.frozen 3
      have xf4 := hide ((drewB KF11.out).cell 4 rfl)
      have zf4 := KF11.out.cell 4 rfl
      have vo4 := KO11.out.cell 4 rfl
      have vp4 := KO11.out.frozen 4
      have xf5 := hide ((drewB KF11.out).cell 5 rfl)
      have zf5 := KF11.out.cell 5 rfl
      have vo5 := KO11.out.cell 5 rfl
      have vp5 := KO11.out.frozen 5
      have xf6 := hide ((drewB KF11.out).cell 6 rfl)
      have zf6 := KF11.out.cell 6 rfl
      have vo6 := KO11.out.cell 6 rfl
      have vp6 := KO11.out.frozen 6
      have xf7 := hide ((drewB KF11.out).cell 7 rfl)
      have zf7 := KF11.out.cell 7 rfl
      have vo7 := KO11.out.cell 7 rfl
      have vp7 := KO11.out.frozen 7
      have xf8 := hide ((drewB KF11.out).cell 8 rfl)
      have zf8 := KF11.out.cell 8 rfl
      have vo8 := KO11.out.cell 8 rfl
      have vp8 := KO11.out.frozen 8
      have xf9 := hide ((drewB KF11.out).cell 9 rfl)
      have zf9 := KF11.out.cell 9 rfl
      have vo9 := KO11.out.cell 9 rfl
      have vp9 := KO11.out.frozen 9
      have xf10 := hide ((drewB KF11.out).cell 10 rfl)
      have zf10 := KF11.out.cell 10 rfl
      have vo10 := KO11.out.cell 10 rfl
      have vp10 := KO11.out.frozen 10
      have zN := fr_other KF11.out NE (.int .i64 D2.kind) (.int .i64 D2.id) (.slice S2.cn.a S2.cn.n S2.cn.c) (.slice S2.sn.a S2.sn.n S2.sn.c) (.int .i64 D2.tick) (.slice S2.cookie.a S2.cookie.n S2.cookie.c) (.slice S2.proof.a S2.proof.n S2.proof.c) (.int .i64 D2.epoch) (.int .i64 D2.seq) (.slice S2.body.a S2.body.n S2.body.c) (.slice S2.tag.a S2.tag.n S2.tag.c)
      have zm0 := hide ((drewB zN).cell 0 rfl)
      have zm1 := hide ((drewB zN).cell 1 rfl)
      have zm2 := hide ((drewB zN).cell 2 rfl)
      have zm3 := hide ((drewB zN).cell 3 rfl)
      have zm4 := hide ((drewB zN).cell 4 rfl)
      have zm5 := hide ((drewB zN).cell 5 rfl)
      have zm6 := hide ((drewB zN).cell 6 rfl)
      have zm7 := hide ((drewB zN).cell 7 rfl)
      have zm8 := hide ((drewB zN).cell 8 rfl)
      have zm9 := hide ((drewB zN).cell 9 rfl)
      have zm10 := hide ((drewB zN).cell 10 rfl)
      clear zN
      go_region_held3 (fun w' => w'.cell? ⟨gf, 0, none⟩ = some (.int .i64 D2.kind) ∧ w'.cell? ⟨gf, 1, none⟩ = some (.int .i64 D2.id) ∧ w'.cell? ⟨gf, 2, none⟩ = some (.slice S2.cn.a S2.cn.n S2.cn.c) ∧ w'.cell? ⟨gf, 3, none⟩ = some (.slice S2.sn.a S2.sn.n S2.sn.c) ∧ w'.cell? ⟨gf, 4, none⟩ = some (.int .i64 D2.tick) ∧ w'.cell? ⟨gf, 5, none⟩ = some (.slice S2.cookie.a S2.cookie.n S2.cookie.c) ∧ w'.cell? ⟨gf, 6, none⟩ = some (.slice S2.proof.a S2.proof.n S2.proof.c) ∧ w'.cell? ⟨gf, 7, none⟩ = some (.int .i64 D2.epoch) ∧ w'.cell? ⟨gf, 8, none⟩ = some (.int .i64 D2.seq) ∧ w'.cell? ⟨gf, 9, none⟩ = some (.slice S2.body.a S2.body.n S2.body.c) ∧ w'.cell? ⟨gf, 10, none⟩ = some (.slice S2.tag.a S2.tag.n S2.tag.c)) (first | with_reducible exact ⟨zm0.out, zm1.out, zm2.out, zm3.out, zm4.out, zm5.out, zm6.out, zm7.out, zm8.out, zm9.out, zm10.out⟩ | with_reducible exact ⟨zf0, zf1, zf2, zf3, zf4, zf5, zf6, zf7, zf8, zf9, zf10⟩ | with_reducible exact ⟨xf0.out, xf1.out, xf2.out, xf3.out, xf4.out, xf5.out, xf6.out, xf7.out, xf8.out, xf9.out, xf10.out⟩ | go_keep) (fail)
      clear xf0 zf0 zm0 vo0 vp0 xf1 zf1 zm1 vo1 vp1 xf2 zf2 zm2 vo2 vp2 xf3 zf3 zm3 vo3 vp3 xf4 zf4 zm4 vo4 vp4 xf5 zf5 zm5 vo5 vp5 xf6 zf6 zm6 vo6 vp6 xf7 zf7 zm7 vo7 vp7 xf8 zf8 zm8 vo8 vp8 xf9 zf9 zm9 vo9 vp9 xf10 zf10 zm10 vo10 vp10
      go_wp2
      have k1 := fr_put KO11.out (.int .i64 D2.kind) (.int .i64 D2.id) (.slice S2.cn.a S2.cn.n S2.cn.c) (.slice S2.sn.a S2.sn.n S2.sn.c) (.int .i64 D2.tick) (.slice S2.cookie.a S2.cookie.n S2.cookie.c) (.slice S2.proof.a S2.proof.n S2.proof.c) (.int .i64 D2.epoch) (.int .i64 D2.seq) (.slice S2.body.a S2.body.n S2.body.c) (.slice S2.tag.a S2.tag.n S2.tag.c)
      have SZF : Hid (w.heap.size ≤ go ∧ go + 1 ≤ x9.heap.size ∧ x9.heap.size ≤ x10.heap.size ∧ x10.heap.size ≤ x11.heap.size) := by have := L1.out; have := GA.out; have := L2.out; have := HP.out; have := L3.out; have := L4.out; have := L5.out; have := Ggf.out; have := L6.out; have := L7.out; have := L8.out; have := L9.out; have := L10.out; have := L11.out; show _ ∧ _; omega
      have o1 := O211.out.carry (fr_kept _ go (.int .i64 D2.kind) (.int .i64 D2.id) (.slice S2.cn.a S2.cn.n S2.cn.c) (.slice S2.sn.a S2.sn.n S2.sn.c) (.int .i64 D2.tick) (.slice S2.cookie.a S2.cookie.n S2.cookie.c) (.slice S2.proof.a S2.proof.n S2.proof.c) (.int .i64 D2.epoch) (.int .i64 D2.seq) (.slice S2.body.a S2.body.n S2.body.c) (.slice S2.tag.a S2.tag.n S2.tag.c)) (.inr (by have := SZF.out; omega))
      have b1 := fr_low B11.out (g := go) (by have := SZF.out; omega) (.int .i64 D2.kind) (.int .i64 D2.id) (.slice S2.cn.a S2.cn.n S2.cn.c) (.slice S2.sn.a S2.sn.n S2.sn.c) (.int .i64 D2.tick) (.slice S2.cookie.a S2.cookie.n S2.cookie.c) (.slice S2.proof.a S2.proof.n S2.proof.c) (.int .i64 D2.epoch) (.int .i64 D2.seq) (.slice S2.body.a S2.body.n S2.body.c) (.slice S2.tag.a S2.tag.n S2.tag.c)
      exact bodyPost_ret (v := .tuple #[.int .i64 ro, frV D2 S2]) (res2 rfl (is_tmp rfl) (is_cell rfl (drewB k1) aggFr)) rfl ⟨ro, D2, S2, rfl, (o1.later ((Below.refl _ _).drew)).rd, b1.drew⟩
end Go.Proofs.Ytmcflfpckpjphaa.DrHd
