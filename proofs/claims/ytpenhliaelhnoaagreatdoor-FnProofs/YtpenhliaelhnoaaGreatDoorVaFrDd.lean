/-
  What spec.l7Draw answers: a right frame, in memory of its own.
  What spec.DrawGetFrame answers: some bytes, in new memory.
  What the laws' sameFrame answers of two frames that are the same.
-/
import Derived.Test.YtpenhliaelhnoaaGreatDoorVaFrN
import Derived.Test.YtpenhliaelhnoaaGreatDoorVaGz7
import Derived.Test.YtpenhliaelhnoaaGreatDoorVaDrawB
import Derived.Deep.CutBlock
import Derived.Test.YtpenhliaelhnoaaGreatDoorVaFrPut
import Derived.Test.YtpenhliaelhnoaaGreatDoorVaGz10
import Derived.Test.YtpenhliaelhnoaaGreatDoorVaFrH
import Derived.Test.YtpenhliaelhnoaaGreatDoorVaDrawD
import Derived.Test.YtpenhliaelhnoaaGreatDoorVaFrE
set_option linter.unusedVariables false
set_option maxRecDepth 100000
namespace Go.Proofs.YtpenhliaelhnoaaGreatDoor.FrDr
open Go.RowKit Mem App Blk Draw Zone Res FrZ FrP FrB FrM FrN

theorem Ready_setCell {W0 : World} {a : Option Addr} {len cap : Nat} {l : List Int} {p : Nat} {w : World} (h : Ready W0 a len cap l p w) (ad : Addr) (v : Value) (h1 : ad.block ≠ p) (h2 : W0.heap.size ≤ ad.block) : Ready W0 a len cap l p (w.setCell ad v) :=
 ⟨h.hl, h.hr, h.hb, h.hlen, h.hB.setCell h2 v, h.hp, h.hc.keep (Below.heap_setCell w ad v p (Ne.symm h1))⟩
theorem But_setCell {p : Nat} {w w' : World} (h : But p w w') (ad : Addr) (v : Value) (hg : w.heap.size ≤ ad.block) : But p w (w'.setCell ad v) :=
 ⟨h.os, h.tape, h.output, by have := h.size; simpa using this, fun i hi hne => (Below.heap_setCell w' ad v i (by omega)).trans (h.block i hi hne)⟩
theorem own_none (w : World) (lo hi : Nat) (k : Int) : FrOwn w lo hi ⟨⟨none, 0, 0⟩, ⟨none, 0, 0⟩, ⟨none, 0, 0⟩, ⟨none, 0, 0⟩, ⟨none, 0, 0⟩, ⟨none, 0, 0⟩⟩ ⟨k, 0, [], [], 0, [], [], 0, 0, [], []⟩ := ⟨SOwn.nil _ _ _, SOwn.nil _ _ _, SOwn.nil _ _ _, SOwn.nil _ _ _, SOwn.nil _ _ _, SOwn.nil _ _ _, ⟨.inl rfl, .inl rfl, .inl rfl, .inl rfl, .inl rfl, .inl rfl, .inl rfl, .inl rfl, .inl rfl, .inl rfl, .inl rfl, .inl rfl, .inl rfl, .inl rfl, .inl rfl⟩⟩
def Drew (W0 : World) (a : Option Addr) (len cap : Nat) (l : List Int) (p : Nat) (w : World) (Q : FrD → Prop) : Ending → World → Prop := fun e w' => ∃ D S, e = .returned (frV D S) ∧ Q D ∧ FrOwn w' w.heap.size w'.heap.size S D ∧ Ready W0 a len cap l p w' ∧ But p w w'
theorem ret_drew {W0 : World} {a0 : Option Addr} {len cap : Nat} {l : List Int} {p0 : Nat} {Q : FrD → Prop} {fn : Func} {p : Tmp} {a : Act} {w w' : World} {g : Nat} {D : FrD} {S : FrS} (hf : fn.results = #[.cell p 25]) (hp : a.tmps.getD p undef = .pointer (some ⟨g, 0, none⟩))
  (hg : Blk w' g 25 [.int .i64 D.kind, .int .i64 D.id, .slice S.cn.a S.cn.n S.cn.c, .slice S.sn.a S.sn.n S.sn.c, .int .i64 D.tick, .slice S.cookie.a S.cookie.n S.cookie.c, .slice S.proof.a S.proof.n S.proof.c, .int .i64 D.epoch, .int .i64 D.seq, .slice S.body.a S.body.n S.body.c, .slice S.tag.a S.tag.n S.tag.c]) (hd : a.defers = []) (hQ : Q D) (h2 : FrOwn w' w.heap.size w'.heap.size S D) (h3 : Ready W0 a0 len cap l p0 w') (h4 : But p0 w w') : bodyPost Tryz.prog fn (Drew W0 a0 len cap l p0 w Q) .ret a w' :=
 bodyPost_ret (v := frV D S) (res1 hf (is_cell hp hg aggFr)) hd ⟨D, S, rfl, hQ, h2, h3, h4⟩

set_option maxHeartbeats 16000000 in
theorem l7Draw {W0 : World} {a : Option Addr} {len cap : Nat} {l : List Int} {p : Nat} {w : World} (h : Ready W0 a len cap l p w) :
  Calls Tryz.prog 47 #[.pointer (some ⟨p, 0, none⟩)] w (Drew W0 a len cap l p w (fun D => frameOk D = true)) := by
 obtain ⟨x0, hx0⟩ : ∃ x0, w.alloc (.cells #[.int .i64 0, .int .i64 0, .slice none 0 0, .slice none 0 0, .int .i64 0, .slice none 0 0, .slice none 0 0, .int .i64 0, .int .i64 0, .slice none 0 0, .slice none 0 0] 25) = x0 := ⟨_, rfl⟩
 have HW0 := hid (hx0)
 have R0 : Hid (Ready W0 a len cap l p x0) := by rw [← hx0]; exact h.alloc _
 have B0 : Hid (But p w x0) := by rw [← hx0]; exact (But.refl p w).alloc _
 have KR0 : Hid (Blk x0 w.heap.size 25 [.int .i64 0, .int .i64 0, .slice none 0 0, .slice none 0 0, .int .i64 0, .slice none 0 0, .slice none 0 0, .int .i64 0, .int .i64 0, .slice none 0 0, .slice none 0 0]) := by rw [← hx0]; exact Blk.new w _ [.int .i64 0, .int .i64 0, .slice none 0 0, .slice none 0 0, .int .i64 0, .slice none 0 0, .slice none 0 0, .int .i64 0, .int .i64 0, .slice none 0 0, .slice none 0 0]
 have HP : Hid (p < w.heap.size ∧ W0.heap.size ≤ w.heap.size) := ⟨h.hc.lt, h.hB.size⟩
 clear hx0 h
 go_enter Tryz.func47, Tryz.ntmps47
 go_wp2_with fail
 rw [HW0.out]
 obtain ⟨gr, hgr⟩ : ∃ gr, w.heap.size = gr := ⟨_, rfl⟩
 have HG0 : Hid (w.heap.size = gr ∧ p < gr ∧ W0.heap.size ≤ gr) := ⟨hgr, by have := HP.out; omega, by have := HP.out; omega⟩
 rw [hgr] at KR0
 rw [hgr]
 clear hgr HW0 HP
 refine (below R0.out 8 (by omega) (by omega)).mono ?_
 rintro e y0 ⟨x, rfl, xa, xb, r0, b0⟩
 have hx : x = 0 ∨ x = 1 ∨ x = 2 ∨ x = 3 ∨ x = 4 ∨ x = 5 ∨ x = 6 ∨ x = 7 := by omega
 have RY := hid (r0)
 have BY := hid (B0.out.trans b0)
 have KRY := hid (KR0.out.keep ((Kept.of_grown b0).block gr KR0.out.lt (by have := HG0.out; omega)))
 clear r0 b0 R0 B0 KR0 xa xb
 rcases hx with rfl | rfl | rfl | rfl | rfl | rfl | rfl | rfl
 ·
  obtain ⟨x1, hx1⟩ : ∃ x1, y0.alloc (.cells #[.int .i64 1, .int .i64 0, .slice none 0 0, .slice none 0 0, .int .i64 0, .slice none 0 0, .slice none 0 0, .int .i64 0, .int .i64 0, .slice none 0 0, .slice none 0 0] 25) = x1 := ⟨_, rfl⟩
  have HW1 := hid (hx1)
  have KB : Blk x1 y0.heap.size 25 [.int .i64 1, .int .i64 0, .slice none 0 0, .slice none 0 0, .int .i64 0, .slice none 0 0, .slice none 0 0, .int .i64 0, .int .i64 0, .slice none 0 0, .slice none 0 0] := by rw [← hx1]; exact Blk.new y0 _ [.int .i64 1, .int .i64 0, .slice none 0 0, .slice none 0 0, .int .i64 0, .slice none 0 0, .slice none 0 0, .int .i64 0, .int .i64 0, .slice none 0 0, .slice none 0 0]
  have M1 : Hid (FrMk x1 y0.heap.size (y0.heap.size + 1) ⟨1, 0, [], [], 0, [], [], 0, 0, [], []⟩ ⟨⟨none, 0, 0⟩, ⟨none, 0, 0⟩, ⟨none, 0, 0⟩, ⟨none, 0, 0⟩, ⟨none, 0, 0⟩, ⟨none, 0, 0⟩⟩) := ⟨KB, own_none _ _ _ _, Nat.lt_succ_self _⟩
  have R1 : Hid (Ready W0 a len cap l p x1) := by rw [← hx1]; exact RY.out.alloc _
  have B1 : Hid (But p w x1) := by rw [← hx1]; exact BY.out.alloc _
  have KR1 : Hid (Blk x1 gr 25 [.int .i64 0, .int .i64 0, .slice none 0 0, .slice none 0 0, .int .i64 0, .slice none 0 0, .slice none 0 0, .int .i64 0, .int .i64 0, .slice none 0 0, .slice none 0 0]) := by rw [← hx1]; exact KRY.out.alloc _
  have LG : Hid (gr < y0.heap.size) := KRY.out.lt
  clear hx1 KB
  go_upto_region 2 with fail
  rw [HW1.out]
  obtain ⟨gf, hgf⟩ : ∃ gf, y0.heap.size = gf := ⟨_, rfl⟩
  rw [hgf] at M1 LG ⊢
  clear HW1 hgf RY BY KRY
  have HG : Hid (w.heap.size = gr ∧ p < gr ∧ W0.heap.size ≤ gr ∧ gr < gf) := ⟨HG0.out.1, HG0.out.2.1, HG0.out.2.2, LG.out⟩
  clear LG HG0
  have kc : x1.cell? ⟨gf, 0, none⟩ = some (.int .i64 1) := M1.out.blk.cell 0 rfl
  go_upto_region 14 with fail
  clear kc
  go_wp2_with fail
  refine (below R1.out 9 (by omega) (by omega)).mono ?_
  rintro e y2 ⟨v2, rfl, va2, vb2, r2, b2⟩
  have RY2 := hid (r2)
  have hw2 : IntKind.i64.wrap (1 + v2) = 1 + v2 := by rw [IntKind.wrap_i64]; omega
  have KP2 : Hid (Kept p (p + 1) x1 y2) := Kept.of_grown b2
  have BU2 := hid (B1.out.trans b2)
  have KR2 := hid (KR1.out.keep (KP2.out.block gr KR1.out.lt (by have := HG.out; omega)))
  have MY2 : Hid (FrMk y2 gf (gf + 1) ⟨1, 0, [], [], 0, [], [], 0, 0, [], []⟩ ⟨⟨none, 0, 0⟩, ⟨none, 0, 0⟩, ⟨none, 0, 0⟩, ⟨none, 0, 0⟩, ⟨none, 0, 0⟩, ⟨none, 0, 0⟩⟩) := FrMk.kept M1.out KP2.out (by have := HG.out; omega) (by have := HG.out; omega)
  have co : y2.cell? ⟨gf, 1, none⟩ = some (.int .i64 0) := MY2.out.blk.cell 1 rfl
  have fo := MY2.out.blk.frozen 1
  clear r2 b2
  obtain ⟨x2, hx2⟩ : ∃ x2, y2.setCell ⟨gf, 1, none⟩ (.int .i64 (1 + v2)) = x2 := ⟨_, rfl⟩
  have HW2 := hid (hx2)
  have M2 : Hid (FrMk x2 gf (gf + 1) { (⟨1, 0, [], [], 0, [], [], 0, 0, [], []⟩ : FrD) with id := 1 + v2 } ⟨⟨none, 0, 0⟩, ⟨none, 0, 0⟩, ⟨none, 0, 0⟩, ⟨none, 0, 0⟩, ⟨none, 0, 0⟩, ⟨none, 0, 0⟩⟩) := by rw [← hx2]; exact MY2.out.id _
  have KR2 : Hid (Blk x2 gr 25 [.int .i64 0, .int .i64 0, .slice none 0 0, .slice none 0 0, .int .i64 0, .slice none 0 0, .slice none 0 0, .int .i64 0, .int .i64 0, .slice none 0 0, .slice none 0 0]) := by rw [← hx2]; exact KR2.out.other (by show gr ≠ gf; have := HG.out; omega) _
  have B2 : Hid (But p w x2) := by rw [← hx2]; exact But_setCell BU2.out _ _ (by show w.heap.size ≤ gf; have := HG.out; omega)
  have R2 : Hid (Ready W0 a len cap l p x2) := by rw [← hx2]; exact Ready_setCell RY2.out _ _ (by show gf ≠ p; have := HG.out; omega) (by show W0.heap.size ≤ gf; have := HG.out; omega)
  clear hx2 KP2 BU2 RY2
  go_upto_region 15 with fail
  rw [HW2.out]
  clear co fo HW2 M1 KR1 B1 R1
  clear MY2
  go_wp2_with fail
  refine (bytesOf R2.out 12 (by omega)).mono ?_
  rintro e y3 ⟨q3, c3, l3, rfl, el3, hb3, kq3, w3, r3, b3⟩
  have EL3 : Hid (12 = l3.length) := el3
  have RY3 := hid (r3)
  have KP3 : Hid (Kept p (p + 1) x2 y3) := Kept.of_grown b3
  have BU3 := hid (B2.out.trans b3)
  have KR3 := hid (KR2.out.keep (KP3.out.block gr KR2.out.lt (by have := HG.out; omega)))
  have BL3 : Blk y3 gf 25 _ := M2.out.blk.keep (KP3.out.block gf M2.out.blk.lt (by have := HG.out; omega))
  have OW3 : FrOwn y3 (gf + 1) x2.heap.size _ _ := M2.out.own.carry KP3.out (.inr (by have := HG.out; omega))
  have co : y3.cell? ⟨gf, 2, none⟩ = some (.slice none 0 0) := BL3.cell 2 rfl
  have fo := BL3.frozen 2
  have MN3 : Hid (FrMk (y3.setCell ⟨gf, 2, none⟩ (.slice (some ⟨q3, 0, none⟩) 12 c3)) gf (gf + 1) { ({ (⟨1, 0, [], [], 0, [], [], 0, 0, [], []⟩ : FrD) with id := 1 + v2 } : FrD) with cn := l3 } { (⟨⟨none, 0, 0⟩, ⟨none, 0, 0⟩, ⟨none, 0, 0⟩, ⟨none, 0, 0⟩, ⟨none, 0, 0⟩, ⟨none, 0, 0⟩⟩ : FrS) with cn := ⟨some ⟨q3, 0, none⟩, 12, c3⟩ }) := FrMk.cn2 BL3 OW3 (Nat.lt_succ_self _) M2.out.blk.lt w3 el3 hb3 kq3
  clear r3 b3 el3 hb3 kq3 w3 BL3 OW3
  obtain ⟨x3, hx3⟩ : ∃ x3, y3.setCell ⟨gf, 2, none⟩ (.slice (some ⟨q3, 0, none⟩) 12 c3) = x3 := ⟨_, rfl⟩
  have HW3 := hid (hx3)
  have M3 : Hid (FrMk x3 gf (gf + 1) { ({ (⟨1, 0, [], [], 0, [], [], 0, 0, [], []⟩ : FrD) with id := 1 + v2 } : FrD) with cn := l3 } { (⟨⟨none, 0, 0⟩, ⟨none, 0, 0⟩, ⟨none, 0, 0⟩, ⟨none, 0, 0⟩, ⟨none, 0, 0⟩, ⟨none, 0, 0⟩⟩ : FrS) with cn := ⟨some ⟨q3, 0, none⟩, 12, c3⟩ }) := by rw [← hx3]; exact MN3.out
  have KR3 : Hid (Blk x3 gr 25 [.int .i64 0, .int .i64 0, .slice none 0 0, .slice none 0 0, .int .i64 0, .slice none 0 0, .slice none 0 0, .int .i64 0, .int .i64 0, .slice none 0 0, .slice none 0 0]) := by rw [← hx3]; exact KR3.out.other (by show gr ≠ gf; have := HG.out; omega) _
  have B3 : Hid (But p w x3) := by rw [← hx3]; exact But_setCell BU3.out _ _ (by show w.heap.size ≤ gf; have := HG.out; omega)
  have R3 : Hid (Ready W0 a len cap l p x3) := by rw [← hx3]; exact Ready_setCell RY3.out _ _ (by show gf ≠ p; have := HG.out; omega) (by show W0.heap.size ≤ gf; have := HG.out; omega)
  clear hx3 KP3 BU3 RY3
  go_upto_region 25 with fail
  rw [HW3.out]
  clear co fo HW3 M2 KR2 B2 R2
  clear MN3
  have OK : Hid (frameOk { ({ (⟨1, 0, [], [], 0, [], [], 0, 0, [], []⟩ : FrD) with id := 1 + v2 } : FrD) with cn := l3 } = true) := by show frameOk _ = true; rw [ok_iff]; refine .inr ⟨rfl, rfl, rfl, rfl, EL3.out.symm, .inl ⟨rfl, ?_, ?_, rfl, rfl, rfl, rfl⟩⟩ <;> (simp only; omega)
  obtain ⟨SS, hSS⟩ : ∃ SS : FrS, { (⟨⟨none, 0, 0⟩, ⟨none, 0, 0⟩, ⟨none, 0, 0⟩, ⟨none, 0, 0⟩, ⟨none, 0, 0⟩, ⟨none, 0, 0⟩⟩ : FrS) with cn := ⟨some ⟨q3, 0, none⟩, 12, c3⟩ } = SS := ⟨_, rfl⟩
  obtain ⟨DD, hDD⟩ : ∃ DD : FrD, { ({ (⟨1, 0, [], [], 0, [], [], 0, 0, [], []⟩ : FrD) with id := 1 + v2 } : FrD) with cn := l3 } = DD := ⟨_, rfl⟩
  have MD : Hid (FrMk x3 gf (gf + 1) DD SS) := by rw [← hSS, ← hDD]; exact M3.out
  rw [hDD] at OK
  clear hSS hDD M3
  have zc0 := KR3.out.cell 0 rfl
  have zf0 := KR3.out.frozen 0
  have zo0 : x3.cell? ⟨gf, 0, none⟩ = some (.int .i64 DD.kind) := MD.out.blk.cell 0 rfl
  have zc1 := KR3.out.cell 1 rfl
  have zf1 := KR3.out.frozen 1
  have zo1 : x3.cell? ⟨gf, 1, none⟩ = some (.int .i64 DD.id) := MD.out.blk.cell 1 rfl
  have zc2 := KR3.out.cell 2 rfl
  have zf2 := KR3.out.frozen 2
  have zo2 : x3.cell? ⟨gf, 2, none⟩ = some (.slice SS.cn.a SS.cn.n SS.cn.c) := MD.out.blk.cell 2 rfl
  have zc3 := KR3.out.cell 3 rfl
  have zf3 := KR3.out.frozen 3
  have zo3 : x3.cell? ⟨gf, 3, none⟩ = some (.slice SS.sn.a SS.sn.n SS.sn.c) := MD.out.blk.cell 3 rfl
  have zc4 := KR3.out.cell 4 rfl
  have zf4 := KR3.out.frozen 4
  have zo4 : x3.cell? ⟨gf, 4, none⟩ = some (.int .i64 DD.tick) := MD.out.blk.cell 4 rfl
  have zc5 := KR3.out.cell 5 rfl
  have zf5 := KR3.out.frozen 5
  have zo5 : x3.cell? ⟨gf, 5, none⟩ = some (.slice SS.cookie.a SS.cookie.n SS.cookie.c) := MD.out.blk.cell 5 rfl
  have zc6 := KR3.out.cell 6 rfl
  have zf6 := KR3.out.frozen 6
  have zo6 : x3.cell? ⟨gf, 6, none⟩ = some (.slice SS.proof.a SS.proof.n SS.proof.c) := MD.out.blk.cell 6 rfl
  have zc7 := KR3.out.cell 7 rfl
  have zf7 := KR3.out.frozen 7
  have zo7 : x3.cell? ⟨gf, 7, none⟩ = some (.int .i64 DD.epoch) := MD.out.blk.cell 7 rfl
  have zc8 := KR3.out.cell 8 rfl
  have zf8 := KR3.out.frozen 8
  have zo8 : x3.cell? ⟨gf, 8, none⟩ = some (.int .i64 DD.seq) := MD.out.blk.cell 8 rfl
  have zc9 := KR3.out.cell 9 rfl
  have zf9 := KR3.out.frozen 9
  have zo9 : x3.cell? ⟨gf, 9, none⟩ = some (.slice SS.body.a SS.body.n SS.body.c) := MD.out.blk.cell 9 rfl
  have zc10 := KR3.out.cell 10 rfl
  have zf10 := KR3.out.frozen 10
  have zo10 : x3.cell? ⟨gf, 10, none⟩ = some (.slice SS.tag.a SS.tag.n SS.tag.c) := MD.out.blk.cell 10 rfl
  have ne1 : gr ≠ gf := by have := HG.out; omega
  have ne2 : gf ≠ gr := by have := HG.out; omega
  go_wp2
  have KF : Blk ((((((((((((x3).setCell ⟨gr, 0, none⟩ (.int .i64 DD.kind)).setCell ⟨gr, 1, none⟩ (.int .i64 DD.id)).setCell ⟨gr, 2, none⟩ (.slice SS.cn.a SS.cn.n SS.cn.c)).setCell ⟨gr, 3, none⟩ (.slice SS.sn.a SS.sn.n SS.sn.c)).setCell ⟨gr, 4, none⟩ (.int .i64 DD.tick)).setCell ⟨gr, 5, none⟩ (.slice SS.cookie.a SS.cookie.n SS.cookie.c)).setCell ⟨gr, 6, none⟩ (.slice SS.proof.a SS.proof.n SS.proof.c)).setCell ⟨gr, 7, none⟩ (.int .i64 DD.epoch)).setCell ⟨gr, 8, none⟩ (.int .i64 DD.seq)).setCell ⟨gr, 9, none⟩ (.slice SS.body.a SS.body.n SS.body.c)).setCell ⟨gr, 10, none⟩ (.slice SS.tag.a SS.tag.n SS.tag.c)) gr 25 [.int .i64 DD.kind, .int .i64 DD.id, .slice SS.cn.a SS.cn.n SS.cn.c, .slice SS.sn.a SS.sn.n SS.sn.c, .int .i64 DD.tick, .slice SS.cookie.a SS.cookie.n SS.cookie.c, .slice SS.proof.a SS.proof.n SS.proof.c, .int .i64 DD.epoch, .int .i64 DD.seq, .slice SS.body.a SS.body.n SS.body.c, .slice SS.tag.a SS.tag.n SS.tag.c] := (((((((((((KR3.out).set 0 _ (by simp [maxLen])).set 1 _ (by simp [maxLen])).set 2 _ (by simp [maxLen])).set 3 _ (by simp [maxLen])).set 4 _ (by simp [maxLen])).set 5 _ (by simp [maxLen])).set 6 _ (by simp [maxLen])).set 7 _ (by simp [maxLen])).set 8 _ (by simp [maxLen])).set 9 _ (by simp [maxLen])).set 10 _ (by simp [maxLen])
  have KK : Kept gr (gr + 1) x3 ((((((((((((x3).setCell ⟨gr, 0, none⟩ (.int .i64 DD.kind)).setCell ⟨gr, 1, none⟩ (.int .i64 DD.id)).setCell ⟨gr, 2, none⟩ (.slice SS.cn.a SS.cn.n SS.cn.c)).setCell ⟨gr, 3, none⟩ (.slice SS.sn.a SS.sn.n SS.sn.c)).setCell ⟨gr, 4, none⟩ (.int .i64 DD.tick)).setCell ⟨gr, 5, none⟩ (.slice SS.cookie.a SS.cookie.n SS.cookie.c)).setCell ⟨gr, 6, none⟩ (.slice SS.proof.a SS.proof.n SS.proof.c)).setCell ⟨gr, 7, none⟩ (.int .i64 DD.epoch)).setCell ⟨gr, 8, none⟩ (.int .i64 DD.seq)).setCell ⟨gr, 9, none⟩ (.slice SS.body.a SS.body.n SS.body.c)).setCell ⟨gr, 10, none⟩ (.slice SS.tag.a SS.tag.n SS.tag.c)) := ((((((((((((Kept.refl gr (gr + 1) x3)).trans (Kept.setCell _ gr 0 _)).trans (Kept.setCell _ gr 1 _)).trans (Kept.setCell _ gr 2 _)).trans (Kept.setCell _ gr 3 _)).trans (Kept.setCell _ gr 4 _)).trans (Kept.setCell _ gr 5 _)).trans (Kept.setCell _ gr 6 _)).trans (Kept.setCell _ gr 7 _)).trans (Kept.setCell _ gr 8 _)).trans (Kept.setCell _ gr 9 _)).trans (Kept.setCell _ gr 10 _)
  exact ret_drew rfl rfl KF rfl (D := DD) (S := SS) OK.out ((MD.out.own.carry KK (.inr (by have := HG.out; omega))).mono (by have := HG.out; omega) KK.size) (Ready_setCell (Ready_setCell (Ready_setCell (Ready_setCell (Ready_setCell (Ready_setCell (Ready_setCell (Ready_setCell (Ready_setCell (Ready_setCell (Ready_setCell (R3.out) _ _ (by show gr ≠ p; have := HG.out; omega) (by show W0.heap.size ≤ gr; have := HG.out; omega)) _ _ (by show gr ≠ p; have := HG.out; omega) (by show W0.heap.size ≤ gr; have := HG.out; omega)) _ _ (by show gr ≠ p; have := HG.out; omega) (by show W0.heap.size ≤ gr; have := HG.out; omega)) _ _ (by show gr ≠ p; have := HG.out; omega) (by show W0.heap.size ≤ gr; have := HG.out; omega)) _ _ (by show gr ≠ p; have := HG.out; omega) (by show W0.heap.size ≤ gr; have := HG.out; omega)) _ _ (by show gr ≠ p; have := HG.out; omega) (by show W0.heap.size ≤ gr; have := HG.out; omega)) _ _ (by show gr ≠ p; have := HG.out; omega) (by show W0.heap.size ≤ gr; have := HG.out; omega)) _ _ (by show gr ≠ p; have := HG.out; omega) (by show W0.heap.size ≤ gr; have := HG.out; omega)) _ _ (by show gr ≠ p; have := HG.out; omega) (by show W0.heap.size ≤ gr; have := HG.out; omega)) _ _ (by show gr ≠ p; have := HG.out; omega) (by show W0.heap.size ≤ gr; have := HG.out; omega)) _ _ (by show gr ≠ p; have := HG.out; omega) (by show W0.heap.size ≤ gr; have := HG.out; omega)) (But_setCell (But_setCell (But_setCell (But_setCell (But_setCell (But_setCell (But_setCell (But_setCell (But_setCell (But_setCell (But_setCell (B3.out) _ _ (by show w.heap.size ≤ gr; have := HG.out; omega)) _ _ (by show w.heap.size ≤ gr; have := HG.out; omega)) _ _ (by show w.heap.size ≤ gr; have := HG.out; omega)) _ _ (by show w.heap.size ≤ gr; have := HG.out; omega)) _ _ (by show w.heap.size ≤ gr; have := HG.out; omega)) _ _ (by show w.heap.size ≤ gr; have := HG.out; omega)) _ _ (by show w.heap.size ≤ gr; have := HG.out; omega)) _ _ (by show w.heap.size ≤ gr; have := HG.out; omega)) _ _ (by show w.heap.size ≤ gr; have := HG.out; omega)) _ _ (by show w.heap.size ≤ gr; have := HG.out; omega)) _ _ (by show w.heap.size ≤ gr; have := HG.out; omega))
 ·
  obtain ⟨x1, hx1⟩ : ∃ x1, y0.alloc (.cells #[.int .i64 2, .int .i64 0, .slice none 0 0, .slice none 0 0, .int .i64 0, .slice none 0 0, .slice none 0 0, .int .i64 0, .int .i64 0, .slice none 0 0, .slice none 0 0] 25) = x1 := ⟨_, rfl⟩
  have HW1 := hid (hx1)
  have KB : Blk x1 y0.heap.size 25 [.int .i64 2, .int .i64 0, .slice none 0 0, .slice none 0 0, .int .i64 0, .slice none 0 0, .slice none 0 0, .int .i64 0, .int .i64 0, .slice none 0 0, .slice none 0 0] := by rw [← hx1]; exact Blk.new y0 _ [.int .i64 2, .int .i64 0, .slice none 0 0, .slice none 0 0, .int .i64 0, .slice none 0 0, .slice none 0 0, .int .i64 0, .int .i64 0, .slice none 0 0, .slice none 0 0]
  have M1 : Hid (FrMk x1 y0.heap.size (y0.heap.size + 1) ⟨2, 0, [], [], 0, [], [], 0, 0, [], []⟩ ⟨⟨none, 0, 0⟩, ⟨none, 0, 0⟩, ⟨none, 0, 0⟩, ⟨none, 0, 0⟩, ⟨none, 0, 0⟩, ⟨none, 0, 0⟩⟩) := ⟨KB, own_none _ _ _ _, Nat.lt_succ_self _⟩
  have R1 : Hid (Ready W0 a len cap l p x1) := by rw [← hx1]; exact RY.out.alloc _
  have B1 : Hid (But p w x1) := by rw [← hx1]; exact BY.out.alloc _
  have KR1 : Hid (Blk x1 gr 25 [.int .i64 0, .int .i64 0, .slice none 0 0, .slice none 0 0, .int .i64 0, .slice none 0 0, .slice none 0 0, .int .i64 0, .int .i64 0, .slice none 0 0, .slice none 0 0]) := by rw [← hx1]; exact KRY.out.alloc _
  have LG : Hid (gr < y0.heap.size) := KRY.out.lt
  clear hx1 KB
  go_upto_region 2 with fail
  rw [HW1.out]
  obtain ⟨gf, hgf⟩ : ∃ gf, y0.heap.size = gf := ⟨_, rfl⟩
  rw [hgf] at M1 LG ⊢
  clear HW1 hgf RY BY KRY
  have HG : Hid (w.heap.size = gr ∧ p < gr ∧ W0.heap.size ≤ gr ∧ gr < gf) := ⟨HG0.out.1, HG0.out.2.1, HG0.out.2.2, LG.out⟩
  clear LG HG0
  have kc : x1.cell? ⟨gf, 0, none⟩ = some (.int .i64 2) := M1.out.blk.cell 0 rfl
  go_upto_region 18 with fail
  clear kc
  go_wp2_with fail
  refine (bytesOf R1.out 12 (by omega)).mono ?_
  rintro e y2 ⟨q2, c2, l2, rfl, el2, hb2, kq2, w2, r2, b2⟩
  have EL2 : Hid (12 = l2.length) := el2
  have RY2 := hid (r2)
  have KP2 : Hid (Kept p (p + 1) x1 y2) := Kept.of_grown b2
  have BU2 := hid (B1.out.trans b2)
  have KR2 := hid (KR1.out.keep (KP2.out.block gr KR1.out.lt (by have := HG.out; omega)))
  have BL2 : Blk y2 gf 25 _ := M1.out.blk.keep (KP2.out.block gf M1.out.blk.lt (by have := HG.out; omega))
  have OW2 : FrOwn y2 (gf + 1) x1.heap.size _ _ := M1.out.own.carry KP2.out (.inr (by have := HG.out; omega))
  have co : y2.cell? ⟨gf, 2, none⟩ = some (.slice none 0 0) := BL2.cell 2 rfl
  have fo := BL2.frozen 2
  have MN2 : Hid (FrMk (y2.setCell ⟨gf, 2, none⟩ (.slice (some ⟨q2, 0, none⟩) 12 c2)) gf (gf + 1) { (⟨2, 0, [], [], 0, [], [], 0, 0, [], []⟩ : FrD) with cn := l2 } { (⟨⟨none, 0, 0⟩, ⟨none, 0, 0⟩, ⟨none, 0, 0⟩, ⟨none, 0, 0⟩, ⟨none, 0, 0⟩, ⟨none, 0, 0⟩⟩ : FrS) with cn := ⟨some ⟨q2, 0, none⟩, 12, c2⟩ }) := FrMk.cn2 BL2 OW2 (Nat.lt_succ_self _) M1.out.blk.lt w2 el2 hb2 kq2
  clear r2 b2 el2 hb2 kq2 w2 BL2 OW2
  obtain ⟨x2, hx2⟩ : ∃ x2, y2.setCell ⟨gf, 2, none⟩ (.slice (some ⟨q2, 0, none⟩) 12 c2) = x2 := ⟨_, rfl⟩
  have HW2 := hid (hx2)
  have M2 : Hid (FrMk x2 gf (gf + 1) { (⟨2, 0, [], [], 0, [], [], 0, 0, [], []⟩ : FrD) with cn := l2 } { (⟨⟨none, 0, 0⟩, ⟨none, 0, 0⟩, ⟨none, 0, 0⟩, ⟨none, 0, 0⟩, ⟨none, 0, 0⟩, ⟨none, 0, 0⟩⟩ : FrS) with cn := ⟨some ⟨q2, 0, none⟩, 12, c2⟩ }) := by rw [← hx2]; exact MN2.out
  have KR2 : Hid (Blk x2 gr 25 [.int .i64 0, .int .i64 0, .slice none 0 0, .slice none 0 0, .int .i64 0, .slice none 0 0, .slice none 0 0, .int .i64 0, .int .i64 0, .slice none 0 0, .slice none 0 0]) := by rw [← hx2]; exact KR2.out.other (by show gr ≠ gf; have := HG.out; omega) _
  have B2 : Hid (But p w x2) := by rw [← hx2]; exact But_setCell BU2.out _ _ (by show w.heap.size ≤ gf; have := HG.out; omega)
  have R2 : Hid (Ready W0 a len cap l p x2) := by rw [← hx2]; exact Ready_setCell RY2.out _ _ (by show gf ≠ p; have := HG.out; omega) (by show W0.heap.size ≤ gf; have := HG.out; omega)
  clear hx2 KP2 BU2 RY2
  go_upto_region 19 with fail
  rw [HW2.out]
  clear co fo HW2 M1 KR1 B1 R1
  clear MN2
  go_wp2_with fail
  refine (bytesOf R2.out 12 (by omega)).mono ?_
  rintro e y3 ⟨q3, c3, l3, rfl, el3, hb3, kq3, w3, r3, b3⟩
  have EL3 : Hid (12 = l3.length) := el3
  have RY3 := hid (r3)
  have KP3 : Hid (Kept p (p + 1) x2 y3) := Kept.of_grown b3
  have BU3 := hid (B2.out.trans b3)
  have KR3 := hid (KR2.out.keep (KP3.out.block gr KR2.out.lt (by have := HG.out; omega)))
  have BL3 : Blk y3 gf 25 _ := M2.out.blk.keep (KP3.out.block gf M2.out.blk.lt (by have := HG.out; omega))
  have OW3 : FrOwn y3 (gf + 1) x2.heap.size _ _ := M2.out.own.carry KP3.out (.inr (by have := HG.out; omega))
  have co : y3.cell? ⟨gf, 3, none⟩ = some (.slice none 0 0) := BL3.cell 3 rfl
  have fo := BL3.frozen 3
  have MN3 : Hid (FrMk (y3.setCell ⟨gf, 3, none⟩ (.slice (some ⟨q3, 0, none⟩) 12 c3)) gf (gf + 1) { ({ (⟨2, 0, [], [], 0, [], [], 0, 0, [], []⟩ : FrD) with cn := l2 } : FrD) with sn := l3 } { ({ (⟨⟨none, 0, 0⟩, ⟨none, 0, 0⟩, ⟨none, 0, 0⟩, ⟨none, 0, 0⟩, ⟨none, 0, 0⟩, ⟨none, 0, 0⟩⟩ : FrS) with cn := ⟨some ⟨q2, 0, none⟩, 12, c2⟩ } : FrS) with sn := ⟨some ⟨q3, 0, none⟩, 12, c3⟩ }) := FrMk.sn2 BL3 OW3 (Nat.lt_succ_self _) M2.out.blk.lt w3 el3 hb3 kq3
  clear r3 b3 el3 hb3 kq3 w3 BL3 OW3
  obtain ⟨x3, hx3⟩ : ∃ x3, y3.setCell ⟨gf, 3, none⟩ (.slice (some ⟨q3, 0, none⟩) 12 c3) = x3 := ⟨_, rfl⟩
  have HW3 := hid (hx3)
  have M3 : Hid (FrMk x3 gf (gf + 1) { ({ (⟨2, 0, [], [], 0, [], [], 0, 0, [], []⟩ : FrD) with cn := l2 } : FrD) with sn := l3 } { ({ (⟨⟨none, 0, 0⟩, ⟨none, 0, 0⟩, ⟨none, 0, 0⟩, ⟨none, 0, 0⟩, ⟨none, 0, 0⟩, ⟨none, 0, 0⟩⟩ : FrS) with cn := ⟨some ⟨q2, 0, none⟩, 12, c2⟩ } : FrS) with sn := ⟨some ⟨q3, 0, none⟩, 12, c3⟩ }) := by rw [← hx3]; exact MN3.out
  have KR3 : Hid (Blk x3 gr 25 [.int .i64 0, .int .i64 0, .slice none 0 0, .slice none 0 0, .int .i64 0, .slice none 0 0, .slice none 0 0, .int .i64 0, .int .i64 0, .slice none 0 0, .slice none 0 0]) := by rw [← hx3]; exact KR3.out.other (by show gr ≠ gf; have := HG.out; omega) _
  have B3 : Hid (But p w x3) := by rw [← hx3]; exact But_setCell BU3.out _ _ (by show w.heap.size ≤ gf; have := HG.out; omega)
  have R3 : Hid (Ready W0 a len cap l p x3) := by rw [← hx3]; exact Ready_setCell RY3.out _ _ (by show gf ≠ p; have := HG.out; omega) (by show W0.heap.size ≤ gf; have := HG.out; omega)
  clear hx3 KP3 BU3 RY3
  go_upto_region 20 with fail
  rw [HW3.out]
  clear co fo HW3 M2 KR2 B2 R2
  clear MN3
  obtain ⟨xi4, hxi4⟩ : ∃ xi4, x3.alloc (.cells #[.int .i64 0, .int .i64 1, .int .i64 300, .int .i64 1000000] 3) = xi4 := ⟨_, rfl⟩
  have HI4 := hid (hxi4)
  have RI4 : Hid (Ready W0 a len cap l p xi4) := by rw [← hxi4]; exact R3.out.alloc _
  have BI4 : Hid (But p x3 xi4) := by rw [← hxi4]; exact (But.refl p x3).alloc _
  have LI4 : Hid (IntsAt xi4 x3.heap.size [0, 1, 300, 1000000]) := by rw [← hxi4]; exact ints_new x3 [0, 1, 300, 1000000]
  have NI4 : Hid (x3.heap.size ≠ p) := by have := R3.out.hc.lt; show _ ≠ _; omega
  clear hxi4
  go_wp2_with fail
  rw [HI4.out]
  clear HI4
  refine (intOfList RI4.out x3.heap.size 4 [0, 1, 300, 1000000] rfl LI4.out NI4.out (by omega) (by omega)).mono ?_
  rintro e y4 ⟨v4, rfl, vm4, r4, b4⟩
  have VM4 : Hid (v4 ∈ ([0, 1, 300, 1000000] : List Int)) := vm4
  have RY4 := hid (r4)
  have by4 : But p x3 y4 := BI4.out.trans b4
  have KP4 : Hid (Kept p (p + 1) x3 y4) := Kept.of_grown by4
  have BU4 := hid (B3.out.trans by4)
  have KR4 := hid (KR3.out.keep (KP4.out.block gr KR3.out.lt (by have := HG.out; omega)))
  have MY4 : Hid (FrMk y4 gf (gf + 1) { ({ (⟨2, 0, [], [], 0, [], [], 0, 0, [], []⟩ : FrD) with cn := l2 } : FrD) with sn := l3 } { ({ (⟨⟨none, 0, 0⟩, ⟨none, 0, 0⟩, ⟨none, 0, 0⟩, ⟨none, 0, 0⟩, ⟨none, 0, 0⟩, ⟨none, 0, 0⟩⟩ : FrS) with cn := ⟨some ⟨q2, 0, none⟩, 12, c2⟩ } : FrS) with sn := ⟨some ⟨q3, 0, none⟩, 12, c3⟩ }) := FrMk.kept M3.out KP4.out (by have := HG.out; omega) (by have := HG.out; omega)
  clear r4 b4 by4 RI4 BI4 LI4 NI4 vm4
  have co : y4.cell? ⟨gf, 4, none⟩ = some (.int .i64 0) := MY4.out.blk.cell 4 rfl
  have fo := MY4.out.blk.frozen 4
  obtain ⟨x4, hx4⟩ : ∃ x4, y4.setCell ⟨gf, 4, none⟩ (.int .i64 v4) = x4 := ⟨_, rfl⟩
  have HW4 := hid (hx4)
  have M4 : Hid (FrMk x4 gf (gf + 1) { ({ ({ (⟨2, 0, [], [], 0, [], [], 0, 0, [], []⟩ : FrD) with cn := l2 } : FrD) with sn := l3 } : FrD) with tick := v4 } { ({ (⟨⟨none, 0, 0⟩, ⟨none, 0, 0⟩, ⟨none, 0, 0⟩, ⟨none, 0, 0⟩, ⟨none, 0, 0⟩, ⟨none, 0, 0⟩⟩ : FrS) with cn := ⟨some ⟨q2, 0, none⟩, 12, c2⟩ } : FrS) with sn := ⟨some ⟨q3, 0, none⟩, 12, c3⟩ }) := by rw [← hx4]; exact MY4.out.tick _
  have KR4 : Hid (Blk x4 gr 25 [.int .i64 0, .int .i64 0, .slice none 0 0, .slice none 0 0, .int .i64 0, .slice none 0 0, .slice none 0 0, .int .i64 0, .int .i64 0, .slice none 0 0, .slice none 0 0]) := by rw [← hx4]; exact KR4.out.other (by show gr ≠ gf; have := HG.out; omega) _
  have B4 : Hid (But p w x4) := by rw [← hx4]; exact But_setCell BU4.out _ _ (by show w.heap.size ≤ gf; have := HG.out; omega)
  have R4 : Hid (Ready W0 a len cap l p x4) := by rw [← hx4]; exact Ready_setCell RY4.out _ _ (by show gf ≠ p; have := HG.out; omega) (by show W0.heap.size ≤ gf; have := HG.out; omega)
  clear hx4 KP4 BU4 RY4
  go_upto_region 21 with fail
  rw [HW4.out]
  clear co fo HW4 M3 KR3 B3 R3
  clear MY4
  go_wp2_with fail
  refine (bytesOf R4.out 16 (by omega)).mono ?_
  rintro e y5 ⟨q5, c5, l5, rfl, el5, hb5, kq5, w5, r5, b5⟩
  have EL5 : Hid (16 = l5.length) := el5
  have RY5 := hid (r5)
  have KP5 : Hid (Kept p (p + 1) x4 y5) := Kept.of_grown b5
  have BU5 := hid (B4.out.trans b5)
  have KR5 := hid (KR4.out.keep (KP5.out.block gr KR4.out.lt (by have := HG.out; omega)))
  have BL5 : Blk y5 gf 25 _ := M4.out.blk.keep (KP5.out.block gf M4.out.blk.lt (by have := HG.out; omega))
  have OW5 : FrOwn y5 (gf + 1) x4.heap.size _ _ := M4.out.own.carry KP5.out (.inr (by have := HG.out; omega))
  have co : y5.cell? ⟨gf, 5, none⟩ = some (.slice none 0 0) := BL5.cell 5 rfl
  have fo := BL5.frozen 5
  have MN5 : Hid (FrMk (y5.setCell ⟨gf, 5, none⟩ (.slice (some ⟨q5, 0, none⟩) 16 c5)) gf (gf + 1) { ({ ({ ({ (⟨2, 0, [], [], 0, [], [], 0, 0, [], []⟩ : FrD) with cn := l2 } : FrD) with sn := l3 } : FrD) with tick := v4 } : FrD) with cookie := l5 } { ({ ({ (⟨⟨none, 0, 0⟩, ⟨none, 0, 0⟩, ⟨none, 0, 0⟩, ⟨none, 0, 0⟩, ⟨none, 0, 0⟩, ⟨none, 0, 0⟩⟩ : FrS) with cn := ⟨some ⟨q2, 0, none⟩, 12, c2⟩ } : FrS) with sn := ⟨some ⟨q3, 0, none⟩, 12, c3⟩ } : FrS) with cookie := ⟨some ⟨q5, 0, none⟩, 16, c5⟩ }) := FrMk.cookie2 BL5 OW5 (Nat.lt_succ_self _) M4.out.blk.lt w5 el5 hb5 kq5
  clear r5 b5 el5 hb5 kq5 w5 BL5 OW5
  obtain ⟨x5, hx5⟩ : ∃ x5, y5.setCell ⟨gf, 5, none⟩ (.slice (some ⟨q5, 0, none⟩) 16 c5) = x5 := ⟨_, rfl⟩
  have HW5 := hid (hx5)
  have M5 : Hid (FrMk x5 gf (gf + 1) { ({ ({ ({ (⟨2, 0, [], [], 0, [], [], 0, 0, [], []⟩ : FrD) with cn := l2 } : FrD) with sn := l3 } : FrD) with tick := v4 } : FrD) with cookie := l5 } { ({ ({ (⟨⟨none, 0, 0⟩, ⟨none, 0, 0⟩, ⟨none, 0, 0⟩, ⟨none, 0, 0⟩, ⟨none, 0, 0⟩, ⟨none, 0, 0⟩⟩ : FrS) with cn := ⟨some ⟨q2, 0, none⟩, 12, c2⟩ } : FrS) with sn := ⟨some ⟨q3, 0, none⟩, 12, c3⟩ } : FrS) with cookie := ⟨some ⟨q5, 0, none⟩, 16, c5⟩ }) := by rw [← hx5]; exact MN5.out
  have KR5 : Hid (Blk x5 gr 25 [.int .i64 0, .int .i64 0, .slice none 0 0, .slice none 0 0, .int .i64 0, .slice none 0 0, .slice none 0 0, .int .i64 0, .int .i64 0, .slice none 0 0, .slice none 0 0]) := by rw [← hx5]; exact KR5.out.other (by show gr ≠ gf; have := HG.out; omega) _
  have B5 : Hid (But p w x5) := by rw [← hx5]; exact But_setCell BU5.out _ _ (by show w.heap.size ≤ gf; have := HG.out; omega)
  have R5 : Hid (Ready W0 a len cap l p x5) := by rw [← hx5]; exact Ready_setCell RY5.out _ _ (by show gf ≠ p; have := HG.out; omega) (by show W0.heap.size ≤ gf; have := HG.out; omega)
  clear hx5 KP5 BU5 RY5
  go_upto_region 22 with fail
  rw [HW5.out]
  clear co fo HW5 M4 KR4 B4 R4
  clear MN5
  have kc : x5.cell? ⟨gf, 0, none⟩ = some (.int .i64 2) := M5.out.blk.cell 0 rfl
  go_upto_region 25 with fail
  clear kc
  have OK : Hid (frameOk { ({ ({ ({ (⟨2, 0, [], [], 0, [], [], 0, 0, [], []⟩ : FrD) with cn := l2 } : FrD) with sn := l3 } : FrD) with tick := v4 } : FrD) with cookie := l5 } = true) := by show frameOk _ = true; have hm := VM4.out; simp only [List.mem_cons, List.mem_nil_iff, or_false] at hm; rw [ok_iff]; refine .inr ⟨rfl, rfl, rfl, rfl, EL2.out.symm, .inr (.inl ⟨rfl, rfl, EL3.out.symm, ?_, ?_, EL5.out.symm, rfl⟩)⟩ <;> (simp only; omega)
  obtain ⟨SS, hSS⟩ : ∃ SS : FrS, { ({ ({ (⟨⟨none, 0, 0⟩, ⟨none, 0, 0⟩, ⟨none, 0, 0⟩, ⟨none, 0, 0⟩, ⟨none, 0, 0⟩, ⟨none, 0, 0⟩⟩ : FrS) with cn := ⟨some ⟨q2, 0, none⟩, 12, c2⟩ } : FrS) with sn := ⟨some ⟨q3, 0, none⟩, 12, c3⟩ } : FrS) with cookie := ⟨some ⟨q5, 0, none⟩, 16, c5⟩ } = SS := ⟨_, rfl⟩
  obtain ⟨DD, hDD⟩ : ∃ DD : FrD, { ({ ({ ({ (⟨2, 0, [], [], 0, [], [], 0, 0, [], []⟩ : FrD) with cn := l2 } : FrD) with sn := l3 } : FrD) with tick := v4 } : FrD) with cookie := l5 } = DD := ⟨_, rfl⟩
  have MD : Hid (FrMk x5 gf (gf + 1) DD SS) := by rw [← hSS, ← hDD]; exact M5.out
  rw [hDD] at OK
  clear hSS hDD M5
  have zc0 := KR5.out.cell 0 rfl
  have zf0 := KR5.out.frozen 0
  have zo0 : x5.cell? ⟨gf, 0, none⟩ = some (.int .i64 DD.kind) := MD.out.blk.cell 0 rfl
  have zc1 := KR5.out.cell 1 rfl
  have zf1 := KR5.out.frozen 1
  have zo1 : x5.cell? ⟨gf, 1, none⟩ = some (.int .i64 DD.id) := MD.out.blk.cell 1 rfl
  have zc2 := KR5.out.cell 2 rfl
  have zf2 := KR5.out.frozen 2
  have zo2 : x5.cell? ⟨gf, 2, none⟩ = some (.slice SS.cn.a SS.cn.n SS.cn.c) := MD.out.blk.cell 2 rfl
  have zc3 := KR5.out.cell 3 rfl
  have zf3 := KR5.out.frozen 3
  have zo3 : x5.cell? ⟨gf, 3, none⟩ = some (.slice SS.sn.a SS.sn.n SS.sn.c) := MD.out.blk.cell 3 rfl
  have zc4 := KR5.out.cell 4 rfl
  have zf4 := KR5.out.frozen 4
  have zo4 : x5.cell? ⟨gf, 4, none⟩ = some (.int .i64 DD.tick) := MD.out.blk.cell 4 rfl
  have zc5 := KR5.out.cell 5 rfl
  have zf5 := KR5.out.frozen 5
  have zo5 : x5.cell? ⟨gf, 5, none⟩ = some (.slice SS.cookie.a SS.cookie.n SS.cookie.c) := MD.out.blk.cell 5 rfl
  have zc6 := KR5.out.cell 6 rfl
  have zf6 := KR5.out.frozen 6
  have zo6 : x5.cell? ⟨gf, 6, none⟩ = some (.slice SS.proof.a SS.proof.n SS.proof.c) := MD.out.blk.cell 6 rfl
  have zc7 := KR5.out.cell 7 rfl
  have zf7 := KR5.out.frozen 7
  have zo7 : x5.cell? ⟨gf, 7, none⟩ = some (.int .i64 DD.epoch) := MD.out.blk.cell 7 rfl
  have zc8 := KR5.out.cell 8 rfl
  have zf8 := KR5.out.frozen 8
  have zo8 : x5.cell? ⟨gf, 8, none⟩ = some (.int .i64 DD.seq) := MD.out.blk.cell 8 rfl
  have zc9 := KR5.out.cell 9 rfl
  have zf9 := KR5.out.frozen 9
  have zo9 : x5.cell? ⟨gf, 9, none⟩ = some (.slice SS.body.a SS.body.n SS.body.c) := MD.out.blk.cell 9 rfl
  have zc10 := KR5.out.cell 10 rfl
  have zf10 := KR5.out.frozen 10
  have zo10 : x5.cell? ⟨gf, 10, none⟩ = some (.slice SS.tag.a SS.tag.n SS.tag.c) := MD.out.blk.cell 10 rfl
  have ne1 : gr ≠ gf := by have := HG.out; omega
  have ne2 : gf ≠ gr := by have := HG.out; omega
  go_wp2
  have KF : Blk ((((((((((((x5).setCell ⟨gr, 0, none⟩ (.int .i64 DD.kind)).setCell ⟨gr, 1, none⟩ (.int .i64 DD.id)).setCell ⟨gr, 2, none⟩ (.slice SS.cn.a SS.cn.n SS.cn.c)).setCell ⟨gr, 3, none⟩ (.slice SS.sn.a SS.sn.n SS.sn.c)).setCell ⟨gr, 4, none⟩ (.int .i64 DD.tick)).setCell ⟨gr, 5, none⟩ (.slice SS.cookie.a SS.cookie.n SS.cookie.c)).setCell ⟨gr, 6, none⟩ (.slice SS.proof.a SS.proof.n SS.proof.c)).setCell ⟨gr, 7, none⟩ (.int .i64 DD.epoch)).setCell ⟨gr, 8, none⟩ (.int .i64 DD.seq)).setCell ⟨gr, 9, none⟩ (.slice SS.body.a SS.body.n SS.body.c)).setCell ⟨gr, 10, none⟩ (.slice SS.tag.a SS.tag.n SS.tag.c)) gr 25 [.int .i64 DD.kind, .int .i64 DD.id, .slice SS.cn.a SS.cn.n SS.cn.c, .slice SS.sn.a SS.sn.n SS.sn.c, .int .i64 DD.tick, .slice SS.cookie.a SS.cookie.n SS.cookie.c, .slice SS.proof.a SS.proof.n SS.proof.c, .int .i64 DD.epoch, .int .i64 DD.seq, .slice SS.body.a SS.body.n SS.body.c, .slice SS.tag.a SS.tag.n SS.tag.c] := (((((((((((KR5.out).set 0 _ (by simp [maxLen])).set 1 _ (by simp [maxLen])).set 2 _ (by simp [maxLen])).set 3 _ (by simp [maxLen])).set 4 _ (by simp [maxLen])).set 5 _ (by simp [maxLen])).set 6 _ (by simp [maxLen])).set 7 _ (by simp [maxLen])).set 8 _ (by simp [maxLen])).set 9 _ (by simp [maxLen])).set 10 _ (by simp [maxLen])
  have KK : Kept gr (gr + 1) x5 ((((((((((((x5).setCell ⟨gr, 0, none⟩ (.int .i64 DD.kind)).setCell ⟨gr, 1, none⟩ (.int .i64 DD.id)).setCell ⟨gr, 2, none⟩ (.slice SS.cn.a SS.cn.n SS.cn.c)).setCell ⟨gr, 3, none⟩ (.slice SS.sn.a SS.sn.n SS.sn.c)).setCell ⟨gr, 4, none⟩ (.int .i64 DD.tick)).setCell ⟨gr, 5, none⟩ (.slice SS.cookie.a SS.cookie.n SS.cookie.c)).setCell ⟨gr, 6, none⟩ (.slice SS.proof.a SS.proof.n SS.proof.c)).setCell ⟨gr, 7, none⟩ (.int .i64 DD.epoch)).setCell ⟨gr, 8, none⟩ (.int .i64 DD.seq)).setCell ⟨gr, 9, none⟩ (.slice SS.body.a SS.body.n SS.body.c)).setCell ⟨gr, 10, none⟩ (.slice SS.tag.a SS.tag.n SS.tag.c)) := ((((((((((((Kept.refl gr (gr + 1) x5)).trans (Kept.setCell _ gr 0 _)).trans (Kept.setCell _ gr 1 _)).trans (Kept.setCell _ gr 2 _)).trans (Kept.setCell _ gr 3 _)).trans (Kept.setCell _ gr 4 _)).trans (Kept.setCell _ gr 5 _)).trans (Kept.setCell _ gr 6 _)).trans (Kept.setCell _ gr 7 _)).trans (Kept.setCell _ gr 8 _)).trans (Kept.setCell _ gr 9 _)).trans (Kept.setCell _ gr 10 _)
  exact ret_drew rfl rfl KF rfl (D := DD) (S := SS) OK.out ((MD.out.own.carry KK (.inr (by have := HG.out; omega))).mono (by have := HG.out; omega) KK.size) (Ready_setCell (Ready_setCell (Ready_setCell (Ready_setCell (Ready_setCell (Ready_setCell (Ready_setCell (Ready_setCell (Ready_setCell (Ready_setCell (Ready_setCell (R5.out) _ _ (by show gr ≠ p; have := HG.out; omega) (by show W0.heap.size ≤ gr; have := HG.out; omega)) _ _ (by show gr ≠ p; have := HG.out; omega) (by show W0.heap.size ≤ gr; have := HG.out; omega)) _ _ (by show gr ≠ p; have := HG.out; omega) (by show W0.heap.size ≤ gr; have := HG.out; omega)) _ _ (by show gr ≠ p; have := HG.out; omega) (by show W0.heap.size ≤ gr; have := HG.out; omega)) _ _ (by show gr ≠ p; have := HG.out; omega) (by show W0.heap.size ≤ gr; have := HG.out; omega)) _ _ (by show gr ≠ p; have := HG.out; omega) (by show W0.heap.size ≤ gr; have := HG.out; omega)) _ _ (by show gr ≠ p; have := HG.out; omega) (by show W0.heap.size ≤ gr; have := HG.out; omega)) _ _ (by show gr ≠ p; have := HG.out; omega) (by show W0.heap.size ≤ gr; have := HG.out; omega)) _ _ (by show gr ≠ p; have := HG.out; omega) (by show W0.heap.size ≤ gr; have := HG.out; omega)) _ _ (by show gr ≠ p; have := HG.out; omega) (by show W0.heap.size ≤ gr; have := HG.out; omega)) _ _ (by show gr ≠ p; have := HG.out; omega) (by show W0.heap.size ≤ gr; have := HG.out; omega)) (But_setCell (But_setCell (But_setCell (But_setCell (But_setCell (But_setCell (But_setCell (But_setCell (But_setCell (But_setCell (But_setCell (B5.out) _ _ (by show w.heap.size ≤ gr; have := HG.out; omega)) _ _ (by show w.heap.size ≤ gr; have := HG.out; omega)) _ _ (by show w.heap.size ≤ gr; have := HG.out; omega)) _ _ (by show w.heap.size ≤ gr; have := HG.out; omega)) _ _ (by show w.heap.size ≤ gr; have := HG.out; omega)) _ _ (by show w.heap.size ≤ gr; have := HG.out; omega)) _ _ (by show w.heap.size ≤ gr; have := HG.out; omega)) _ _ (by show w.heap.size ≤ gr; have := HG.out; omega)) _ _ (by show w.heap.size ≤ gr; have := HG.out; omega)) _ _ (by show w.heap.size ≤ gr; have := HG.out; omega)) _ _ (by show w.heap.size ≤ gr; have := HG.out; omega))
 ·
  obtain ⟨x1, hx1⟩ : ∃ x1, y0.alloc (.cells #[.int .i64 3, .int .i64 0, .slice none 0 0, .slice none 0 0, .int .i64 0, .slice none 0 0, .slice none 0 0, .int .i64 0, .int .i64 0, .slice none 0 0, .slice none 0 0] 25) = x1 := ⟨_, rfl⟩
  have HW1 := hid (hx1)
  have KB : Blk x1 y0.heap.size 25 [.int .i64 3, .int .i64 0, .slice none 0 0, .slice none 0 0, .int .i64 0, .slice none 0 0, .slice none 0 0, .int .i64 0, .int .i64 0, .slice none 0 0, .slice none 0 0] := by rw [← hx1]; exact Blk.new y0 _ [.int .i64 3, .int .i64 0, .slice none 0 0, .slice none 0 0, .int .i64 0, .slice none 0 0, .slice none 0 0, .int .i64 0, .int .i64 0, .slice none 0 0, .slice none 0 0]
  have M1 : Hid (FrMk x1 y0.heap.size (y0.heap.size + 1) ⟨3, 0, [], [], 0, [], [], 0, 0, [], []⟩ ⟨⟨none, 0, 0⟩, ⟨none, 0, 0⟩, ⟨none, 0, 0⟩, ⟨none, 0, 0⟩, ⟨none, 0, 0⟩, ⟨none, 0, 0⟩⟩) := ⟨KB, own_none _ _ _ _, Nat.lt_succ_self _⟩
  have R1 : Hid (Ready W0 a len cap l p x1) := by rw [← hx1]; exact RY.out.alloc _
  have B1 : Hid (But p w x1) := by rw [← hx1]; exact BY.out.alloc _
  have KR1 : Hid (Blk x1 gr 25 [.int .i64 0, .int .i64 0, .slice none 0 0, .slice none 0 0, .int .i64 0, .slice none 0 0, .slice none 0 0, .int .i64 0, .int .i64 0, .slice none 0 0, .slice none 0 0]) := by rw [← hx1]; exact KRY.out.alloc _
  have LG : Hid (gr < y0.heap.size) := KRY.out.lt
  clear hx1 KB
  go_upto_region 2 with fail
  rw [HW1.out]
  obtain ⟨gf, hgf⟩ : ∃ gf, y0.heap.size = gf := ⟨_, rfl⟩
  rw [hgf] at M1 LG ⊢
  clear HW1 hgf RY BY KRY
  have HG : Hid (w.heap.size = gr ∧ p < gr ∧ W0.heap.size ≤ gr ∧ gr < gf) := ⟨HG0.out.1, HG0.out.2.1, HG0.out.2.2, LG.out⟩
  clear LG HG0
  have kc : x1.cell? ⟨gf, 0, none⟩ = some (.int .i64 3) := M1.out.blk.cell 0 rfl
  go_upto_region 18 with fail
  clear kc
  go_wp2_with fail
  refine (bytesOf R1.out 12 (by omega)).mono ?_
  rintro e y2 ⟨q2, c2, l2, rfl, el2, hb2, kq2, w2, r2, b2⟩
  have EL2 : Hid (12 = l2.length) := el2
  have RY2 := hid (r2)
  have KP2 : Hid (Kept p (p + 1) x1 y2) := Kept.of_grown b2
  have BU2 := hid (B1.out.trans b2)
  have KR2 := hid (KR1.out.keep (KP2.out.block gr KR1.out.lt (by have := HG.out; omega)))
  have BL2 : Blk y2 gf 25 _ := M1.out.blk.keep (KP2.out.block gf M1.out.blk.lt (by have := HG.out; omega))
  have OW2 : FrOwn y2 (gf + 1) x1.heap.size _ _ := M1.out.own.carry KP2.out (.inr (by have := HG.out; omega))
  have co : y2.cell? ⟨gf, 2, none⟩ = some (.slice none 0 0) := BL2.cell 2 rfl
  have fo := BL2.frozen 2
  have MN2 : Hid (FrMk (y2.setCell ⟨gf, 2, none⟩ (.slice (some ⟨q2, 0, none⟩) 12 c2)) gf (gf + 1) { (⟨3, 0, [], [], 0, [], [], 0, 0, [], []⟩ : FrD) with cn := l2 } { (⟨⟨none, 0, 0⟩, ⟨none, 0, 0⟩, ⟨none, 0, 0⟩, ⟨none, 0, 0⟩, ⟨none, 0, 0⟩, ⟨none, 0, 0⟩⟩ : FrS) with cn := ⟨some ⟨q2, 0, none⟩, 12, c2⟩ }) := FrMk.cn2 BL2 OW2 (Nat.lt_succ_self _) M1.out.blk.lt w2 el2 hb2 kq2
  clear r2 b2 el2 hb2 kq2 w2 BL2 OW2
  obtain ⟨x2, hx2⟩ : ∃ x2, y2.setCell ⟨gf, 2, none⟩ (.slice (some ⟨q2, 0, none⟩) 12 c2) = x2 := ⟨_, rfl⟩
  have HW2 := hid (hx2)
  have M2 : Hid (FrMk x2 gf (gf + 1) { (⟨3, 0, [], [], 0, [], [], 0, 0, [], []⟩ : FrD) with cn := l2 } { (⟨⟨none, 0, 0⟩, ⟨none, 0, 0⟩, ⟨none, 0, 0⟩, ⟨none, 0, 0⟩, ⟨none, 0, 0⟩, ⟨none, 0, 0⟩⟩ : FrS) with cn := ⟨some ⟨q2, 0, none⟩, 12, c2⟩ }) := by rw [← hx2]; exact MN2.out
  have KR2 : Hid (Blk x2 gr 25 [.int .i64 0, .int .i64 0, .slice none 0 0, .slice none 0 0, .int .i64 0, .slice none 0 0, .slice none 0 0, .int .i64 0, .int .i64 0, .slice none 0 0, .slice none 0 0]) := by rw [← hx2]; exact KR2.out.other (by show gr ≠ gf; have := HG.out; omega) _
  have B2 : Hid (But p w x2) := by rw [← hx2]; exact But_setCell BU2.out _ _ (by show w.heap.size ≤ gf; have := HG.out; omega)
  have R2 : Hid (Ready W0 a len cap l p x2) := by rw [← hx2]; exact Ready_setCell RY2.out _ _ (by show gf ≠ p; have := HG.out; omega) (by show W0.heap.size ≤ gf; have := HG.out; omega)
  clear hx2 KP2 BU2 RY2
  go_upto_region 19 with fail
  rw [HW2.out]
  clear co fo HW2 M1 KR1 B1 R1
  clear MN2
  go_wp2_with fail
  refine (bytesOf R2.out 12 (by omega)).mono ?_
  rintro e y3 ⟨q3, c3, l3, rfl, el3, hb3, kq3, w3, r3, b3⟩
  have EL3 : Hid (12 = l3.length) := el3
  have RY3 := hid (r3)
  have KP3 : Hid (Kept p (p + 1) x2 y3) := Kept.of_grown b3
  have BU3 := hid (B2.out.trans b3)
  have KR3 := hid (KR2.out.keep (KP3.out.block gr KR2.out.lt (by have := HG.out; omega)))
  have BL3 : Blk y3 gf 25 _ := M2.out.blk.keep (KP3.out.block gf M2.out.blk.lt (by have := HG.out; omega))
  have OW3 : FrOwn y3 (gf + 1) x2.heap.size _ _ := M2.out.own.carry KP3.out (.inr (by have := HG.out; omega))
  have co : y3.cell? ⟨gf, 3, none⟩ = some (.slice none 0 0) := BL3.cell 3 rfl
  have fo := BL3.frozen 3
  have MN3 : Hid (FrMk (y3.setCell ⟨gf, 3, none⟩ (.slice (some ⟨q3, 0, none⟩) 12 c3)) gf (gf + 1) { ({ (⟨3, 0, [], [], 0, [], [], 0, 0, [], []⟩ : FrD) with cn := l2 } : FrD) with sn := l3 } { ({ (⟨⟨none, 0, 0⟩, ⟨none, 0, 0⟩, ⟨none, 0, 0⟩, ⟨none, 0, 0⟩, ⟨none, 0, 0⟩, ⟨none, 0, 0⟩⟩ : FrS) with cn := ⟨some ⟨q2, 0, none⟩, 12, c2⟩ } : FrS) with sn := ⟨some ⟨q3, 0, none⟩, 12, c3⟩ }) := FrMk.sn2 BL3 OW3 (Nat.lt_succ_self _) M2.out.blk.lt w3 el3 hb3 kq3
  clear r3 b3 el3 hb3 kq3 w3 BL3 OW3
  obtain ⟨x3, hx3⟩ : ∃ x3, y3.setCell ⟨gf, 3, none⟩ (.slice (some ⟨q3, 0, none⟩) 12 c3) = x3 := ⟨_, rfl⟩
  have HW3 := hid (hx3)
  have M3 : Hid (FrMk x3 gf (gf + 1) { ({ (⟨3, 0, [], [], 0, [], [], 0, 0, [], []⟩ : FrD) with cn := l2 } : FrD) with sn := l3 } { ({ (⟨⟨none, 0, 0⟩, ⟨none, 0, 0⟩, ⟨none, 0, 0⟩, ⟨none, 0, 0⟩, ⟨none, 0, 0⟩, ⟨none, 0, 0⟩⟩ : FrS) with cn := ⟨some ⟨q2, 0, none⟩, 12, c2⟩ } : FrS) with sn := ⟨some ⟨q3, 0, none⟩, 12, c3⟩ }) := by rw [← hx3]; exact MN3.out
  have KR3 : Hid (Blk x3 gr 25 [.int .i64 0, .int .i64 0, .slice none 0 0, .slice none 0 0, .int .i64 0, .slice none 0 0, .slice none 0 0, .int .i64 0, .int .i64 0, .slice none 0 0, .slice none 0 0]) := by rw [← hx3]; exact KR3.out.other (by show gr ≠ gf; have := HG.out; omega) _
  have B3 : Hid (But p w x3) := by rw [← hx3]; exact But_setCell BU3.out _ _ (by show w.heap.size ≤ gf; have := HG.out; omega)
  have R3 : Hid (Ready W0 a len cap l p x3) := by rw [← hx3]; exact Ready_setCell RY3.out _ _ (by show gf ≠ p; have := HG.out; omega) (by show W0.heap.size ≤ gf; have := HG.out; omega)
  clear hx3 KP3 BU3 RY3
  go_upto_region 20 with fail
  rw [HW3.out]
  clear co fo HW3 M2 KR2 B2 R2
  clear MN3
  obtain ⟨xi4, hxi4⟩ : ∃ xi4, x3.alloc (.cells #[.int .i64 0, .int .i64 1, .int .i64 300, .int .i64 1000000] 3) = xi4 := ⟨_, rfl⟩
  have HI4 := hid (hxi4)
  have RI4 : Hid (Ready W0 a len cap l p xi4) := by rw [← hxi4]; exact R3.out.alloc _
  have BI4 : Hid (But p x3 xi4) := by rw [← hxi4]; exact (But.refl p x3).alloc _
  have LI4 : Hid (IntsAt xi4 x3.heap.size [0, 1, 300, 1000000]) := by rw [← hxi4]; exact ints_new x3 [0, 1, 300, 1000000]
  have NI4 : Hid (x3.heap.size ≠ p) := by have := R3.out.hc.lt; show _ ≠ _; omega
  clear hxi4
  go_wp2_with fail
  rw [HI4.out]
  clear HI4
  refine (intOfList RI4.out x3.heap.size 4 [0, 1, 300, 1000000] rfl LI4.out NI4.out (by omega) (by omega)).mono ?_
  rintro e y4 ⟨v4, rfl, vm4, r4, b4⟩
  have VM4 : Hid (v4 ∈ ([0, 1, 300, 1000000] : List Int)) := vm4
  have RY4 := hid (r4)
  have by4 : But p x3 y4 := BI4.out.trans b4
  have KP4 : Hid (Kept p (p + 1) x3 y4) := Kept.of_grown by4
  have BU4 := hid (B3.out.trans by4)
  have KR4 := hid (KR3.out.keep (KP4.out.block gr KR3.out.lt (by have := HG.out; omega)))
  have MY4 : Hid (FrMk y4 gf (gf + 1) { ({ (⟨3, 0, [], [], 0, [], [], 0, 0, [], []⟩ : FrD) with cn := l2 } : FrD) with sn := l3 } { ({ (⟨⟨none, 0, 0⟩, ⟨none, 0, 0⟩, ⟨none, 0, 0⟩, ⟨none, 0, 0⟩, ⟨none, 0, 0⟩, ⟨none, 0, 0⟩⟩ : FrS) with cn := ⟨some ⟨q2, 0, none⟩, 12, c2⟩ } : FrS) with sn := ⟨some ⟨q3, 0, none⟩, 12, c3⟩ }) := FrMk.kept M3.out KP4.out (by have := HG.out; omega) (by have := HG.out; omega)
  clear r4 b4 by4 RI4 BI4 LI4 NI4 vm4
  have co : y4.cell? ⟨gf, 4, none⟩ = some (.int .i64 0) := MY4.out.blk.cell 4 rfl
  have fo := MY4.out.blk.frozen 4
  obtain ⟨x4, hx4⟩ : ∃ x4, y4.setCell ⟨gf, 4, none⟩ (.int .i64 v4) = x4 := ⟨_, rfl⟩
  have HW4 := hid (hx4)
  have M4 : Hid (FrMk x4 gf (gf + 1) { ({ ({ (⟨3, 0, [], [], 0, [], [], 0, 0, [], []⟩ : FrD) with cn := l2 } : FrD) with sn := l3 } : FrD) with tick := v4 } { ({ (⟨⟨none, 0, 0⟩, ⟨none, 0, 0⟩, ⟨none, 0, 0⟩, ⟨none, 0, 0⟩, ⟨none, 0, 0⟩, ⟨none, 0, 0⟩⟩ : FrS) with cn := ⟨some ⟨q2, 0, none⟩, 12, c2⟩ } : FrS) with sn := ⟨some ⟨q3, 0, none⟩, 12, c3⟩ }) := by rw [← hx4]; exact MY4.out.tick _
  have KR4 : Hid (Blk x4 gr 25 [.int .i64 0, .int .i64 0, .slice none 0 0, .slice none 0 0, .int .i64 0, .slice none 0 0, .slice none 0 0, .int .i64 0, .int .i64 0, .slice none 0 0, .slice none 0 0]) := by rw [← hx4]; exact KR4.out.other (by show gr ≠ gf; have := HG.out; omega) _
  have B4 : Hid (But p w x4) := by rw [← hx4]; exact But_setCell BU4.out _ _ (by show w.heap.size ≤ gf; have := HG.out; omega)
  have R4 : Hid (Ready W0 a len cap l p x4) := by rw [← hx4]; exact Ready_setCell RY4.out _ _ (by show gf ≠ p; have := HG.out; omega) (by show W0.heap.size ≤ gf; have := HG.out; omega)
  clear hx4 KP4 BU4 RY4
  go_upto_region 21 with fail
  rw [HW4.out]
  clear co fo HW4 M3 KR3 B3 R3
  clear MY4
  go_wp2_with fail
  refine (bytesOf R4.out 16 (by omega)).mono ?_
  rintro e y5 ⟨q5, c5, l5, rfl, el5, hb5, kq5, w5, r5, b5⟩
  have EL5 : Hid (16 = l5.length) := el5
  have RY5 := hid (r5)
  have KP5 : Hid (Kept p (p + 1) x4 y5) := Kept.of_grown b5
  have BU5 := hid (B4.out.trans b5)
  have KR5 := hid (KR4.out.keep (KP5.out.block gr KR4.out.lt (by have := HG.out; omega)))
  have BL5 : Blk y5 gf 25 _ := M4.out.blk.keep (KP5.out.block gf M4.out.blk.lt (by have := HG.out; omega))
  have OW5 : FrOwn y5 (gf + 1) x4.heap.size _ _ := M4.out.own.carry KP5.out (.inr (by have := HG.out; omega))
  have co : y5.cell? ⟨gf, 5, none⟩ = some (.slice none 0 0) := BL5.cell 5 rfl
  have fo := BL5.frozen 5
  have MN5 : Hid (FrMk (y5.setCell ⟨gf, 5, none⟩ (.slice (some ⟨q5, 0, none⟩) 16 c5)) gf (gf + 1) { ({ ({ ({ (⟨3, 0, [], [], 0, [], [], 0, 0, [], []⟩ : FrD) with cn := l2 } : FrD) with sn := l3 } : FrD) with tick := v4 } : FrD) with cookie := l5 } { ({ ({ (⟨⟨none, 0, 0⟩, ⟨none, 0, 0⟩, ⟨none, 0, 0⟩, ⟨none, 0, 0⟩, ⟨none, 0, 0⟩, ⟨none, 0, 0⟩⟩ : FrS) with cn := ⟨some ⟨q2, 0, none⟩, 12, c2⟩ } : FrS) with sn := ⟨some ⟨q3, 0, none⟩, 12, c3⟩ } : FrS) with cookie := ⟨some ⟨q5, 0, none⟩, 16, c5⟩ }) := FrMk.cookie2 BL5 OW5 (Nat.lt_succ_self _) M4.out.blk.lt w5 el5 hb5 kq5
  clear r5 b5 el5 hb5 kq5 w5 BL5 OW5
  obtain ⟨x5, hx5⟩ : ∃ x5, y5.setCell ⟨gf, 5, none⟩ (.slice (some ⟨q5, 0, none⟩) 16 c5) = x5 := ⟨_, rfl⟩
  have HW5 := hid (hx5)
  have M5 : Hid (FrMk x5 gf (gf + 1) { ({ ({ ({ (⟨3, 0, [], [], 0, [], [], 0, 0, [], []⟩ : FrD) with cn := l2 } : FrD) with sn := l3 } : FrD) with tick := v4 } : FrD) with cookie := l5 } { ({ ({ (⟨⟨none, 0, 0⟩, ⟨none, 0, 0⟩, ⟨none, 0, 0⟩, ⟨none, 0, 0⟩, ⟨none, 0, 0⟩, ⟨none, 0, 0⟩⟩ : FrS) with cn := ⟨some ⟨q2, 0, none⟩, 12, c2⟩ } : FrS) with sn := ⟨some ⟨q3, 0, none⟩, 12, c3⟩ } : FrS) with cookie := ⟨some ⟨q5, 0, none⟩, 16, c5⟩ }) := by rw [← hx5]; exact MN5.out
  have KR5 : Hid (Blk x5 gr 25 [.int .i64 0, .int .i64 0, .slice none 0 0, .slice none 0 0, .int .i64 0, .slice none 0 0, .slice none 0 0, .int .i64 0, .int .i64 0, .slice none 0 0, .slice none 0 0]) := by rw [← hx5]; exact KR5.out.other (by show gr ≠ gf; have := HG.out; omega) _
  have B5 : Hid (But p w x5) := by rw [← hx5]; exact But_setCell BU5.out _ _ (by show w.heap.size ≤ gf; have := HG.out; omega)
  have R5 : Hid (Ready W0 a len cap l p x5) := by rw [← hx5]; exact Ready_setCell RY5.out _ _ (by show gf ≠ p; have := HG.out; omega) (by show W0.heap.size ≤ gf; have := HG.out; omega)
  clear hx5 KP5 BU5 RY5
  go_upto_region 22 with fail
  rw [HW5.out]
  clear co fo HW5 M4 KR4 B4 R4
  clear MN5
  have kc : x5.cell? ⟨gf, 0, none⟩ = some (.int .i64 3) := M5.out.blk.cell 0 rfl
  go_upto_region 23 with fail
  clear kc
  go_wp2_with fail
  refine (below R5.out 9 (by omega) (by omega)).mono ?_
  rintro e y6 ⟨v6, rfl, va6, vb6, r6, b6⟩
  have RY6 := hid (r6)
  have hw6 : IntKind.i64.wrap (1 + v6) = 1 + v6 := by rw [IntKind.wrap_i64]; omega
  have KP6 : Hid (Kept p (p + 1) x5 y6) := Kept.of_grown b6
  have BU6 := hid (B5.out.trans b6)
  have KR6 := hid (KR5.out.keep (KP6.out.block gr KR5.out.lt (by have := HG.out; omega)))
  have MY6 : Hid (FrMk y6 gf (gf + 1) { ({ ({ ({ (⟨3, 0, [], [], 0, [], [], 0, 0, [], []⟩ : FrD) with cn := l2 } : FrD) with sn := l3 } : FrD) with tick := v4 } : FrD) with cookie := l5 } { ({ ({ (⟨⟨none, 0, 0⟩, ⟨none, 0, 0⟩, ⟨none, 0, 0⟩, ⟨none, 0, 0⟩, ⟨none, 0, 0⟩, ⟨none, 0, 0⟩⟩ : FrS) with cn := ⟨some ⟨q2, 0, none⟩, 12, c2⟩ } : FrS) with sn := ⟨some ⟨q3, 0, none⟩, 12, c3⟩ } : FrS) with cookie := ⟨some ⟨q5, 0, none⟩, 16, c5⟩ }) := FrMk.kept M5.out KP6.out (by have := HG.out; omega) (by have := HG.out; omega)
  have co : y6.cell? ⟨gf, 1, none⟩ = some (.int .i64 0) := MY6.out.blk.cell 1 rfl
  have fo := MY6.out.blk.frozen 1
  clear r6 b6
  obtain ⟨x6, hx6⟩ : ∃ x6, y6.setCell ⟨gf, 1, none⟩ (.int .i64 (1 + v6)) = x6 := ⟨_, rfl⟩
  have HW6 := hid (hx6)
  have M6 : Hid (FrMk x6 gf (gf + 1) { ({ ({ ({ ({ (⟨3, 0, [], [], 0, [], [], 0, 0, [], []⟩ : FrD) with cn := l2 } : FrD) with sn := l3 } : FrD) with tick := v4 } : FrD) with cookie := l5 } : FrD) with id := 1 + v6 } { ({ ({ (⟨⟨none, 0, 0⟩, ⟨none, 0, 0⟩, ⟨none, 0, 0⟩, ⟨none, 0, 0⟩, ⟨none, 0, 0⟩, ⟨none, 0, 0⟩⟩ : FrS) with cn := ⟨some ⟨q2, 0, none⟩, 12, c2⟩ } : FrS) with sn := ⟨some ⟨q3, 0, none⟩, 12, c3⟩ } : FrS) with cookie := ⟨some ⟨q5, 0, none⟩, 16, c5⟩ }) := by rw [← hx6]; exact MY6.out.id _
  have KR6 : Hid (Blk x6 gr 25 [.int .i64 0, .int .i64 0, .slice none 0 0, .slice none 0 0, .int .i64 0, .slice none 0 0, .slice none 0 0, .int .i64 0, .int .i64 0, .slice none 0 0, .slice none 0 0]) := by rw [← hx6]; exact KR6.out.other (by show gr ≠ gf; have := HG.out; omega) _
  have B6 : Hid (But p w x6) := by rw [← hx6]; exact But_setCell BU6.out _ _ (by show w.heap.size ≤ gf; have := HG.out; omega)
  have R6 : Hid (Ready W0 a len cap l p x6) := by rw [← hx6]; exact Ready_setCell RY6.out _ _ (by show gf ≠ p; have := HG.out; omega) (by show W0.heap.size ≤ gf; have := HG.out; omega)
  clear hx6 KP6 BU6 RY6
  go_upto_region 24 with fail
  rw [HW6.out]
  clear co fo HW6 M5 KR5 B5 R5
  clear MY6
  go_wp2_with fail
  refine (bytesOf R6.out 16 (by omega)).mono ?_
  rintro e y7 ⟨q7, c7, l7, rfl, el7, hb7, kq7, w7, r7, b7⟩
  have EL7 : Hid (16 = l7.length) := el7
  have RY7 := hid (r7)
  have KP7 : Hid (Kept p (p + 1) x6 y7) := Kept.of_grown b7
  have BU7 := hid (B6.out.trans b7)
  have KR7 := hid (KR6.out.keep (KP7.out.block gr KR6.out.lt (by have := HG.out; omega)))
  have BL7 : Blk y7 gf 25 _ := M6.out.blk.keep (KP7.out.block gf M6.out.blk.lt (by have := HG.out; omega))
  have OW7 : FrOwn y7 (gf + 1) x6.heap.size _ _ := M6.out.own.carry KP7.out (.inr (by have := HG.out; omega))
  have co : y7.cell? ⟨gf, 6, none⟩ = some (.slice none 0 0) := BL7.cell 6 rfl
  have fo := BL7.frozen 6
  have MN7 : Hid (FrMk (y7.setCell ⟨gf, 6, none⟩ (.slice (some ⟨q7, 0, none⟩) 16 c7)) gf (gf + 1) { ({ ({ ({ ({ ({ (⟨3, 0, [], [], 0, [], [], 0, 0, [], []⟩ : FrD) with cn := l2 } : FrD) with sn := l3 } : FrD) with tick := v4 } : FrD) with cookie := l5 } : FrD) with id := 1 + v6 } : FrD) with proof := l7 } { ({ ({ ({ (⟨⟨none, 0, 0⟩, ⟨none, 0, 0⟩, ⟨none, 0, 0⟩, ⟨none, 0, 0⟩, ⟨none, 0, 0⟩, ⟨none, 0, 0⟩⟩ : FrS) with cn := ⟨some ⟨q2, 0, none⟩, 12, c2⟩ } : FrS) with sn := ⟨some ⟨q3, 0, none⟩, 12, c3⟩ } : FrS) with cookie := ⟨some ⟨q5, 0, none⟩, 16, c5⟩ } : FrS) with proof := ⟨some ⟨q7, 0, none⟩, 16, c7⟩ }) := FrMk.proof2 BL7 OW7 (Nat.lt_succ_self _) M6.out.blk.lt w7 el7 hb7 kq7
  clear r7 b7 el7 hb7 kq7 w7 BL7 OW7
  obtain ⟨x7, hx7⟩ : ∃ x7, y7.setCell ⟨gf, 6, none⟩ (.slice (some ⟨q7, 0, none⟩) 16 c7) = x7 := ⟨_, rfl⟩
  have HW7 := hid (hx7)
  have M7 : Hid (FrMk x7 gf (gf + 1) { ({ ({ ({ ({ ({ (⟨3, 0, [], [], 0, [], [], 0, 0, [], []⟩ : FrD) with cn := l2 } : FrD) with sn := l3 } : FrD) with tick := v4 } : FrD) with cookie := l5 } : FrD) with id := 1 + v6 } : FrD) with proof := l7 } { ({ ({ ({ (⟨⟨none, 0, 0⟩, ⟨none, 0, 0⟩, ⟨none, 0, 0⟩, ⟨none, 0, 0⟩, ⟨none, 0, 0⟩, ⟨none, 0, 0⟩⟩ : FrS) with cn := ⟨some ⟨q2, 0, none⟩, 12, c2⟩ } : FrS) with sn := ⟨some ⟨q3, 0, none⟩, 12, c3⟩ } : FrS) with cookie := ⟨some ⟨q5, 0, none⟩, 16, c5⟩ } : FrS) with proof := ⟨some ⟨q7, 0, none⟩, 16, c7⟩ }) := by rw [← hx7]; exact MN7.out
  have KR7 : Hid (Blk x7 gr 25 [.int .i64 0, .int .i64 0, .slice none 0 0, .slice none 0 0, .int .i64 0, .slice none 0 0, .slice none 0 0, .int .i64 0, .int .i64 0, .slice none 0 0, .slice none 0 0]) := by rw [← hx7]; exact KR7.out.other (by show gr ≠ gf; have := HG.out; omega) _
  have B7 : Hid (But p w x7) := by rw [← hx7]; exact But_setCell BU7.out _ _ (by show w.heap.size ≤ gf; have := HG.out; omega)
  have R7 : Hid (Ready W0 a len cap l p x7) := by rw [← hx7]; exact Ready_setCell RY7.out _ _ (by show gf ≠ p; have := HG.out; omega) (by show W0.heap.size ≤ gf; have := HG.out; omega)
  clear hx7 KP7 BU7 RY7
  go_upto_region 25 with fail
  rw [HW7.out]
  clear co fo HW7 M6 KR6 B6 R6
  clear MN7
  have OK : Hid (frameOk { ({ ({ ({ ({ ({ (⟨3, 0, [], [], 0, [], [], 0, 0, [], []⟩ : FrD) with cn := l2 } : FrD) with sn := l3 } : FrD) with tick := v4 } : FrD) with cookie := l5 } : FrD) with id := 1 + v6 } : FrD) with proof := l7 } = true) := by show frameOk _ = true; have hm := VM4.out; simp only [List.mem_cons, List.mem_nil_iff, or_false] at hm; rw [ok_iff]; refine .inr ⟨rfl, rfl, rfl, rfl, EL2.out.symm, .inr (.inr ⟨rfl, ?_, ?_, EL3.out.symm, ?_, ?_, EL5.out.symm, EL7.out.symm⟩)⟩ <;> (simp only; omega)
  obtain ⟨SS, hSS⟩ : ∃ SS : FrS, { ({ ({ ({ (⟨⟨none, 0, 0⟩, ⟨none, 0, 0⟩, ⟨none, 0, 0⟩, ⟨none, 0, 0⟩, ⟨none, 0, 0⟩, ⟨none, 0, 0⟩⟩ : FrS) with cn := ⟨some ⟨q2, 0, none⟩, 12, c2⟩ } : FrS) with sn := ⟨some ⟨q3, 0, none⟩, 12, c3⟩ } : FrS) with cookie := ⟨some ⟨q5, 0, none⟩, 16, c5⟩ } : FrS) with proof := ⟨some ⟨q7, 0, none⟩, 16, c7⟩ } = SS := ⟨_, rfl⟩
  obtain ⟨DD, hDD⟩ : ∃ DD : FrD, { ({ ({ ({ ({ ({ (⟨3, 0, [], [], 0, [], [], 0, 0, [], []⟩ : FrD) with cn := l2 } : FrD) with sn := l3 } : FrD) with tick := v4 } : FrD) with cookie := l5 } : FrD) with id := 1 + v6 } : FrD) with proof := l7 } = DD := ⟨_, rfl⟩
  have MD : Hid (FrMk x7 gf (gf + 1) DD SS) := by rw [← hSS, ← hDD]; exact M7.out
  rw [hDD] at OK
  clear hSS hDD M7
  have zc0 := KR7.out.cell 0 rfl
  have zf0 := KR7.out.frozen 0
  have zo0 : x7.cell? ⟨gf, 0, none⟩ = some (.int .i64 DD.kind) := MD.out.blk.cell 0 rfl
  have zc1 := KR7.out.cell 1 rfl
  have zf1 := KR7.out.frozen 1
  have zo1 : x7.cell? ⟨gf, 1, none⟩ = some (.int .i64 DD.id) := MD.out.blk.cell 1 rfl
  have zc2 := KR7.out.cell 2 rfl
  have zf2 := KR7.out.frozen 2
  have zo2 : x7.cell? ⟨gf, 2, none⟩ = some (.slice SS.cn.a SS.cn.n SS.cn.c) := MD.out.blk.cell 2 rfl
  have zc3 := KR7.out.cell 3 rfl
  have zf3 := KR7.out.frozen 3
  have zo3 : x7.cell? ⟨gf, 3, none⟩ = some (.slice SS.sn.a SS.sn.n SS.sn.c) := MD.out.blk.cell 3 rfl
  have zc4 := KR7.out.cell 4 rfl
  have zf4 := KR7.out.frozen 4
  have zo4 : x7.cell? ⟨gf, 4, none⟩ = some (.int .i64 DD.tick) := MD.out.blk.cell 4 rfl
  have zc5 := KR7.out.cell 5 rfl
  have zf5 := KR7.out.frozen 5
  have zo5 : x7.cell? ⟨gf, 5, none⟩ = some (.slice SS.cookie.a SS.cookie.n SS.cookie.c) := MD.out.blk.cell 5 rfl
  have zc6 := KR7.out.cell 6 rfl
  have zf6 := KR7.out.frozen 6
  have zo6 : x7.cell? ⟨gf, 6, none⟩ = some (.slice SS.proof.a SS.proof.n SS.proof.c) := MD.out.blk.cell 6 rfl
  have zc7 := KR7.out.cell 7 rfl
  have zf7 := KR7.out.frozen 7
  have zo7 : x7.cell? ⟨gf, 7, none⟩ = some (.int .i64 DD.epoch) := MD.out.blk.cell 7 rfl
  have zc8 := KR7.out.cell 8 rfl
  have zf8 := KR7.out.frozen 8
  have zo8 : x7.cell? ⟨gf, 8, none⟩ = some (.int .i64 DD.seq) := MD.out.blk.cell 8 rfl
  have zc9 := KR7.out.cell 9 rfl
  have zf9 := KR7.out.frozen 9
  have zo9 : x7.cell? ⟨gf, 9, none⟩ = some (.slice SS.body.a SS.body.n SS.body.c) := MD.out.blk.cell 9 rfl
  have zc10 := KR7.out.cell 10 rfl
  have zf10 := KR7.out.frozen 10
  have zo10 : x7.cell? ⟨gf, 10, none⟩ = some (.slice SS.tag.a SS.tag.n SS.tag.c) := MD.out.blk.cell 10 rfl
  have ne1 : gr ≠ gf := by have := HG.out; omega
  have ne2 : gf ≠ gr := by have := HG.out; omega
  go_wp2
  have KF : Blk ((((((((((((x7).setCell ⟨gr, 0, none⟩ (.int .i64 DD.kind)).setCell ⟨gr, 1, none⟩ (.int .i64 DD.id)).setCell ⟨gr, 2, none⟩ (.slice SS.cn.a SS.cn.n SS.cn.c)).setCell ⟨gr, 3, none⟩ (.slice SS.sn.a SS.sn.n SS.sn.c)).setCell ⟨gr, 4, none⟩ (.int .i64 DD.tick)).setCell ⟨gr, 5, none⟩ (.slice SS.cookie.a SS.cookie.n SS.cookie.c)).setCell ⟨gr, 6, none⟩ (.slice SS.proof.a SS.proof.n SS.proof.c)).setCell ⟨gr, 7, none⟩ (.int .i64 DD.epoch)).setCell ⟨gr, 8, none⟩ (.int .i64 DD.seq)).setCell ⟨gr, 9, none⟩ (.slice SS.body.a SS.body.n SS.body.c)).setCell ⟨gr, 10, none⟩ (.slice SS.tag.a SS.tag.n SS.tag.c)) gr 25 [.int .i64 DD.kind, .int .i64 DD.id, .slice SS.cn.a SS.cn.n SS.cn.c, .slice SS.sn.a SS.sn.n SS.sn.c, .int .i64 DD.tick, .slice SS.cookie.a SS.cookie.n SS.cookie.c, .slice SS.proof.a SS.proof.n SS.proof.c, .int .i64 DD.epoch, .int .i64 DD.seq, .slice SS.body.a SS.body.n SS.body.c, .slice SS.tag.a SS.tag.n SS.tag.c] := (((((((((((KR7.out).set 0 _ (by simp [maxLen])).set 1 _ (by simp [maxLen])).set 2 _ (by simp [maxLen])).set 3 _ (by simp [maxLen])).set 4 _ (by simp [maxLen])).set 5 _ (by simp [maxLen])).set 6 _ (by simp [maxLen])).set 7 _ (by simp [maxLen])).set 8 _ (by simp [maxLen])).set 9 _ (by simp [maxLen])).set 10 _ (by simp [maxLen])
  have KK : Kept gr (gr + 1) x7 ((((((((((((x7).setCell ⟨gr, 0, none⟩ (.int .i64 DD.kind)).setCell ⟨gr, 1, none⟩ (.int .i64 DD.id)).setCell ⟨gr, 2, none⟩ (.slice SS.cn.a SS.cn.n SS.cn.c)).setCell ⟨gr, 3, none⟩ (.slice SS.sn.a SS.sn.n SS.sn.c)).setCell ⟨gr, 4, none⟩ (.int .i64 DD.tick)).setCell ⟨gr, 5, none⟩ (.slice SS.cookie.a SS.cookie.n SS.cookie.c)).setCell ⟨gr, 6, none⟩ (.slice SS.proof.a SS.proof.n SS.proof.c)).setCell ⟨gr, 7, none⟩ (.int .i64 DD.epoch)).setCell ⟨gr, 8, none⟩ (.int .i64 DD.seq)).setCell ⟨gr, 9, none⟩ (.slice SS.body.a SS.body.n SS.body.c)).setCell ⟨gr, 10, none⟩ (.slice SS.tag.a SS.tag.n SS.tag.c)) := ((((((((((((Kept.refl gr (gr + 1) x7)).trans (Kept.setCell _ gr 0 _)).trans (Kept.setCell _ gr 1 _)).trans (Kept.setCell _ gr 2 _)).trans (Kept.setCell _ gr 3 _)).trans (Kept.setCell _ gr 4 _)).trans (Kept.setCell _ gr 5 _)).trans (Kept.setCell _ gr 6 _)).trans (Kept.setCell _ gr 7 _)).trans (Kept.setCell _ gr 8 _)).trans (Kept.setCell _ gr 9 _)).trans (Kept.setCell _ gr 10 _)
  exact ret_drew rfl rfl KF rfl (D := DD) (S := SS) OK.out ((MD.out.own.carry KK (.inr (by have := HG.out; omega))).mono (by have := HG.out; omega) KK.size) (Ready_setCell (Ready_setCell (Ready_setCell (Ready_setCell (Ready_setCell (Ready_setCell (Ready_setCell (Ready_setCell (Ready_setCell (Ready_setCell (Ready_setCell (R7.out) _ _ (by show gr ≠ p; have := HG.out; omega) (by show W0.heap.size ≤ gr; have := HG.out; omega)) _ _ (by show gr ≠ p; have := HG.out; omega) (by show W0.heap.size ≤ gr; have := HG.out; omega)) _ _ (by show gr ≠ p; have := HG.out; omega) (by show W0.heap.size ≤ gr; have := HG.out; omega)) _ _ (by show gr ≠ p; have := HG.out; omega) (by show W0.heap.size ≤ gr; have := HG.out; omega)) _ _ (by show gr ≠ p; have := HG.out; omega) (by show W0.heap.size ≤ gr; have := HG.out; omega)) _ _ (by show gr ≠ p; have := HG.out; omega) (by show W0.heap.size ≤ gr; have := HG.out; omega)) _ _ (by show gr ≠ p; have := HG.out; omega) (by show W0.heap.size ≤ gr; have := HG.out; omega)) _ _ (by show gr ≠ p; have := HG.out; omega) (by show W0.heap.size ≤ gr; have := HG.out; omega)) _ _ (by show gr ≠ p; have := HG.out; omega) (by show W0.heap.size ≤ gr; have := HG.out; omega)) _ _ (by show gr ≠ p; have := HG.out; omega) (by show W0.heap.size ≤ gr; have := HG.out; omega)) _ _ (by show gr ≠ p; have := HG.out; omega) (by show W0.heap.size ≤ gr; have := HG.out; omega)) (But_setCell (But_setCell (But_setCell (But_setCell (But_setCell (But_setCell (But_setCell (But_setCell (But_setCell (But_setCell (But_setCell (B7.out) _ _ (by show w.heap.size ≤ gr; have := HG.out; omega)) _ _ (by show w.heap.size ≤ gr; have := HG.out; omega)) _ _ (by show w.heap.size ≤ gr; have := HG.out; omega)) _ _ (by show w.heap.size ≤ gr; have := HG.out; omega)) _ _ (by show w.heap.size ≤ gr; have := HG.out; omega)) _ _ (by show w.heap.size ≤ gr; have := HG.out; omega)) _ _ (by show w.heap.size ≤ gr; have := HG.out; omega)) _ _ (by show w.heap.size ≤ gr; have := HG.out; omega)) _ _ (by show w.heap.size ≤ gr; have := HG.out; omega)) _ _ (by show w.heap.size ≤ gr; have := HG.out; omega)) _ _ (by show w.heap.size ≤ gr; have := HG.out; omega))
 ·
  obtain ⟨x1, hx1⟩ : ∃ x1, y0.alloc (.cells #[.int .i64 4, .int .i64 0, .slice none 0 0, .slice none 0 0, .int .i64 0, .slice none 0 0, .slice none 0 0, .int .i64 0, .int .i64 0, .slice none 0 0, .slice none 0 0] 25) = x1 := ⟨_, rfl⟩
  have HW1 := hid (hx1)
  have KB : Blk x1 y0.heap.size 25 [.int .i64 4, .int .i64 0, .slice none 0 0, .slice none 0 0, .int .i64 0, .slice none 0 0, .slice none 0 0, .int .i64 0, .int .i64 0, .slice none 0 0, .slice none 0 0] := by rw [← hx1]; exact Blk.new y0 _ [.int .i64 4, .int .i64 0, .slice none 0 0, .slice none 0 0, .int .i64 0, .slice none 0 0, .slice none 0 0, .int .i64 0, .int .i64 0, .slice none 0 0, .slice none 0 0]
  have M1 : Hid (FrMk x1 y0.heap.size (y0.heap.size + 1) ⟨4, 0, [], [], 0, [], [], 0, 0, [], []⟩ ⟨⟨none, 0, 0⟩, ⟨none, 0, 0⟩, ⟨none, 0, 0⟩, ⟨none, 0, 0⟩, ⟨none, 0, 0⟩, ⟨none, 0, 0⟩⟩) := ⟨KB, own_none _ _ _ _, Nat.lt_succ_self _⟩
  have R1 : Hid (Ready W0 a len cap l p x1) := by rw [← hx1]; exact RY.out.alloc _
  have B1 : Hid (But p w x1) := by rw [← hx1]; exact BY.out.alloc _
  have KR1 : Hid (Blk x1 gr 25 [.int .i64 0, .int .i64 0, .slice none 0 0, .slice none 0 0, .int .i64 0, .slice none 0 0, .slice none 0 0, .int .i64 0, .int .i64 0, .slice none 0 0, .slice none 0 0]) := by rw [← hx1]; exact KRY.out.alloc _
  have LG : Hid (gr < y0.heap.size) := KRY.out.lt
  clear hx1 KB
  go_upto_region 2 with fail
  rw [HW1.out]
  obtain ⟨gf, hgf⟩ : ∃ gf, y0.heap.size = gf := ⟨_, rfl⟩
  rw [hgf] at M1 LG ⊢
  clear HW1 hgf RY BY KRY
  have HG : Hid (w.heap.size = gr ∧ p < gr ∧ W0.heap.size ≤ gr ∧ gr < gf) := ⟨HG0.out.1, HG0.out.2.1, HG0.out.2.2, LG.out⟩
  clear LG HG0
  have kc : x1.cell? ⟨gf, 0, none⟩ = some (.int .i64 4) := M1.out.blk.cell 0 rfl
  go_upto_region 3 with fail
  clear kc
  go_wp2_with fail
  refine (bytesOf R1.out 12 (by omega)).mono ?_
  rintro e y2 ⟨q2, c2, l2, rfl, el2, hb2, kq2, w2, r2, b2⟩
  have EL2 : Hid (12 = l2.length) := el2
  have RY2 := hid (r2)
  have KP2 : Hid (Kept p (p + 1) x1 y2) := Kept.of_grown b2
  have BU2 := hid (B1.out.trans b2)
  have KR2 := hid (KR1.out.keep (KP2.out.block gr KR1.out.lt (by have := HG.out; omega)))
  have BL2 : Blk y2 gf 25 _ := M1.out.blk.keep (KP2.out.block gf M1.out.blk.lt (by have := HG.out; omega))
  have OW2 : FrOwn y2 (gf + 1) x1.heap.size _ _ := M1.out.own.carry KP2.out (.inr (by have := HG.out; omega))
  have co : y2.cell? ⟨gf, 3, none⟩ = some (.slice none 0 0) := BL2.cell 3 rfl
  have fo := BL2.frozen 3
  have MN2 : Hid (FrMk (y2.setCell ⟨gf, 3, none⟩ (.slice (some ⟨q2, 0, none⟩) 12 c2)) gf (gf + 1) { (⟨4, 0, [], [], 0, [], [], 0, 0, [], []⟩ : FrD) with sn := l2 } { (⟨⟨none, 0, 0⟩, ⟨none, 0, 0⟩, ⟨none, 0, 0⟩, ⟨none, 0, 0⟩, ⟨none, 0, 0⟩, ⟨none, 0, 0⟩⟩ : FrS) with sn := ⟨some ⟨q2, 0, none⟩, 12, c2⟩ }) := FrMk.sn2 BL2 OW2 (Nat.lt_succ_self _) M1.out.blk.lt w2 el2 hb2 kq2
  clear r2 b2 el2 hb2 kq2 w2 BL2 OW2
  obtain ⟨x2, hx2⟩ : ∃ x2, y2.setCell ⟨gf, 3, none⟩ (.slice (some ⟨q2, 0, none⟩) 12 c2) = x2 := ⟨_, rfl⟩
  have HW2 := hid (hx2)
  have M2 : Hid (FrMk x2 gf (gf + 1) { (⟨4, 0, [], [], 0, [], [], 0, 0, [], []⟩ : FrD) with sn := l2 } { (⟨⟨none, 0, 0⟩, ⟨none, 0, 0⟩, ⟨none, 0, 0⟩, ⟨none, 0, 0⟩, ⟨none, 0, 0⟩, ⟨none, 0, 0⟩⟩ : FrS) with sn := ⟨some ⟨q2, 0, none⟩, 12, c2⟩ }) := by rw [← hx2]; exact MN2.out
  have KR2 : Hid (Blk x2 gr 25 [.int .i64 0, .int .i64 0, .slice none 0 0, .slice none 0 0, .int .i64 0, .slice none 0 0, .slice none 0 0, .int .i64 0, .int .i64 0, .slice none 0 0, .slice none 0 0]) := by rw [← hx2]; exact KR2.out.other (by show gr ≠ gf; have := HG.out; omega) _
  have B2 : Hid (But p w x2) := by rw [← hx2]; exact But_setCell BU2.out _ _ (by show w.heap.size ≤ gf; have := HG.out; omega)
  have R2 : Hid (Ready W0 a len cap l p x2) := by rw [← hx2]; exact Ready_setCell RY2.out _ _ (by show gf ≠ p; have := HG.out; omega) (by show W0.heap.size ≤ gf; have := HG.out; omega)
  clear hx2 KP2 BU2 RY2
  go_upto_region 4 with fail
  rw [HW2.out]
  clear co fo HW2 M1 KR1 B1 R1
  clear MN2
  obtain ⟨xi3, hxi3⟩ : ∃ xi3, x2.alloc (.cells #[.int .i64 0, .int .i64 1, .int .i64 2, .int .i64 4294967295] 3) = xi3 := ⟨_, rfl⟩
  have HI3 := hid (hxi3)
  have RI3 : Hid (Ready W0 a len cap l p xi3) := by rw [← hxi3]; exact R2.out.alloc _
  have BI3 : Hid (But p x2 xi3) := by rw [← hxi3]; exact (But.refl p x2).alloc _
  have LI3 : Hid (IntsAt xi3 x2.heap.size [0, 1, 2, 4294967295]) := by rw [← hxi3]; exact ints_new x2 [0, 1, 2, 4294967295]
  have NI3 : Hid (x2.heap.size ≠ p) := by have := R2.out.hc.lt; show _ ≠ _; omega
  clear hxi3
  go_wp2_with fail
  rw [HI3.out]
  clear HI3
  refine (intOfList RI3.out x2.heap.size 4 [0, 1, 2, 4294967295] rfl LI3.out NI3.out (by omega) (by omega)).mono ?_
  rintro e y3 ⟨v3, rfl, vm3, r3, b3⟩
  have VM3 : Hid (v3 ∈ ([0, 1, 2, 4294967295] : List Int)) := vm3
  have RY3 := hid (r3)
  have by3 : But p x2 y3 := BI3.out.trans b3
  have KP3 : Hid (Kept p (p + 1) x2 y3) := Kept.of_grown by3
  have BU3 := hid (B2.out.trans by3)
  have KR3 := hid (KR2.out.keep (KP3.out.block gr KR2.out.lt (by have := HG.out; omega)))
  have MY3 : Hid (FrMk y3 gf (gf + 1) { (⟨4, 0, [], [], 0, [], [], 0, 0, [], []⟩ : FrD) with sn := l2 } { (⟨⟨none, 0, 0⟩, ⟨none, 0, 0⟩, ⟨none, 0, 0⟩, ⟨none, 0, 0⟩, ⟨none, 0, 0⟩, ⟨none, 0, 0⟩⟩ : FrS) with sn := ⟨some ⟨q2, 0, none⟩, 12, c2⟩ }) := FrMk.kept M2.out KP3.out (by have := HG.out; omega) (by have := HG.out; omega)
  clear r3 b3 by3 RI3 BI3 LI3 NI3 vm3
  have co : y3.cell? ⟨gf, 7, none⟩ = some (.int .i64 0) := MY3.out.blk.cell 7 rfl
  have fo := MY3.out.blk.frozen 7
  obtain ⟨x3, hx3⟩ : ∃ x3, y3.setCell ⟨gf, 7, none⟩ (.int .i64 v3) = x3 := ⟨_, rfl⟩
  have HW3 := hid (hx3)
  have M3 : Hid (FrMk x3 gf (gf + 1) { ({ (⟨4, 0, [], [], 0, [], [], 0, 0, [], []⟩ : FrD) with sn := l2 } : FrD) with epoch := v3 } { (⟨⟨none, 0, 0⟩, ⟨none, 0, 0⟩, ⟨none, 0, 0⟩, ⟨none, 0, 0⟩, ⟨none, 0, 0⟩, ⟨none, 0, 0⟩⟩ : FrS) with sn := ⟨some ⟨q2, 0, none⟩, 12, c2⟩ }) := by rw [← hx3]; exact MY3.out.epoch _
  have KR3 : Hid (Blk x3 gr 25 [.int .i64 0, .int .i64 0, .slice none 0 0, .slice none 0 0, .int .i64 0, .slice none 0 0, .slice none 0 0, .int .i64 0, .int .i64 0, .slice none 0 0, .slice none 0 0]) := by rw [← hx3]; exact KR3.out.other (by show gr ≠ gf; have := HG.out; omega) _
  have B3 : Hid (But p w x3) := by rw [← hx3]; exact But_setCell BU3.out _ _ (by show w.heap.size ≤ gf; have := HG.out; omega)
  have R3 : Hid (Ready W0 a len cap l p x3) := by rw [← hx3]; exact Ready_setCell RY3.out _ _ (by show gf ≠ p; have := HG.out; omega) (by show W0.heap.size ≤ gf; have := HG.out; omega)
  clear hx3 KP3 BU3 RY3
  go_upto_region 5 with fail
  rw [HW3.out]
  clear co fo HW3 M2 KR2 B2 R2
  clear MY3
  obtain ⟨xi4, hxi4⟩ : ∃ xi4, x3.alloc (.cells #[.int .i64 0, .int .i64 1, .int .i64 70000, .int .i64 281474976710655] 3) = xi4 := ⟨_, rfl⟩
  have HI4 := hid (hxi4)
  have RI4 : Hid (Ready W0 a len cap l p xi4) := by rw [← hxi4]; exact R3.out.alloc _
  have BI4 : Hid (But p x3 xi4) := by rw [← hxi4]; exact (But.refl p x3).alloc _
  have LI4 : Hid (IntsAt xi4 x3.heap.size [0, 1, 70000, 281474976710655]) := by rw [← hxi4]; exact ints_new x3 [0, 1, 70000, 281474976710655]
  have NI4 : Hid (x3.heap.size ≠ p) := by have := R3.out.hc.lt; show _ ≠ _; omega
  clear hxi4
  go_wp2_with fail
  rw [HI4.out]
  clear HI4
  refine (intOfList RI4.out x3.heap.size 4 [0, 1, 70000, 281474976710655] rfl LI4.out NI4.out (by omega) (by omega)).mono ?_
  rintro e y4 ⟨v4, rfl, vm4, r4, b4⟩
  have VM4 : Hid (v4 ∈ ([0, 1, 70000, 281474976710655] : List Int)) := vm4
  have RY4 := hid (r4)
  have by4 : But p x3 y4 := BI4.out.trans b4
  have KP4 : Hid (Kept p (p + 1) x3 y4) := Kept.of_grown by4
  have BU4 := hid (B3.out.trans by4)
  have KR4 := hid (KR3.out.keep (KP4.out.block gr KR3.out.lt (by have := HG.out; omega)))
  have MY4 : Hid (FrMk y4 gf (gf + 1) { ({ (⟨4, 0, [], [], 0, [], [], 0, 0, [], []⟩ : FrD) with sn := l2 } : FrD) with epoch := v3 } { (⟨⟨none, 0, 0⟩, ⟨none, 0, 0⟩, ⟨none, 0, 0⟩, ⟨none, 0, 0⟩, ⟨none, 0, 0⟩, ⟨none, 0, 0⟩⟩ : FrS) with sn := ⟨some ⟨q2, 0, none⟩, 12, c2⟩ }) := FrMk.kept M3.out KP4.out (by have := HG.out; omega) (by have := HG.out; omega)
  clear r4 b4 by4 RI4 BI4 LI4 NI4 vm4
  have co : y4.cell? ⟨gf, 8, none⟩ = some (.int .i64 0) := MY4.out.blk.cell 8 rfl
  have fo := MY4.out.blk.frozen 8
  obtain ⟨x4, hx4⟩ : ∃ x4, y4.setCell ⟨gf, 8, none⟩ (.int .i64 v4) = x4 := ⟨_, rfl⟩
  have HW4 := hid (hx4)
  have M4 : Hid (FrMk x4 gf (gf + 1) { ({ ({ (⟨4, 0, [], [], 0, [], [], 0, 0, [], []⟩ : FrD) with sn := l2 } : FrD) with epoch := v3 } : FrD) with seq := v4 } { (⟨⟨none, 0, 0⟩, ⟨none, 0, 0⟩, ⟨none, 0, 0⟩, ⟨none, 0, 0⟩, ⟨none, 0, 0⟩, ⟨none, 0, 0⟩⟩ : FrS) with sn := ⟨some ⟨q2, 0, none⟩, 12, c2⟩ }) := by rw [← hx4]; exact MY4.out.seq _
  have KR4 : Hid (Blk x4 gr 25 [.int .i64 0, .int .i64 0, .slice none 0 0, .slice none 0 0, .int .i64 0, .slice none 0 0, .slice none 0 0, .int .i64 0, .int .i64 0, .slice none 0 0, .slice none 0 0]) := by rw [← hx4]; exact KR4.out.other (by show gr ≠ gf; have := HG.out; omega) _
  have B4 : Hid (But p w x4) := by rw [← hx4]; exact But_setCell BU4.out _ _ (by show w.heap.size ≤ gf; have := HG.out; omega)
  have R4 : Hid (Ready W0 a len cap l p x4) := by rw [← hx4]; exact Ready_setCell RY4.out _ _ (by show gf ≠ p; have := HG.out; omega) (by show W0.heap.size ≤ gf; have := HG.out; omega)
  clear hx4 KP4 BU4 RY4
  go_upto_region 6 with fail
  rw [HW4.out]
  clear co fo HW4 M3 KR3 B3 R3
  clear MY4
  go_wp2_with fail
  refine (bytesOf R4.out 16 (by omega)).mono ?_
  rintro e y5 ⟨q5, c5, l5, rfl, el5, hb5, kq5, w5, r5, b5⟩
  have EL5 : Hid (16 = l5.length) := el5
  have RY5 := hid (r5)
  have KP5 : Hid (Kept p (p + 1) x4 y5) := Kept.of_grown b5
  have BU5 := hid (B4.out.trans b5)
  have KR5 := hid (KR4.out.keep (KP5.out.block gr KR4.out.lt (by have := HG.out; omega)))
  have BL5 : Blk y5 gf 25 _ := M4.out.blk.keep (KP5.out.block gf M4.out.blk.lt (by have := HG.out; omega))
  have OW5 : FrOwn y5 (gf + 1) x4.heap.size _ _ := M4.out.own.carry KP5.out (.inr (by have := HG.out; omega))
  have co : y5.cell? ⟨gf, 10, none⟩ = some (.slice none 0 0) := BL5.cell 10 rfl
  have fo := BL5.frozen 10
  have MN5 : Hid (FrMk (y5.setCell ⟨gf, 10, none⟩ (.slice (some ⟨q5, 0, none⟩) 16 c5)) gf (gf + 1) { ({ ({ ({ (⟨4, 0, [], [], 0, [], [], 0, 0, [], []⟩ : FrD) with sn := l2 } : FrD) with epoch := v3 } : FrD) with seq := v4 } : FrD) with tag := l5 } { ({ (⟨⟨none, 0, 0⟩, ⟨none, 0, 0⟩, ⟨none, 0, 0⟩, ⟨none, 0, 0⟩, ⟨none, 0, 0⟩, ⟨none, 0, 0⟩⟩ : FrS) with sn := ⟨some ⟨q2, 0, none⟩, 12, c2⟩ } : FrS) with tag := ⟨some ⟨q5, 0, none⟩, 16, c5⟩ }) := FrMk.tag2 BL5 OW5 (Nat.lt_succ_self _) M4.out.blk.lt w5 el5 hb5 kq5
  clear r5 b5 el5 hb5 kq5 w5 BL5 OW5
  obtain ⟨x5, hx5⟩ : ∃ x5, y5.setCell ⟨gf, 10, none⟩ (.slice (some ⟨q5, 0, none⟩) 16 c5) = x5 := ⟨_, rfl⟩
  have HW5 := hid (hx5)
  have M5 : Hid (FrMk x5 gf (gf + 1) { ({ ({ ({ (⟨4, 0, [], [], 0, [], [], 0, 0, [], []⟩ : FrD) with sn := l2 } : FrD) with epoch := v3 } : FrD) with seq := v4 } : FrD) with tag := l5 } { ({ (⟨⟨none, 0, 0⟩, ⟨none, 0, 0⟩, ⟨none, 0, 0⟩, ⟨none, 0, 0⟩, ⟨none, 0, 0⟩, ⟨none, 0, 0⟩⟩ : FrS) with sn := ⟨some ⟨q2, 0, none⟩, 12, c2⟩ } : FrS) with tag := ⟨some ⟨q5, 0, none⟩, 16, c5⟩ }) := by rw [← hx5]; exact MN5.out
  have KR5 : Hid (Blk x5 gr 25 [.int .i64 0, .int .i64 0, .slice none 0 0, .slice none 0 0, .int .i64 0, .slice none 0 0, .slice none 0 0, .int .i64 0, .int .i64 0, .slice none 0 0, .slice none 0 0]) := by rw [← hx5]; exact KR5.out.other (by show gr ≠ gf; have := HG.out; omega) _
  have B5 : Hid (But p w x5) := by rw [← hx5]; exact But_setCell BU5.out _ _ (by show w.heap.size ≤ gf; have := HG.out; omega)
  have R5 : Hid (Ready W0 a len cap l p x5) := by rw [← hx5]; exact Ready_setCell RY5.out _ _ (by show gf ≠ p; have := HG.out; omega) (by show W0.heap.size ≤ gf; have := HG.out; omega)
  clear hx5 KP5 BU5 RY5
  go_upto_region 7 with fail
  rw [HW5.out]
  clear co fo HW5 M4 KR4 B4 R4
  clear MN5
  obtain ⟨xi6, hxi6⟩ : ∃ xi6, x5.alloc (.cells #[.int .i64 0, .int .i64 1, .int .i64 12, .int .i64 40] 3) = xi6 := ⟨_, rfl⟩
  have HI6 := hid (hxi6)
  have RI6 : Hid (Ready W0 a len cap l p xi6) := by rw [← hxi6]; exact R5.out.alloc _
  have BI6 : Hid (But p x5 xi6) := by rw [← hxi6]; exact (But.refl p x5).alloc _
  have LI6 : Hid (IntsAt xi6 x5.heap.size [0, 1, 12, 40]) := by rw [← hxi6]; exact ints_new x5 [0, 1, 12, 40]
  have NI6 : Hid (x5.heap.size ≠ p) := by have := R5.out.hc.lt; show _ ≠ _; omega
  clear hxi6
  go_wp2_with fail
  rw [HI6.out]
  clear HI6
  refine (intOfList RI6.out x5.heap.size 4 [0, 1, 12, 40] rfl LI6.out NI6.out (by omega) (by omega)).mono ?_
  rintro e y6 ⟨v6, rfl, vm6, r6, b6⟩
  have VM6 : Hid (v6 ∈ ([0, 1, 12, 40] : List Int)) := vm6
  have RY6 := hid (r6)
  have by6 : But p x5 y6 := BI6.out.trans b6
  have KP6 : Hid (Kept p (p + 1) x5 y6) := Kept.of_grown by6
  have BU6 := hid (B5.out.trans by6)
  have KR6 := hid (KR5.out.keep (KP6.out.block gr KR5.out.lt (by have := HG.out; omega)))
  have MY6 : Hid (FrMk y6 gf (gf + 1) { ({ ({ ({ (⟨4, 0, [], [], 0, [], [], 0, 0, [], []⟩ : FrD) with sn := l2 } : FrD) with epoch := v3 } : FrD) with seq := v4 } : FrD) with tag := l5 } { ({ (⟨⟨none, 0, 0⟩, ⟨none, 0, 0⟩, ⟨none, 0, 0⟩, ⟨none, 0, 0⟩, ⟨none, 0, 0⟩, ⟨none, 0, 0⟩⟩ : FrS) with sn := ⟨some ⟨q2, 0, none⟩, 12, c2⟩ } : FrS) with tag := ⟨some ⟨q5, 0, none⟩, 16, c5⟩ }) := FrMk.kept M5.out KP6.out (by have := HG.out; omega) (by have := HG.out; omega)
  clear r6 b6 by6 RI6 BI6 LI6 NI6 vm6
  have hn6 : v6 = 0 ∨ v6 = 1 ∨ v6 = 12 ∨ v6 = 40 := by have hm := VM6.out; simpa only [List.mem_cons, List.mem_nil_iff, or_false] using hm
  obtain ⟨NN, hNN⟩ := Int.eq_ofNat_of_zero_le (show 0 ≤ v6 by omega)
  have HNN : Hid (NN ≤ 40) := by show NN ≤ 40; omega
  subst hNN
  clear hn6
  have kc : y6.cell? ⟨gf, 0, none⟩ = some (.int .i64 4) := MY6.out.blk.cell 0 rfl
  obtain ⟨x6, hx6⟩ : ∃ x6, x6 = y6 := ⟨_, rfl⟩
  rw [← hx6] at kc MY6 KR6 BU6 RY6 ⊢
  have M6 : Hid (FrMk x6 gf (gf + 1) { ({ ({ ({ (⟨4, 0, [], [], 0, [], [], 0, 0, [], []⟩ : FrD) with sn := l2 } : FrD) with epoch := v3 } : FrD) with seq := v4 } : FrD) with tag := l5 } { ({ (⟨⟨none, 0, 0⟩, ⟨none, 0, 0⟩, ⟨none, 0, 0⟩, ⟨none, 0, 0⟩, ⟨none, 0, 0⟩, ⟨none, 0, 0⟩⟩ : FrS) with sn := ⟨some ⟨q2, 0, none⟩, 12, c2⟩ } : FrS) with tag := ⟨some ⟨q5, 0, none⟩, 16, c5⟩ }) := MY6.out
  have B6 := hid (BU6.out)
  have R6 := hid (RY6.out)
  clear hx6 KP6 MY6 BU6 RY6 M5 KR5 B5 R5
  go_upto_region 12 with fail
  clear kc
  have hNN := HNN.out
  go_wp2_with fail
  refine (bytesOf R6.out NN (by omega)).mono ?_
  rintro e y7 ⟨q7, c7, l7, rfl, el7, hb7, kq7, w7, r7, b7⟩
  have EL7 : Hid (NN = l7.length) := el7
  have RY7 := hid (r7)
  have KP7 : Hid (Kept p (p + 1) x6 y7) := Kept.of_grown b7
  have BU7 := hid (B6.out.trans b7)
  have KR7 := hid (KR6.out.keep (KP7.out.block gr KR6.out.lt (by have := HG.out; omega)))
  have BL7 : Blk y7 gf 25 _ := M6.out.blk.keep (KP7.out.block gf M6.out.blk.lt (by have := HG.out; omega))
  have OW7 : FrOwn y7 (gf + 1) x6.heap.size _ _ := M6.out.own.carry KP7.out (.inr (by have := HG.out; omega))
  have co : y7.cell? ⟨gf, 9, none⟩ = some (.slice none 0 0) := BL7.cell 9 rfl
  have fo := BL7.frozen 9
  have MN7 : Hid (FrMk (y7.setCell ⟨gf, 9, none⟩ (.slice (some ⟨q7, 0, none⟩) NN c7)) gf (gf + 1) { ({ ({ ({ ({ (⟨4, 0, [], [], 0, [], [], 0, 0, [], []⟩ : FrD) with sn := l2 } : FrD) with epoch := v3 } : FrD) with seq := v4 } : FrD) with tag := l5 } : FrD) with body := l7 } { ({ ({ (⟨⟨none, 0, 0⟩, ⟨none, 0, 0⟩, ⟨none, 0, 0⟩, ⟨none, 0, 0⟩, ⟨none, 0, 0⟩, ⟨none, 0, 0⟩⟩ : FrS) with sn := ⟨some ⟨q2, 0, none⟩, 12, c2⟩ } : FrS) with tag := ⟨some ⟨q5, 0, none⟩, 16, c5⟩ } : FrS) with body := ⟨some ⟨q7, 0, none⟩, NN, c7⟩ }) := FrMk.body2 BL7 OW7 (Nat.lt_succ_self _) M6.out.blk.lt w7 el7 hb7 kq7
  clear r7 b7 el7 hb7 kq7 w7 BL7 OW7
  obtain ⟨x7, hx7⟩ : ∃ x7, y7.setCell ⟨gf, 9, none⟩ (.slice (some ⟨q7, 0, none⟩) NN c7) = x7 := ⟨_, rfl⟩
  have HW7 := hid (hx7)
  have M7 : Hid (FrMk x7 gf (gf + 1) { ({ ({ ({ ({ (⟨4, 0, [], [], 0, [], [], 0, 0, [], []⟩ : FrD) with sn := l2 } : FrD) with epoch := v3 } : FrD) with seq := v4 } : FrD) with tag := l5 } : FrD) with body := l7 } { ({ ({ (⟨⟨none, 0, 0⟩, ⟨none, 0, 0⟩, ⟨none, 0, 0⟩, ⟨none, 0, 0⟩, ⟨none, 0, 0⟩, ⟨none, 0, 0⟩⟩ : FrS) with sn := ⟨some ⟨q2, 0, none⟩, 12, c2⟩ } : FrS) with tag := ⟨some ⟨q5, 0, none⟩, 16, c5⟩ } : FrS) with body := ⟨some ⟨q7, 0, none⟩, NN, c7⟩ }) := by rw [← hx7]; exact MN7.out
  have KR7 : Hid (Blk x7 gr 25 [.int .i64 0, .int .i64 0, .slice none 0 0, .slice none 0 0, .int .i64 0, .slice none 0 0, .slice none 0 0, .int .i64 0, .int .i64 0, .slice none 0 0, .slice none 0 0]) := by rw [← hx7]; exact KR7.out.other (by show gr ≠ gf; have := HG.out; omega) _
  have B7 : Hid (But p w x7) := by rw [← hx7]; exact But_setCell BU7.out _ _ (by show w.heap.size ≤ gf; have := HG.out; omega)
  have R7 : Hid (Ready W0 a len cap l p x7) := by rw [← hx7]; exact Ready_setCell RY7.out _ _ (by show gf ≠ p; have := HG.out; omega) (by show W0.heap.size ≤ gf; have := HG.out; omega)
  clear hx7 KP7 BU7 RY7
  go_upto_region 25 with fail
  rw [HW7.out]
  clear co fo HW7 M6 KR6 B6 R6
  clear MN7
  have OK : Hid (frameOk { ({ ({ ({ ({ (⟨4, 0, [], [], 0, [], [], 0, 0, [], []⟩ : FrD) with sn := l2 } : FrD) with epoch := v3 } : FrD) with seq := v4 } : FrD) with tag := l5 } : FrD) with body := l7 } = true) := by show frameOk _ = true; have he := VM3.out; have hs := VM4.out; simp only [List.mem_cons, List.mem_nil_iff, or_false] at he hs; have hb : bodyOk 4 (l7.length : Int) = true := (by rw [← EL7.out]; unfold bodyOk; simp; omega); rw [ok_iff]; refine .inl ⟨?_, ?_, rfl, rfl, EL2.out.symm, rfl, rfl, rfl, ?_, ?_, ?_, ?_, hb, EL5.out.symm⟩ <;> (simp only; omega)
  obtain ⟨SS, hSS⟩ : ∃ SS : FrS, { ({ ({ (⟨⟨none, 0, 0⟩, ⟨none, 0, 0⟩, ⟨none, 0, 0⟩, ⟨none, 0, 0⟩, ⟨none, 0, 0⟩, ⟨none, 0, 0⟩⟩ : FrS) with sn := ⟨some ⟨q2, 0, none⟩, 12, c2⟩ } : FrS) with tag := ⟨some ⟨q5, 0, none⟩, 16, c5⟩ } : FrS) with body := ⟨some ⟨q7, 0, none⟩, NN, c7⟩ } = SS := ⟨_, rfl⟩
  obtain ⟨DD, hDD⟩ : ∃ DD : FrD, { ({ ({ ({ ({ (⟨4, 0, [], [], 0, [], [], 0, 0, [], []⟩ : FrD) with sn := l2 } : FrD) with epoch := v3 } : FrD) with seq := v4 } : FrD) with tag := l5 } : FrD) with body := l7 } = DD := ⟨_, rfl⟩
  have MD : Hid (FrMk x7 gf (gf + 1) DD SS) := by rw [← hSS, ← hDD]; exact M7.out
  rw [hDD] at OK
  clear hSS hDD M7
  have zc0 := KR7.out.cell 0 rfl
  have zf0 := KR7.out.frozen 0
  have zo0 : x7.cell? ⟨gf, 0, none⟩ = some (.int .i64 DD.kind) := MD.out.blk.cell 0 rfl
  have zc1 := KR7.out.cell 1 rfl
  have zf1 := KR7.out.frozen 1
  have zo1 : x7.cell? ⟨gf, 1, none⟩ = some (.int .i64 DD.id) := MD.out.blk.cell 1 rfl
  have zc2 := KR7.out.cell 2 rfl
  have zf2 := KR7.out.frozen 2
  have zo2 : x7.cell? ⟨gf, 2, none⟩ = some (.slice SS.cn.a SS.cn.n SS.cn.c) := MD.out.blk.cell 2 rfl
  have zc3 := KR7.out.cell 3 rfl
  have zf3 := KR7.out.frozen 3
  have zo3 : x7.cell? ⟨gf, 3, none⟩ = some (.slice SS.sn.a SS.sn.n SS.sn.c) := MD.out.blk.cell 3 rfl
  have zc4 := KR7.out.cell 4 rfl
  have zf4 := KR7.out.frozen 4
  have zo4 : x7.cell? ⟨gf, 4, none⟩ = some (.int .i64 DD.tick) := MD.out.blk.cell 4 rfl
  have zc5 := KR7.out.cell 5 rfl
  have zf5 := KR7.out.frozen 5
  have zo5 : x7.cell? ⟨gf, 5, none⟩ = some (.slice SS.cookie.a SS.cookie.n SS.cookie.c) := MD.out.blk.cell 5 rfl
  have zc6 := KR7.out.cell 6 rfl
  have zf6 := KR7.out.frozen 6
  have zo6 : x7.cell? ⟨gf, 6, none⟩ = some (.slice SS.proof.a SS.proof.n SS.proof.c) := MD.out.blk.cell 6 rfl
  have zc7 := KR7.out.cell 7 rfl
  have zf7 := KR7.out.frozen 7
  have zo7 : x7.cell? ⟨gf, 7, none⟩ = some (.int .i64 DD.epoch) := MD.out.blk.cell 7 rfl
  have zc8 := KR7.out.cell 8 rfl
  have zf8 := KR7.out.frozen 8
  have zo8 : x7.cell? ⟨gf, 8, none⟩ = some (.int .i64 DD.seq) := MD.out.blk.cell 8 rfl
  have zc9 := KR7.out.cell 9 rfl
  have zf9 := KR7.out.frozen 9
  have zo9 : x7.cell? ⟨gf, 9, none⟩ = some (.slice SS.body.a SS.body.n SS.body.c) := MD.out.blk.cell 9 rfl
  have zc10 := KR7.out.cell 10 rfl
  have zf10 := KR7.out.frozen 10
  have zo10 : x7.cell? ⟨gf, 10, none⟩ = some (.slice SS.tag.a SS.tag.n SS.tag.c) := MD.out.blk.cell 10 rfl
  have ne1 : gr ≠ gf := by have := HG.out; omega
  have ne2 : gf ≠ gr := by have := HG.out; omega
  go_wp2
  have KF : Blk ((((((((((((x7).setCell ⟨gr, 0, none⟩ (.int .i64 DD.kind)).setCell ⟨gr, 1, none⟩ (.int .i64 DD.id)).setCell ⟨gr, 2, none⟩ (.slice SS.cn.a SS.cn.n SS.cn.c)).setCell ⟨gr, 3, none⟩ (.slice SS.sn.a SS.sn.n SS.sn.c)).setCell ⟨gr, 4, none⟩ (.int .i64 DD.tick)).setCell ⟨gr, 5, none⟩ (.slice SS.cookie.a SS.cookie.n SS.cookie.c)).setCell ⟨gr, 6, none⟩ (.slice SS.proof.a SS.proof.n SS.proof.c)).setCell ⟨gr, 7, none⟩ (.int .i64 DD.epoch)).setCell ⟨gr, 8, none⟩ (.int .i64 DD.seq)).setCell ⟨gr, 9, none⟩ (.slice SS.body.a SS.body.n SS.body.c)).setCell ⟨gr, 10, none⟩ (.slice SS.tag.a SS.tag.n SS.tag.c)) gr 25 [.int .i64 DD.kind, .int .i64 DD.id, .slice SS.cn.a SS.cn.n SS.cn.c, .slice SS.sn.a SS.sn.n SS.sn.c, .int .i64 DD.tick, .slice SS.cookie.a SS.cookie.n SS.cookie.c, .slice SS.proof.a SS.proof.n SS.proof.c, .int .i64 DD.epoch, .int .i64 DD.seq, .slice SS.body.a SS.body.n SS.body.c, .slice SS.tag.a SS.tag.n SS.tag.c] := (((((((((((KR7.out).set 0 _ (by simp [maxLen])).set 1 _ (by simp [maxLen])).set 2 _ (by simp [maxLen])).set 3 _ (by simp [maxLen])).set 4 _ (by simp [maxLen])).set 5 _ (by simp [maxLen])).set 6 _ (by simp [maxLen])).set 7 _ (by simp [maxLen])).set 8 _ (by simp [maxLen])).set 9 _ (by simp [maxLen])).set 10 _ (by simp [maxLen])
  have KK : Kept gr (gr + 1) x7 ((((((((((((x7).setCell ⟨gr, 0, none⟩ (.int .i64 DD.kind)).setCell ⟨gr, 1, none⟩ (.int .i64 DD.id)).setCell ⟨gr, 2, none⟩ (.slice SS.cn.a SS.cn.n SS.cn.c)).setCell ⟨gr, 3, none⟩ (.slice SS.sn.a SS.sn.n SS.sn.c)).setCell ⟨gr, 4, none⟩ (.int .i64 DD.tick)).setCell ⟨gr, 5, none⟩ (.slice SS.cookie.a SS.cookie.n SS.cookie.c)).setCell ⟨gr, 6, none⟩ (.slice SS.proof.a SS.proof.n SS.proof.c)).setCell ⟨gr, 7, none⟩ (.int .i64 DD.epoch)).setCell ⟨gr, 8, none⟩ (.int .i64 DD.seq)).setCell ⟨gr, 9, none⟩ (.slice SS.body.a SS.body.n SS.body.c)).setCell ⟨gr, 10, none⟩ (.slice SS.tag.a SS.tag.n SS.tag.c)) := ((((((((((((Kept.refl gr (gr + 1) x7)).trans (Kept.setCell _ gr 0 _)).trans (Kept.setCell _ gr 1 _)).trans (Kept.setCell _ gr 2 _)).trans (Kept.setCell _ gr 3 _)).trans (Kept.setCell _ gr 4 _)).trans (Kept.setCell _ gr 5 _)).trans (Kept.setCell _ gr 6 _)).trans (Kept.setCell _ gr 7 _)).trans (Kept.setCell _ gr 8 _)).trans (Kept.setCell _ gr 9 _)).trans (Kept.setCell _ gr 10 _)
  exact ret_drew rfl rfl KF rfl (D := DD) (S := SS) OK.out ((MD.out.own.carry KK (.inr (by have := HG.out; omega))).mono (by have := HG.out; omega) KK.size) (Ready_setCell (Ready_setCell (Ready_setCell (Ready_setCell (Ready_setCell (Ready_setCell (Ready_setCell (Ready_setCell (Ready_setCell (Ready_setCell (Ready_setCell (R7.out) _ _ (by show gr ≠ p; have := HG.out; omega) (by show W0.heap.size ≤ gr; have := HG.out; omega)) _ _ (by show gr ≠ p; have := HG.out; omega) (by show W0.heap.size ≤ gr; have := HG.out; omega)) _ _ (by show gr ≠ p; have := HG.out; omega) (by show W0.heap.size ≤ gr; have := HG.out; omega)) _ _ (by show gr ≠ p; have := HG.out; omega) (by show W0.heap.size ≤ gr; have := HG.out; omega)) _ _ (by show gr ≠ p; have := HG.out; omega) (by show W0.heap.size ≤ gr; have := HG.out; omega)) _ _ (by show gr ≠ p; have := HG.out; omega) (by show W0.heap.size ≤ gr; have := HG.out; omega)) _ _ (by show gr ≠ p; have := HG.out; omega) (by show W0.heap.size ≤ gr; have := HG.out; omega)) _ _ (by show gr ≠ p; have := HG.out; omega) (by show W0.heap.size ≤ gr; have := HG.out; omega)) _ _ (by show gr ≠ p; have := HG.out; omega) (by show W0.heap.size ≤ gr; have := HG.out; omega)) _ _ (by show gr ≠ p; have := HG.out; omega) (by show W0.heap.size ≤ gr; have := HG.out; omega)) _ _ (by show gr ≠ p; have := HG.out; omega) (by show W0.heap.size ≤ gr; have := HG.out; omega)) (But_setCell (But_setCell (But_setCell (But_setCell (But_setCell (But_setCell (But_setCell (But_setCell (But_setCell (But_setCell (But_setCell (B7.out) _ _ (by show w.heap.size ≤ gr; have := HG.out; omega)) _ _ (by show w.heap.size ≤ gr; have := HG.out; omega)) _ _ (by show w.heap.size ≤ gr; have := HG.out; omega)) _ _ (by show w.heap.size ≤ gr; have := HG.out; omega)) _ _ (by show w.heap.size ≤ gr; have := HG.out; omega)) _ _ (by show w.heap.size ≤ gr; have := HG.out; omega)) _ _ (by show w.heap.size ≤ gr; have := HG.out; omega)) _ _ (by show w.heap.size ≤ gr; have := HG.out; omega)) _ _ (by show w.heap.size ≤ gr; have := HG.out; omega)) _ _ (by show w.heap.size ≤ gr; have := HG.out; omega)) _ _ (by show w.heap.size ≤ gr; have := HG.out; omega))
 ·
  obtain ⟨x1, hx1⟩ : ∃ x1, y0.alloc (.cells #[.int .i64 5, .int .i64 0, .slice none 0 0, .slice none 0 0, .int .i64 0, .slice none 0 0, .slice none 0 0, .int .i64 0, .int .i64 0, .slice none 0 0, .slice none 0 0] 25) = x1 := ⟨_, rfl⟩
  have HW1 := hid (hx1)
  have KB : Blk x1 y0.heap.size 25 [.int .i64 5, .int .i64 0, .slice none 0 0, .slice none 0 0, .int .i64 0, .slice none 0 0, .slice none 0 0, .int .i64 0, .int .i64 0, .slice none 0 0, .slice none 0 0] := by rw [← hx1]; exact Blk.new y0 _ [.int .i64 5, .int .i64 0, .slice none 0 0, .slice none 0 0, .int .i64 0, .slice none 0 0, .slice none 0 0, .int .i64 0, .int .i64 0, .slice none 0 0, .slice none 0 0]
  have M1 : Hid (FrMk x1 y0.heap.size (y0.heap.size + 1) ⟨5, 0, [], [], 0, [], [], 0, 0, [], []⟩ ⟨⟨none, 0, 0⟩, ⟨none, 0, 0⟩, ⟨none, 0, 0⟩, ⟨none, 0, 0⟩, ⟨none, 0, 0⟩, ⟨none, 0, 0⟩⟩) := ⟨KB, own_none _ _ _ _, Nat.lt_succ_self _⟩
  have R1 : Hid (Ready W0 a len cap l p x1) := by rw [← hx1]; exact RY.out.alloc _
  have B1 : Hid (But p w x1) := by rw [← hx1]; exact BY.out.alloc _
  have KR1 : Hid (Blk x1 gr 25 [.int .i64 0, .int .i64 0, .slice none 0 0, .slice none 0 0, .int .i64 0, .slice none 0 0, .slice none 0 0, .int .i64 0, .int .i64 0, .slice none 0 0, .slice none 0 0]) := by rw [← hx1]; exact KRY.out.alloc _
  have LG : Hid (gr < y0.heap.size) := KRY.out.lt
  clear hx1 KB
  go_upto_region 2 with fail
  rw [HW1.out]
  obtain ⟨gf, hgf⟩ : ∃ gf, y0.heap.size = gf := ⟨_, rfl⟩
  rw [hgf] at M1 LG ⊢
  clear HW1 hgf RY BY KRY
  have HG : Hid (w.heap.size = gr ∧ p < gr ∧ W0.heap.size ≤ gr ∧ gr < gf) := ⟨HG0.out.1, HG0.out.2.1, HG0.out.2.2, LG.out⟩
  clear LG HG0
  have kc : x1.cell? ⟨gf, 0, none⟩ = some (.int .i64 5) := M1.out.blk.cell 0 rfl
  go_upto_region 3 with fail
  clear kc
  go_wp2_with fail
  refine (bytesOf R1.out 12 (by omega)).mono ?_
  rintro e y2 ⟨q2, c2, l2, rfl, el2, hb2, kq2, w2, r2, b2⟩
  have EL2 : Hid (12 = l2.length) := el2
  have RY2 := hid (r2)
  have KP2 : Hid (Kept p (p + 1) x1 y2) := Kept.of_grown b2
  have BU2 := hid (B1.out.trans b2)
  have KR2 := hid (KR1.out.keep (KP2.out.block gr KR1.out.lt (by have := HG.out; omega)))
  have BL2 : Blk y2 gf 25 _ := M1.out.blk.keep (KP2.out.block gf M1.out.blk.lt (by have := HG.out; omega))
  have OW2 : FrOwn y2 (gf + 1) x1.heap.size _ _ := M1.out.own.carry KP2.out (.inr (by have := HG.out; omega))
  have co : y2.cell? ⟨gf, 3, none⟩ = some (.slice none 0 0) := BL2.cell 3 rfl
  have fo := BL2.frozen 3
  have MN2 : Hid (FrMk (y2.setCell ⟨gf, 3, none⟩ (.slice (some ⟨q2, 0, none⟩) 12 c2)) gf (gf + 1) { (⟨5, 0, [], [], 0, [], [], 0, 0, [], []⟩ : FrD) with sn := l2 } { (⟨⟨none, 0, 0⟩, ⟨none, 0, 0⟩, ⟨none, 0, 0⟩, ⟨none, 0, 0⟩, ⟨none, 0, 0⟩, ⟨none, 0, 0⟩⟩ : FrS) with sn := ⟨some ⟨q2, 0, none⟩, 12, c2⟩ }) := FrMk.sn2 BL2 OW2 (Nat.lt_succ_self _) M1.out.blk.lt w2 el2 hb2 kq2
  clear r2 b2 el2 hb2 kq2 w2 BL2 OW2
  obtain ⟨x2, hx2⟩ : ∃ x2, y2.setCell ⟨gf, 3, none⟩ (.slice (some ⟨q2, 0, none⟩) 12 c2) = x2 := ⟨_, rfl⟩
  have HW2 := hid (hx2)
  have M2 : Hid (FrMk x2 gf (gf + 1) { (⟨5, 0, [], [], 0, [], [], 0, 0, [], []⟩ : FrD) with sn := l2 } { (⟨⟨none, 0, 0⟩, ⟨none, 0, 0⟩, ⟨none, 0, 0⟩, ⟨none, 0, 0⟩, ⟨none, 0, 0⟩, ⟨none, 0, 0⟩⟩ : FrS) with sn := ⟨some ⟨q2, 0, none⟩, 12, c2⟩ }) := by rw [← hx2]; exact MN2.out
  have KR2 : Hid (Blk x2 gr 25 [.int .i64 0, .int .i64 0, .slice none 0 0, .slice none 0 0, .int .i64 0, .slice none 0 0, .slice none 0 0, .int .i64 0, .int .i64 0, .slice none 0 0, .slice none 0 0]) := by rw [← hx2]; exact KR2.out.other (by show gr ≠ gf; have := HG.out; omega) _
  have B2 : Hid (But p w x2) := by rw [← hx2]; exact But_setCell BU2.out _ _ (by show w.heap.size ≤ gf; have := HG.out; omega)
  have R2 : Hid (Ready W0 a len cap l p x2) := by rw [← hx2]; exact Ready_setCell RY2.out _ _ (by show gf ≠ p; have := HG.out; omega) (by show W0.heap.size ≤ gf; have := HG.out; omega)
  clear hx2 KP2 BU2 RY2
  go_upto_region 4 with fail
  rw [HW2.out]
  clear co fo HW2 M1 KR1 B1 R1
  clear MN2
  obtain ⟨xi3, hxi3⟩ : ∃ xi3, x2.alloc (.cells #[.int .i64 0, .int .i64 1, .int .i64 2, .int .i64 4294967295] 3) = xi3 := ⟨_, rfl⟩
  have HI3 := hid (hxi3)
  have RI3 : Hid (Ready W0 a len cap l p xi3) := by rw [← hxi3]; exact R2.out.alloc _
  have BI3 : Hid (But p x2 xi3) := by rw [← hxi3]; exact (But.refl p x2).alloc _
  have LI3 : Hid (IntsAt xi3 x2.heap.size [0, 1, 2, 4294967295]) := by rw [← hxi3]; exact ints_new x2 [0, 1, 2, 4294967295]
  have NI3 : Hid (x2.heap.size ≠ p) := by have := R2.out.hc.lt; show _ ≠ _; omega
  clear hxi3
  go_wp2_with fail
  rw [HI3.out]
  clear HI3
  refine (intOfList RI3.out x2.heap.size 4 [0, 1, 2, 4294967295] rfl LI3.out NI3.out (by omega) (by omega)).mono ?_
  rintro e y3 ⟨v3, rfl, vm3, r3, b3⟩
  have VM3 : Hid (v3 ∈ ([0, 1, 2, 4294967295] : List Int)) := vm3
  have RY3 := hid (r3)
  have by3 : But p x2 y3 := BI3.out.trans b3
  have KP3 : Hid (Kept p (p + 1) x2 y3) := Kept.of_grown by3
  have BU3 := hid (B2.out.trans by3)
  have KR3 := hid (KR2.out.keep (KP3.out.block gr KR2.out.lt (by have := HG.out; omega)))
  have MY3 : Hid (FrMk y3 gf (gf + 1) { (⟨5, 0, [], [], 0, [], [], 0, 0, [], []⟩ : FrD) with sn := l2 } { (⟨⟨none, 0, 0⟩, ⟨none, 0, 0⟩, ⟨none, 0, 0⟩, ⟨none, 0, 0⟩, ⟨none, 0, 0⟩, ⟨none, 0, 0⟩⟩ : FrS) with sn := ⟨some ⟨q2, 0, none⟩, 12, c2⟩ }) := FrMk.kept M2.out KP3.out (by have := HG.out; omega) (by have := HG.out; omega)
  clear r3 b3 by3 RI3 BI3 LI3 NI3 vm3
  have co : y3.cell? ⟨gf, 7, none⟩ = some (.int .i64 0) := MY3.out.blk.cell 7 rfl
  have fo := MY3.out.blk.frozen 7
  obtain ⟨x3, hx3⟩ : ∃ x3, y3.setCell ⟨gf, 7, none⟩ (.int .i64 v3) = x3 := ⟨_, rfl⟩
  have HW3 := hid (hx3)
  have M3 : Hid (FrMk x3 gf (gf + 1) { ({ (⟨5, 0, [], [], 0, [], [], 0, 0, [], []⟩ : FrD) with sn := l2 } : FrD) with epoch := v3 } { (⟨⟨none, 0, 0⟩, ⟨none, 0, 0⟩, ⟨none, 0, 0⟩, ⟨none, 0, 0⟩, ⟨none, 0, 0⟩, ⟨none, 0, 0⟩⟩ : FrS) with sn := ⟨some ⟨q2, 0, none⟩, 12, c2⟩ }) := by rw [← hx3]; exact MY3.out.epoch _
  have KR3 : Hid (Blk x3 gr 25 [.int .i64 0, .int .i64 0, .slice none 0 0, .slice none 0 0, .int .i64 0, .slice none 0 0, .slice none 0 0, .int .i64 0, .int .i64 0, .slice none 0 0, .slice none 0 0]) := by rw [← hx3]; exact KR3.out.other (by show gr ≠ gf; have := HG.out; omega) _
  have B3 : Hid (But p w x3) := by rw [← hx3]; exact But_setCell BU3.out _ _ (by show w.heap.size ≤ gf; have := HG.out; omega)
  have R3 : Hid (Ready W0 a len cap l p x3) := by rw [← hx3]; exact Ready_setCell RY3.out _ _ (by show gf ≠ p; have := HG.out; omega) (by show W0.heap.size ≤ gf; have := HG.out; omega)
  clear hx3 KP3 BU3 RY3
  go_upto_region 5 with fail
  rw [HW3.out]
  clear co fo HW3 M2 KR2 B2 R2
  clear MY3
  obtain ⟨xi4, hxi4⟩ : ∃ xi4, x3.alloc (.cells #[.int .i64 0, .int .i64 1, .int .i64 70000, .int .i64 281474976710655] 3) = xi4 := ⟨_, rfl⟩
  have HI4 := hid (hxi4)
  have RI4 : Hid (Ready W0 a len cap l p xi4) := by rw [← hxi4]; exact R3.out.alloc _
  have BI4 : Hid (But p x3 xi4) := by rw [← hxi4]; exact (But.refl p x3).alloc _
  have LI4 : Hid (IntsAt xi4 x3.heap.size [0, 1, 70000, 281474976710655]) := by rw [← hxi4]; exact ints_new x3 [0, 1, 70000, 281474976710655]
  have NI4 : Hid (x3.heap.size ≠ p) := by have := R3.out.hc.lt; show _ ≠ _; omega
  clear hxi4
  go_wp2_with fail
  rw [HI4.out]
  clear HI4
  refine (intOfList RI4.out x3.heap.size 4 [0, 1, 70000, 281474976710655] rfl LI4.out NI4.out (by omega) (by omega)).mono ?_
  rintro e y4 ⟨v4, rfl, vm4, r4, b4⟩
  have VM4 : Hid (v4 ∈ ([0, 1, 70000, 281474976710655] : List Int)) := vm4
  have RY4 := hid (r4)
  have by4 : But p x3 y4 := BI4.out.trans b4
  have KP4 : Hid (Kept p (p + 1) x3 y4) := Kept.of_grown by4
  have BU4 := hid (B3.out.trans by4)
  have KR4 := hid (KR3.out.keep (KP4.out.block gr KR3.out.lt (by have := HG.out; omega)))
  have MY4 : Hid (FrMk y4 gf (gf + 1) { ({ (⟨5, 0, [], [], 0, [], [], 0, 0, [], []⟩ : FrD) with sn := l2 } : FrD) with epoch := v3 } { (⟨⟨none, 0, 0⟩, ⟨none, 0, 0⟩, ⟨none, 0, 0⟩, ⟨none, 0, 0⟩, ⟨none, 0, 0⟩, ⟨none, 0, 0⟩⟩ : FrS) with sn := ⟨some ⟨q2, 0, none⟩, 12, c2⟩ }) := FrMk.kept M3.out KP4.out (by have := HG.out; omega) (by have := HG.out; omega)
  clear r4 b4 by4 RI4 BI4 LI4 NI4 vm4
  have co : y4.cell? ⟨gf, 8, none⟩ = some (.int .i64 0) := MY4.out.blk.cell 8 rfl
  have fo := MY4.out.blk.frozen 8
  obtain ⟨x4, hx4⟩ : ∃ x4, y4.setCell ⟨gf, 8, none⟩ (.int .i64 v4) = x4 := ⟨_, rfl⟩
  have HW4 := hid (hx4)
  have M4 : Hid (FrMk x4 gf (gf + 1) { ({ ({ (⟨5, 0, [], [], 0, [], [], 0, 0, [], []⟩ : FrD) with sn := l2 } : FrD) with epoch := v3 } : FrD) with seq := v4 } { (⟨⟨none, 0, 0⟩, ⟨none, 0, 0⟩, ⟨none, 0, 0⟩, ⟨none, 0, 0⟩, ⟨none, 0, 0⟩, ⟨none, 0, 0⟩⟩ : FrS) with sn := ⟨some ⟨q2, 0, none⟩, 12, c2⟩ }) := by rw [← hx4]; exact MY4.out.seq _
  have KR4 : Hid (Blk x4 gr 25 [.int .i64 0, .int .i64 0, .slice none 0 0, .slice none 0 0, .int .i64 0, .slice none 0 0, .slice none 0 0, .int .i64 0, .int .i64 0, .slice none 0 0, .slice none 0 0]) := by rw [← hx4]; exact KR4.out.other (by show gr ≠ gf; have := HG.out; omega) _
  have B4 : Hid (But p w x4) := by rw [← hx4]; exact But_setCell BU4.out _ _ (by show w.heap.size ≤ gf; have := HG.out; omega)
  have R4 : Hid (Ready W0 a len cap l p x4) := by rw [← hx4]; exact Ready_setCell RY4.out _ _ (by show gf ≠ p; have := HG.out; omega) (by show W0.heap.size ≤ gf; have := HG.out; omega)
  clear hx4 KP4 BU4 RY4
  go_upto_region 6 with fail
  rw [HW4.out]
  clear co fo HW4 M3 KR3 B3 R3
  clear MY4
  go_wp2_with fail
  refine (bytesOf R4.out 16 (by omega)).mono ?_
  rintro e y5 ⟨q5, c5, l5, rfl, el5, hb5, kq5, w5, r5, b5⟩
  have EL5 : Hid (16 = l5.length) := el5
  have RY5 := hid (r5)
  have KP5 : Hid (Kept p (p + 1) x4 y5) := Kept.of_grown b5
  have BU5 := hid (B4.out.trans b5)
  have KR5 := hid (KR4.out.keep (KP5.out.block gr KR4.out.lt (by have := HG.out; omega)))
  have BL5 : Blk y5 gf 25 _ := M4.out.blk.keep (KP5.out.block gf M4.out.blk.lt (by have := HG.out; omega))
  have OW5 : FrOwn y5 (gf + 1) x4.heap.size _ _ := M4.out.own.carry KP5.out (.inr (by have := HG.out; omega))
  have co : y5.cell? ⟨gf, 10, none⟩ = some (.slice none 0 0) := BL5.cell 10 rfl
  have fo := BL5.frozen 10
  have MN5 : Hid (FrMk (y5.setCell ⟨gf, 10, none⟩ (.slice (some ⟨q5, 0, none⟩) 16 c5)) gf (gf + 1) { ({ ({ ({ (⟨5, 0, [], [], 0, [], [], 0, 0, [], []⟩ : FrD) with sn := l2 } : FrD) with epoch := v3 } : FrD) with seq := v4 } : FrD) with tag := l5 } { ({ (⟨⟨none, 0, 0⟩, ⟨none, 0, 0⟩, ⟨none, 0, 0⟩, ⟨none, 0, 0⟩, ⟨none, 0, 0⟩, ⟨none, 0, 0⟩⟩ : FrS) with sn := ⟨some ⟨q2, 0, none⟩, 12, c2⟩ } : FrS) with tag := ⟨some ⟨q5, 0, none⟩, 16, c5⟩ }) := FrMk.tag2 BL5 OW5 (Nat.lt_succ_self _) M4.out.blk.lt w5 el5 hb5 kq5
  clear r5 b5 el5 hb5 kq5 w5 BL5 OW5
  obtain ⟨x5, hx5⟩ : ∃ x5, y5.setCell ⟨gf, 10, none⟩ (.slice (some ⟨q5, 0, none⟩) 16 c5) = x5 := ⟨_, rfl⟩
  have HW5 := hid (hx5)
  have M5 : Hid (FrMk x5 gf (gf + 1) { ({ ({ ({ (⟨5, 0, [], [], 0, [], [], 0, 0, [], []⟩ : FrD) with sn := l2 } : FrD) with epoch := v3 } : FrD) with seq := v4 } : FrD) with tag := l5 } { ({ (⟨⟨none, 0, 0⟩, ⟨none, 0, 0⟩, ⟨none, 0, 0⟩, ⟨none, 0, 0⟩, ⟨none, 0, 0⟩, ⟨none, 0, 0⟩⟩ : FrS) with sn := ⟨some ⟨q2, 0, none⟩, 12, c2⟩ } : FrS) with tag := ⟨some ⟨q5, 0, none⟩, 16, c5⟩ }) := by rw [← hx5]; exact MN5.out
  have KR5 : Hid (Blk x5 gr 25 [.int .i64 0, .int .i64 0, .slice none 0 0, .slice none 0 0, .int .i64 0, .slice none 0 0, .slice none 0 0, .int .i64 0, .int .i64 0, .slice none 0 0, .slice none 0 0]) := by rw [← hx5]; exact KR5.out.other (by show gr ≠ gf; have := HG.out; omega) _
  have B5 : Hid (But p w x5) := by rw [← hx5]; exact But_setCell BU5.out _ _ (by show w.heap.size ≤ gf; have := HG.out; omega)
  have R5 : Hid (Ready W0 a len cap l p x5) := by rw [← hx5]; exact Ready_setCell RY5.out _ _ (by show gf ≠ p; have := HG.out; omega) (by show W0.heap.size ≤ gf; have := HG.out; omega)
  clear hx5 KP5 BU5 RY5
  go_upto_region 7 with fail
  rw [HW5.out]
  clear co fo HW5 M4 KR4 B4 R4
  clear MN5
  obtain ⟨xi6, hxi6⟩ : ∃ xi6, x5.alloc (.cells #[.int .i64 0, .int .i64 1, .int .i64 12, .int .i64 40] 3) = xi6 := ⟨_, rfl⟩
  have HI6 := hid (hxi6)
  have RI6 : Hid (Ready W0 a len cap l p xi6) := by rw [← hxi6]; exact R5.out.alloc _
  have BI6 : Hid (But p x5 xi6) := by rw [← hxi6]; exact (But.refl p x5).alloc _
  have LI6 : Hid (IntsAt xi6 x5.heap.size [0, 1, 12, 40]) := by rw [← hxi6]; exact ints_new x5 [0, 1, 12, 40]
  have NI6 : Hid (x5.heap.size ≠ p) := by have := R5.out.hc.lt; show _ ≠ _; omega
  clear hxi6
  go_wp2_with fail
  rw [HI6.out]
  clear HI6
  refine (intOfList RI6.out x5.heap.size 4 [0, 1, 12, 40] rfl LI6.out NI6.out (by omega) (by omega)).mono ?_
  rintro e y6 ⟨v6, rfl, vm6, r6, b6⟩
  have VM6 : Hid (v6 ∈ ([0, 1, 12, 40] : List Int)) := vm6
  have RY6 := hid (r6)
  have by6 : But p x5 y6 := BI6.out.trans b6
  have KP6 : Hid (Kept p (p + 1) x5 y6) := Kept.of_grown by6
  have BU6 := hid (B5.out.trans by6)
  have KR6 := hid (KR5.out.keep (KP6.out.block gr KR5.out.lt (by have := HG.out; omega)))
  have MY6 : Hid (FrMk y6 gf (gf + 1) { ({ ({ ({ (⟨5, 0, [], [], 0, [], [], 0, 0, [], []⟩ : FrD) with sn := l2 } : FrD) with epoch := v3 } : FrD) with seq := v4 } : FrD) with tag := l5 } { ({ (⟨⟨none, 0, 0⟩, ⟨none, 0, 0⟩, ⟨none, 0, 0⟩, ⟨none, 0, 0⟩, ⟨none, 0, 0⟩, ⟨none, 0, 0⟩⟩ : FrS) with sn := ⟨some ⟨q2, 0, none⟩, 12, c2⟩ } : FrS) with tag := ⟨some ⟨q5, 0, none⟩, 16, c5⟩ }) := FrMk.kept M5.out KP6.out (by have := HG.out; omega) (by have := HG.out; omega)
  clear r6 b6 by6 RI6 BI6 LI6 NI6 vm6
  have kc : y6.cell? ⟨gf, 0, none⟩ = some (.int .i64 5) := MY6.out.blk.cell 0 rfl
  obtain ⟨x6, hx6⟩ : ∃ x6, x6 = y6 := ⟨_, rfl⟩
  rw [← hx6] at kc MY6 KR6 BU6 RY6 ⊢
  have M6 : Hid (FrMk x6 gf (gf + 1) { ({ ({ ({ (⟨5, 0, [], [], 0, [], [], 0, 0, [], []⟩ : FrD) with sn := l2 } : FrD) with epoch := v3 } : FrD) with seq := v4 } : FrD) with tag := l5 } { ({ (⟨⟨none, 0, 0⟩, ⟨none, 0, 0⟩, ⟨none, 0, 0⟩, ⟨none, 0, 0⟩, ⟨none, 0, 0⟩, ⟨none, 0, 0⟩⟩ : FrS) with sn := ⟨some ⟨q2, 0, none⟩, 12, c2⟩ } : FrS) with tag := ⟨some ⟨q5, 0, none⟩, 16, c5⟩ }) := MY6.out
  have B6 := hid (BU6.out)
  have R6 := hid (RY6.out)
  clear hx6 KP6 MY6 BU6 RY6 M5 KR5 B5 R5
  go_upto_region 12 with fail
  clear kc
  go_wp2_with fail
  refine (bytesOf R6.out 12 (by omega)).mono ?_
  rintro e y7 ⟨q7, c7, l7, rfl, el7, hb7, kq7, w7, r7, b7⟩
  have EL7 : Hid (12 = l7.length) := el7
  have RY7 := hid (r7)
  have KP7 : Hid (Kept p (p + 1) x6 y7) := Kept.of_grown b7
  have BU7 := hid (B6.out.trans b7)
  have KR7 := hid (KR6.out.keep (KP7.out.block gr KR6.out.lt (by have := HG.out; omega)))
  have BL7 : Blk y7 gf 25 _ := M6.out.blk.keep (KP7.out.block gf M6.out.blk.lt (by have := HG.out; omega))
  have OW7 : FrOwn y7 (gf + 1) x6.heap.size _ _ := M6.out.own.carry KP7.out (.inr (by have := HG.out; omega))
  have co : y7.cell? ⟨gf, 9, none⟩ = some (.slice none 0 0) := BL7.cell 9 rfl
  have fo := BL7.frozen 9
  have MN7 : Hid (FrMk (y7.setCell ⟨gf, 9, none⟩ (.slice (some ⟨q7, 0, none⟩) 12 c7)) gf (gf + 1) { ({ ({ ({ ({ (⟨5, 0, [], [], 0, [], [], 0, 0, [], []⟩ : FrD) with sn := l2 } : FrD) with epoch := v3 } : FrD) with seq := v4 } : FrD) with tag := l5 } : FrD) with body := l7 } { ({ ({ (⟨⟨none, 0, 0⟩, ⟨none, 0, 0⟩, ⟨none, 0, 0⟩, ⟨none, 0, 0⟩, ⟨none, 0, 0⟩, ⟨none, 0, 0⟩⟩ : FrS) with sn := ⟨some ⟨q2, 0, none⟩, 12, c2⟩ } : FrS) with tag := ⟨some ⟨q5, 0, none⟩, 16, c5⟩ } : FrS) with body := ⟨some ⟨q7, 0, none⟩, 12, c7⟩ }) := FrMk.body2 BL7 OW7 (Nat.lt_succ_self _) M6.out.blk.lt w7 el7 hb7 kq7
  clear r7 b7 el7 hb7 kq7 w7 BL7 OW7
  obtain ⟨x7, hx7⟩ : ∃ x7, y7.setCell ⟨gf, 9, none⟩ (.slice (some ⟨q7, 0, none⟩) 12 c7) = x7 := ⟨_, rfl⟩
  have HW7 := hid (hx7)
  have M7 : Hid (FrMk x7 gf (gf + 1) { ({ ({ ({ ({ (⟨5, 0, [], [], 0, [], [], 0, 0, [], []⟩ : FrD) with sn := l2 } : FrD) with epoch := v3 } : FrD) with seq := v4 } : FrD) with tag := l5 } : FrD) with body := l7 } { ({ ({ (⟨⟨none, 0, 0⟩, ⟨none, 0, 0⟩, ⟨none, 0, 0⟩, ⟨none, 0, 0⟩, ⟨none, 0, 0⟩, ⟨none, 0, 0⟩⟩ : FrS) with sn := ⟨some ⟨q2, 0, none⟩, 12, c2⟩ } : FrS) with tag := ⟨some ⟨q5, 0, none⟩, 16, c5⟩ } : FrS) with body := ⟨some ⟨q7, 0, none⟩, 12, c7⟩ }) := by rw [← hx7]; exact MN7.out
  have KR7 : Hid (Blk x7 gr 25 [.int .i64 0, .int .i64 0, .slice none 0 0, .slice none 0 0, .int .i64 0, .slice none 0 0, .slice none 0 0, .int .i64 0, .int .i64 0, .slice none 0 0, .slice none 0 0]) := by rw [← hx7]; exact KR7.out.other (by show gr ≠ gf; have := HG.out; omega) _
  have B7 : Hid (But p w x7) := by rw [← hx7]; exact But_setCell BU7.out _ _ (by show w.heap.size ≤ gf; have := HG.out; omega)
  have R7 : Hid (Ready W0 a len cap l p x7) := by rw [← hx7]; exact Ready_setCell RY7.out _ _ (by show gf ≠ p; have := HG.out; omega) (by show W0.heap.size ≤ gf; have := HG.out; omega)
  clear hx7 KP7 BU7 RY7
  go_upto_region 25 with fail
  rw [HW7.out]
  clear co fo HW7 M6 KR6 B6 R6
  clear MN7
  have OK : Hid (frameOk { ({ ({ ({ ({ (⟨5, 0, [], [], 0, [], [], 0, 0, [], []⟩ : FrD) with sn := l2 } : FrD) with epoch := v3 } : FrD) with seq := v4 } : FrD) with tag := l5 } : FrD) with body := l7 } = true) := by show frameOk _ = true; have he := VM3.out; have hs := VM4.out; simp only [List.mem_cons, List.mem_nil_iff, or_false] at he hs; have hb : bodyOk 5 (l7.length : Int) = true := (by rw [← EL7.out]; rfl); rw [ok_iff]; refine .inl ⟨?_, ?_, rfl, rfl, EL2.out.symm, rfl, rfl, rfl, ?_, ?_, ?_, ?_, hb, EL5.out.symm⟩ <;> (simp only; omega)
  obtain ⟨SS, hSS⟩ : ∃ SS : FrS, { ({ ({ (⟨⟨none, 0, 0⟩, ⟨none, 0, 0⟩, ⟨none, 0, 0⟩, ⟨none, 0, 0⟩, ⟨none, 0, 0⟩, ⟨none, 0, 0⟩⟩ : FrS) with sn := ⟨some ⟨q2, 0, none⟩, 12, c2⟩ } : FrS) with tag := ⟨some ⟨q5, 0, none⟩, 16, c5⟩ } : FrS) with body := ⟨some ⟨q7, 0, none⟩, 12, c7⟩ } = SS := ⟨_, rfl⟩
  obtain ⟨DD, hDD⟩ : ∃ DD : FrD, { ({ ({ ({ ({ (⟨5, 0, [], [], 0, [], [], 0, 0, [], []⟩ : FrD) with sn := l2 } : FrD) with epoch := v3 } : FrD) with seq := v4 } : FrD) with tag := l5 } : FrD) with body := l7 } = DD := ⟨_, rfl⟩
  have MD : Hid (FrMk x7 gf (gf + 1) DD SS) := by rw [← hSS, ← hDD]; exact M7.out
  rw [hDD] at OK
  clear hSS hDD M7
  have zc0 := KR7.out.cell 0 rfl
  have zf0 := KR7.out.frozen 0
  have zo0 : x7.cell? ⟨gf, 0, none⟩ = some (.int .i64 DD.kind) := MD.out.blk.cell 0 rfl
  have zc1 := KR7.out.cell 1 rfl
  have zf1 := KR7.out.frozen 1
  have zo1 : x7.cell? ⟨gf, 1, none⟩ = some (.int .i64 DD.id) := MD.out.blk.cell 1 rfl
  have zc2 := KR7.out.cell 2 rfl
  have zf2 := KR7.out.frozen 2
  have zo2 : x7.cell? ⟨gf, 2, none⟩ = some (.slice SS.cn.a SS.cn.n SS.cn.c) := MD.out.blk.cell 2 rfl
  have zc3 := KR7.out.cell 3 rfl
  have zf3 := KR7.out.frozen 3
  have zo3 : x7.cell? ⟨gf, 3, none⟩ = some (.slice SS.sn.a SS.sn.n SS.sn.c) := MD.out.blk.cell 3 rfl
  have zc4 := KR7.out.cell 4 rfl
  have zf4 := KR7.out.frozen 4
  have zo4 : x7.cell? ⟨gf, 4, none⟩ = some (.int .i64 DD.tick) := MD.out.blk.cell 4 rfl
  have zc5 := KR7.out.cell 5 rfl
  have zf5 := KR7.out.frozen 5
  have zo5 : x7.cell? ⟨gf, 5, none⟩ = some (.slice SS.cookie.a SS.cookie.n SS.cookie.c) := MD.out.blk.cell 5 rfl
  have zc6 := KR7.out.cell 6 rfl
  have zf6 := KR7.out.frozen 6
  have zo6 : x7.cell? ⟨gf, 6, none⟩ = some (.slice SS.proof.a SS.proof.n SS.proof.c) := MD.out.blk.cell 6 rfl
  have zc7 := KR7.out.cell 7 rfl
  have zf7 := KR7.out.frozen 7
  have zo7 : x7.cell? ⟨gf, 7, none⟩ = some (.int .i64 DD.epoch) := MD.out.blk.cell 7 rfl
  have zc8 := KR7.out.cell 8 rfl
  have zf8 := KR7.out.frozen 8
  have zo8 : x7.cell? ⟨gf, 8, none⟩ = some (.int .i64 DD.seq) := MD.out.blk.cell 8 rfl
  have zc9 := KR7.out.cell 9 rfl
  have zf9 := KR7.out.frozen 9
  have zo9 : x7.cell? ⟨gf, 9, none⟩ = some (.slice SS.body.a SS.body.n SS.body.c) := MD.out.blk.cell 9 rfl
  have zc10 := KR7.out.cell 10 rfl
  have zf10 := KR7.out.frozen 10
  have zo10 : x7.cell? ⟨gf, 10, none⟩ = some (.slice SS.tag.a SS.tag.n SS.tag.c) := MD.out.blk.cell 10 rfl
  have ne1 : gr ≠ gf := by have := HG.out; omega
  have ne2 : gf ≠ gr := by have := HG.out; omega
  go_wp2
  have KF : Blk ((((((((((((x7).setCell ⟨gr, 0, none⟩ (.int .i64 DD.kind)).setCell ⟨gr, 1, none⟩ (.int .i64 DD.id)).setCell ⟨gr, 2, none⟩ (.slice SS.cn.a SS.cn.n SS.cn.c)).setCell ⟨gr, 3, none⟩ (.slice SS.sn.a SS.sn.n SS.sn.c)).setCell ⟨gr, 4, none⟩ (.int .i64 DD.tick)).setCell ⟨gr, 5, none⟩ (.slice SS.cookie.a SS.cookie.n SS.cookie.c)).setCell ⟨gr, 6, none⟩ (.slice SS.proof.a SS.proof.n SS.proof.c)).setCell ⟨gr, 7, none⟩ (.int .i64 DD.epoch)).setCell ⟨gr, 8, none⟩ (.int .i64 DD.seq)).setCell ⟨gr, 9, none⟩ (.slice SS.body.a SS.body.n SS.body.c)).setCell ⟨gr, 10, none⟩ (.slice SS.tag.a SS.tag.n SS.tag.c)) gr 25 [.int .i64 DD.kind, .int .i64 DD.id, .slice SS.cn.a SS.cn.n SS.cn.c, .slice SS.sn.a SS.sn.n SS.sn.c, .int .i64 DD.tick, .slice SS.cookie.a SS.cookie.n SS.cookie.c, .slice SS.proof.a SS.proof.n SS.proof.c, .int .i64 DD.epoch, .int .i64 DD.seq, .slice SS.body.a SS.body.n SS.body.c, .slice SS.tag.a SS.tag.n SS.tag.c] := (((((((((((KR7.out).set 0 _ (by simp [maxLen])).set 1 _ (by simp [maxLen])).set 2 _ (by simp [maxLen])).set 3 _ (by simp [maxLen])).set 4 _ (by simp [maxLen])).set 5 _ (by simp [maxLen])).set 6 _ (by simp [maxLen])).set 7 _ (by simp [maxLen])).set 8 _ (by simp [maxLen])).set 9 _ (by simp [maxLen])).set 10 _ (by simp [maxLen])
  have KK : Kept gr (gr + 1) x7 ((((((((((((x7).setCell ⟨gr, 0, none⟩ (.int .i64 DD.kind)).setCell ⟨gr, 1, none⟩ (.int .i64 DD.id)).setCell ⟨gr, 2, none⟩ (.slice SS.cn.a SS.cn.n SS.cn.c)).setCell ⟨gr, 3, none⟩ (.slice SS.sn.a SS.sn.n SS.sn.c)).setCell ⟨gr, 4, none⟩ (.int .i64 DD.tick)).setCell ⟨gr, 5, none⟩ (.slice SS.cookie.a SS.cookie.n SS.cookie.c)).setCell ⟨gr, 6, none⟩ (.slice SS.proof.a SS.proof.n SS.proof.c)).setCell ⟨gr, 7, none⟩ (.int .i64 DD.epoch)).setCell ⟨gr, 8, none⟩ (.int .i64 DD.seq)).setCell ⟨gr, 9, none⟩ (.slice SS.body.a SS.body.n SS.body.c)).setCell ⟨gr, 10, none⟩ (.slice SS.tag.a SS.tag.n SS.tag.c)) := ((((((((((((Kept.refl gr (gr + 1) x7)).trans (Kept.setCell _ gr 0 _)).trans (Kept.setCell _ gr 1 _)).trans (Kept.setCell _ gr 2 _)).trans (Kept.setCell _ gr 3 _)).trans (Kept.setCell _ gr 4 _)).trans (Kept.setCell _ gr 5 _)).trans (Kept.setCell _ gr 6 _)).trans (Kept.setCell _ gr 7 _)).trans (Kept.setCell _ gr 8 _)).trans (Kept.setCell _ gr 9 _)).trans (Kept.setCell _ gr 10 _)
  exact ret_drew rfl rfl KF rfl (D := DD) (S := SS) OK.out ((MD.out.own.carry KK (.inr (by have := HG.out; omega))).mono (by have := HG.out; omega) KK.size) (Ready_setCell (Ready_setCell (Ready_setCell (Ready_setCell (Ready_setCell (Ready_setCell (Ready_setCell (Ready_setCell (Ready_setCell (Ready_setCell (Ready_setCell (R7.out) _ _ (by show gr ≠ p; have := HG.out; omega) (by show W0.heap.size ≤ gr; have := HG.out; omega)) _ _ (by show gr ≠ p; have := HG.out; omega) (by show W0.heap.size ≤ gr; have := HG.out; omega)) _ _ (by show gr ≠ p; have := HG.out; omega) (by show W0.heap.size ≤ gr; have := HG.out; omega)) _ _ (by show gr ≠ p; have := HG.out; omega) (by show W0.heap.size ≤ gr; have := HG.out; omega)) _ _ (by show gr ≠ p; have := HG.out; omega) (by show W0.heap.size ≤ gr; have := HG.out; omega)) _ _ (by show gr ≠ p; have := HG.out; omega) (by show W0.heap.size ≤ gr; have := HG.out; omega)) _ _ (by show gr ≠ p; have := HG.out; omega) (by show W0.heap.size ≤ gr; have := HG.out; omega)) _ _ (by show gr ≠ p; have := HG.out; omega) (by show W0.heap.size ≤ gr; have := HG.out; omega)) _ _ (by show gr ≠ p; have := HG.out; omega) (by show W0.heap.size ≤ gr; have := HG.out; omega)) _ _ (by show gr ≠ p; have := HG.out; omega) (by show W0.heap.size ≤ gr; have := HG.out; omega)) _ _ (by show gr ≠ p; have := HG.out; omega) (by show W0.heap.size ≤ gr; have := HG.out; omega)) (But_setCell (But_setCell (But_setCell (But_setCell (But_setCell (But_setCell (But_setCell (But_setCell (But_setCell (But_setCell (But_setCell (B7.out) _ _ (by show w.heap.size ≤ gr; have := HG.out; omega)) _ _ (by show w.heap.size ≤ gr; have := HG.out; omega)) _ _ (by show w.heap.size ≤ gr; have := HG.out; omega)) _ _ (by show w.heap.size ≤ gr; have := HG.out; omega)) _ _ (by show w.heap.size ≤ gr; have := HG.out; omega)) _ _ (by show w.heap.size ≤ gr; have := HG.out; omega)) _ _ (by show w.heap.size ≤ gr; have := HG.out; omega)) _ _ (by show w.heap.size ≤ gr; have := HG.out; omega)) _ _ (by show w.heap.size ≤ gr; have := HG.out; omega)) _ _ (by show w.heap.size ≤ gr; have := HG.out; omega)) _ _ (by show w.heap.size ≤ gr; have := HG.out; omega))
 ·
  obtain ⟨x1, hx1⟩ : ∃ x1, y0.alloc (.cells #[.int .i64 6, .int .i64 0, .slice none 0 0, .slice none 0 0, .int .i64 0, .slice none 0 0, .slice none 0 0, .int .i64 0, .int .i64 0, .slice none 0 0, .slice none 0 0] 25) = x1 := ⟨_, rfl⟩
  have HW1 := hid (hx1)
  have KB : Blk x1 y0.heap.size 25 [.int .i64 6, .int .i64 0, .slice none 0 0, .slice none 0 0, .int .i64 0, .slice none 0 0, .slice none 0 0, .int .i64 0, .int .i64 0, .slice none 0 0, .slice none 0 0] := by rw [← hx1]; exact Blk.new y0 _ [.int .i64 6, .int .i64 0, .slice none 0 0, .slice none 0 0, .int .i64 0, .slice none 0 0, .slice none 0 0, .int .i64 0, .int .i64 0, .slice none 0 0, .slice none 0 0]
  have M1 : Hid (FrMk x1 y0.heap.size (y0.heap.size + 1) ⟨6, 0, [], [], 0, [], [], 0, 0, [], []⟩ ⟨⟨none, 0, 0⟩, ⟨none, 0, 0⟩, ⟨none, 0, 0⟩, ⟨none, 0, 0⟩, ⟨none, 0, 0⟩, ⟨none, 0, 0⟩⟩) := ⟨KB, own_none _ _ _ _, Nat.lt_succ_self _⟩
  have R1 : Hid (Ready W0 a len cap l p x1) := by rw [← hx1]; exact RY.out.alloc _
  have B1 : Hid (But p w x1) := by rw [← hx1]; exact BY.out.alloc _
  have KR1 : Hid (Blk x1 gr 25 [.int .i64 0, .int .i64 0, .slice none 0 0, .slice none 0 0, .int .i64 0, .slice none 0 0, .slice none 0 0, .int .i64 0, .int .i64 0, .slice none 0 0, .slice none 0 0]) := by rw [← hx1]; exact KRY.out.alloc _
  have LG : Hid (gr < y0.heap.size) := KRY.out.lt
  clear hx1 KB
  go_upto_region 2 with fail
  rw [HW1.out]
  obtain ⟨gf, hgf⟩ : ∃ gf, y0.heap.size = gf := ⟨_, rfl⟩
  rw [hgf] at M1 LG ⊢
  clear HW1 hgf RY BY KRY
  have HG : Hid (w.heap.size = gr ∧ p < gr ∧ W0.heap.size ≤ gr ∧ gr < gf) := ⟨HG0.out.1, HG0.out.2.1, HG0.out.2.2, LG.out⟩
  clear LG HG0
  have kc : x1.cell? ⟨gf, 0, none⟩ = some (.int .i64 6) := M1.out.blk.cell 0 rfl
  go_upto_region 3 with fail
  clear kc
  go_wp2_with fail
  refine (bytesOf R1.out 12 (by omega)).mono ?_
  rintro e y2 ⟨q2, c2, l2, rfl, el2, hb2, kq2, w2, r2, b2⟩
  have EL2 : Hid (12 = l2.length) := el2
  have RY2 := hid (r2)
  have KP2 : Hid (Kept p (p + 1) x1 y2) := Kept.of_grown b2
  have BU2 := hid (B1.out.trans b2)
  have KR2 := hid (KR1.out.keep (KP2.out.block gr KR1.out.lt (by have := HG.out; omega)))
  have BL2 : Blk y2 gf 25 _ := M1.out.blk.keep (KP2.out.block gf M1.out.blk.lt (by have := HG.out; omega))
  have OW2 : FrOwn y2 (gf + 1) x1.heap.size _ _ := M1.out.own.carry KP2.out (.inr (by have := HG.out; omega))
  have co : y2.cell? ⟨gf, 3, none⟩ = some (.slice none 0 0) := BL2.cell 3 rfl
  have fo := BL2.frozen 3
  have MN2 : Hid (FrMk (y2.setCell ⟨gf, 3, none⟩ (.slice (some ⟨q2, 0, none⟩) 12 c2)) gf (gf + 1) { (⟨6, 0, [], [], 0, [], [], 0, 0, [], []⟩ : FrD) with sn := l2 } { (⟨⟨none, 0, 0⟩, ⟨none, 0, 0⟩, ⟨none, 0, 0⟩, ⟨none, 0, 0⟩, ⟨none, 0, 0⟩, ⟨none, 0, 0⟩⟩ : FrS) with sn := ⟨some ⟨q2, 0, none⟩, 12, c2⟩ }) := FrMk.sn2 BL2 OW2 (Nat.lt_succ_self _) M1.out.blk.lt w2 el2 hb2 kq2
  clear r2 b2 el2 hb2 kq2 w2 BL2 OW2
  obtain ⟨x2, hx2⟩ : ∃ x2, y2.setCell ⟨gf, 3, none⟩ (.slice (some ⟨q2, 0, none⟩) 12 c2) = x2 := ⟨_, rfl⟩
  have HW2 := hid (hx2)
  have M2 : Hid (FrMk x2 gf (gf + 1) { (⟨6, 0, [], [], 0, [], [], 0, 0, [], []⟩ : FrD) with sn := l2 } { (⟨⟨none, 0, 0⟩, ⟨none, 0, 0⟩, ⟨none, 0, 0⟩, ⟨none, 0, 0⟩, ⟨none, 0, 0⟩, ⟨none, 0, 0⟩⟩ : FrS) with sn := ⟨some ⟨q2, 0, none⟩, 12, c2⟩ }) := by rw [← hx2]; exact MN2.out
  have KR2 : Hid (Blk x2 gr 25 [.int .i64 0, .int .i64 0, .slice none 0 0, .slice none 0 0, .int .i64 0, .slice none 0 0, .slice none 0 0, .int .i64 0, .int .i64 0, .slice none 0 0, .slice none 0 0]) := by rw [← hx2]; exact KR2.out.other (by show gr ≠ gf; have := HG.out; omega) _
  have B2 : Hid (But p w x2) := by rw [← hx2]; exact But_setCell BU2.out _ _ (by show w.heap.size ≤ gf; have := HG.out; omega)
  have R2 : Hid (Ready W0 a len cap l p x2) := by rw [← hx2]; exact Ready_setCell RY2.out _ _ (by show gf ≠ p; have := HG.out; omega) (by show W0.heap.size ≤ gf; have := HG.out; omega)
  clear hx2 KP2 BU2 RY2
  go_upto_region 4 with fail
  rw [HW2.out]
  clear co fo HW2 M1 KR1 B1 R1
  clear MN2
  obtain ⟨xi3, hxi3⟩ : ∃ xi3, x2.alloc (.cells #[.int .i64 0, .int .i64 1, .int .i64 2, .int .i64 4294967295] 3) = xi3 := ⟨_, rfl⟩
  have HI3 := hid (hxi3)
  have RI3 : Hid (Ready W0 a len cap l p xi3) := by rw [← hxi3]; exact R2.out.alloc _
  have BI3 : Hid (But p x2 xi3) := by rw [← hxi3]; exact (But.refl p x2).alloc _
  have LI3 : Hid (IntsAt xi3 x2.heap.size [0, 1, 2, 4294967295]) := by rw [← hxi3]; exact ints_new x2 [0, 1, 2, 4294967295]
  have NI3 : Hid (x2.heap.size ≠ p) := by have := R2.out.hc.lt; show _ ≠ _; omega
  clear hxi3
  go_wp2_with fail
  rw [HI3.out]
  clear HI3
  refine (intOfList RI3.out x2.heap.size 4 [0, 1, 2, 4294967295] rfl LI3.out NI3.out (by omega) (by omega)).mono ?_
  rintro e y3 ⟨v3, rfl, vm3, r3, b3⟩
  have VM3 : Hid (v3 ∈ ([0, 1, 2, 4294967295] : List Int)) := vm3
  have RY3 := hid (r3)
  have by3 : But p x2 y3 := BI3.out.trans b3
  have KP3 : Hid (Kept p (p + 1) x2 y3) := Kept.of_grown by3
  have BU3 := hid (B2.out.trans by3)
  have KR3 := hid (KR2.out.keep (KP3.out.block gr KR2.out.lt (by have := HG.out; omega)))
  have MY3 : Hid (FrMk y3 gf (gf + 1) { (⟨6, 0, [], [], 0, [], [], 0, 0, [], []⟩ : FrD) with sn := l2 } { (⟨⟨none, 0, 0⟩, ⟨none, 0, 0⟩, ⟨none, 0, 0⟩, ⟨none, 0, 0⟩, ⟨none, 0, 0⟩, ⟨none, 0, 0⟩⟩ : FrS) with sn := ⟨some ⟨q2, 0, none⟩, 12, c2⟩ }) := FrMk.kept M2.out KP3.out (by have := HG.out; omega) (by have := HG.out; omega)
  clear r3 b3 by3 RI3 BI3 LI3 NI3 vm3
  have co : y3.cell? ⟨gf, 7, none⟩ = some (.int .i64 0) := MY3.out.blk.cell 7 rfl
  have fo := MY3.out.blk.frozen 7
  obtain ⟨x3, hx3⟩ : ∃ x3, y3.setCell ⟨gf, 7, none⟩ (.int .i64 v3) = x3 := ⟨_, rfl⟩
  have HW3 := hid (hx3)
  have M3 : Hid (FrMk x3 gf (gf + 1) { ({ (⟨6, 0, [], [], 0, [], [], 0, 0, [], []⟩ : FrD) with sn := l2 } : FrD) with epoch := v3 } { (⟨⟨none, 0, 0⟩, ⟨none, 0, 0⟩, ⟨none, 0, 0⟩, ⟨none, 0, 0⟩, ⟨none, 0, 0⟩, ⟨none, 0, 0⟩⟩ : FrS) with sn := ⟨some ⟨q2, 0, none⟩, 12, c2⟩ }) := by rw [← hx3]; exact MY3.out.epoch _
  have KR3 : Hid (Blk x3 gr 25 [.int .i64 0, .int .i64 0, .slice none 0 0, .slice none 0 0, .int .i64 0, .slice none 0 0, .slice none 0 0, .int .i64 0, .int .i64 0, .slice none 0 0, .slice none 0 0]) := by rw [← hx3]; exact KR3.out.other (by show gr ≠ gf; have := HG.out; omega) _
  have B3 : Hid (But p w x3) := by rw [← hx3]; exact But_setCell BU3.out _ _ (by show w.heap.size ≤ gf; have := HG.out; omega)
  have R3 : Hid (Ready W0 a len cap l p x3) := by rw [← hx3]; exact Ready_setCell RY3.out _ _ (by show gf ≠ p; have := HG.out; omega) (by show W0.heap.size ≤ gf; have := HG.out; omega)
  clear hx3 KP3 BU3 RY3
  go_upto_region 5 with fail
  rw [HW3.out]
  clear co fo HW3 M2 KR2 B2 R2
  clear MY3
  obtain ⟨xi4, hxi4⟩ : ∃ xi4, x3.alloc (.cells #[.int .i64 0, .int .i64 1, .int .i64 70000, .int .i64 281474976710655] 3) = xi4 := ⟨_, rfl⟩
  have HI4 := hid (hxi4)
  have RI4 : Hid (Ready W0 a len cap l p xi4) := by rw [← hxi4]; exact R3.out.alloc _
  have BI4 : Hid (But p x3 xi4) := by rw [← hxi4]; exact (But.refl p x3).alloc _
  have LI4 : Hid (IntsAt xi4 x3.heap.size [0, 1, 70000, 281474976710655]) := by rw [← hxi4]; exact ints_new x3 [0, 1, 70000, 281474976710655]
  have NI4 : Hid (x3.heap.size ≠ p) := by have := R3.out.hc.lt; show _ ≠ _; omega
  clear hxi4
  go_wp2_with fail
  rw [HI4.out]
  clear HI4
  refine (intOfList RI4.out x3.heap.size 4 [0, 1, 70000, 281474976710655] rfl LI4.out NI4.out (by omega) (by omega)).mono ?_
  rintro e y4 ⟨v4, rfl, vm4, r4, b4⟩
  have VM4 : Hid (v4 ∈ ([0, 1, 70000, 281474976710655] : List Int)) := vm4
  have RY4 := hid (r4)
  have by4 : But p x3 y4 := BI4.out.trans b4
  have KP4 : Hid (Kept p (p + 1) x3 y4) := Kept.of_grown by4
  have BU4 := hid (B3.out.trans by4)
  have KR4 := hid (KR3.out.keep (KP4.out.block gr KR3.out.lt (by have := HG.out; omega)))
  have MY4 : Hid (FrMk y4 gf (gf + 1) { ({ (⟨6, 0, [], [], 0, [], [], 0, 0, [], []⟩ : FrD) with sn := l2 } : FrD) with epoch := v3 } { (⟨⟨none, 0, 0⟩, ⟨none, 0, 0⟩, ⟨none, 0, 0⟩, ⟨none, 0, 0⟩, ⟨none, 0, 0⟩, ⟨none, 0, 0⟩⟩ : FrS) with sn := ⟨some ⟨q2, 0, none⟩, 12, c2⟩ }) := FrMk.kept M3.out KP4.out (by have := HG.out; omega) (by have := HG.out; omega)
  clear r4 b4 by4 RI4 BI4 LI4 NI4 vm4
  have co : y4.cell? ⟨gf, 8, none⟩ = some (.int .i64 0) := MY4.out.blk.cell 8 rfl
  have fo := MY4.out.blk.frozen 8
  obtain ⟨x4, hx4⟩ : ∃ x4, y4.setCell ⟨gf, 8, none⟩ (.int .i64 v4) = x4 := ⟨_, rfl⟩
  have HW4 := hid (hx4)
  have M4 : Hid (FrMk x4 gf (gf + 1) { ({ ({ (⟨6, 0, [], [], 0, [], [], 0, 0, [], []⟩ : FrD) with sn := l2 } : FrD) with epoch := v3 } : FrD) with seq := v4 } { (⟨⟨none, 0, 0⟩, ⟨none, 0, 0⟩, ⟨none, 0, 0⟩, ⟨none, 0, 0⟩, ⟨none, 0, 0⟩, ⟨none, 0, 0⟩⟩ : FrS) with sn := ⟨some ⟨q2, 0, none⟩, 12, c2⟩ }) := by rw [← hx4]; exact MY4.out.seq _
  have KR4 : Hid (Blk x4 gr 25 [.int .i64 0, .int .i64 0, .slice none 0 0, .slice none 0 0, .int .i64 0, .slice none 0 0, .slice none 0 0, .int .i64 0, .int .i64 0, .slice none 0 0, .slice none 0 0]) := by rw [← hx4]; exact KR4.out.other (by show gr ≠ gf; have := HG.out; omega) _
  have B4 : Hid (But p w x4) := by rw [← hx4]; exact But_setCell BU4.out _ _ (by show w.heap.size ≤ gf; have := HG.out; omega)
  have R4 : Hid (Ready W0 a len cap l p x4) := by rw [← hx4]; exact Ready_setCell RY4.out _ _ (by show gf ≠ p; have := HG.out; omega) (by show W0.heap.size ≤ gf; have := HG.out; omega)
  clear hx4 KP4 BU4 RY4
  go_upto_region 6 with fail
  rw [HW4.out]
  clear co fo HW4 M3 KR3 B3 R3
  clear MY4
  go_wp2_with fail
  refine (bytesOf R4.out 16 (by omega)).mono ?_
  rintro e y5 ⟨q5, c5, l5, rfl, el5, hb5, kq5, w5, r5, b5⟩
  have EL5 : Hid (16 = l5.length) := el5
  have RY5 := hid (r5)
  have KP5 : Hid (Kept p (p + 1) x4 y5) := Kept.of_grown b5
  have BU5 := hid (B4.out.trans b5)
  have KR5 := hid (KR4.out.keep (KP5.out.block gr KR4.out.lt (by have := HG.out; omega)))
  have BL5 : Blk y5 gf 25 _ := M4.out.blk.keep (KP5.out.block gf M4.out.blk.lt (by have := HG.out; omega))
  have OW5 : FrOwn y5 (gf + 1) x4.heap.size _ _ := M4.out.own.carry KP5.out (.inr (by have := HG.out; omega))
  have co : y5.cell? ⟨gf, 10, none⟩ = some (.slice none 0 0) := BL5.cell 10 rfl
  have fo := BL5.frozen 10
  have MN5 : Hid (FrMk (y5.setCell ⟨gf, 10, none⟩ (.slice (some ⟨q5, 0, none⟩) 16 c5)) gf (gf + 1) { ({ ({ ({ (⟨6, 0, [], [], 0, [], [], 0, 0, [], []⟩ : FrD) with sn := l2 } : FrD) with epoch := v3 } : FrD) with seq := v4 } : FrD) with tag := l5 } { ({ (⟨⟨none, 0, 0⟩, ⟨none, 0, 0⟩, ⟨none, 0, 0⟩, ⟨none, 0, 0⟩, ⟨none, 0, 0⟩, ⟨none, 0, 0⟩⟩ : FrS) with sn := ⟨some ⟨q2, 0, none⟩, 12, c2⟩ } : FrS) with tag := ⟨some ⟨q5, 0, none⟩, 16, c5⟩ }) := FrMk.tag2 BL5 OW5 (Nat.lt_succ_self _) M4.out.blk.lt w5 el5 hb5 kq5
  clear r5 b5 el5 hb5 kq5 w5 BL5 OW5
  obtain ⟨x5, hx5⟩ : ∃ x5, y5.setCell ⟨gf, 10, none⟩ (.slice (some ⟨q5, 0, none⟩) 16 c5) = x5 := ⟨_, rfl⟩
  have HW5 := hid (hx5)
  have M5 : Hid (FrMk x5 gf (gf + 1) { ({ ({ ({ (⟨6, 0, [], [], 0, [], [], 0, 0, [], []⟩ : FrD) with sn := l2 } : FrD) with epoch := v3 } : FrD) with seq := v4 } : FrD) with tag := l5 } { ({ (⟨⟨none, 0, 0⟩, ⟨none, 0, 0⟩, ⟨none, 0, 0⟩, ⟨none, 0, 0⟩, ⟨none, 0, 0⟩, ⟨none, 0, 0⟩⟩ : FrS) with sn := ⟨some ⟨q2, 0, none⟩, 12, c2⟩ } : FrS) with tag := ⟨some ⟨q5, 0, none⟩, 16, c5⟩ }) := by rw [← hx5]; exact MN5.out
  have KR5 : Hid (Blk x5 gr 25 [.int .i64 0, .int .i64 0, .slice none 0 0, .slice none 0 0, .int .i64 0, .slice none 0 0, .slice none 0 0, .int .i64 0, .int .i64 0, .slice none 0 0, .slice none 0 0]) := by rw [← hx5]; exact KR5.out.other (by show gr ≠ gf; have := HG.out; omega) _
  have B5 : Hid (But p w x5) := by rw [← hx5]; exact But_setCell BU5.out _ _ (by show w.heap.size ≤ gf; have := HG.out; omega)
  have R5 : Hid (Ready W0 a len cap l p x5) := by rw [← hx5]; exact Ready_setCell RY5.out _ _ (by show gf ≠ p; have := HG.out; omega) (by show W0.heap.size ≤ gf; have := HG.out; omega)
  clear hx5 KP5 BU5 RY5
  go_upto_region 7 with fail
  rw [HW5.out]
  clear co fo HW5 M4 KR4 B4 R4
  clear MN5
  obtain ⟨xi6, hxi6⟩ : ∃ xi6, x5.alloc (.cells #[.int .i64 0, .int .i64 1, .int .i64 12, .int .i64 40] 3) = xi6 := ⟨_, rfl⟩
  have HI6 := hid (hxi6)
  have RI6 : Hid (Ready W0 a len cap l p xi6) := by rw [← hxi6]; exact R5.out.alloc _
  have BI6 : Hid (But p x5 xi6) := by rw [← hxi6]; exact (But.refl p x5).alloc _
  have LI6 : Hid (IntsAt xi6 x5.heap.size [0, 1, 12, 40]) := by rw [← hxi6]; exact ints_new x5 [0, 1, 12, 40]
  have NI6 : Hid (x5.heap.size ≠ p) := by have := R5.out.hc.lt; show _ ≠ _; omega
  clear hxi6
  go_wp2_with fail
  rw [HI6.out]
  clear HI6
  refine (intOfList RI6.out x5.heap.size 4 [0, 1, 12, 40] rfl LI6.out NI6.out (by omega) (by omega)).mono ?_
  rintro e y6 ⟨v6, rfl, vm6, r6, b6⟩
  have VM6 : Hid (v6 ∈ ([0, 1, 12, 40] : List Int)) := vm6
  have RY6 := hid (r6)
  have by6 : But p x5 y6 := BI6.out.trans b6
  have KP6 : Hid (Kept p (p + 1) x5 y6) := Kept.of_grown by6
  have BU6 := hid (B5.out.trans by6)
  have KR6 := hid (KR5.out.keep (KP6.out.block gr KR5.out.lt (by have := HG.out; omega)))
  have MY6 : Hid (FrMk y6 gf (gf + 1) { ({ ({ ({ (⟨6, 0, [], [], 0, [], [], 0, 0, [], []⟩ : FrD) with sn := l2 } : FrD) with epoch := v3 } : FrD) with seq := v4 } : FrD) with tag := l5 } { ({ (⟨⟨none, 0, 0⟩, ⟨none, 0, 0⟩, ⟨none, 0, 0⟩, ⟨none, 0, 0⟩, ⟨none, 0, 0⟩, ⟨none, 0, 0⟩⟩ : FrS) with sn := ⟨some ⟨q2, 0, none⟩, 12, c2⟩ } : FrS) with tag := ⟨some ⟨q5, 0, none⟩, 16, c5⟩ }) := FrMk.kept M5.out KP6.out (by have := HG.out; omega) (by have := HG.out; omega)
  clear r6 b6 by6 RI6 BI6 LI6 NI6 vm6
  have kc : y6.cell? ⟨gf, 0, none⟩ = some (.int .i64 6) := MY6.out.blk.cell 0 rfl
  obtain ⟨x6, hx6⟩ : ∃ x6, x6 = y6 := ⟨_, rfl⟩
  rw [← hx6] at kc MY6 KR6 BU6 RY6 ⊢
  have M6 : Hid (FrMk x6 gf (gf + 1) { ({ ({ ({ (⟨6, 0, [], [], 0, [], [], 0, 0, [], []⟩ : FrD) with sn := l2 } : FrD) with epoch := v3 } : FrD) with seq := v4 } : FrD) with tag := l5 } { ({ (⟨⟨none, 0, 0⟩, ⟨none, 0, 0⟩, ⟨none, 0, 0⟩, ⟨none, 0, 0⟩, ⟨none, 0, 0⟩, ⟨none, 0, 0⟩⟩ : FrS) with sn := ⟨some ⟨q2, 0, none⟩, 12, c2⟩ } : FrS) with tag := ⟨some ⟨q5, 0, none⟩, 16, c5⟩ }) := MY6.out
  have B6 := hid (BU6.out)
  have R6 := hid (RY6.out)
  clear hx6 KP6 MY6 BU6 RY6 M5 KR5 B5 R5
  go_upto_region 12 with fail
  clear kc
  go_wp2_with fail
  refine (bytesOf R6.out 12 (by omega)).mono ?_
  rintro e y7 ⟨q7, c7, l7, rfl, el7, hb7, kq7, w7, r7, b7⟩
  have EL7 : Hid (12 = l7.length) := el7
  have RY7 := hid (r7)
  have KP7 : Hid (Kept p (p + 1) x6 y7) := Kept.of_grown b7
  have BU7 := hid (B6.out.trans b7)
  have KR7 := hid (KR6.out.keep (KP7.out.block gr KR6.out.lt (by have := HG.out; omega)))
  have BL7 : Blk y7 gf 25 _ := M6.out.blk.keep (KP7.out.block gf M6.out.blk.lt (by have := HG.out; omega))
  have OW7 : FrOwn y7 (gf + 1) x6.heap.size _ _ := M6.out.own.carry KP7.out (.inr (by have := HG.out; omega))
  have co : y7.cell? ⟨gf, 9, none⟩ = some (.slice none 0 0) := BL7.cell 9 rfl
  have fo := BL7.frozen 9
  have MN7 : Hid (FrMk (y7.setCell ⟨gf, 9, none⟩ (.slice (some ⟨q7, 0, none⟩) 12 c7)) gf (gf + 1) { ({ ({ ({ ({ (⟨6, 0, [], [], 0, [], [], 0, 0, [], []⟩ : FrD) with sn := l2 } : FrD) with epoch := v3 } : FrD) with seq := v4 } : FrD) with tag := l5 } : FrD) with body := l7 } { ({ ({ (⟨⟨none, 0, 0⟩, ⟨none, 0, 0⟩, ⟨none, 0, 0⟩, ⟨none, 0, 0⟩, ⟨none, 0, 0⟩, ⟨none, 0, 0⟩⟩ : FrS) with sn := ⟨some ⟨q2, 0, none⟩, 12, c2⟩ } : FrS) with tag := ⟨some ⟨q5, 0, none⟩, 16, c5⟩ } : FrS) with body := ⟨some ⟨q7, 0, none⟩, 12, c7⟩ }) := FrMk.body2 BL7 OW7 (Nat.lt_succ_self _) M6.out.blk.lt w7 el7 hb7 kq7
  clear r7 b7 el7 hb7 kq7 w7 BL7 OW7
  obtain ⟨x7, hx7⟩ : ∃ x7, y7.setCell ⟨gf, 9, none⟩ (.slice (some ⟨q7, 0, none⟩) 12 c7) = x7 := ⟨_, rfl⟩
  have HW7 := hid (hx7)
  have M7 : Hid (FrMk x7 gf (gf + 1) { ({ ({ ({ ({ (⟨6, 0, [], [], 0, [], [], 0, 0, [], []⟩ : FrD) with sn := l2 } : FrD) with epoch := v3 } : FrD) with seq := v4 } : FrD) with tag := l5 } : FrD) with body := l7 } { ({ ({ (⟨⟨none, 0, 0⟩, ⟨none, 0, 0⟩, ⟨none, 0, 0⟩, ⟨none, 0, 0⟩, ⟨none, 0, 0⟩, ⟨none, 0, 0⟩⟩ : FrS) with sn := ⟨some ⟨q2, 0, none⟩, 12, c2⟩ } : FrS) with tag := ⟨some ⟨q5, 0, none⟩, 16, c5⟩ } : FrS) with body := ⟨some ⟨q7, 0, none⟩, 12, c7⟩ }) := by rw [← hx7]; exact MN7.out
  have KR7 : Hid (Blk x7 gr 25 [.int .i64 0, .int .i64 0, .slice none 0 0, .slice none 0 0, .int .i64 0, .slice none 0 0, .slice none 0 0, .int .i64 0, .int .i64 0, .slice none 0 0, .slice none 0 0]) := by rw [← hx7]; exact KR7.out.other (by show gr ≠ gf; have := HG.out; omega) _
  have B7 : Hid (But p w x7) := by rw [← hx7]; exact But_setCell BU7.out _ _ (by show w.heap.size ≤ gf; have := HG.out; omega)
  have R7 : Hid (Ready W0 a len cap l p x7) := by rw [← hx7]; exact Ready_setCell RY7.out _ _ (by show gf ≠ p; have := HG.out; omega) (by show W0.heap.size ≤ gf; have := HG.out; omega)
  clear hx7 KP7 BU7 RY7
  go_upto_region 25 with fail
  rw [HW7.out]
  clear co fo HW7 M6 KR6 B6 R6
  clear MN7
  have OK : Hid (frameOk { ({ ({ ({ ({ (⟨6, 0, [], [], 0, [], [], 0, 0, [], []⟩ : FrD) with sn := l2 } : FrD) with epoch := v3 } : FrD) with seq := v4 } : FrD) with tag := l5 } : FrD) with body := l7 } = true) := by show frameOk _ = true; have he := VM3.out; have hs := VM4.out; simp only [List.mem_cons, List.mem_nil_iff, or_false] at he hs; have hb : bodyOk 6 (l7.length : Int) = true := (by rw [← EL7.out]; rfl); rw [ok_iff]; refine .inl ⟨?_, ?_, rfl, rfl, EL2.out.symm, rfl, rfl, rfl, ?_, ?_, ?_, ?_, hb, EL5.out.symm⟩ <;> (simp only; omega)
  obtain ⟨SS, hSS⟩ : ∃ SS : FrS, { ({ ({ (⟨⟨none, 0, 0⟩, ⟨none, 0, 0⟩, ⟨none, 0, 0⟩, ⟨none, 0, 0⟩, ⟨none, 0, 0⟩, ⟨none, 0, 0⟩⟩ : FrS) with sn := ⟨some ⟨q2, 0, none⟩, 12, c2⟩ } : FrS) with tag := ⟨some ⟨q5, 0, none⟩, 16, c5⟩ } : FrS) with body := ⟨some ⟨q7, 0, none⟩, 12, c7⟩ } = SS := ⟨_, rfl⟩
  obtain ⟨DD, hDD⟩ : ∃ DD : FrD, { ({ ({ ({ ({ (⟨6, 0, [], [], 0, [], [], 0, 0, [], []⟩ : FrD) with sn := l2 } : FrD) with epoch := v3 } : FrD) with seq := v4 } : FrD) with tag := l5 } : FrD) with body := l7 } = DD := ⟨_, rfl⟩
  have MD : Hid (FrMk x7 gf (gf + 1) DD SS) := by rw [← hSS, ← hDD]; exact M7.out
  rw [hDD] at OK
  clear hSS hDD M7
  have zc0 := KR7.out.cell 0 rfl
  have zf0 := KR7.out.frozen 0
  have zo0 : x7.cell? ⟨gf, 0, none⟩ = some (.int .i64 DD.kind) := MD.out.blk.cell 0 rfl
  have zc1 := KR7.out.cell 1 rfl
  have zf1 := KR7.out.frozen 1
  have zo1 : x7.cell? ⟨gf, 1, none⟩ = some (.int .i64 DD.id) := MD.out.blk.cell 1 rfl
  have zc2 := KR7.out.cell 2 rfl
  have zf2 := KR7.out.frozen 2
  have zo2 : x7.cell? ⟨gf, 2, none⟩ = some (.slice SS.cn.a SS.cn.n SS.cn.c) := MD.out.blk.cell 2 rfl
  have zc3 := KR7.out.cell 3 rfl
  have zf3 := KR7.out.frozen 3
  have zo3 : x7.cell? ⟨gf, 3, none⟩ = some (.slice SS.sn.a SS.sn.n SS.sn.c) := MD.out.blk.cell 3 rfl
  have zc4 := KR7.out.cell 4 rfl
  have zf4 := KR7.out.frozen 4
  have zo4 : x7.cell? ⟨gf, 4, none⟩ = some (.int .i64 DD.tick) := MD.out.blk.cell 4 rfl
  have zc5 := KR7.out.cell 5 rfl
  have zf5 := KR7.out.frozen 5
  have zo5 : x7.cell? ⟨gf, 5, none⟩ = some (.slice SS.cookie.a SS.cookie.n SS.cookie.c) := MD.out.blk.cell 5 rfl
  have zc6 := KR7.out.cell 6 rfl
  have zf6 := KR7.out.frozen 6
  have zo6 : x7.cell? ⟨gf, 6, none⟩ = some (.slice SS.proof.a SS.proof.n SS.proof.c) := MD.out.blk.cell 6 rfl
  have zc7 := KR7.out.cell 7 rfl
  have zf7 := KR7.out.frozen 7
  have zo7 : x7.cell? ⟨gf, 7, none⟩ = some (.int .i64 DD.epoch) := MD.out.blk.cell 7 rfl
  have zc8 := KR7.out.cell 8 rfl
  have zf8 := KR7.out.frozen 8
  have zo8 : x7.cell? ⟨gf, 8, none⟩ = some (.int .i64 DD.seq) := MD.out.blk.cell 8 rfl
  have zc9 := KR7.out.cell 9 rfl
  have zf9 := KR7.out.frozen 9
  have zo9 : x7.cell? ⟨gf, 9, none⟩ = some (.slice SS.body.a SS.body.n SS.body.c) := MD.out.blk.cell 9 rfl
  have zc10 := KR7.out.cell 10 rfl
  have zf10 := KR7.out.frozen 10
  have zo10 : x7.cell? ⟨gf, 10, none⟩ = some (.slice SS.tag.a SS.tag.n SS.tag.c) := MD.out.blk.cell 10 rfl
  have ne1 : gr ≠ gf := by have := HG.out; omega
  have ne2 : gf ≠ gr := by have := HG.out; omega
  go_wp2
  have KF : Blk ((((((((((((x7).setCell ⟨gr, 0, none⟩ (.int .i64 DD.kind)).setCell ⟨gr, 1, none⟩ (.int .i64 DD.id)).setCell ⟨gr, 2, none⟩ (.slice SS.cn.a SS.cn.n SS.cn.c)).setCell ⟨gr, 3, none⟩ (.slice SS.sn.a SS.sn.n SS.sn.c)).setCell ⟨gr, 4, none⟩ (.int .i64 DD.tick)).setCell ⟨gr, 5, none⟩ (.slice SS.cookie.a SS.cookie.n SS.cookie.c)).setCell ⟨gr, 6, none⟩ (.slice SS.proof.a SS.proof.n SS.proof.c)).setCell ⟨gr, 7, none⟩ (.int .i64 DD.epoch)).setCell ⟨gr, 8, none⟩ (.int .i64 DD.seq)).setCell ⟨gr, 9, none⟩ (.slice SS.body.a SS.body.n SS.body.c)).setCell ⟨gr, 10, none⟩ (.slice SS.tag.a SS.tag.n SS.tag.c)) gr 25 [.int .i64 DD.kind, .int .i64 DD.id, .slice SS.cn.a SS.cn.n SS.cn.c, .slice SS.sn.a SS.sn.n SS.sn.c, .int .i64 DD.tick, .slice SS.cookie.a SS.cookie.n SS.cookie.c, .slice SS.proof.a SS.proof.n SS.proof.c, .int .i64 DD.epoch, .int .i64 DD.seq, .slice SS.body.a SS.body.n SS.body.c, .slice SS.tag.a SS.tag.n SS.tag.c] := (((((((((((KR7.out).set 0 _ (by simp [maxLen])).set 1 _ (by simp [maxLen])).set 2 _ (by simp [maxLen])).set 3 _ (by simp [maxLen])).set 4 _ (by simp [maxLen])).set 5 _ (by simp [maxLen])).set 6 _ (by simp [maxLen])).set 7 _ (by simp [maxLen])).set 8 _ (by simp [maxLen])).set 9 _ (by simp [maxLen])).set 10 _ (by simp [maxLen])
  have KK : Kept gr (gr + 1) x7 ((((((((((((x7).setCell ⟨gr, 0, none⟩ (.int .i64 DD.kind)).setCell ⟨gr, 1, none⟩ (.int .i64 DD.id)).setCell ⟨gr, 2, none⟩ (.slice SS.cn.a SS.cn.n SS.cn.c)).setCell ⟨gr, 3, none⟩ (.slice SS.sn.a SS.sn.n SS.sn.c)).setCell ⟨gr, 4, none⟩ (.int .i64 DD.tick)).setCell ⟨gr, 5, none⟩ (.slice SS.cookie.a SS.cookie.n SS.cookie.c)).setCell ⟨gr, 6, none⟩ (.slice SS.proof.a SS.proof.n SS.proof.c)).setCell ⟨gr, 7, none⟩ (.int .i64 DD.epoch)).setCell ⟨gr, 8, none⟩ (.int .i64 DD.seq)).setCell ⟨gr, 9, none⟩ (.slice SS.body.a SS.body.n SS.body.c)).setCell ⟨gr, 10, none⟩ (.slice SS.tag.a SS.tag.n SS.tag.c)) := ((((((((((((Kept.refl gr (gr + 1) x7)).trans (Kept.setCell _ gr 0 _)).trans (Kept.setCell _ gr 1 _)).trans (Kept.setCell _ gr 2 _)).trans (Kept.setCell _ gr 3 _)).trans (Kept.setCell _ gr 4 _)).trans (Kept.setCell _ gr 5 _)).trans (Kept.setCell _ gr 6 _)).trans (Kept.setCell _ gr 7 _)).trans (Kept.setCell _ gr 8 _)).trans (Kept.setCell _ gr 9 _)).trans (Kept.setCell _ gr 10 _)
  exact ret_drew rfl rfl KF rfl (D := DD) (S := SS) OK.out ((MD.out.own.carry KK (.inr (by have := HG.out; omega))).mono (by have := HG.out; omega) KK.size) (Ready_setCell (Ready_setCell (Ready_setCell (Ready_setCell (Ready_setCell (Ready_setCell (Ready_setCell (Ready_setCell (Ready_setCell (Ready_setCell (Ready_setCell (R7.out) _ _ (by show gr ≠ p; have := HG.out; omega) (by show W0.heap.size ≤ gr; have := HG.out; omega)) _ _ (by show gr ≠ p; have := HG.out; omega) (by show W0.heap.size ≤ gr; have := HG.out; omega)) _ _ (by show gr ≠ p; have := HG.out; omega) (by show W0.heap.size ≤ gr; have := HG.out; omega)) _ _ (by show gr ≠ p; have := HG.out; omega) (by show W0.heap.size ≤ gr; have := HG.out; omega)) _ _ (by show gr ≠ p; have := HG.out; omega) (by show W0.heap.size ≤ gr; have := HG.out; omega)) _ _ (by show gr ≠ p; have := HG.out; omega) (by show W0.heap.size ≤ gr; have := HG.out; omega)) _ _ (by show gr ≠ p; have := HG.out; omega) (by show W0.heap.size ≤ gr; have := HG.out; omega)) _ _ (by show gr ≠ p; have := HG.out; omega) (by show W0.heap.size ≤ gr; have := HG.out; omega)) _ _ (by show gr ≠ p; have := HG.out; omega) (by show W0.heap.size ≤ gr; have := HG.out; omega)) _ _ (by show gr ≠ p; have := HG.out; omega) (by show W0.heap.size ≤ gr; have := HG.out; omega)) _ _ (by show gr ≠ p; have := HG.out; omega) (by show W0.heap.size ≤ gr; have := HG.out; omega)) (But_setCell (But_setCell (But_setCell (But_setCell (But_setCell (But_setCell (But_setCell (But_setCell (But_setCell (But_setCell (But_setCell (B7.out) _ _ (by show w.heap.size ≤ gr; have := HG.out; omega)) _ _ (by show w.heap.size ≤ gr; have := HG.out; omega)) _ _ (by show w.heap.size ≤ gr; have := HG.out; omega)) _ _ (by show w.heap.size ≤ gr; have := HG.out; omega)) _ _ (by show w.heap.size ≤ gr; have := HG.out; omega)) _ _ (by show w.heap.size ≤ gr; have := HG.out; omega)) _ _ (by show w.heap.size ≤ gr; have := HG.out; omega)) _ _ (by show w.heap.size ≤ gr; have := HG.out; omega)) _ _ (by show w.heap.size ≤ gr; have := HG.out; omega)) _ _ (by show w.heap.size ≤ gr; have := HG.out; omega)) _ _ (by show w.heap.size ≤ gr; have := HG.out; omega))
 ·
  obtain ⟨x1, hx1⟩ : ∃ x1, y0.alloc (.cells #[.int .i64 7, .int .i64 0, .slice none 0 0, .slice none 0 0, .int .i64 0, .slice none 0 0, .slice none 0 0, .int .i64 0, .int .i64 0, .slice none 0 0, .slice none 0 0] 25) = x1 := ⟨_, rfl⟩
  have HW1 := hid (hx1)
  have KB : Blk x1 y0.heap.size 25 [.int .i64 7, .int .i64 0, .slice none 0 0, .slice none 0 0, .int .i64 0, .slice none 0 0, .slice none 0 0, .int .i64 0, .int .i64 0, .slice none 0 0, .slice none 0 0] := by rw [← hx1]; exact Blk.new y0 _ [.int .i64 7, .int .i64 0, .slice none 0 0, .slice none 0 0, .int .i64 0, .slice none 0 0, .slice none 0 0, .int .i64 0, .int .i64 0, .slice none 0 0, .slice none 0 0]
  have M1 : Hid (FrMk x1 y0.heap.size (y0.heap.size + 1) ⟨7, 0, [], [], 0, [], [], 0, 0, [], []⟩ ⟨⟨none, 0, 0⟩, ⟨none, 0, 0⟩, ⟨none, 0, 0⟩, ⟨none, 0, 0⟩, ⟨none, 0, 0⟩, ⟨none, 0, 0⟩⟩) := ⟨KB, own_none _ _ _ _, Nat.lt_succ_self _⟩
  have R1 : Hid (Ready W0 a len cap l p x1) := by rw [← hx1]; exact RY.out.alloc _
  have B1 : Hid (But p w x1) := by rw [← hx1]; exact BY.out.alloc _
  have KR1 : Hid (Blk x1 gr 25 [.int .i64 0, .int .i64 0, .slice none 0 0, .slice none 0 0, .int .i64 0, .slice none 0 0, .slice none 0 0, .int .i64 0, .int .i64 0, .slice none 0 0, .slice none 0 0]) := by rw [← hx1]; exact KRY.out.alloc _
  have LG : Hid (gr < y0.heap.size) := KRY.out.lt
  clear hx1 KB
  go_upto_region 2 with fail
  rw [HW1.out]
  obtain ⟨gf, hgf⟩ : ∃ gf, y0.heap.size = gf := ⟨_, rfl⟩
  rw [hgf] at M1 LG ⊢
  clear HW1 hgf RY BY KRY
  have HG : Hid (w.heap.size = gr ∧ p < gr ∧ W0.heap.size ≤ gr ∧ gr < gf) := ⟨HG0.out.1, HG0.out.2.1, HG0.out.2.2, LG.out⟩
  clear LG HG0
  have kc : x1.cell? ⟨gf, 0, none⟩ = some (.int .i64 7) := M1.out.blk.cell 0 rfl
  go_upto_region 3 with fail
  clear kc
  go_wp2_with fail
  refine (bytesOf R1.out 12 (by omega)).mono ?_
  rintro e y2 ⟨q2, c2, l2, rfl, el2, hb2, kq2, w2, r2, b2⟩
  have EL2 : Hid (12 = l2.length) := el2
  have RY2 := hid (r2)
  have KP2 : Hid (Kept p (p + 1) x1 y2) := Kept.of_grown b2
  have BU2 := hid (B1.out.trans b2)
  have KR2 := hid (KR1.out.keep (KP2.out.block gr KR1.out.lt (by have := HG.out; omega)))
  have BL2 : Blk y2 gf 25 _ := M1.out.blk.keep (KP2.out.block gf M1.out.blk.lt (by have := HG.out; omega))
  have OW2 : FrOwn y2 (gf + 1) x1.heap.size _ _ := M1.out.own.carry KP2.out (.inr (by have := HG.out; omega))
  have co : y2.cell? ⟨gf, 3, none⟩ = some (.slice none 0 0) := BL2.cell 3 rfl
  have fo := BL2.frozen 3
  have MN2 : Hid (FrMk (y2.setCell ⟨gf, 3, none⟩ (.slice (some ⟨q2, 0, none⟩) 12 c2)) gf (gf + 1) { (⟨7, 0, [], [], 0, [], [], 0, 0, [], []⟩ : FrD) with sn := l2 } { (⟨⟨none, 0, 0⟩, ⟨none, 0, 0⟩, ⟨none, 0, 0⟩, ⟨none, 0, 0⟩, ⟨none, 0, 0⟩, ⟨none, 0, 0⟩⟩ : FrS) with sn := ⟨some ⟨q2, 0, none⟩, 12, c2⟩ }) := FrMk.sn2 BL2 OW2 (Nat.lt_succ_self _) M1.out.blk.lt w2 el2 hb2 kq2
  clear r2 b2 el2 hb2 kq2 w2 BL2 OW2
  obtain ⟨x2, hx2⟩ : ∃ x2, y2.setCell ⟨gf, 3, none⟩ (.slice (some ⟨q2, 0, none⟩) 12 c2) = x2 := ⟨_, rfl⟩
  have HW2 := hid (hx2)
  have M2 : Hid (FrMk x2 gf (gf + 1) { (⟨7, 0, [], [], 0, [], [], 0, 0, [], []⟩ : FrD) with sn := l2 } { (⟨⟨none, 0, 0⟩, ⟨none, 0, 0⟩, ⟨none, 0, 0⟩, ⟨none, 0, 0⟩, ⟨none, 0, 0⟩, ⟨none, 0, 0⟩⟩ : FrS) with sn := ⟨some ⟨q2, 0, none⟩, 12, c2⟩ }) := by rw [← hx2]; exact MN2.out
  have KR2 : Hid (Blk x2 gr 25 [.int .i64 0, .int .i64 0, .slice none 0 0, .slice none 0 0, .int .i64 0, .slice none 0 0, .slice none 0 0, .int .i64 0, .int .i64 0, .slice none 0 0, .slice none 0 0]) := by rw [← hx2]; exact KR2.out.other (by show gr ≠ gf; have := HG.out; omega) _
  have B2 : Hid (But p w x2) := by rw [← hx2]; exact But_setCell BU2.out _ _ (by show w.heap.size ≤ gf; have := HG.out; omega)
  have R2 : Hid (Ready W0 a len cap l p x2) := by rw [← hx2]; exact Ready_setCell RY2.out _ _ (by show gf ≠ p; have := HG.out; omega) (by show W0.heap.size ≤ gf; have := HG.out; omega)
  clear hx2 KP2 BU2 RY2
  go_upto_region 4 with fail
  rw [HW2.out]
  clear co fo HW2 M1 KR1 B1 R1
  clear MN2
  obtain ⟨xi3, hxi3⟩ : ∃ xi3, x2.alloc (.cells #[.int .i64 0, .int .i64 1, .int .i64 2, .int .i64 4294967295] 3) = xi3 := ⟨_, rfl⟩
  have HI3 := hid (hxi3)
  have RI3 : Hid (Ready W0 a len cap l p xi3) := by rw [← hxi3]; exact R2.out.alloc _
  have BI3 : Hid (But p x2 xi3) := by rw [← hxi3]; exact (But.refl p x2).alloc _
  have LI3 : Hid (IntsAt xi3 x2.heap.size [0, 1, 2, 4294967295]) := by rw [← hxi3]; exact ints_new x2 [0, 1, 2, 4294967295]
  have NI3 : Hid (x2.heap.size ≠ p) := by have := R2.out.hc.lt; show _ ≠ _; omega
  clear hxi3
  go_wp2_with fail
  rw [HI3.out]
  clear HI3
  refine (intOfList RI3.out x2.heap.size 4 [0, 1, 2, 4294967295] rfl LI3.out NI3.out (by omega) (by omega)).mono ?_
  rintro e y3 ⟨v3, rfl, vm3, r3, b3⟩
  have VM3 : Hid (v3 ∈ ([0, 1, 2, 4294967295] : List Int)) := vm3
  have RY3 := hid (r3)
  have by3 : But p x2 y3 := BI3.out.trans b3
  have KP3 : Hid (Kept p (p + 1) x2 y3) := Kept.of_grown by3
  have BU3 := hid (B2.out.trans by3)
  have KR3 := hid (KR2.out.keep (KP3.out.block gr KR2.out.lt (by have := HG.out; omega)))
  have MY3 : Hid (FrMk y3 gf (gf + 1) { (⟨7, 0, [], [], 0, [], [], 0, 0, [], []⟩ : FrD) with sn := l2 } { (⟨⟨none, 0, 0⟩, ⟨none, 0, 0⟩, ⟨none, 0, 0⟩, ⟨none, 0, 0⟩, ⟨none, 0, 0⟩, ⟨none, 0, 0⟩⟩ : FrS) with sn := ⟨some ⟨q2, 0, none⟩, 12, c2⟩ }) := FrMk.kept M2.out KP3.out (by have := HG.out; omega) (by have := HG.out; omega)
  clear r3 b3 by3 RI3 BI3 LI3 NI3 vm3
  have co : y3.cell? ⟨gf, 7, none⟩ = some (.int .i64 0) := MY3.out.blk.cell 7 rfl
  have fo := MY3.out.blk.frozen 7
  obtain ⟨x3, hx3⟩ : ∃ x3, y3.setCell ⟨gf, 7, none⟩ (.int .i64 v3) = x3 := ⟨_, rfl⟩
  have HW3 := hid (hx3)
  have M3 : Hid (FrMk x3 gf (gf + 1) { ({ (⟨7, 0, [], [], 0, [], [], 0, 0, [], []⟩ : FrD) with sn := l2 } : FrD) with epoch := v3 } { (⟨⟨none, 0, 0⟩, ⟨none, 0, 0⟩, ⟨none, 0, 0⟩, ⟨none, 0, 0⟩, ⟨none, 0, 0⟩, ⟨none, 0, 0⟩⟩ : FrS) with sn := ⟨some ⟨q2, 0, none⟩, 12, c2⟩ }) := by rw [← hx3]; exact MY3.out.epoch _
  have KR3 : Hid (Blk x3 gr 25 [.int .i64 0, .int .i64 0, .slice none 0 0, .slice none 0 0, .int .i64 0, .slice none 0 0, .slice none 0 0, .int .i64 0, .int .i64 0, .slice none 0 0, .slice none 0 0]) := by rw [← hx3]; exact KR3.out.other (by show gr ≠ gf; have := HG.out; omega) _
  have B3 : Hid (But p w x3) := by rw [← hx3]; exact But_setCell BU3.out _ _ (by show w.heap.size ≤ gf; have := HG.out; omega)
  have R3 : Hid (Ready W0 a len cap l p x3) := by rw [← hx3]; exact Ready_setCell RY3.out _ _ (by show gf ≠ p; have := HG.out; omega) (by show W0.heap.size ≤ gf; have := HG.out; omega)
  clear hx3 KP3 BU3 RY3
  go_upto_region 5 with fail
  rw [HW3.out]
  clear co fo HW3 M2 KR2 B2 R2
  clear MY3
  obtain ⟨xi4, hxi4⟩ : ∃ xi4, x3.alloc (.cells #[.int .i64 0, .int .i64 1, .int .i64 70000, .int .i64 281474976710655] 3) = xi4 := ⟨_, rfl⟩
  have HI4 := hid (hxi4)
  have RI4 : Hid (Ready W0 a len cap l p xi4) := by rw [← hxi4]; exact R3.out.alloc _
  have BI4 : Hid (But p x3 xi4) := by rw [← hxi4]; exact (But.refl p x3).alloc _
  have LI4 : Hid (IntsAt xi4 x3.heap.size [0, 1, 70000, 281474976710655]) := by rw [← hxi4]; exact ints_new x3 [0, 1, 70000, 281474976710655]
  have NI4 : Hid (x3.heap.size ≠ p) := by have := R3.out.hc.lt; show _ ≠ _; omega
  clear hxi4
  go_wp2_with fail
  rw [HI4.out]
  clear HI4
  refine (intOfList RI4.out x3.heap.size 4 [0, 1, 70000, 281474976710655] rfl LI4.out NI4.out (by omega) (by omega)).mono ?_
  rintro e y4 ⟨v4, rfl, vm4, r4, b4⟩
  have VM4 : Hid (v4 ∈ ([0, 1, 70000, 281474976710655] : List Int)) := vm4
  have RY4 := hid (r4)
  have by4 : But p x3 y4 := BI4.out.trans b4
  have KP4 : Hid (Kept p (p + 1) x3 y4) := Kept.of_grown by4
  have BU4 := hid (B3.out.trans by4)
  have KR4 := hid (KR3.out.keep (KP4.out.block gr KR3.out.lt (by have := HG.out; omega)))
  have MY4 : Hid (FrMk y4 gf (gf + 1) { ({ (⟨7, 0, [], [], 0, [], [], 0, 0, [], []⟩ : FrD) with sn := l2 } : FrD) with epoch := v3 } { (⟨⟨none, 0, 0⟩, ⟨none, 0, 0⟩, ⟨none, 0, 0⟩, ⟨none, 0, 0⟩, ⟨none, 0, 0⟩, ⟨none, 0, 0⟩⟩ : FrS) with sn := ⟨some ⟨q2, 0, none⟩, 12, c2⟩ }) := FrMk.kept M3.out KP4.out (by have := HG.out; omega) (by have := HG.out; omega)
  clear r4 b4 by4 RI4 BI4 LI4 NI4 vm4
  have co : y4.cell? ⟨gf, 8, none⟩ = some (.int .i64 0) := MY4.out.blk.cell 8 rfl
  have fo := MY4.out.blk.frozen 8
  obtain ⟨x4, hx4⟩ : ∃ x4, y4.setCell ⟨gf, 8, none⟩ (.int .i64 v4) = x4 := ⟨_, rfl⟩
  have HW4 := hid (hx4)
  have M4 : Hid (FrMk x4 gf (gf + 1) { ({ ({ (⟨7, 0, [], [], 0, [], [], 0, 0, [], []⟩ : FrD) with sn := l2 } : FrD) with epoch := v3 } : FrD) with seq := v4 } { (⟨⟨none, 0, 0⟩, ⟨none, 0, 0⟩, ⟨none, 0, 0⟩, ⟨none, 0, 0⟩, ⟨none, 0, 0⟩, ⟨none, 0, 0⟩⟩ : FrS) with sn := ⟨some ⟨q2, 0, none⟩, 12, c2⟩ }) := by rw [← hx4]; exact MY4.out.seq _
  have KR4 : Hid (Blk x4 gr 25 [.int .i64 0, .int .i64 0, .slice none 0 0, .slice none 0 0, .int .i64 0, .slice none 0 0, .slice none 0 0, .int .i64 0, .int .i64 0, .slice none 0 0, .slice none 0 0]) := by rw [← hx4]; exact KR4.out.other (by show gr ≠ gf; have := HG.out; omega) _
  have B4 : Hid (But p w x4) := by rw [← hx4]; exact But_setCell BU4.out _ _ (by show w.heap.size ≤ gf; have := HG.out; omega)
  have R4 : Hid (Ready W0 a len cap l p x4) := by rw [← hx4]; exact Ready_setCell RY4.out _ _ (by show gf ≠ p; have := HG.out; omega) (by show W0.heap.size ≤ gf; have := HG.out; omega)
  clear hx4 KP4 BU4 RY4
  go_upto_region 6 with fail
  rw [HW4.out]
  clear co fo HW4 M3 KR3 B3 R3
  clear MY4
  go_wp2_with fail
  refine (bytesOf R4.out 16 (by omega)).mono ?_
  rintro e y5 ⟨q5, c5, l5, rfl, el5, hb5, kq5, w5, r5, b5⟩
  have EL5 : Hid (16 = l5.length) := el5
  have RY5 := hid (r5)
  have KP5 : Hid (Kept p (p + 1) x4 y5) := Kept.of_grown b5
  have BU5 := hid (B4.out.trans b5)
  have KR5 := hid (KR4.out.keep (KP5.out.block gr KR4.out.lt (by have := HG.out; omega)))
  have BL5 : Blk y5 gf 25 _ := M4.out.blk.keep (KP5.out.block gf M4.out.blk.lt (by have := HG.out; omega))
  have OW5 : FrOwn y5 (gf + 1) x4.heap.size _ _ := M4.out.own.carry KP5.out (.inr (by have := HG.out; omega))
  have co : y5.cell? ⟨gf, 10, none⟩ = some (.slice none 0 0) := BL5.cell 10 rfl
  have fo := BL5.frozen 10
  have MN5 : Hid (FrMk (y5.setCell ⟨gf, 10, none⟩ (.slice (some ⟨q5, 0, none⟩) 16 c5)) gf (gf + 1) { ({ ({ ({ (⟨7, 0, [], [], 0, [], [], 0, 0, [], []⟩ : FrD) with sn := l2 } : FrD) with epoch := v3 } : FrD) with seq := v4 } : FrD) with tag := l5 } { ({ (⟨⟨none, 0, 0⟩, ⟨none, 0, 0⟩, ⟨none, 0, 0⟩, ⟨none, 0, 0⟩, ⟨none, 0, 0⟩, ⟨none, 0, 0⟩⟩ : FrS) with sn := ⟨some ⟨q2, 0, none⟩, 12, c2⟩ } : FrS) with tag := ⟨some ⟨q5, 0, none⟩, 16, c5⟩ }) := FrMk.tag2 BL5 OW5 (Nat.lt_succ_self _) M4.out.blk.lt w5 el5 hb5 kq5
  clear r5 b5 el5 hb5 kq5 w5 BL5 OW5
  obtain ⟨x5, hx5⟩ : ∃ x5, y5.setCell ⟨gf, 10, none⟩ (.slice (some ⟨q5, 0, none⟩) 16 c5) = x5 := ⟨_, rfl⟩
  have HW5 := hid (hx5)
  have M5 : Hid (FrMk x5 gf (gf + 1) { ({ ({ ({ (⟨7, 0, [], [], 0, [], [], 0, 0, [], []⟩ : FrD) with sn := l2 } : FrD) with epoch := v3 } : FrD) with seq := v4 } : FrD) with tag := l5 } { ({ (⟨⟨none, 0, 0⟩, ⟨none, 0, 0⟩, ⟨none, 0, 0⟩, ⟨none, 0, 0⟩, ⟨none, 0, 0⟩, ⟨none, 0, 0⟩⟩ : FrS) with sn := ⟨some ⟨q2, 0, none⟩, 12, c2⟩ } : FrS) with tag := ⟨some ⟨q5, 0, none⟩, 16, c5⟩ }) := by rw [← hx5]; exact MN5.out
  have KR5 : Hid (Blk x5 gr 25 [.int .i64 0, .int .i64 0, .slice none 0 0, .slice none 0 0, .int .i64 0, .slice none 0 0, .slice none 0 0, .int .i64 0, .int .i64 0, .slice none 0 0, .slice none 0 0]) := by rw [← hx5]; exact KR5.out.other (by show gr ≠ gf; have := HG.out; omega) _
  have B5 : Hid (But p w x5) := by rw [← hx5]; exact But_setCell BU5.out _ _ (by show w.heap.size ≤ gf; have := HG.out; omega)
  have R5 : Hid (Ready W0 a len cap l p x5) := by rw [← hx5]; exact Ready_setCell RY5.out _ _ (by show gf ≠ p; have := HG.out; omega) (by show W0.heap.size ≤ gf; have := HG.out; omega)
  clear hx5 KP5 BU5 RY5
  go_upto_region 7 with fail
  rw [HW5.out]
  clear co fo HW5 M4 KR4 B4 R4
  clear MN5
  obtain ⟨xi6, hxi6⟩ : ∃ xi6, x5.alloc (.cells #[.int .i64 0, .int .i64 1, .int .i64 12, .int .i64 40] 3) = xi6 := ⟨_, rfl⟩
  have HI6 := hid (hxi6)
  have RI6 : Hid (Ready W0 a len cap l p xi6) := by rw [← hxi6]; exact R5.out.alloc _
  have BI6 : Hid (But p x5 xi6) := by rw [← hxi6]; exact (But.refl p x5).alloc _
  have LI6 : Hid (IntsAt xi6 x5.heap.size [0, 1, 12, 40]) := by rw [← hxi6]; exact ints_new x5 [0, 1, 12, 40]
  have NI6 : Hid (x5.heap.size ≠ p) := by have := R5.out.hc.lt; show _ ≠ _; omega
  clear hxi6
  go_wp2_with fail
  rw [HI6.out]
  clear HI6
  refine (intOfList RI6.out x5.heap.size 4 [0, 1, 12, 40] rfl LI6.out NI6.out (by omega) (by omega)).mono ?_
  rintro e y6 ⟨v6, rfl, vm6, r6, b6⟩
  have VM6 : Hid (v6 ∈ ([0, 1, 12, 40] : List Int)) := vm6
  have RY6 := hid (r6)
  have by6 : But p x5 y6 := BI6.out.trans b6
  have KP6 : Hid (Kept p (p + 1) x5 y6) := Kept.of_grown by6
  have BU6 := hid (B5.out.trans by6)
  have KR6 := hid (KR5.out.keep (KP6.out.block gr KR5.out.lt (by have := HG.out; omega)))
  have MY6 : Hid (FrMk y6 gf (gf + 1) { ({ ({ ({ (⟨7, 0, [], [], 0, [], [], 0, 0, [], []⟩ : FrD) with sn := l2 } : FrD) with epoch := v3 } : FrD) with seq := v4 } : FrD) with tag := l5 } { ({ (⟨⟨none, 0, 0⟩, ⟨none, 0, 0⟩, ⟨none, 0, 0⟩, ⟨none, 0, 0⟩, ⟨none, 0, 0⟩, ⟨none, 0, 0⟩⟩ : FrS) with sn := ⟨some ⟨q2, 0, none⟩, 12, c2⟩ } : FrS) with tag := ⟨some ⟨q5, 0, none⟩, 16, c5⟩ }) := FrMk.kept M5.out KP6.out (by have := HG.out; omega) (by have := HG.out; omega)
  clear r6 b6 by6 RI6 BI6 LI6 NI6 vm6
  have kc : y6.cell? ⟨gf, 0, none⟩ = some (.int .i64 7) := MY6.out.blk.cell 0 rfl
  obtain ⟨x6, hx6⟩ : ∃ x6, x6 = y6 := ⟨_, rfl⟩
  rw [← hx6] at kc MY6 KR6 BU6 RY6 ⊢
  have M6 : Hid (FrMk x6 gf (gf + 1) { ({ ({ ({ (⟨7, 0, [], [], 0, [], [], 0, 0, [], []⟩ : FrD) with sn := l2 } : FrD) with epoch := v3 } : FrD) with seq := v4 } : FrD) with tag := l5 } { ({ (⟨⟨none, 0, 0⟩, ⟨none, 0, 0⟩, ⟨none, 0, 0⟩, ⟨none, 0, 0⟩, ⟨none, 0, 0⟩, ⟨none, 0, 0⟩⟩ : FrS) with sn := ⟨some ⟨q2, 0, none⟩, 12, c2⟩ } : FrS) with tag := ⟨some ⟨q5, 0, none⟩, 16, c5⟩ }) := MY6.out
  have B6 := hid (BU6.out)
  have R6 := hid (RY6.out)
  clear hx6 KP6 MY6 BU6 RY6 M5 KR5 B5 R5
  go_upto_region 12 with fail
  clear kc
  go_wp2_with fail
  refine (bytesOf R6.out 4 (by omega)).mono ?_
  rintro e y7 ⟨q7, c7, l7, rfl, el7, hb7, kq7, w7, r7, b7⟩
  have EL7 : Hid (4 = l7.length) := el7
  have RY7 := hid (r7)
  have KP7 : Hid (Kept p (p + 1) x6 y7) := Kept.of_grown b7
  have BU7 := hid (B6.out.trans b7)
  have KR7 := hid (KR6.out.keep (KP7.out.block gr KR6.out.lt (by have := HG.out; omega)))
  have BL7 : Blk y7 gf 25 _ := M6.out.blk.keep (KP7.out.block gf M6.out.blk.lt (by have := HG.out; omega))
  have OW7 : FrOwn y7 (gf + 1) x6.heap.size _ _ := M6.out.own.carry KP7.out (.inr (by have := HG.out; omega))
  have co : y7.cell? ⟨gf, 9, none⟩ = some (.slice none 0 0) := BL7.cell 9 rfl
  have fo := BL7.frozen 9
  have MN7 : Hid (FrMk (y7.setCell ⟨gf, 9, none⟩ (.slice (some ⟨q7, 0, none⟩) 4 c7)) gf (gf + 1) { ({ ({ ({ ({ (⟨7, 0, [], [], 0, [], [], 0, 0, [], []⟩ : FrD) with sn := l2 } : FrD) with epoch := v3 } : FrD) with seq := v4 } : FrD) with tag := l5 } : FrD) with body := l7 } { ({ ({ (⟨⟨none, 0, 0⟩, ⟨none, 0, 0⟩, ⟨none, 0, 0⟩, ⟨none, 0, 0⟩, ⟨none, 0, 0⟩, ⟨none, 0, 0⟩⟩ : FrS) with sn := ⟨some ⟨q2, 0, none⟩, 12, c2⟩ } : FrS) with tag := ⟨some ⟨q5, 0, none⟩, 16, c5⟩ } : FrS) with body := ⟨some ⟨q7, 0, none⟩, 4, c7⟩ }) := FrMk.body2 BL7 OW7 (Nat.lt_succ_self _) M6.out.blk.lt w7 el7 hb7 kq7
  clear r7 b7 el7 hb7 kq7 w7 BL7 OW7
  obtain ⟨x7, hx7⟩ : ∃ x7, y7.setCell ⟨gf, 9, none⟩ (.slice (some ⟨q7, 0, none⟩) 4 c7) = x7 := ⟨_, rfl⟩
  have HW7 := hid (hx7)
  have M7 : Hid (FrMk x7 gf (gf + 1) { ({ ({ ({ ({ (⟨7, 0, [], [], 0, [], [], 0, 0, [], []⟩ : FrD) with sn := l2 } : FrD) with epoch := v3 } : FrD) with seq := v4 } : FrD) with tag := l5 } : FrD) with body := l7 } { ({ ({ (⟨⟨none, 0, 0⟩, ⟨none, 0, 0⟩, ⟨none, 0, 0⟩, ⟨none, 0, 0⟩, ⟨none, 0, 0⟩, ⟨none, 0, 0⟩⟩ : FrS) with sn := ⟨some ⟨q2, 0, none⟩, 12, c2⟩ } : FrS) with tag := ⟨some ⟨q5, 0, none⟩, 16, c5⟩ } : FrS) with body := ⟨some ⟨q7, 0, none⟩, 4, c7⟩ }) := by rw [← hx7]; exact MN7.out
  have KR7 : Hid (Blk x7 gr 25 [.int .i64 0, .int .i64 0, .slice none 0 0, .slice none 0 0, .int .i64 0, .slice none 0 0, .slice none 0 0, .int .i64 0, .int .i64 0, .slice none 0 0, .slice none 0 0]) := by rw [← hx7]; exact KR7.out.other (by show gr ≠ gf; have := HG.out; omega) _
  have B7 : Hid (But p w x7) := by rw [← hx7]; exact But_setCell BU7.out _ _ (by show w.heap.size ≤ gf; have := HG.out; omega)
  have R7 : Hid (Ready W0 a len cap l p x7) := by rw [← hx7]; exact Ready_setCell RY7.out _ _ (by show gf ≠ p; have := HG.out; omega) (by show W0.heap.size ≤ gf; have := HG.out; omega)
  clear hx7 KP7 BU7 RY7
  go_upto_region 25 with fail
  rw [HW7.out]
  clear co fo HW7 M6 KR6 B6 R6
  clear MN7
  have OK : Hid (frameOk { ({ ({ ({ ({ (⟨7, 0, [], [], 0, [], [], 0, 0, [], []⟩ : FrD) with sn := l2 } : FrD) with epoch := v3 } : FrD) with seq := v4 } : FrD) with tag := l5 } : FrD) with body := l7 } = true) := by show frameOk _ = true; have he := VM3.out; have hs := VM4.out; simp only [List.mem_cons, List.mem_nil_iff, or_false] at he hs; have hb : bodyOk 7 (l7.length : Int) = true := (by rw [← EL7.out]; rfl); rw [ok_iff]; refine .inl ⟨?_, ?_, rfl, rfl, EL2.out.symm, rfl, rfl, rfl, ?_, ?_, ?_, ?_, hb, EL5.out.symm⟩ <;> (simp only; omega)
  obtain ⟨SS, hSS⟩ : ∃ SS : FrS, { ({ ({ (⟨⟨none, 0, 0⟩, ⟨none, 0, 0⟩, ⟨none, 0, 0⟩, ⟨none, 0, 0⟩, ⟨none, 0, 0⟩, ⟨none, 0, 0⟩⟩ : FrS) with sn := ⟨some ⟨q2, 0, none⟩, 12, c2⟩ } : FrS) with tag := ⟨some ⟨q5, 0, none⟩, 16, c5⟩ } : FrS) with body := ⟨some ⟨q7, 0, none⟩, 4, c7⟩ } = SS := ⟨_, rfl⟩
  obtain ⟨DD, hDD⟩ : ∃ DD : FrD, { ({ ({ ({ ({ (⟨7, 0, [], [], 0, [], [], 0, 0, [], []⟩ : FrD) with sn := l2 } : FrD) with epoch := v3 } : FrD) with seq := v4 } : FrD) with tag := l5 } : FrD) with body := l7 } = DD := ⟨_, rfl⟩
  have MD : Hid (FrMk x7 gf (gf + 1) DD SS) := by rw [← hSS, ← hDD]; exact M7.out
  rw [hDD] at OK
  clear hSS hDD M7
  have zc0 := KR7.out.cell 0 rfl
  have zf0 := KR7.out.frozen 0
  have zo0 : x7.cell? ⟨gf, 0, none⟩ = some (.int .i64 DD.kind) := MD.out.blk.cell 0 rfl
  have zc1 := KR7.out.cell 1 rfl
  have zf1 := KR7.out.frozen 1
  have zo1 : x7.cell? ⟨gf, 1, none⟩ = some (.int .i64 DD.id) := MD.out.blk.cell 1 rfl
  have zc2 := KR7.out.cell 2 rfl
  have zf2 := KR7.out.frozen 2
  have zo2 : x7.cell? ⟨gf, 2, none⟩ = some (.slice SS.cn.a SS.cn.n SS.cn.c) := MD.out.blk.cell 2 rfl
  have zc3 := KR7.out.cell 3 rfl
  have zf3 := KR7.out.frozen 3
  have zo3 : x7.cell? ⟨gf, 3, none⟩ = some (.slice SS.sn.a SS.sn.n SS.sn.c) := MD.out.blk.cell 3 rfl
  have zc4 := KR7.out.cell 4 rfl
  have zf4 := KR7.out.frozen 4
  have zo4 : x7.cell? ⟨gf, 4, none⟩ = some (.int .i64 DD.tick) := MD.out.blk.cell 4 rfl
  have zc5 := KR7.out.cell 5 rfl
  have zf5 := KR7.out.frozen 5
  have zo5 : x7.cell? ⟨gf, 5, none⟩ = some (.slice SS.cookie.a SS.cookie.n SS.cookie.c) := MD.out.blk.cell 5 rfl
  have zc6 := KR7.out.cell 6 rfl
  have zf6 := KR7.out.frozen 6
  have zo6 : x7.cell? ⟨gf, 6, none⟩ = some (.slice SS.proof.a SS.proof.n SS.proof.c) := MD.out.blk.cell 6 rfl
  have zc7 := KR7.out.cell 7 rfl
  have zf7 := KR7.out.frozen 7
  have zo7 : x7.cell? ⟨gf, 7, none⟩ = some (.int .i64 DD.epoch) := MD.out.blk.cell 7 rfl
  have zc8 := KR7.out.cell 8 rfl
  have zf8 := KR7.out.frozen 8
  have zo8 : x7.cell? ⟨gf, 8, none⟩ = some (.int .i64 DD.seq) := MD.out.blk.cell 8 rfl
  have zc9 := KR7.out.cell 9 rfl
  have zf9 := KR7.out.frozen 9
  have zo9 : x7.cell? ⟨gf, 9, none⟩ = some (.slice SS.body.a SS.body.n SS.body.c) := MD.out.blk.cell 9 rfl
  have zc10 := KR7.out.cell 10 rfl
  have zf10 := KR7.out.frozen 10
  have zo10 : x7.cell? ⟨gf, 10, none⟩ = some (.slice SS.tag.a SS.tag.n SS.tag.c) := MD.out.blk.cell 10 rfl
  have ne1 : gr ≠ gf := by have := HG.out; omega
  have ne2 : gf ≠ gr := by have := HG.out; omega
  go_wp2
  have KF : Blk ((((((((((((x7).setCell ⟨gr, 0, none⟩ (.int .i64 DD.kind)).setCell ⟨gr, 1, none⟩ (.int .i64 DD.id)).setCell ⟨gr, 2, none⟩ (.slice SS.cn.a SS.cn.n SS.cn.c)).setCell ⟨gr, 3, none⟩ (.slice SS.sn.a SS.sn.n SS.sn.c)).setCell ⟨gr, 4, none⟩ (.int .i64 DD.tick)).setCell ⟨gr, 5, none⟩ (.slice SS.cookie.a SS.cookie.n SS.cookie.c)).setCell ⟨gr, 6, none⟩ (.slice SS.proof.a SS.proof.n SS.proof.c)).setCell ⟨gr, 7, none⟩ (.int .i64 DD.epoch)).setCell ⟨gr, 8, none⟩ (.int .i64 DD.seq)).setCell ⟨gr, 9, none⟩ (.slice SS.body.a SS.body.n SS.body.c)).setCell ⟨gr, 10, none⟩ (.slice SS.tag.a SS.tag.n SS.tag.c)) gr 25 [.int .i64 DD.kind, .int .i64 DD.id, .slice SS.cn.a SS.cn.n SS.cn.c, .slice SS.sn.a SS.sn.n SS.sn.c, .int .i64 DD.tick, .slice SS.cookie.a SS.cookie.n SS.cookie.c, .slice SS.proof.a SS.proof.n SS.proof.c, .int .i64 DD.epoch, .int .i64 DD.seq, .slice SS.body.a SS.body.n SS.body.c, .slice SS.tag.a SS.tag.n SS.tag.c] := (((((((((((KR7.out).set 0 _ (by simp [maxLen])).set 1 _ (by simp [maxLen])).set 2 _ (by simp [maxLen])).set 3 _ (by simp [maxLen])).set 4 _ (by simp [maxLen])).set 5 _ (by simp [maxLen])).set 6 _ (by simp [maxLen])).set 7 _ (by simp [maxLen])).set 8 _ (by simp [maxLen])).set 9 _ (by simp [maxLen])).set 10 _ (by simp [maxLen])
  have KK : Kept gr (gr + 1) x7 ((((((((((((x7).setCell ⟨gr, 0, none⟩ (.int .i64 DD.kind)).setCell ⟨gr, 1, none⟩ (.int .i64 DD.id)).setCell ⟨gr, 2, none⟩ (.slice SS.cn.a SS.cn.n SS.cn.c)).setCell ⟨gr, 3, none⟩ (.slice SS.sn.a SS.sn.n SS.sn.c)).setCell ⟨gr, 4, none⟩ (.int .i64 DD.tick)).setCell ⟨gr, 5, none⟩ (.slice SS.cookie.a SS.cookie.n SS.cookie.c)).setCell ⟨gr, 6, none⟩ (.slice SS.proof.a SS.proof.n SS.proof.c)).setCell ⟨gr, 7, none⟩ (.int .i64 DD.epoch)).setCell ⟨gr, 8, none⟩ (.int .i64 DD.seq)).setCell ⟨gr, 9, none⟩ (.slice SS.body.a SS.body.n SS.body.c)).setCell ⟨gr, 10, none⟩ (.slice SS.tag.a SS.tag.n SS.tag.c)) := ((((((((((((Kept.refl gr (gr + 1) x7)).trans (Kept.setCell _ gr 0 _)).trans (Kept.setCell _ gr 1 _)).trans (Kept.setCell _ gr 2 _)).trans (Kept.setCell _ gr 3 _)).trans (Kept.setCell _ gr 4 _)).trans (Kept.setCell _ gr 5 _)).trans (Kept.setCell _ gr 6 _)).trans (Kept.setCell _ gr 7 _)).trans (Kept.setCell _ gr 8 _)).trans (Kept.setCell _ gr 9 _)).trans (Kept.setCell _ gr 10 _)
  exact ret_drew rfl rfl KF rfl (D := DD) (S := SS) OK.out ((MD.out.own.carry KK (.inr (by have := HG.out; omega))).mono (by have := HG.out; omega) KK.size) (Ready_setCell (Ready_setCell (Ready_setCell (Ready_setCell (Ready_setCell (Ready_setCell (Ready_setCell (Ready_setCell (Ready_setCell (Ready_setCell (Ready_setCell (R7.out) _ _ (by show gr ≠ p; have := HG.out; omega) (by show W0.heap.size ≤ gr; have := HG.out; omega)) _ _ (by show gr ≠ p; have := HG.out; omega) (by show W0.heap.size ≤ gr; have := HG.out; omega)) _ _ (by show gr ≠ p; have := HG.out; omega) (by show W0.heap.size ≤ gr; have := HG.out; omega)) _ _ (by show gr ≠ p; have := HG.out; omega) (by show W0.heap.size ≤ gr; have := HG.out; omega)) _ _ (by show gr ≠ p; have := HG.out; omega) (by show W0.heap.size ≤ gr; have := HG.out; omega)) _ _ (by show gr ≠ p; have := HG.out; omega) (by show W0.heap.size ≤ gr; have := HG.out; omega)) _ _ (by show gr ≠ p; have := HG.out; omega) (by show W0.heap.size ≤ gr; have := HG.out; omega)) _ _ (by show gr ≠ p; have := HG.out; omega) (by show W0.heap.size ≤ gr; have := HG.out; omega)) _ _ (by show gr ≠ p; have := HG.out; omega) (by show W0.heap.size ≤ gr; have := HG.out; omega)) _ _ (by show gr ≠ p; have := HG.out; omega) (by show W0.heap.size ≤ gr; have := HG.out; omega)) _ _ (by show gr ≠ p; have := HG.out; omega) (by show W0.heap.size ≤ gr; have := HG.out; omega)) (But_setCell (But_setCell (But_setCell (But_setCell (But_setCell (But_setCell (But_setCell (But_setCell (But_setCell (But_setCell (But_setCell (B7.out) _ _ (by show w.heap.size ≤ gr; have := HG.out; omega)) _ _ (by show w.heap.size ≤ gr; have := HG.out; omega)) _ _ (by show w.heap.size ≤ gr; have := HG.out; omega)) _ _ (by show w.heap.size ≤ gr; have := HG.out; omega)) _ _ (by show w.heap.size ≤ gr; have := HG.out; omega)) _ _ (by show w.heap.size ≤ gr; have := HG.out; omega)) _ _ (by show w.heap.size ≤ gr; have := HG.out; omega)) _ _ (by show w.heap.size ≤ gr; have := HG.out; omega)) _ _ (by show w.heap.size ≤ gr; have := HG.out; omega)) _ _ (by show w.heap.size ≤ gr; have := HG.out; omega)) _ _ (by show w.heap.size ≤ gr; have := HG.out; omega))
 ·
  obtain ⟨x1, hx1⟩ : ∃ x1, y0.alloc (.cells #[.int .i64 8, .int .i64 0, .slice none 0 0, .slice none 0 0, .int .i64 0, .slice none 0 0, .slice none 0 0, .int .i64 0, .int .i64 0, .slice none 0 0, .slice none 0 0] 25) = x1 := ⟨_, rfl⟩
  have HW1 := hid (hx1)
  have KB : Blk x1 y0.heap.size 25 [.int .i64 8, .int .i64 0, .slice none 0 0, .slice none 0 0, .int .i64 0, .slice none 0 0, .slice none 0 0, .int .i64 0, .int .i64 0, .slice none 0 0, .slice none 0 0] := by rw [← hx1]; exact Blk.new y0 _ [.int .i64 8, .int .i64 0, .slice none 0 0, .slice none 0 0, .int .i64 0, .slice none 0 0, .slice none 0 0, .int .i64 0, .int .i64 0, .slice none 0 0, .slice none 0 0]
  have M1 : Hid (FrMk x1 y0.heap.size (y0.heap.size + 1) ⟨8, 0, [], [], 0, [], [], 0, 0, [], []⟩ ⟨⟨none, 0, 0⟩, ⟨none, 0, 0⟩, ⟨none, 0, 0⟩, ⟨none, 0, 0⟩, ⟨none, 0, 0⟩, ⟨none, 0, 0⟩⟩) := ⟨KB, own_none _ _ _ _, Nat.lt_succ_self _⟩
  have R1 : Hid (Ready W0 a len cap l p x1) := by rw [← hx1]; exact RY.out.alloc _
  have B1 : Hid (But p w x1) := by rw [← hx1]; exact BY.out.alloc _
  have KR1 : Hid (Blk x1 gr 25 [.int .i64 0, .int .i64 0, .slice none 0 0, .slice none 0 0, .int .i64 0, .slice none 0 0, .slice none 0 0, .int .i64 0, .int .i64 0, .slice none 0 0, .slice none 0 0]) := by rw [← hx1]; exact KRY.out.alloc _
  have LG : Hid (gr < y0.heap.size) := KRY.out.lt
  clear hx1 KB
  go_upto_region 2 with fail
  rw [HW1.out]
  obtain ⟨gf, hgf⟩ : ∃ gf, y0.heap.size = gf := ⟨_, rfl⟩
  rw [hgf] at M1 LG ⊢
  clear HW1 hgf RY BY KRY
  have HG : Hid (w.heap.size = gr ∧ p < gr ∧ W0.heap.size ≤ gr ∧ gr < gf) := ⟨HG0.out.1, HG0.out.2.1, HG0.out.2.2, LG.out⟩
  clear LG HG0
  have kc : x1.cell? ⟨gf, 0, none⟩ = some (.int .i64 8) := M1.out.blk.cell 0 rfl
  go_upto_region 3 with fail
  clear kc
  go_wp2_with fail
  refine (bytesOf R1.out 12 (by omega)).mono ?_
  rintro e y2 ⟨q2, c2, l2, rfl, el2, hb2, kq2, w2, r2, b2⟩
  have EL2 : Hid (12 = l2.length) := el2
  have RY2 := hid (r2)
  have KP2 : Hid (Kept p (p + 1) x1 y2) := Kept.of_grown b2
  have BU2 := hid (B1.out.trans b2)
  have KR2 := hid (KR1.out.keep (KP2.out.block gr KR1.out.lt (by have := HG.out; omega)))
  have BL2 : Blk y2 gf 25 _ := M1.out.blk.keep (KP2.out.block gf M1.out.blk.lt (by have := HG.out; omega))
  have OW2 : FrOwn y2 (gf + 1) x1.heap.size _ _ := M1.out.own.carry KP2.out (.inr (by have := HG.out; omega))
  have co : y2.cell? ⟨gf, 3, none⟩ = some (.slice none 0 0) := BL2.cell 3 rfl
  have fo := BL2.frozen 3
  have MN2 : Hid (FrMk (y2.setCell ⟨gf, 3, none⟩ (.slice (some ⟨q2, 0, none⟩) 12 c2)) gf (gf + 1) { (⟨8, 0, [], [], 0, [], [], 0, 0, [], []⟩ : FrD) with sn := l2 } { (⟨⟨none, 0, 0⟩, ⟨none, 0, 0⟩, ⟨none, 0, 0⟩, ⟨none, 0, 0⟩, ⟨none, 0, 0⟩, ⟨none, 0, 0⟩⟩ : FrS) with sn := ⟨some ⟨q2, 0, none⟩, 12, c2⟩ }) := FrMk.sn2 BL2 OW2 (Nat.lt_succ_self _) M1.out.blk.lt w2 el2 hb2 kq2
  clear r2 b2 el2 hb2 kq2 w2 BL2 OW2
  obtain ⟨x2, hx2⟩ : ∃ x2, y2.setCell ⟨gf, 3, none⟩ (.slice (some ⟨q2, 0, none⟩) 12 c2) = x2 := ⟨_, rfl⟩
  have HW2 := hid (hx2)
  have M2 : Hid (FrMk x2 gf (gf + 1) { (⟨8, 0, [], [], 0, [], [], 0, 0, [], []⟩ : FrD) with sn := l2 } { (⟨⟨none, 0, 0⟩, ⟨none, 0, 0⟩, ⟨none, 0, 0⟩, ⟨none, 0, 0⟩, ⟨none, 0, 0⟩, ⟨none, 0, 0⟩⟩ : FrS) with sn := ⟨some ⟨q2, 0, none⟩, 12, c2⟩ }) := by rw [← hx2]; exact MN2.out
  have KR2 : Hid (Blk x2 gr 25 [.int .i64 0, .int .i64 0, .slice none 0 0, .slice none 0 0, .int .i64 0, .slice none 0 0, .slice none 0 0, .int .i64 0, .int .i64 0, .slice none 0 0, .slice none 0 0]) := by rw [← hx2]; exact KR2.out.other (by show gr ≠ gf; have := HG.out; omega) _
  have B2 : Hid (But p w x2) := by rw [← hx2]; exact But_setCell BU2.out _ _ (by show w.heap.size ≤ gf; have := HG.out; omega)
  have R2 : Hid (Ready W0 a len cap l p x2) := by rw [← hx2]; exact Ready_setCell RY2.out _ _ (by show gf ≠ p; have := HG.out; omega) (by show W0.heap.size ≤ gf; have := HG.out; omega)
  clear hx2 KP2 BU2 RY2
  go_upto_region 4 with fail
  rw [HW2.out]
  clear co fo HW2 M1 KR1 B1 R1
  clear MN2
  obtain ⟨xi3, hxi3⟩ : ∃ xi3, x2.alloc (.cells #[.int .i64 0, .int .i64 1, .int .i64 2, .int .i64 4294967295] 3) = xi3 := ⟨_, rfl⟩
  have HI3 := hid (hxi3)
  have RI3 : Hid (Ready W0 a len cap l p xi3) := by rw [← hxi3]; exact R2.out.alloc _
  have BI3 : Hid (But p x2 xi3) := by rw [← hxi3]; exact (But.refl p x2).alloc _
  have LI3 : Hid (IntsAt xi3 x2.heap.size [0, 1, 2, 4294967295]) := by rw [← hxi3]; exact ints_new x2 [0, 1, 2, 4294967295]
  have NI3 : Hid (x2.heap.size ≠ p) := by have := R2.out.hc.lt; show _ ≠ _; omega
  clear hxi3
  go_wp2_with fail
  rw [HI3.out]
  clear HI3
  refine (intOfList RI3.out x2.heap.size 4 [0, 1, 2, 4294967295] rfl LI3.out NI3.out (by omega) (by omega)).mono ?_
  rintro e y3 ⟨v3, rfl, vm3, r3, b3⟩
  have VM3 : Hid (v3 ∈ ([0, 1, 2, 4294967295] : List Int)) := vm3
  have RY3 := hid (r3)
  have by3 : But p x2 y3 := BI3.out.trans b3
  have KP3 : Hid (Kept p (p + 1) x2 y3) := Kept.of_grown by3
  have BU3 := hid (B2.out.trans by3)
  have KR3 := hid (KR2.out.keep (KP3.out.block gr KR2.out.lt (by have := HG.out; omega)))
  have MY3 : Hid (FrMk y3 gf (gf + 1) { (⟨8, 0, [], [], 0, [], [], 0, 0, [], []⟩ : FrD) with sn := l2 } { (⟨⟨none, 0, 0⟩, ⟨none, 0, 0⟩, ⟨none, 0, 0⟩, ⟨none, 0, 0⟩, ⟨none, 0, 0⟩, ⟨none, 0, 0⟩⟩ : FrS) with sn := ⟨some ⟨q2, 0, none⟩, 12, c2⟩ }) := FrMk.kept M2.out KP3.out (by have := HG.out; omega) (by have := HG.out; omega)
  clear r3 b3 by3 RI3 BI3 LI3 NI3 vm3
  have co : y3.cell? ⟨gf, 7, none⟩ = some (.int .i64 0) := MY3.out.blk.cell 7 rfl
  have fo := MY3.out.blk.frozen 7
  obtain ⟨x3, hx3⟩ : ∃ x3, y3.setCell ⟨gf, 7, none⟩ (.int .i64 v3) = x3 := ⟨_, rfl⟩
  have HW3 := hid (hx3)
  have M3 : Hid (FrMk x3 gf (gf + 1) { ({ (⟨8, 0, [], [], 0, [], [], 0, 0, [], []⟩ : FrD) with sn := l2 } : FrD) with epoch := v3 } { (⟨⟨none, 0, 0⟩, ⟨none, 0, 0⟩, ⟨none, 0, 0⟩, ⟨none, 0, 0⟩, ⟨none, 0, 0⟩, ⟨none, 0, 0⟩⟩ : FrS) with sn := ⟨some ⟨q2, 0, none⟩, 12, c2⟩ }) := by rw [← hx3]; exact MY3.out.epoch _
  have KR3 : Hid (Blk x3 gr 25 [.int .i64 0, .int .i64 0, .slice none 0 0, .slice none 0 0, .int .i64 0, .slice none 0 0, .slice none 0 0, .int .i64 0, .int .i64 0, .slice none 0 0, .slice none 0 0]) := by rw [← hx3]; exact KR3.out.other (by show gr ≠ gf; have := HG.out; omega) _
  have B3 : Hid (But p w x3) := by rw [← hx3]; exact But_setCell BU3.out _ _ (by show w.heap.size ≤ gf; have := HG.out; omega)
  have R3 : Hid (Ready W0 a len cap l p x3) := by rw [← hx3]; exact Ready_setCell RY3.out _ _ (by show gf ≠ p; have := HG.out; omega) (by show W0.heap.size ≤ gf; have := HG.out; omega)
  clear hx3 KP3 BU3 RY3
  go_upto_region 5 with fail
  rw [HW3.out]
  clear co fo HW3 M2 KR2 B2 R2
  clear MY3
  obtain ⟨xi4, hxi4⟩ : ∃ xi4, x3.alloc (.cells #[.int .i64 0, .int .i64 1, .int .i64 70000, .int .i64 281474976710655] 3) = xi4 := ⟨_, rfl⟩
  have HI4 := hid (hxi4)
  have RI4 : Hid (Ready W0 a len cap l p xi4) := by rw [← hxi4]; exact R3.out.alloc _
  have BI4 : Hid (But p x3 xi4) := by rw [← hxi4]; exact (But.refl p x3).alloc _
  have LI4 : Hid (IntsAt xi4 x3.heap.size [0, 1, 70000, 281474976710655]) := by rw [← hxi4]; exact ints_new x3 [0, 1, 70000, 281474976710655]
  have NI4 : Hid (x3.heap.size ≠ p) := by have := R3.out.hc.lt; show _ ≠ _; omega
  clear hxi4
  go_wp2_with fail
  rw [HI4.out]
  clear HI4
  refine (intOfList RI4.out x3.heap.size 4 [0, 1, 70000, 281474976710655] rfl LI4.out NI4.out (by omega) (by omega)).mono ?_
  rintro e y4 ⟨v4, rfl, vm4, r4, b4⟩
  have VM4 : Hid (v4 ∈ ([0, 1, 70000, 281474976710655] : List Int)) := vm4
  have RY4 := hid (r4)
  have by4 : But p x3 y4 := BI4.out.trans b4
  have KP4 : Hid (Kept p (p + 1) x3 y4) := Kept.of_grown by4
  have BU4 := hid (B3.out.trans by4)
  have KR4 := hid (KR3.out.keep (KP4.out.block gr KR3.out.lt (by have := HG.out; omega)))
  have MY4 : Hid (FrMk y4 gf (gf + 1) { ({ (⟨8, 0, [], [], 0, [], [], 0, 0, [], []⟩ : FrD) with sn := l2 } : FrD) with epoch := v3 } { (⟨⟨none, 0, 0⟩, ⟨none, 0, 0⟩, ⟨none, 0, 0⟩, ⟨none, 0, 0⟩, ⟨none, 0, 0⟩, ⟨none, 0, 0⟩⟩ : FrS) with sn := ⟨some ⟨q2, 0, none⟩, 12, c2⟩ }) := FrMk.kept M3.out KP4.out (by have := HG.out; omega) (by have := HG.out; omega)
  clear r4 b4 by4 RI4 BI4 LI4 NI4 vm4
  have co : y4.cell? ⟨gf, 8, none⟩ = some (.int .i64 0) := MY4.out.blk.cell 8 rfl
  have fo := MY4.out.blk.frozen 8
  obtain ⟨x4, hx4⟩ : ∃ x4, y4.setCell ⟨gf, 8, none⟩ (.int .i64 v4) = x4 := ⟨_, rfl⟩
  have HW4 := hid (hx4)
  have M4 : Hid (FrMk x4 gf (gf + 1) { ({ ({ (⟨8, 0, [], [], 0, [], [], 0, 0, [], []⟩ : FrD) with sn := l2 } : FrD) with epoch := v3 } : FrD) with seq := v4 } { (⟨⟨none, 0, 0⟩, ⟨none, 0, 0⟩, ⟨none, 0, 0⟩, ⟨none, 0, 0⟩, ⟨none, 0, 0⟩, ⟨none, 0, 0⟩⟩ : FrS) with sn := ⟨some ⟨q2, 0, none⟩, 12, c2⟩ }) := by rw [← hx4]; exact MY4.out.seq _
  have KR4 : Hid (Blk x4 gr 25 [.int .i64 0, .int .i64 0, .slice none 0 0, .slice none 0 0, .int .i64 0, .slice none 0 0, .slice none 0 0, .int .i64 0, .int .i64 0, .slice none 0 0, .slice none 0 0]) := by rw [← hx4]; exact KR4.out.other (by show gr ≠ gf; have := HG.out; omega) _
  have B4 : Hid (But p w x4) := by rw [← hx4]; exact But_setCell BU4.out _ _ (by show w.heap.size ≤ gf; have := HG.out; omega)
  have R4 : Hid (Ready W0 a len cap l p x4) := by rw [← hx4]; exact Ready_setCell RY4.out _ _ (by show gf ≠ p; have := HG.out; omega) (by show W0.heap.size ≤ gf; have := HG.out; omega)
  clear hx4 KP4 BU4 RY4
  go_upto_region 6 with fail
  rw [HW4.out]
  clear co fo HW4 M3 KR3 B3 R3
  clear MY4
  go_wp2_with fail
  refine (bytesOf R4.out 16 (by omega)).mono ?_
  rintro e y5 ⟨q5, c5, l5, rfl, el5, hb5, kq5, w5, r5, b5⟩
  have EL5 : Hid (16 = l5.length) := el5
  have RY5 := hid (r5)
  have KP5 : Hid (Kept p (p + 1) x4 y5) := Kept.of_grown b5
  have BU5 := hid (B4.out.trans b5)
  have KR5 := hid (KR4.out.keep (KP5.out.block gr KR4.out.lt (by have := HG.out; omega)))
  have BL5 : Blk y5 gf 25 _ := M4.out.blk.keep (KP5.out.block gf M4.out.blk.lt (by have := HG.out; omega))
  have OW5 : FrOwn y5 (gf + 1) x4.heap.size _ _ := M4.out.own.carry KP5.out (.inr (by have := HG.out; omega))
  have co : y5.cell? ⟨gf, 10, none⟩ = some (.slice none 0 0) := BL5.cell 10 rfl
  have fo := BL5.frozen 10
  have MN5 : Hid (FrMk (y5.setCell ⟨gf, 10, none⟩ (.slice (some ⟨q5, 0, none⟩) 16 c5)) gf (gf + 1) { ({ ({ ({ (⟨8, 0, [], [], 0, [], [], 0, 0, [], []⟩ : FrD) with sn := l2 } : FrD) with epoch := v3 } : FrD) with seq := v4 } : FrD) with tag := l5 } { ({ (⟨⟨none, 0, 0⟩, ⟨none, 0, 0⟩, ⟨none, 0, 0⟩, ⟨none, 0, 0⟩, ⟨none, 0, 0⟩, ⟨none, 0, 0⟩⟩ : FrS) with sn := ⟨some ⟨q2, 0, none⟩, 12, c2⟩ } : FrS) with tag := ⟨some ⟨q5, 0, none⟩, 16, c5⟩ }) := FrMk.tag2 BL5 OW5 (Nat.lt_succ_self _) M4.out.blk.lt w5 el5 hb5 kq5
  clear r5 b5 el5 hb5 kq5 w5 BL5 OW5
  obtain ⟨x5, hx5⟩ : ∃ x5, y5.setCell ⟨gf, 10, none⟩ (.slice (some ⟨q5, 0, none⟩) 16 c5) = x5 := ⟨_, rfl⟩
  have HW5 := hid (hx5)
  have M5 : Hid (FrMk x5 gf (gf + 1) { ({ ({ ({ (⟨8, 0, [], [], 0, [], [], 0, 0, [], []⟩ : FrD) with sn := l2 } : FrD) with epoch := v3 } : FrD) with seq := v4 } : FrD) with tag := l5 } { ({ (⟨⟨none, 0, 0⟩, ⟨none, 0, 0⟩, ⟨none, 0, 0⟩, ⟨none, 0, 0⟩, ⟨none, 0, 0⟩, ⟨none, 0, 0⟩⟩ : FrS) with sn := ⟨some ⟨q2, 0, none⟩, 12, c2⟩ } : FrS) with tag := ⟨some ⟨q5, 0, none⟩, 16, c5⟩ }) := by rw [← hx5]; exact MN5.out
  have KR5 : Hid (Blk x5 gr 25 [.int .i64 0, .int .i64 0, .slice none 0 0, .slice none 0 0, .int .i64 0, .slice none 0 0, .slice none 0 0, .int .i64 0, .int .i64 0, .slice none 0 0, .slice none 0 0]) := by rw [← hx5]; exact KR5.out.other (by show gr ≠ gf; have := HG.out; omega) _
  have B5 : Hid (But p w x5) := by rw [← hx5]; exact But_setCell BU5.out _ _ (by show w.heap.size ≤ gf; have := HG.out; omega)
  have R5 : Hid (Ready W0 a len cap l p x5) := by rw [← hx5]; exact Ready_setCell RY5.out _ _ (by show gf ≠ p; have := HG.out; omega) (by show W0.heap.size ≤ gf; have := HG.out; omega)
  clear hx5 KP5 BU5 RY5
  go_upto_region 7 with fail
  rw [HW5.out]
  clear co fo HW5 M4 KR4 B4 R4
  clear MN5
  obtain ⟨xi6, hxi6⟩ : ∃ xi6, x5.alloc (.cells #[.int .i64 0, .int .i64 1, .int .i64 12, .int .i64 40] 3) = xi6 := ⟨_, rfl⟩
  have HI6 := hid (hxi6)
  have RI6 : Hid (Ready W0 a len cap l p xi6) := by rw [← hxi6]; exact R5.out.alloc _
  have BI6 : Hid (But p x5 xi6) := by rw [← hxi6]; exact (But.refl p x5).alloc _
  have LI6 : Hid (IntsAt xi6 x5.heap.size [0, 1, 12, 40]) := by rw [← hxi6]; exact ints_new x5 [0, 1, 12, 40]
  have NI6 : Hid (x5.heap.size ≠ p) := by have := R5.out.hc.lt; show _ ≠ _; omega
  clear hxi6
  go_wp2_with fail
  rw [HI6.out]
  clear HI6
  refine (intOfList RI6.out x5.heap.size 4 [0, 1, 12, 40] rfl LI6.out NI6.out (by omega) (by omega)).mono ?_
  rintro e y6 ⟨v6, rfl, vm6, r6, b6⟩
  have VM6 : Hid (v6 ∈ ([0, 1, 12, 40] : List Int)) := vm6
  have RY6 := hid (r6)
  have by6 : But p x5 y6 := BI6.out.trans b6
  have KP6 : Hid (Kept p (p + 1) x5 y6) := Kept.of_grown by6
  have BU6 := hid (B5.out.trans by6)
  have KR6 := hid (KR5.out.keep (KP6.out.block gr KR5.out.lt (by have := HG.out; omega)))
  have MY6 : Hid (FrMk y6 gf (gf + 1) { ({ ({ ({ (⟨8, 0, [], [], 0, [], [], 0, 0, [], []⟩ : FrD) with sn := l2 } : FrD) with epoch := v3 } : FrD) with seq := v4 } : FrD) with tag := l5 } { ({ (⟨⟨none, 0, 0⟩, ⟨none, 0, 0⟩, ⟨none, 0, 0⟩, ⟨none, 0, 0⟩, ⟨none, 0, 0⟩, ⟨none, 0, 0⟩⟩ : FrS) with sn := ⟨some ⟨q2, 0, none⟩, 12, c2⟩ } : FrS) with tag := ⟨some ⟨q5, 0, none⟩, 16, c5⟩ }) := FrMk.kept M5.out KP6.out (by have := HG.out; omega) (by have := HG.out; omega)
  clear r6 b6 by6 RI6 BI6 LI6 NI6 vm6
  have kc : y6.cell? ⟨gf, 0, none⟩ = some (.int .i64 8) := MY6.out.blk.cell 0 rfl
  obtain ⟨x6, hx6⟩ : ∃ x6, x6 = y6 := ⟨_, rfl⟩
  rw [← hx6] at kc MY6 KR6 BU6 RY6 ⊢
  have M6 : Hid (FrMk x6 gf (gf + 1) { ({ ({ ({ (⟨8, 0, [], [], 0, [], [], 0, 0, [], []⟩ : FrD) with sn := l2 } : FrD) with epoch := v3 } : FrD) with seq := v4 } : FrD) with tag := l5 } { ({ (⟨⟨none, 0, 0⟩, ⟨none, 0, 0⟩, ⟨none, 0, 0⟩, ⟨none, 0, 0⟩, ⟨none, 0, 0⟩, ⟨none, 0, 0⟩⟩ : FrS) with sn := ⟨some ⟨q2, 0, none⟩, 12, c2⟩ } : FrS) with tag := ⟨some ⟨q5, 0, none⟩, 16, c5⟩ }) := MY6.out
  have B6 := hid (BU6.out)
  have R6 := hid (RY6.out)
  clear hx6 KP6 MY6 BU6 RY6 M5 KR5 B5 R5
  go_upto_region 12 with fail
  clear kc
  go_wp2_with fail
  refine (bytesOf R6.out 4 (by omega)).mono ?_
  rintro e y7 ⟨q7, c7, l7, rfl, el7, hb7, kq7, w7, r7, b7⟩
  have EL7 : Hid (4 = l7.length) := el7
  have RY7 := hid (r7)
  have KP7 : Hid (Kept p (p + 1) x6 y7) := Kept.of_grown b7
  have BU7 := hid (B6.out.trans b7)
  have KR7 := hid (KR6.out.keep (KP7.out.block gr KR6.out.lt (by have := HG.out; omega)))
  have BL7 : Blk y7 gf 25 _ := M6.out.blk.keep (KP7.out.block gf M6.out.blk.lt (by have := HG.out; omega))
  have OW7 : FrOwn y7 (gf + 1) x6.heap.size _ _ := M6.out.own.carry KP7.out (.inr (by have := HG.out; omega))
  have co : y7.cell? ⟨gf, 9, none⟩ = some (.slice none 0 0) := BL7.cell 9 rfl
  have fo := BL7.frozen 9
  have MN7 : Hid (FrMk (y7.setCell ⟨gf, 9, none⟩ (.slice (some ⟨q7, 0, none⟩) 4 c7)) gf (gf + 1) { ({ ({ ({ ({ (⟨8, 0, [], [], 0, [], [], 0, 0, [], []⟩ : FrD) with sn := l2 } : FrD) with epoch := v3 } : FrD) with seq := v4 } : FrD) with tag := l5 } : FrD) with body := l7 } { ({ ({ (⟨⟨none, 0, 0⟩, ⟨none, 0, 0⟩, ⟨none, 0, 0⟩, ⟨none, 0, 0⟩, ⟨none, 0, 0⟩, ⟨none, 0, 0⟩⟩ : FrS) with sn := ⟨some ⟨q2, 0, none⟩, 12, c2⟩ } : FrS) with tag := ⟨some ⟨q5, 0, none⟩, 16, c5⟩ } : FrS) with body := ⟨some ⟨q7, 0, none⟩, 4, c7⟩ }) := FrMk.body2 BL7 OW7 (Nat.lt_succ_self _) M6.out.blk.lt w7 el7 hb7 kq7
  clear r7 b7 el7 hb7 kq7 w7 BL7 OW7
  obtain ⟨x7, hx7⟩ : ∃ x7, y7.setCell ⟨gf, 9, none⟩ (.slice (some ⟨q7, 0, none⟩) 4 c7) = x7 := ⟨_, rfl⟩
  have HW7 := hid (hx7)
  have M7 : Hid (FrMk x7 gf (gf + 1) { ({ ({ ({ ({ (⟨8, 0, [], [], 0, [], [], 0, 0, [], []⟩ : FrD) with sn := l2 } : FrD) with epoch := v3 } : FrD) with seq := v4 } : FrD) with tag := l5 } : FrD) with body := l7 } { ({ ({ (⟨⟨none, 0, 0⟩, ⟨none, 0, 0⟩, ⟨none, 0, 0⟩, ⟨none, 0, 0⟩, ⟨none, 0, 0⟩, ⟨none, 0, 0⟩⟩ : FrS) with sn := ⟨some ⟨q2, 0, none⟩, 12, c2⟩ } : FrS) with tag := ⟨some ⟨q5, 0, none⟩, 16, c5⟩ } : FrS) with body := ⟨some ⟨q7, 0, none⟩, 4, c7⟩ }) := by rw [← hx7]; exact MN7.out
  have KR7 : Hid (Blk x7 gr 25 [.int .i64 0, .int .i64 0, .slice none 0 0, .slice none 0 0, .int .i64 0, .slice none 0 0, .slice none 0 0, .int .i64 0, .int .i64 0, .slice none 0 0, .slice none 0 0]) := by rw [← hx7]; exact KR7.out.other (by show gr ≠ gf; have := HG.out; omega) _
  have B7 : Hid (But p w x7) := by rw [← hx7]; exact But_setCell BU7.out _ _ (by show w.heap.size ≤ gf; have := HG.out; omega)
  have R7 : Hid (Ready W0 a len cap l p x7) := by rw [← hx7]; exact Ready_setCell RY7.out _ _ (by show gf ≠ p; have := HG.out; omega) (by show W0.heap.size ≤ gf; have := HG.out; omega)
  clear hx7 KP7 BU7 RY7
  go_upto_region 25 with fail
  rw [HW7.out]
  clear co fo HW7 M6 KR6 B6 R6
  clear MN7
  have OK : Hid (frameOk { ({ ({ ({ ({ (⟨8, 0, [], [], 0, [], [], 0, 0, [], []⟩ : FrD) with sn := l2 } : FrD) with epoch := v3 } : FrD) with seq := v4 } : FrD) with tag := l5 } : FrD) with body := l7 } = true) := by show frameOk _ = true; have he := VM3.out; have hs := VM4.out; simp only [List.mem_cons, List.mem_nil_iff, or_false] at he hs; have hb : bodyOk 8 (l7.length : Int) = true := (by rw [← EL7.out]; rfl); rw [ok_iff]; refine .inl ⟨?_, ?_, rfl, rfl, EL2.out.symm, rfl, rfl, rfl, ?_, ?_, ?_, ?_, hb, EL5.out.symm⟩ <;> (simp only; omega)
  obtain ⟨SS, hSS⟩ : ∃ SS : FrS, { ({ ({ (⟨⟨none, 0, 0⟩, ⟨none, 0, 0⟩, ⟨none, 0, 0⟩, ⟨none, 0, 0⟩, ⟨none, 0, 0⟩, ⟨none, 0, 0⟩⟩ : FrS) with sn := ⟨some ⟨q2, 0, none⟩, 12, c2⟩ } : FrS) with tag := ⟨some ⟨q5, 0, none⟩, 16, c5⟩ } : FrS) with body := ⟨some ⟨q7, 0, none⟩, 4, c7⟩ } = SS := ⟨_, rfl⟩
  obtain ⟨DD, hDD⟩ : ∃ DD : FrD, { ({ ({ ({ ({ (⟨8, 0, [], [], 0, [], [], 0, 0, [], []⟩ : FrD) with sn := l2 } : FrD) with epoch := v3 } : FrD) with seq := v4 } : FrD) with tag := l5 } : FrD) with body := l7 } = DD := ⟨_, rfl⟩
  have MD : Hid (FrMk x7 gf (gf + 1) DD SS) := by rw [← hSS, ← hDD]; exact M7.out
  rw [hDD] at OK
  clear hSS hDD M7
  have zc0 := KR7.out.cell 0 rfl
  have zf0 := KR7.out.frozen 0
  have zo0 : x7.cell? ⟨gf, 0, none⟩ = some (.int .i64 DD.kind) := MD.out.blk.cell 0 rfl
  have zc1 := KR7.out.cell 1 rfl
  have zf1 := KR7.out.frozen 1
  have zo1 : x7.cell? ⟨gf, 1, none⟩ = some (.int .i64 DD.id) := MD.out.blk.cell 1 rfl
  have zc2 := KR7.out.cell 2 rfl
  have zf2 := KR7.out.frozen 2
  have zo2 : x7.cell? ⟨gf, 2, none⟩ = some (.slice SS.cn.a SS.cn.n SS.cn.c) := MD.out.blk.cell 2 rfl
  have zc3 := KR7.out.cell 3 rfl
  have zf3 := KR7.out.frozen 3
  have zo3 : x7.cell? ⟨gf, 3, none⟩ = some (.slice SS.sn.a SS.sn.n SS.sn.c) := MD.out.blk.cell 3 rfl
  have zc4 := KR7.out.cell 4 rfl
  have zf4 := KR7.out.frozen 4
  have zo4 : x7.cell? ⟨gf, 4, none⟩ = some (.int .i64 DD.tick) := MD.out.blk.cell 4 rfl
  have zc5 := KR7.out.cell 5 rfl
  have zf5 := KR7.out.frozen 5
  have zo5 : x7.cell? ⟨gf, 5, none⟩ = some (.slice SS.cookie.a SS.cookie.n SS.cookie.c) := MD.out.blk.cell 5 rfl
  have zc6 := KR7.out.cell 6 rfl
  have zf6 := KR7.out.frozen 6
  have zo6 : x7.cell? ⟨gf, 6, none⟩ = some (.slice SS.proof.a SS.proof.n SS.proof.c) := MD.out.blk.cell 6 rfl
  have zc7 := KR7.out.cell 7 rfl
  have zf7 := KR7.out.frozen 7
  have zo7 : x7.cell? ⟨gf, 7, none⟩ = some (.int .i64 DD.epoch) := MD.out.blk.cell 7 rfl
  have zc8 := KR7.out.cell 8 rfl
  have zf8 := KR7.out.frozen 8
  have zo8 : x7.cell? ⟨gf, 8, none⟩ = some (.int .i64 DD.seq) := MD.out.blk.cell 8 rfl
  have zc9 := KR7.out.cell 9 rfl
  have zf9 := KR7.out.frozen 9
  have zo9 : x7.cell? ⟨gf, 9, none⟩ = some (.slice SS.body.a SS.body.n SS.body.c) := MD.out.blk.cell 9 rfl
  have zc10 := KR7.out.cell 10 rfl
  have zf10 := KR7.out.frozen 10
  have zo10 : x7.cell? ⟨gf, 10, none⟩ = some (.slice SS.tag.a SS.tag.n SS.tag.c) := MD.out.blk.cell 10 rfl
  have ne1 : gr ≠ gf := by have := HG.out; omega
  have ne2 : gf ≠ gr := by have := HG.out; omega
  go_wp2
  have KF : Blk ((((((((((((x7).setCell ⟨gr, 0, none⟩ (.int .i64 DD.kind)).setCell ⟨gr, 1, none⟩ (.int .i64 DD.id)).setCell ⟨gr, 2, none⟩ (.slice SS.cn.a SS.cn.n SS.cn.c)).setCell ⟨gr, 3, none⟩ (.slice SS.sn.a SS.sn.n SS.sn.c)).setCell ⟨gr, 4, none⟩ (.int .i64 DD.tick)).setCell ⟨gr, 5, none⟩ (.slice SS.cookie.a SS.cookie.n SS.cookie.c)).setCell ⟨gr, 6, none⟩ (.slice SS.proof.a SS.proof.n SS.proof.c)).setCell ⟨gr, 7, none⟩ (.int .i64 DD.epoch)).setCell ⟨gr, 8, none⟩ (.int .i64 DD.seq)).setCell ⟨gr, 9, none⟩ (.slice SS.body.a SS.body.n SS.body.c)).setCell ⟨gr, 10, none⟩ (.slice SS.tag.a SS.tag.n SS.tag.c)) gr 25 [.int .i64 DD.kind, .int .i64 DD.id, .slice SS.cn.a SS.cn.n SS.cn.c, .slice SS.sn.a SS.sn.n SS.sn.c, .int .i64 DD.tick, .slice SS.cookie.a SS.cookie.n SS.cookie.c, .slice SS.proof.a SS.proof.n SS.proof.c, .int .i64 DD.epoch, .int .i64 DD.seq, .slice SS.body.a SS.body.n SS.body.c, .slice SS.tag.a SS.tag.n SS.tag.c] := (((((((((((KR7.out).set 0 _ (by simp [maxLen])).set 1 _ (by simp [maxLen])).set 2 _ (by simp [maxLen])).set 3 _ (by simp [maxLen])).set 4 _ (by simp [maxLen])).set 5 _ (by simp [maxLen])).set 6 _ (by simp [maxLen])).set 7 _ (by simp [maxLen])).set 8 _ (by simp [maxLen])).set 9 _ (by simp [maxLen])).set 10 _ (by simp [maxLen])
  have KK : Kept gr (gr + 1) x7 ((((((((((((x7).setCell ⟨gr, 0, none⟩ (.int .i64 DD.kind)).setCell ⟨gr, 1, none⟩ (.int .i64 DD.id)).setCell ⟨gr, 2, none⟩ (.slice SS.cn.a SS.cn.n SS.cn.c)).setCell ⟨gr, 3, none⟩ (.slice SS.sn.a SS.sn.n SS.sn.c)).setCell ⟨gr, 4, none⟩ (.int .i64 DD.tick)).setCell ⟨gr, 5, none⟩ (.slice SS.cookie.a SS.cookie.n SS.cookie.c)).setCell ⟨gr, 6, none⟩ (.slice SS.proof.a SS.proof.n SS.proof.c)).setCell ⟨gr, 7, none⟩ (.int .i64 DD.epoch)).setCell ⟨gr, 8, none⟩ (.int .i64 DD.seq)).setCell ⟨gr, 9, none⟩ (.slice SS.body.a SS.body.n SS.body.c)).setCell ⟨gr, 10, none⟩ (.slice SS.tag.a SS.tag.n SS.tag.c)) := ((((((((((((Kept.refl gr (gr + 1) x7)).trans (Kept.setCell _ gr 0 _)).trans (Kept.setCell _ gr 1 _)).trans (Kept.setCell _ gr 2 _)).trans (Kept.setCell _ gr 3 _)).trans (Kept.setCell _ gr 4 _)).trans (Kept.setCell _ gr 5 _)).trans (Kept.setCell _ gr 6 _)).trans (Kept.setCell _ gr 7 _)).trans (Kept.setCell _ gr 8 _)).trans (Kept.setCell _ gr 9 _)).trans (Kept.setCell _ gr 10 _)
  exact ret_drew rfl rfl KF rfl (D := DD) (S := SS) OK.out ((MD.out.own.carry KK (.inr (by have := HG.out; omega))).mono (by have := HG.out; omega) KK.size) (Ready_setCell (Ready_setCell (Ready_setCell (Ready_setCell (Ready_setCell (Ready_setCell (Ready_setCell (Ready_setCell (Ready_setCell (Ready_setCell (Ready_setCell (R7.out) _ _ (by show gr ≠ p; have := HG.out; omega) (by show W0.heap.size ≤ gr; have := HG.out; omega)) _ _ (by show gr ≠ p; have := HG.out; omega) (by show W0.heap.size ≤ gr; have := HG.out; omega)) _ _ (by show gr ≠ p; have := HG.out; omega) (by show W0.heap.size ≤ gr; have := HG.out; omega)) _ _ (by show gr ≠ p; have := HG.out; omega) (by show W0.heap.size ≤ gr; have := HG.out; omega)) _ _ (by show gr ≠ p; have := HG.out; omega) (by show W0.heap.size ≤ gr; have := HG.out; omega)) _ _ (by show gr ≠ p; have := HG.out; omega) (by show W0.heap.size ≤ gr; have := HG.out; omega)) _ _ (by show gr ≠ p; have := HG.out; omega) (by show W0.heap.size ≤ gr; have := HG.out; omega)) _ _ (by show gr ≠ p; have := HG.out; omega) (by show W0.heap.size ≤ gr; have := HG.out; omega)) _ _ (by show gr ≠ p; have := HG.out; omega) (by show W0.heap.size ≤ gr; have := HG.out; omega)) _ _ (by show gr ≠ p; have := HG.out; omega) (by show W0.heap.size ≤ gr; have := HG.out; omega)) _ _ (by show gr ≠ p; have := HG.out; omega) (by show W0.heap.size ≤ gr; have := HG.out; omega)) (But_setCell (But_setCell (But_setCell (But_setCell (But_setCell (But_setCell (But_setCell (But_setCell (But_setCell (But_setCell (But_setCell (B7.out) _ _ (by show w.heap.size ≤ gr; have := HG.out; omega)) _ _ (by show w.heap.size ≤ gr; have := HG.out; omega)) _ _ (by show w.heap.size ≤ gr; have := HG.out; omega)) _ _ (by show w.heap.size ≤ gr; have := HG.out; omega)) _ _ (by show w.heap.size ≤ gr; have := HG.out; omega)) _ _ (by show w.heap.size ≤ gr; have := HG.out; omega)) _ _ (by show w.heap.size ≤ gr; have := HG.out; omega)) _ _ (by show w.heap.size ≤ gr; have := HG.out; omega)) _ _ (by show w.heap.size ≤ gr; have := HG.out; omega)) _ _ (by show w.heap.size ≤ gr; have := HG.out; omega)) _ _ (by show w.heap.size ≤ gr; have := HG.out; omega))

end Go.Proofs.YtpenhliaelhnoaaGreatDoor.FrDr

